/- The contract of the document's begins at the tag <c>, where elements are open. Conditions: those of the theorem's head. -/
import Derived.Test.YtolnpfcncmcacaaGreatDoorRg
namespace Go.Proofs.YtolnpfcncmcacaaGreatDoor
open Go.RowKit Go.Lib Go.Shelf Tg Sn

theorem fb_size {w W : World} {s : Sv} (h : Fb w s W) (z : Int) : Fb w { s with sz := z } (W.setCell ⟨w.heap.size, 1, none⟩ (.int .i64 z)) := by
  refine ⟨h.bel.setCell (Nat.le_refl _) _, ?_, ?_⟩
  · simp [World.setCell, Array.getElem?_modify, h.bx]
  · simp [World.setCell, Array.getElem?_modify, h.rt]
theorem own_low {B N k n : Nat} {W : World} {T : TypeId} {v : Value} {xs : List Value} (h : W.ownsRow N T k v n xs) (hB : B ≤ N) : W.ownsRow B T k v n xs := by
  refine ⟨h.1, ?_⟩
  rcases h.2 with h3 | ⟨g, cap, cur, rfl, q1, q2, q3⟩
  · exact .inl h3
  · exact .inr ⟨g, cap, cur, rfl, Nat.le_trans hB q1, q2, q3⟩
/-- What begins answers at <c>. -/
def BgC (B : Nat) (w : World) (g n c : Nat) (sz : Int) (a : Option Addr) (m d : Nat) (ev : List Value) (r : Ending) (w' : World) : Prop :=
  (n ≤ 16 ∧ (∃ (g' : Nat) (c' : Nat), r = .returned (.agg #[.slice (some ⟨g', 0, none⟩) (n + 1) c', .int .i64 (if n = 1 then 3 else sz), .bool false, .bool false, .slice a m d]) ∧ OpR B w' (some ⟨g', 0, none⟩) (n + 1) c' ⟨#[99]⟩ ⟨#[]⟩) ∧ Below w.heap.size w w' ∨
   16 < n ∧ ∃ (a' : Option Addr) (d' : Nat), r = .returned (.agg #[.slice (some ⟨g, 0, none⟩) n c, .int .i64 sz, .bool false, .bool true, .slice a' (m + 1) d']) ∧ w'.ownsRow B 50 7 (.slice a' (m + 1) d') (m + 1) (ev ++ wrongCells 62)) ∧ w.grownBy w' (Value.slice a m d).ownBlock
def cB : ByteArray := ⟨#[60, 99, 62]⟩
set_option maxRecDepth 100000 in
set_option maxHeartbeats 4000000 in
theorem begins_c (B : Nat) (w : World) (g n c : Nat) (sz : Int) (a : Option Addr) (m d : Nat) (q tx : ByteArray) (ev : List Value) (hB : B ≤ w.heap.size) (h : OpR B w (some ⟨g, 0, none⟩) n c q tx) (hn : n ≤ 40) (hx : w.ownsRow B 50 7 (.slice a m d) m ev) (hm : m ≤ 99) :
    Calls Tryz.prog 52 #[.agg #[.slice (some ⟨g, 0, none⟩) n c, .int .i64 sz, .bool false, .bool false, .slice a m d], .string ⟨#[60, 99, 62]⟩] w (BgC B w g n c sz a m d ev) := by
  obtain ⟨i0, hi0, hz0, hz1, hz2⟩ := info_parts infoOp
  obtain ⟨j0, hj0, hy0, hy1, hy2⟩ := info_parts infoDc
  obtain ⟨g', xs, gD, dD, hgg, hO, h1, hD⟩ := h
  obtain rfl : g = g' := by simpa using hgg
  have hl := (OpR.len hO).2
  have hn1 := (OpR.len hO).1
  have hg : g < w.heap.size := (hO.lt g rfl).2
  have hgD : gD < w.heap.size := (hD.lt gD rfl).2
  have c6 : w.cell? ⟨g, (n - 1) * 7 + 6, none⟩ = some (.slice (some ⟨gD, 0, none⟩) 1 dD) := (hO.cellAt ((n - 1) * 7 + 6) (by omega)).trans (opV_at hl q tx _ _ 6 (by decide))
  have HO := Lib.hid hO
  have HX := Lib.hid hx
  have H1 := Lib.hid h1
  have HD := Lib.hid hD
  have HXL : Hid (∀ b, (Value.slice a m d).ownBlock = some b → b < w.heap.size) := fun b e => (hx.lt b e).2
  have F0 := Lib.hid (Fb.new w ⟨some ⟨g, 0, none⟩, n, c, sz, false, false, a, m, d⟩)
  have PC := Lib.hid (fun W => parts_c W)
  have H40 := Lib.hid hn
  clear hO hD h1 hx
  go_enter Tryz.func52, Tryz.ntmps52
  go_upto_region 1 with fail
  generalize (w.alloc (.cells #[.slice (some ⟨g, 0, none⟩) n c, .int .i64 sz, .bool false, .bool false, .slice a m d] 31)).alloc (.cells #[.slice none 0 0, .int .i64 0, .bool false, .bool false, .slice none 0 0] 31) = w1 at F0 ⊢
  go_wp2_with fail
  refine (PC.out _).mono ?_
  rintro r w2 ⟨rfl, hb⟩
  have F2 := Lib.hid (F0.out.st F0.out.big hb)
  clear F0 hb PC
  go_wp2_with fail
  go_loopw [9, 10] (fun k i wr => k = .int .i64 0 ∧ i = .int .i64 0 ∧ wr = w2) (fun _ _ _ => 0)
  case atStart => exact ⟨rfl, rfl, rfl⟩
  case round =>
    obtain ⟨rfl, rfl, rfl⟩ := hrel
    go_wp2_with fail
    go_loopw [14] (fun i wx => i = .int .i64 0 ∧ wx = wr) (fun _ _ => 0)
    case atStart => exact ⟨rfl, rfl⟩
    case round =>
      obtain ⟨rfl, rfl⟩ := hrel
      obtain ⟨x0, x1, x2, x3, x4⟩ := bx5 F2.out.bx
      dsimp only at x0 x1 x2 x3 x4
      have g6 := F2.out.cell hg c6
      have hnn : ((n : Int) - 1) = ((n - 1 : Nat) : Int) := by omega
      have h2 := F2.out.big
      have lx := heap_lt F2.out.bx
      have HD2 := Lib.hid (own_up HD.out F2.out.bel)
      have h0n : (0 : Int) < (n : Int) := by omega
      go_upto_region 29 with (at_builtin; go_loud (refine wpList_append_lies _ rfl _ _ 111 rfl w.heap.size 126 j0 _ 2 32 Tryz.underlying111 hj0 hy0 hy1 hy2 rfl (by decide) _ 0 [] rfl (World.ownsRow_nil _ _ _ _) ⟨gD, 0, none⟩ 1 dD [.string ⟨#[]⟩, .string ⟨#[98]⟩] rfl rfl (news_own HD2.out) (by simp [Value.oneCell']) (by decide) (by decide) (by decide) (by omega) wr.heap.size rfl ?_; intro gd capD w4 hown hgrow hat hlt4; have hgrow : wr.grownBy w4 none := hgrow; have HAT : Hid (gd = wr.heap.size) := (hat.resolve_left (by intro h; cases h)); clear hat))
      have HD4 : Hid (w4.ownsRow w.heap.size 126 2 (.slice (some ⟨gd, 0, none⟩) 1 capD) 1 [.string ⟨#[]⟩, .string ⟨#[98]⟩]) := hown
      have F4 := Lib.hid (F2.out.gr hgrow (fun b e => by cases e))
      have hgd : w.heap.size + 2 ≤ gd := by have := HAT.out; omega
      clear hown hgrow F2 HD2 x0 x1 x2 x3 x4 g6 lx h2 c6 HAT
      go_wp2_with fail
      go_loopw [18, 19] (fun k i wy => k = .slice (some ⟨gd, 0, none⟩) 1 capD ∧ i = .int .i64 0 ∧ wy = w4) (fun _ _ _ => 0)
      case atStart => exact ⟨rfl, rfl, rfl⟩
      case round =>
        obtain ⟨rfl, rfl, rfl⟩ := hrel
        have SP := Lib.hid (fun W => split_plain ⟨#[99]⟩ W (by decide) (by decide))
        have SO : Hid (∀ W, Below wr.heap.size wr W → Calls Tryz.prog 83 #[.slice (some ⟨gd, 0, none⟩) 1 capD, .string ⟨#[]⟩] W fun e w' => e = .returned (.tuple #[.string ⟨#[98]⟩, .bool true]) ∧ Below W.heap.size W w') := fun W hb => space_one W _ _ _ ⟨w.heap.size, own_up HD4.out hb⟩
        go_wp2_with fail
        refine (SP.out _).mono ?_
        rintro r w5 ⟨rfl, rfl⟩
        go_wp2_with fail
        refine (SO.out _ (Below.refl _ _)).mono ?_
        rintro r w5 ⟨rfl, hb⟩
        have F5 := Lib.hid (F4.out.st F4.out.big hb)
        have HD5 := Lib.hid (own_up HD4.out hb)
        clear hb F4 HD4 SO SP
        go_upto_region 42 with fail
        have F6 := Lib.hid (F5.out.st (Nat.le_refl _) ((Below.refl (w.heap.size + 2) w5).alloc F5.out.big (.cells #[.string ⟨#[98]⟩, .string ⟨#[99]⟩, .slice none 0 0, .string ⟨#[]⟩, .slice none 0 0] 48)))
        have HE6 := Lib.hid (box_new w5 #[.string ⟨#[98]⟩, .string ⟨#[99]⟩, .slice none 0 0, .string ⟨#[]⟩, .slice none 0 0] 48)
        have HD6 := Lib.hid (HD5.out.alloc (.cells #[.string ⟨#[98]⟩, .string ⟨#[99]⟩, .slice none 0 0, .string ⟨#[]⟩, .slice none 0 0] 48))
        have h5 := F5.out.big
        generalize w5.alloc (.cells #[.string ⟨#[98]⟩, .string ⟨#[99]⟩, .slice none 0 0, .string ⟨#[]⟩, .slice none 0 0] 48) = w6 at F6 HE6 HD6 ⊢
        have hE6 := heap_lt HE6.out
        generalize hE : w5.heap.size = E at HE6 h5 hE6 ⊢
        clear F5 HD5 hE
        go_wp2_with fail
        go_loopw [27] (fun i wy => i = .int .i64 0 ∧ wy = w6) (fun _ _ => 0)
        case atStart => exact ⟨rfl, rfl⟩
        case round =>
          obtain ⟨rfl, rfl⟩ := hrel
          have n0 : ((n : Int) == 0) = false := by rw [beq_eq_false_iff_ne]; omega
          obtain ⟨x0, x1, x2, x3, x4⟩ := bx5 F6.out.bx
          dsimp only at x0 x1 x2 x3 x4
          by_cases h16 : 16 < n
          · have t16 : decide ((16 : Int) < (n : Int)) = true := by rw [decide_eq_true_iff]; omega
            have H16 := Lib.hid h16
            clear h16
            have HW : Hid (Calls Tryz.prog 28 _ _ _) := wrong_any B wr (some ⟨g, 0, none⟩) n c sz 62 false false a m d ev (Nat.le_trans hB (by have := F6.out.big; omega)) (own_up HX.out F6.out.bel) (by omega)
            go_wp2_with fail
            refine HW.out.mono ?_
            rintro r w7 ⟨a', d', rfl, hX, hb, hk⟩
            have HG := Lib.hid (F6.out.call (r := (Value.slice a m d).ownBlock) ⟨hb.os, hb.tape, hb.output, hb.size, fun k h1 hne => hk k h1 (fun e => hne e.symm)⟩ HXL.out)
            have HX7 := Lib.hid hX
            clear hX hb hk F6 HE6 HD6 HW x0 x1 x2 x3 x4
            obtain ⟨y0, y1, y2, y3, y4⟩ := bx5 HG.out.rt
            have fy := fun i => Lib.frozen_of_heap HG.out.rt i
            have ly := heap_lt HG.out.rt
            go_wp2_with fail
            have hS := fun (v0 v1 v2 v3 v4 : Value) => own_keep (w' := Put5 w7 (w.heap.size + 1) v0 v1 v2 v3 v4) HX7.out (fun b e => put5_block (fun e2 => own_not HX7.out e (by decide) (e2 ▸ HG.out.rt)) _ _ _ _ _)
            have hT := fun (v0 v1 v2 v3 v4 : Value) => gb_put5 HG.out.gr (Nat.le_succ w.heap.size) v0 v1 v2 v3 v4
            (try simp only [Exit.inBlock, Exit.then])
            exact bodyPost_ret (v := .agg #[.slice (some ⟨g, 0, none⟩) n c, .int .i64 sz, .bool false, .bool true, .slice a' (m + 1) d']) (by simp [results, Tryz.results52, go_sem, y0, y1, y2, y3, y4]) rfl
              ⟨.inr ⟨H16.out, a', d', rfl, hS _ _ _ _ _⟩, hT _ _ _ _ _⟩
          · have t16 : decide ((16 : Int) < (n : Int)) = false := by rw [decide_eq_false_iff_not]; omega
            have H16 : Hid (n ≤ 16) := by show n ≤ 16; omega
            clear h16
            have hB0 := hB
            have hEx : w.heap.size ≠ E := by omega
            have lx6 := heap_lt F6.out.bx
            have f61 := Lib.frozen_of_heap F6.out.bx 1
            go_upto_if 282 with fail
            go_cut [] (fun wx => Hid (Fb w ⟨some ⟨g, 0, none⟩, n, c, if n = 1 then 3 else sz, false, false, a, m, d⟩ wx) ∧ Hid (wx.heap[E]? = some (.cells #[.string ⟨#[98]⟩, .string ⟨#[99]⟩, .slice none 0 0, .string ⟨#[]⟩, .slice none 0 0] 48 (0, 0))) ∧ Hid (wx.ownsRow w.heap.size 126 2 (.slice (some ⟨gd, 0, none⟩) 1 capD) 1 [.string ⟨#[]⟩, .string ⟨#[98]⟩]))
            case first =>
              by_cases h1 : n = 1
              · have t1 : ((n : Int) == 1) = true := by rw [beq_iff_eq]; omega
                have R1 : Hid ((if n = 1 then (3 : Int) else sz) = 3) := if_pos h1
                clear h1
                go_wp2_with fail
                go_meet
                exact ⟨by show Fb _ _ _; rw [R1.out]; exact fb_size F6.out 3, (Below.heap_setCell _ _ _ _ (fun e => hEx e.symm)).trans HE6.out, ownsRow_setCell_other HD6.out (fun e => by have e : some gd = some w.heap.size := e; have := Option.some.inj e; omega) _⟩
              · have t1 : ((n : Int) == 1) = false := by rw [beq_eq_false_iff_ne]; omega
                have R1 : Hid ((if n = 1 then (3 : Int) else sz) = sz) := if_neg h1
                clear h1
                go_wp2_with fail
                go_meet
                exact ⟨by show Fb _ _ _; rw [R1.out]; exact F6.out, HE6.out, HD6.out⟩
            case rest =>
              obtain ⟨F7, HE7, HD7⟩ := hcut
              clear x0 x1 x2 x3 x4 F6 HE6 HD6 f61 lx6
              have HO7 := Lib.hid (own_up HO.out F7.out.bel)
              generalize hsz : (if n = 1 then (3 : Int) else sz) = sz7 at F7
              have HSZ := Lib.hid hsz
              clear hsz
              have hW7 : w.heap.size + 2 ≤ wc.heap.size := F7.out.big
              have hgdW : gd < wc.heap.size := (HD7.out.lt gd rfl).2
              go_upto_region 63 with fail
              refine region63 ⟨_, wc.drew, w.heap.size, some ⟨g, 0, none⟩, n, c, (xs ++ opV q tx (some ⟨gD, 0, none⟩) dD), ⟨#[99]⟩, gd, capD, B⟩ wc rfl E _ _ _ _ (by show 296 < 301; decide) rfl rfl rfl rfl HE7.out F7.out.bx (by show B ≤ wc.heap.size; omega) (by rw [List.length_append, hl]; show _ + 7 = n * 7; omega) H40.out
                (fun N W hb h1 h2 hN => append_open B N g n c W _ (Nat.le_trans (by show B ≤ wc.heap.size; omega) hb.size) hn1 H40.out hN (own_up HO7.out (((Below.refl wc.heap.size wc).drew).trans hb)) (fun u hu => (List.mem_append.1 hu).elim (H1.out u) (opV_one _ _ _ _ u))) ?_
              intro a' p W9 hs hd ho hbl hg9 hown
              have hbl : Below wc.heap.size wc W9 := ((Below.refl wc.heap.size wc).drew).trans hbl
              have hg9 : wc.heap.size ≤ p.g9 := hg9
              have F9 := Lib.hid (F7.out.st hW7 hbl)
              have HDD := Lib.hid (own_up HD7.out hbl)
              have ha := canon_eq (ks := [286, 287, 288, 289, 290, 291, 292, 293, 294, 295, 296]) hs hd (fun j hj => ho j (by simp at hj; omega))
              rw [ha]
              clear ha hs hd ho
              generalize a'.eval (.tmp 286) = t286
              generalize a'.eval (.tmp 287) = t287
              generalize a'.eval (.tmp 288) = t288
              generalize a'.eval (.tmp 289) = t289
              generalize a'.eval (.tmp 290) = t290
              generalize a'.eval (.tmp 291) = t291
              generalize a'.eval (.tmp 292) = t292
              generalize a'.eval (.tmp 293) = t293
              generalize a'.eval (.tmp 294) = t294
              generalize a'.eval (.tmp 295) = t295
              generalize a'.eval (.tmp 296) = t296
              have HOW : Hid (W9.ownsRow B 113 7 (.slice (some ⟨p.g9, 0, none⟩) (n + 1) p.cap9) (n + 1) ((xs ++ opV q tx (some ⟨gD, 0, none⟩) dD) ++ opV ⟨#[99]⟩ ⟨#[]⟩ (some ⟨gd, 0, none⟩) capD)) := hown
              have hg9N : p.g9 ≠ w.heap.size := by omega
              have hg9N1 : p.g9 ≠ w.heap.size + 1 := by omega
              clear hown hbl F7 HD7 HO7
              generalize p.g9 = g9 at HOW hg9 hg9N hg9N1 ⊢
              generalize p.cap9 = cap9 at HOW ⊢
              have F10 := Lib.hid (put_one F9.out (some ⟨g9, 0, none⟩) (n + 1) cap9)
              generalize hW : W9.setCell ⟨w.heap.size, 0, none⟩ (.slice (some ⟨g9, 0, none⟩) (n + 1) cap9) = w10 at F10 ⊢
              have HW := Lib.hid hW
              clear hW F9
              obtain ⟨x0, x1, x2, x3, x4⟩ := bx5 F10.out.bx
              dsimp only at x0 x1 x2 x3 x4
              obtain ⟨y0, y1, y2, y3, y4⟩ := bx5 F10.out.rt
              have fy := fun i => Lib.frozen_of_heap F10.out.rt i
              have ly := heap_lt F10.out.rt
              simp only [canonL, Act.put, List.setIfInBounds_toArray, List.set_cons_zero, List.set_cons_succ]
              go_wp2_with fail
              have hT := fun (v0 v1 v2 v3 v4 : Value) => put5_bel F10.out.bel (Nat.le_succ w.heap.size) v0 v1 v2 v3 v4
              have hBk := fun (b : Nat) (h1 : b ≠ w.heap.size) (h2 : b ≠ w.heap.size + 1) (v0 v1 v2 v3 v4 : Value) => show (Put5 w10 (w.heap.size + 1) v0 v1 v2 v3 v4).heap[b]? = W9.heap[b]? by rw [← HW.out]; exact fin_block h1 h2 _ _ _ _ _ _
              have hS := fun (v0 v1 v2 v3 v4 : Value) => own_keep (w' := Put5 w10 (w.heap.size + 1) v0 v1 v2 v3 v4) HOW.out (fun b e => by cases e; exact hBk g9 hg9N hg9N1 _ _ _ _ _)
              have hD := fun (v0 v1 v2 v3 v4 : Value) => own_keep (w' := Put5 w10 (w.heap.size + 1) v0 v1 v2 v3 v4) HDD.out (fun b e => by cases e; exact hBk gd (by omega) (by omega) _ _ _ _ _)
              have hO := fun (u : Value) (hu : u ∈ (xs ++ opV q tx (some ⟨gD, 0, none⟩) dD)) => (List.mem_append.1 hu).elim (H1.out u) (opV_one _ _ _ _ u)
              (try simp only [Exit.inBlock, Exit.then])
              exact bodyPost_ret (v := .agg #[.slice (some ⟨g9, 0, none⟩) (n + 1) cap9, .int .i64 sz7, .bool false, .bool false, .slice a m d]) (by simp [results, Tryz.results52, go_sem, y0, y1, y2, y3, y4]) rfl
                ⟨.inl ⟨H16.out, ⟨g9, cap9, by rw [HSZ.out], g9, _, gd, capD, rfl, hS _ _ _ _ _, hO, own_low (hD _ _ _ _ _) hB0⟩, hT _ _ _ _ _⟩, gb_below (hT _ _ _ _ _)⟩
end Go.Proofs.YtolnpfcncmcacaaGreatDoor
