/- The walk of StreamOrder: phases rise; behind the end nothing is said; elements come when it is open alone; who it is stays. No condition. -/
import Derived.Test.YtolnpfcncmcacaaGreatDoorZm
namespace Go.Proofs.YtolnpfcncmcacaaGreatDoor
open Go.RowKit Go.Lib Go.Shelf Tg Sn

/-- What one event does. -/
inductive Stp : Int → Int → ByteArray → Nat → Prop
  | off : Stp 4 4 ⟨#[]⟩ 0
  | hd (y : ByteArray) : Stp 1 2 y 0
  | sh (y : ByteArray) : Stp 2 3 y 0
  | op (y : ByteArray) : Stp 3 3 y 1
  | e1 (a : ByteArray) (h : a.size ≤ 200) : Stp 1 4 (a ++ ⟨#[60, 47, 115, 116, 114, 101, 97, 109, 58, 115, 116, 114, 101, 97, 109, 62]⟩) 0
  | e2 (a : ByteArray) (h : a.size ≤ 200) : Stp 2 4 (a ++ ⟨#[60, 47, 115, 116, 114, 101, 97, 109, 58, 115, 116, 114, 101, 97, 109, 62]⟩) 0
  | e3 (a : ByteArray) (h : a.size ≤ 200) : Stp 3 4 (a ++ ⟨#[60, 47, 115, 116, 114, 101, 97, 109, 58, 115, 116, 114, 101, 97, 109, 62]⟩) 0
theorem endT_up {p : Int} (h : upB p = true) (c : ByteArray) (hc : c.size ≤ 20) : ∃ a : ByteArray, endT p c = a ++ ⟨#[60, 47, 115, 116, 114, 101, 97, 109, 58, 115, 116, 114, 101, 97, 109, 62]⟩ ∧ a.size ≤ 200 := by
  unfold endT
  rw [if_pos h]
  by_cases h0 : c.toList.isEmpty = true
  · rw [if_pos h0]
    exact ⟨⟨#[]⟩, rfl, by decide⟩
  · rw [if_neg h0]
    refine ⟨_, rfl, ?_⟩
    rw [ByteArray.size_append, ByteArray.size_append, ByteArray.size_append, ByteArray.size_append]
    show 15 + c.size + 8 + 35 + 18 ≤ 200
    omega
theorem tk_step {p : Int} (hp : p = 1 ∨ p = 2 ∨ p = 3 ∨ p = 4) (k er : Int) (e : El) (s : ByteArray) : Stp p (tkP p k e) (tkT p k er e s) (tkN p k e) := by
  rcases hp with rfl | rfl | rfl | rfl
  · have e3 : tkN 1 k e = 0 := by unfold tkN; rw [if_neg (fun h => absurd h.1 (by decide))]
    rw [e3]
    by_cases h : ((1 : Int) = 1 ∧ hdB k e.sp e.nm e.atr = true)
    · have e1 : tkP 1 k e = 2 := by unfold tkP; rw [if_neg (by decide), if_pos h]
      rw [e1]; exact .hd _
    · have e1 : tkP 1 k e = 4 := by unfold tkP; rw [if_neg (by decide), if_neg h, if_neg (fun h => absurd h.1 (by decide)), if_neg (fun h => absurd h.1 (by decide))]
      have e2 : tkT 1 k er e s = endT 1 (reasonOf 1 k er e.sp e.nm) := by unfold tkT; rw [if_neg (by decide), if_neg h, if_neg (fun h => absurd h.1 (by decide)), if_neg (fun h => absurd h.1 (by decide))]
      obtain ⟨a, ha⟩ := endT_up (p := 1) rfl (reasonOf 1 k er e.sp e.nm) (reasonOf_size _ _ _ _ _)
      rw [e1, e2, ha.1]; exact .e1 a ha.2
  · have e3 : tkN 2 k e = 0 := by unfold tkN; rw [if_neg (fun h => absurd h.1 (by decide))]
    rw [e3]
    by_cases h : ((2 : Int) = 2 ∧ stB k e.sp e.nm compS shakeN = true)
    · have e1 : tkP 2 k e = 3 := by unfold tkP; rw [if_neg (by decide), if_neg (fun h => absurd h.1 (by decide)), if_pos h]
      rw [e1]; exact .sh _
    · have e1 : tkP 2 k e = 4 := by unfold tkP; rw [if_neg (by decide), if_neg (fun h => absurd h.1 (by decide)), if_neg h, if_neg (fun h => absurd h.1 (by decide))]
      have e2 : tkT 2 k er e s = endT 2 (reasonOf 2 k er e.sp e.nm) := by unfold tkT; rw [if_neg (by decide), if_neg (fun h => absurd h.1 (by decide)), if_neg h, if_neg (fun h => absurd h.1 (by decide))]
      obtain ⟨a, ha⟩ := endT_up (p := 2) rfl (reasonOf 2 k er e.sp e.nm) (reasonOf_size _ _ _ _ _)
      rw [e1, e2, ha.1]; exact .e2 a ha.2
  · by_cases h : ((3 : Int) = 3 ∧ k = 2 ∧ stB k e.sp e.nm spS errN = false)
    · have e3 : tkN 3 k e = 1 := by unfold tkN; rw [if_pos h]
      have e1 : tkP 3 k e = 3 := by unfold tkP; rw [if_neg (by decide), if_neg (fun h => absurd h.1 (by decide)), if_neg (fun h => absurd h.1 (by decide)), if_pos h]
      rw [e1, e3]; exact .op _
    · have e3 : tkN 3 k e = 0 := by unfold tkN; rw [if_neg h]
      have e1 : tkP 3 k e = 4 := by unfold tkP; rw [if_neg (by decide), if_neg (fun h => absurd h.1 (by decide)), if_neg (fun h => absurd h.1 (by decide)), if_neg h]
      have e2 : tkT 3 k er e s = endT 3 (reasonOf 3 k er e.sp e.nm) := by unfold tkT; rw [if_neg (by decide), if_neg (fun h => absurd h.1 (by decide)), if_neg (fun h => absurd h.1 (by decide)), if_neg h]
      obtain ⟨a, ha⟩ := endT_up (p := 3) rfl (reasonOf 3 k er e.sp e.nm) (reasonOf_size _ _ _ _ _)
      rw [e1, e2, e3, ha.1]; exact .e3 a ha.2
  · have e3 : tkN 4 k e = 0 := by unfold tkN; rw [if_neg (fun h => absurd h.1 (by decide))]
    have e1 : tkP 4 k e = 4 := by unfold tkP; rw [if_pos (by decide)]
    have e2 : tkT 4 k er e s = ⟨#[]⟩ := by unfold tkT; rw [if_pos (by decide)]
    rw [e1, e2, e3]; exact .off
theorem Stp.next {p q : Int} {y : ByteArray} {n : Nat} (h : Stp p q y n) : q = 1 ∨ q = 2 ∨ q = 3 ∨ q = 4 := by cases h <;> simp
/-- A box that was made ahead of a call. -/
def Sz (T : Nat) (W : World) : Prop := W.heap[T]? = some (.cells #[.string ⟨#[]⟩, .string ⟨#[]⟩, .int .i64 0] 40 (0, 0))
theorem sz_new {W w' : World} (hb : Below (W.alloc (.cells #[.string ⟨#[]⟩, .string ⟨#[]⟩, .int .i64 0] 40)).heap.size (W.alloc (.cells #[.string ⟨#[]⟩, .string ⟨#[]⟩, .int .i64 0] 40)) w') : Sz W.heap.size w' := (hb.block _ (by simp)).trans (box_new W _ _)
theorem sz_drew {W w' : World} (hb : Below (W.alloc (.cells #[.string ⟨#[]⟩, .string ⟨#[]⟩, .int .i64 0] 40)).drew.heap.size (W.alloc (.cells #[.string ⟨#[]⟩, .string ⟨#[]⟩, .int .i64 0] 40)).drew w') : Sz W.heap.size w' := (hb.block _ (by show _ < (W.alloc _).heap.size; simp)).trans (box_new W _ _)
/-- Behind an event: the stream's box, and that of what it is then. -/
def Sy (w : World) (A T : Nat) (d s : ByteArray) (p q : Int) (W : World) : Prop := Sx w A d s p W ∧ W.heap[T]? = some (.cells #[.string d, .string s, .int .i64 q] 40 (0, 0)) ∧ A < T
theorem sy_1 {w w3 : World} {A : Nat} {d s : ByteArray} {p : Int} (h : Sx w A d s p w3) (q : Int) : Sy w A w3.heap.size d s p q (w3.alloc (.cells #[.string d, .string s, .int .i64 q] 40)) :=
  ⟨h.st ((Below.refl _ w3).alloc (Nat.le_refl _) _), box_new w3 _ _, heap_lt h.2.1⟩
theorem sy_2 {w w3 : World} {A T : Nat} {d s : ByteArray} {p : Int} (h : Sx w A d s p w3) (t : Sz T w3) (hT : A < T) (q : Int) : Sy w A T d s p q (((w3.setCell ⟨T, 0, none⟩ (.string d)).setCell ⟨T, 1, none⟩ (.string s)).setCell ⟨T, 2, none⟩ (.int .i64 q)) := by
  have hle : w.heap.size ≤ T := by have := h.2.2; omega
  have t' : w3.heap[T]? = _ := t
  refine ⟨⟨((h.1.setCell (p := ⟨T, 0, none⟩) hle _).setCell (p := ⟨T, 1, none⟩) hle _).setCell (p := ⟨T, 2, none⟩) hle _, ?_, h.2.2⟩, ?_, hT⟩
  · have k : ∀ (W : World) (i : Nat) (u : Value), (W.setCell ⟨T, i, none⟩ u).heap[A]? = W.heap[A]? := fun W i u => Below.heap_setCell W ⟨T, i, none⟩ u _ (by show A ≠ T; omega)
    rw [k, k, k]; exact h.2.1
  · simp [World.setCell, Array.getElem?_modify, t']
theorem wrap_in8 {x : Int} (h1 : -9223372036854775808 ≤ x) (h2 : x ≤ 9223372036854775807) : wrap64 x = x := by
  unfold wrap64
  omega
theorem end_cut (a : ByteArray) : ((a ++ ⟨#[60, 47, 115, 116, 114, 101, 97, 109, 58, 115, 116, 114, 101, 97, 109, 62]⟩).extract a.size (a.size + 16)).toList = [60, 47, 115, 116, 114, 101, 97, 109, 58, 115, 116, 114, 101, 97, 109, 62] := by
  rw [ByteArray.toList_eq, By.extract_cut, By.append_list, List.take_of_length_le (by rw [List.length_append, By.len_size]; show a.size + 16 ≤ a.size + 16; omega), ← By.len_size a, List.drop_left]
set_option maxRecDepth 100000 in
set_option maxHeartbeats 8000000 in
theorem order_walk (d s : ByteArray) (l : List Et) (a : Option Addr) (lc : Nat) (w : World) (h1 : d.size ≤ 140737488351232) (h2 : s.size ≤ 140737488351232) (hl : l.length ≤ maxLen) (hk : EtIn w.heap.size w a l) :
    Calls Tryz.prog 4 #[.string d, .string s, .slice a l.length lc] w fun r w' => r = .returned (.bool true) ∧ Below w.heap.size w w' := by
  have HKS := Lib.hid hk
  have SM := Lib.hid (small8_any l a lc w hl hk)
  have hln : l.length ≤ 9223372036854775807 := hl
  have HW0 : Hid (Below w.heap.size w w) := Below.refl _ _
  clear hk hl
  by_cases hbig : 6000 < d.size + s.size
  · have t1 : decide ((6000 : Int) < (d.size : Int) + (s.size : Int)) = true := by rw [decide_eq_true_iff]; omega
    clear hbig
    go_enter Tryz.func4, Tryz.ntmps4
    go_wp2_with fail
    refine (live8_any _).mono ?_
    rintro r wz ⟨rfl, hb⟩
    have HBZ := Lib.hid (HW0.out.trans (hb.mono HW0.out.size))
    clear hb
    go_wp2_with fail
    go_ret
    exact ⟨rfl, HBZ.out⟩
  · have t1 : decide ((6000 : Int) < (d.size : Int) + (s.size : Int)) = false := by rw [decide_eq_false_iff_not]; omega
    have hd6 : d.size ≤ 6000 := by omega
    have hs6 : s.size ≤ 6000 := by omega
    have BG := Lib.hid (fun W => begin_any8 d s W hd6 hs6)
    have HS6 := Lib.hid hs6
    clear hbig
    go_enter Tryz.func4, Tryz.ntmps4
    go_wp2_with fail
    refine SM.out.mono ?_
    rintro r w1 ⟨⟨v, rfl, hv⟩, hb⟩
    have HB1 := Lib.hid hb
    have HV := Lib.hid hv
    clear hb hv SM HW0
    cases v with
    | false =>
      go_wp2_with fail
      refine (live8_any _).mono ?_
      rintro r wz ⟨rfl, hb⟩
      have HBZ := Lib.hid (HB1.out.trans (hb.mono HB1.out.size))
      clear hb
      go_wp2_with fail
      go_ret
      exact ⟨rfl, HBZ.out⟩
    | true =>
      obtain ⟨hl40, hwt⟩ := HV.out rfl
      have HWK : Hid (∀ x ∈ l, wt x.2.1 ≤ 6000) := fun x hx => by
        have := wts_mem (l := els l) (List.mem_map_of_mem (f := fun x : Et => x.2.1) hx)
        omega
      clear hwt HV
      go_wp2_with fail
      refine (BG.out _).mono ?_
      rintro r w2 ⟨hr, hb⟩
      have HB2 := Lib.hid (HB1.out.trans (hb.mono HB1.out.size))
      clear hb BG HB1
      by_cases hbg : begB d s = true
      case neg =>
        rw [if_neg hbg] at hr
        subst hr
        have HB3 : Hid (Below w.heap.size w (w2.alloc (.cells #[.string ⟨#[]⟩, .string ⟨#[]⟩, .int .i64 0] 40))) := HB2.out.alloc HB2.out.size _
        clear hbg
        go_wp2_with fail
        refine (num8_any _ _).mono ?_
        rintro r w3 ⟨rfl, rfl⟩
        go_wp2_with fail
        refine (live8_any _).mono ?_
        rintro r wz ⟨rfl, hb⟩
        have HBZ := Lib.hid (HB3.out.trans (hb.mono HB3.out.size))
        clear hb
        go_wp2_with fail
        go_ret
        exact ⟨rfl, HBZ.out⟩
      case pos =>
        rw [if_pos hbg] at hr
        obtain ⟨X, rfl, _⟩ := hr
        have HS0 := Lib.hid (Sx.new HB2.out d s 1)
        clear hbg HB2
        go_upto_region 4 with fail
        generalize hA : w2.heap.size = A at HS0 ⊢
        generalize w2.alloc (.cells #[.string d, .string s, .int .i64 1] 40) = W2 at HS0 ⊢
        clear hA
        go_wp2_with fail
        refine (num8_any _ _).mono ?_
        rintro r w3 ⟨rfl, rfl⟩
        go_wp2_with fail
        go_loopw [10] (fun i wr => ∃ (k : Nat) (p : Int), i = .int .i64 k ∧ k ≤ l.length ∧ Hid (p = 1 ∨ p = 2 ∨ p = 3 ∨ p = 4) ∧ Hid (Sx w A d s p wr)) (fun i _ => l.length - (RowKit.intOf i).toNat)
        case atStart => exact ⟨0, 1, rfl, Nat.zero_le _, .inl rfl, HS0.out⟩
        case round =>
          obtain ⟨k, p, rfl, hk, HP, HS⟩ := hrel
          clear HS0
          by_cases hlt : k < l.length
          · obtain ⟨b, o, aA, cA, aK, cK, rfl, hb, hf7, hkin, hwf⟩ := (HKS.out.below HS.out.1) k hlt
            obtain ⟨y0, y1, y2, y3, y4, y5, y6⟩ := hf7
            have HST := Lib.hid (tk_step HP.out l[k].1 l[k].2.2 l[k].2.1 s)
            have TK : Hid (∀ W, Below wr.heap.size wr W → Calls Tryz.prog 18 #[.agg #[.string d, .string s, .int .i64 p], .agg #[.int .i64 l[k].1, .string l[k].2.1.sp, .string l[k].2.1.nm, .slice aA l[k].2.1.atr.length cA, .string l[k].2.1.tx, .slice aK l[k].2.1.ks.length cK, .int .i64 l[k].2.2]] W (TkP d s p l[k].1 l[k].2.2 l[k].2.1 W)) := fun W hW =>
              take_any8 d s p l[k].1 l[k].2.2 l[k].2.1 aA aK cA cK w.heap.size W (hkin.stay (hW.mono HS.out.1.size)) (Nat.le_trans HS.out.1.size hW.size) (HWK.out _ (List.getElem_mem hlt)) HS6.out hwf
            unfold TkP at TK
            generalize tkP p l[k].1 l[k].2.1 = q at HST TK
            generalize tkT p l[k].1 l[k].2.2 l[k].2.1 s = Y at HST TK
            generalize tkN p l[k].1 l[k].2.1 = n at HST TK
            generalize l[k].2.1.sp = e1 at y1 TK
            generalize l[k].2.1.nm = e2 at y2 TK
            generalize l[k].2.1.atr.length = e3 at y3 TK
            generalize l[k].2.1.tx = e4 at y4 TK
            generalize l[k].2.1.ks.length = e5 at y5 TK
            generalize l[k].1 = e6 at y0 TK
            generalize l[k].2.2 = e7 at y6 TK
            clear hkin hwf hb
            obtain ⟨x0, x1, x2, fx⟩ := cs3 HS.out.2.1
            go_upto_region 9 with fail
            go_cut [11, 12, 13] from 46 to 129 (fun s11 s12 s13 wx => ∃ (T : Nat) (ma : Option Addr) (mc : Nat), s11 = .pointer (some ⟨T, 0, none⟩) ∧ s12 = .string Y ∧ s13 = .slice ma n mc ∧ Hid (Sy w A T d s p q wx))
            case first =>
              have d0 : wr.drew.cell? ⟨A, 0, none⟩ = some (.string d) := x0
              have d1 : wr.drew.cell? ⟨A, 1, none⟩ = some (.string s) := x1
              have d2 : wr.drew.cell? ⟨A, 2, none⟩ = some (.int .i64 p) := x2
              have g0 : wr.drew.cell? ⟨b, o + k * 7, none⟩ = _ := y0
              have g1 : wr.drew.cell? ⟨b, o + k * 7 + 1, none⟩ = _ := y1
              have g2 : wr.drew.cell? ⟨b, o + k * 7 + 2, none⟩ = _ := y2
              have g3 : wr.drew.cell? ⟨b, o + k * 7 + 3, none⟩ = _ := y3
              have g4 : wr.drew.cell? ⟨b, o + k * 7 + 4, none⟩ = _ := y4
              have g5 : wr.drew.cell? ⟨b, o + k * 7 + 5, none⟩ = _ := y5
              have g6 : wr.drew.cell? ⟨b, o + k * 7 + 6, none⟩ = _ := y6
              have i0 : (0 : Int) ≤ (k : Int) := by omega
              have i1 : (k : Int) < (l.length : Int) := by omega
              have hbs : b < wr.heap.size := World.block_lt_of_cell? _ _ y0
              have hAs : A < wr.heap.size := World.block_lt_of_cell? _ _ x0
              have DX0 := fun (o : Obj) => cell_alloc x0 o
              have DX1 := fun (o : Obj) => cell_alloc x1 o
              have DX2 := fun (o : Obj) => cell_alloc x2 o
              have GY0 := fun (o : Obj) => cell_alloc y0 o
              have GY1 := fun (o : Obj) => cell_alloc y1 o
              have GY2 := fun (o : Obj) => cell_alloc y2 o
              have GY3 := fun (o : Obj) => cell_alloc y3 o
              have GY4 := fun (o : Obj) => cell_alloc y4 o
              have GY5 := fun (o : Obj) => cell_alloc y5 o
              have GY6 := fun (o : Obj) => cell_alloc y6 o
              have D0 := fun (o : Obj) => cell_alloc d0 o
              have D1 := fun (o : Obj) => cell_alloc d1 o
              have D2 := fun (o : Obj) => cell_alloc d2 o
              have G0 := fun (o : Obj) => cell_alloc g0 o
              have G1 := fun (o : Obj) => cell_alloc g1 o
              have G2 := fun (o : Obj) => cell_alloc g2 o
              have G3 := fun (o : Obj) => cell_alloc g3 o
              have G4 := fun (o : Obj) => cell_alloc g4 o
              have G5 := fun (o : Obj) => cell_alloc g5 o
              have G6 := fun (o : Obj) => cell_alloc g6 o
              clear fx HST HKS HWK
              have hBa : Below wr.heap.size wr wr.drew := (Below.refl _ _).drew
              have hBb : ∀ o, Below wr.heap.size wr (wr.drew.alloc o) := fun o => hBa.alloc (Nat.le_refl _) o
              have hBc : ∀ o, Below wr.heap.size wr (wr.alloc o).drew := fun o => ((Below.refl _ _).alloc (Nat.le_refl _) o).drew
              go_region_with (first
                | ((go_at_call 18; (with_reducible refine (TK.out _ hBa).mono ?_); rintro r w3 ⟨⟨ma, mc, rfl⟩, hb3⟩; have HS3 := Lib.hid ((HS.out.st hBa).st hb3)))
                | ((go_at_call 18; (with_reducible refine (TK.out _ (hBb _)).mono ?_); rintro r w3 ⟨⟨ma, mc, rfl⟩, hb3⟩; have HS3 := Lib.hid ((HS.out.st (hBb _)).st hb3); have t3 := sz_new hb3; obtain ⟨q0, q1, q2, fq⟩ := cs3 t3; have fq0 := fq 0; have fq1 := fq 1; have fq2 := fq 2))
                | ((go_at_call 18; (with_reducible refine (TK.out _ (hBc _)).mono ?_); rintro r w3 ⟨⟨ma, mc, rfl⟩, hb3⟩; have HS3 := Lib.hid ((HS.out.st (hBc _)).st hb3); have t3 := sz_drew hb3; obtain ⟨q0, q1, q2, fq⟩ := cs3 t3; have fq0 := fq 0; have fq1 := fq 1; have fq2 := fq 2)))
              all_goals
                first
                  | (have HF := Lib.hid (sy_2 HS3.out t3 hAs q))
                  | (have HF := Lib.hid (sy_1 HS3.out q))
                go_wp2_with fail
                go_meet
                exact ⟨_, _, _, rfl, rfl, rfl, HF.out⟩
            case rest =>
              obtain ⟨T, ma, mc, rfl, rfl, rfl, HY⟩ := hcut
              have HPN := Lib.hid HST.out.next
              have HSB : Hid (∀ q', Sx w A d s q' (((wc.setCell ⟨A, 0, none⟩ (.string d)).setCell ⟨A, 1, none⟩ (.string s)).setCell ⟨A, 2, none⟩ (.int .i64 q'))) := fun q' => HY.out.1.put d s q'
              clear x0 x1 x2 fx y0 y1 y2 y3 y4 y5 y6 TK HS
              obtain ⟨x0, x1, x2, fx⟩ := cs3 HY.out.1.2.1
              obtain ⟨z0, z1, z2, fz⟩ := cs3 HY.out.2.1
              have fx0 := fx 0
              have fx1 := fx 1
              have fx2 := fx 2
              have hTA : T ≠ A := by have := HY.out.2.2; omega
              have n1 : (d.toList != d.toList) = false := by simp
              have n2 : (s.toList != s.toList) = false := by simp
              have hst := HST.out
              clear HST HY fx fz
              cases hst with
              | off =>
                go_wp2_with fail
                go_roundw
                case rel => exact ⟨k + 1, _, by go_num, by omega, HPN.out, HSB.out _⟩
                case measure => simp [RowKit.intOf]; omega
              | hd =>
                go_wp2_with fail
                go_roundw
                case rel => exact ⟨k + 1, _, by go_num, by omega, HPN.out, HSB.out _⟩
                case measure => simp [RowKit.intOf]; omega
              | sh =>
                go_wp2_with fail
                go_roundw
                case rel => exact ⟨k + 1, _, by go_num, by omega, HPN.out, HSB.out _⟩
                case measure => simp [RowKit.intOf]; omega
              | op =>
                go_wp2_with fail
                go_roundw
                case rel => exact ⟨k + 1, _, by go_num, by omega, HPN.out, HSB.out _⟩
                case measure => simp [RowKit.intOf]; omega
              | e1 a ha =>
                have g1 : wrap64 (a.size : Int) = (a.size : Int) := wrap_in8 (by omega) (by omega)
                have g2 : ((a ++ ⟨#[60, 47, 115, 116, 114, 101, 97, 109, 58, 115, 116, 114, 101, 97, 109, 62]⟩).extract a.size (a.size + 16)).toList = [60, 47, 115, 116, 114, 101, 97, 109, 58, 115, 116, 114, 101, 97, 109, 62] := end_cut a
                have g3 : (((a ++ ⟨#[60, 47, 115, 116, 114, 101, 97, 109, 58, 115, 116, 114, 101, 97, 109, 62]⟩).extract a.size (a.size + 16)).toList == [60, 47, 115, 116, 114, 101, 97, 109, 58, 115, 116, 114, 101, 97, 109, 62]) = true := by rw [g2]; rfl
                have g4 : decide ((a.size : Int) + 16 < 16) = false := by rw [decide_eq_false_iff_not]; omega
                go_wp2_with fail
                go_roundw
                case rel => exact ⟨k + 1, _, by go_num, by omega, HPN.out, HSB.out _⟩
                case measure => simp [RowKit.intOf]; omega
              | e2 a ha =>
                have g1 : wrap64 (a.size : Int) = (a.size : Int) := wrap_in8 (by omega) (by omega)
                have g2 : ((a ++ ⟨#[60, 47, 115, 116, 114, 101, 97, 109, 58, 115, 116, 114, 101, 97, 109, 62]⟩).extract a.size (a.size + 16)).toList = [60, 47, 115, 116, 114, 101, 97, 109, 58, 115, 116, 114, 101, 97, 109, 62] := end_cut a
                have g3 : (((a ++ ⟨#[60, 47, 115, 116, 114, 101, 97, 109, 58, 115, 116, 114, 101, 97, 109, 62]⟩).extract a.size (a.size + 16)).toList == [60, 47, 115, 116, 114, 101, 97, 109, 58, 115, 116, 114, 101, 97, 109, 62]) = true := by rw [g2]; rfl
                have g4 : decide ((a.size : Int) + 16 < 16) = false := by rw [decide_eq_false_iff_not]; omega
                go_wp2_with fail
                go_roundw
                case rel => exact ⟨k + 1, _, by go_num, by omega, HPN.out, HSB.out _⟩
                case measure => simp [RowKit.intOf]; omega
              | e3 a ha =>
                have g1 : wrap64 (a.size : Int) = (a.size : Int) := wrap_in8 (by omega) (by omega)
                have g2 : ((a ++ ⟨#[60, 47, 115, 116, 114, 101, 97, 109, 58, 115, 116, 114, 101, 97, 109, 62]⟩).extract a.size (a.size + 16)).toList = [60, 47, 115, 116, 114, 101, 97, 109, 58, 115, 116, 114, 101, 97, 109, 62] := end_cut a
                have g3 : (((a ++ ⟨#[60, 47, 115, 116, 114, 101, 97, 109, 58, 115, 116, 114, 101, 97, 109, 62]⟩).extract a.size (a.size + 16)).toList == [60, 47, 115, 116, 114, 101, 97, 109, 58, 115, 116, 114, 101, 97, 109, 62]) = true := by rw [g2]; rfl
                have g4 : decide ((a.size : Int) + 16 < 16) = false := by rw [decide_eq_false_iff_not]; omega
                go_wp2_with fail
                go_roundw
                case rel => exact ⟨k + 1, _, by go_num, by omega, HPN.out, HSB.out _⟩
                case measure => simp [RowKit.intOf]; omega
          · obtain rfl : k = l.length := by omega
            have HBZ0 := Lib.hid HS.out.1
            go_wp2_with fail
            refine (live8_any _).mono ?_
            rintro r wz ⟨rfl, hb⟩
            have HBZ := Lib.hid (HBZ0.out.trans (hb.mono HBZ0.out.size))
            clear hb
            go_wp2_with fail
            go_ret
            exact ⟨rfl, HBZ.out⟩
end Go.Proofs.YtolnpfcncmcacaaGreatDoor
