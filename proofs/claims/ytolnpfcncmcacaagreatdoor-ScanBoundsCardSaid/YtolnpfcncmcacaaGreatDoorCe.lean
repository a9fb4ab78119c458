/- The contract of the document's begins at the tag of the stream's beginning. No condition. -/
import Derived.Test.YtolnpfcncmcacaaGreatDoorRg
namespace Go.Proofs.YtolnpfcncmcacaaGreatDoor
open Go.RowKit Go.Lib Go.Shelf Tg Sn

def openCells : List Value := [.int .i64 1, .string ⟨#[98]⟩, .string ⟨#[97]⟩, .slice none 0 0, .string ⟨#[]⟩, .slice none 0 0, .int .i64 0]
/-- What begins answers at the stream's beginning. -/
def BgA (w : World) (r : Ending) (w' : World) : Prop := ∃ (g c : Nat) (a : Option Addr) (d : Nat), r = .returned (.agg #[.slice (some ⟨g, 0, none⟩) 1 c, .int .i64 0, .bool false, .bool false, .slice a 1 d]) ∧
  OpR w.heap.size w' (some ⟨g, 0, none⟩) 1 c ⟨#[97]⟩ ⟨#[]⟩ ∧ w'.ownsRow w.heap.size 50 7 (.slice a 1 d) 1 openCells ∧ Below w.heap.size w w'
theorem own_high {B N n k : Nat} {W : World} {T : TypeId} {v : Value} {xs : List Value} (h : W.ownsRow B T k v n xs) (hN : N ≤ B) : W.ownsRow N T k v n xs := by
  refine ⟨h.1, ?_⟩
  rcases h.2 with h3 | ⟨g, cap, cur, rfl, q1, q2, q3⟩
  · exact .inl h3
  · exact .inr ⟨g, cap, cur, rfl, Nat.le_trans hN q1, q2, q3⟩
def rawL : List Value := [.string ⟨#[120, 109, 108, 110, 115]⟩, .string ⟨#[98]⟩]
set_option maxRecDepth 100000 in
set_option maxHeartbeats 4000000 in
theorem begins_a (w : World) :
    Calls Tryz.prog 52 #[.agg #[.slice none 0 0, .int .i64 0, .bool false, .bool false, .slice none 0 0], .string ⟨#[60, 97, 32, 120, 109, 108, 110, 115, 61, 39, 98, 39, 62]⟩] w (BgA w) := by
  obtain ⟨i0, hi0, hz0, hz1, hz2⟩ := info_parts infoOp
  obtain ⟨j0, hj0, hy0, hy1, hy2⟩ := info_parts infoDc
  obtain ⟨k0, hk0, hv0, hv1, hv2⟩ := info_parts infoEv
  have F0 := Lib.hid (Fb.new w ⟨none, 0, 0, 0, false, false, none, 0, 0⟩)
  have PA := Lib.hid (fun W => parts_a W)
  have DX := Lib.hid (fun W => declares_x W)
  have QX := Lib.hid (fun W => rQuoted_plain ⟨#[98]⟩ W (by decide) (by decide))
  go_enter Tryz.func52, Tryz.ntmps52
  go_upto_region 1 with fail
  generalize (w.alloc (.cells #[.slice none 0 0, .int .i64 0, .bool false, .bool false, .slice none 0 0] 31)).alloc (.cells #[.slice none 0 0, .int .i64 0, .bool false, .bool false, .slice none 0 0] 31) = w1 at F0 ⊢
  go_wp2_with fail
  refine (PA.out _).mono ?_
  rintro r w2 ⟨l, rfl, hraw, hb⟩
  have F2 := Lib.hid (F0.out.st F0.out.big hb)
  obtain ⟨gr, cr, rfl⟩ : ∃ gr cr, l = .slice (some ⟨gr, 0, none⟩) 1 cr := by
    rcases hraw.2 with ⟨_, h0⟩ | ⟨g, cap, cur, hv, _⟩
    · cases h0
    · exact ⟨g, cap, hv⟩
  have hgr : w.heap.size + 2 ≤ gr := Nat.le_trans F0.out.big (hraw.lt gr rfl).1
  have HRW : Hid (w2.ownsRow (w.heap.size + 2) 122 2 (.slice (some ⟨gr, 0, none⟩) 1 cr) 1 rawL) := own_high hraw (Nat.le_trans F0.out.big (Nat.le_refl _))
  clear F0 hb PA hraw
  go_wp2_with fail
  go_loopw [9, 10] (fun k i wr => k = .int .i64 0 ∧ (i = .int .i64 0 ∨ i = .int .i64 1) ∧ Hid (Fb w ⟨none, 0, 0, 0, false, false, none, 0, 0⟩ wr) ∧ Hid (wr.ownsRow (w.heap.size + 2) 122 2 (.slice (some ⟨gr, 0, none⟩) 1 cr) 1 rawL)) (fun _ i _ => 1 - (RowKit.intOf i).toNat)
  case atStart => exact ⟨rfl, .inl rfl, F2.out, HRW.out⟩
  case round =>
    clear F2 HRW
    obtain ⟨rfl, rfl | rfl, F, HR⟩ := hrel
    · go_wp2_with fail
      go_loopw [11] (fun i wx => i = .int .i64 0 ∧ wx = wr) (fun _ _ => 0)
      case atStart => exact ⟨rfl, rfl⟩
      case round =>
        obtain ⟨rfl, rfl⟩ := hrel
        have q0 : wr.cell? ⟨gr, 0, none⟩ = some (.string ⟨#[120, 109, 108, 110, 115]⟩) := HR.out.cellAt 0 (by decide)
        go_wp2_with fail
        refine (DX.out _).mono ?_
        rintro r w3 ⟨rfl, hb⟩
        have F3 := Lib.hid (F.out.st F.out.big hb)
        have HR3 := Lib.hid (own_up HR.out hb)
        clear hb q0
        go_wp2_with fail
        go_roundw
        case rel => exact ⟨rfl, .inr rfl, F3.out, HR3.out⟩
        case measure => simp [RowKit.intOf]
    · go_wp2_with fail
      go_loopw [14] (fun i wx => (i = .int .i64 0 ∨ i = .int .i64 1) ∧ Hid (Fb w ⟨none, 0, 0, 0, false, false, none, 0, 0⟩ wx) ∧ Hid (wx.ownsRow (w.heap.size + 2) 122 2 (.slice (some ⟨gr, 0, none⟩) 1 cr) 1 rawL)) (fun i _ => 1 - (RowKit.intOf i).toNat)
      case atStart => exact ⟨.inl rfl, F.out, HR.out⟩
      case round =>
        clear F HR
        obtain ⟨rfl | rfl, F, HR⟩ := hrel
        · have q1 : wr.cell? ⟨gr, 1, none⟩ = some (.string ⟨#[98]⟩) := HR.out.cellAt 1 (by decide)
          go_wp2_with fail
          refine (QX.out _).mono ?_
          rintro r w3 ⟨rfl, hb⟩
          have F3 := Lib.hid (F.out.st F.out.big hb)
          have HR3 := Lib.hid (own_up HR.out hb)
          have q2 : w3.cell? ⟨gr, 1, none⟩ = some (.string ⟨#[98]⟩) := HR3.out.cellAt 1 (by decide)
          have f2 := HR3.out.frozenAt 1
          have HR4 : Hid ((w3.setCell ⟨gr, 1, none⟩ (.string ⟨#[98]⟩)).ownsRow (w.heap.size + 2) 122 2 (.slice (some ⟨gr, 0, none⟩) 1 cr) 1 rawL) := (HR3.out.stored 1 (.string ⟨#[98]⟩)).1
          have F4 : Hid (Fb w ⟨none, 0, 0, 0, false, false, none, 0, 0⟩ (w3.setCell ⟨gr, 1, none⟩ (.string ⟨#[98]⟩))) := F3.out.st (Nat.le_refl _) ((Below.refl (w.heap.size + 2) w3).setCell hgr _)
          clear hb q1 F3 HR3
          go_wp2_with fail
          go_roundw
          case rel => exact ⟨.inr rfl, F4.out, HR4.out⟩
          case measure => simp [RowKit.intOf]
        · obtain ⟨x0, x1, x2, x3, x4⟩ := bx5 F.out.bx
          dsimp only at x0 x1 x2 x3 x4
          go_wp2_with fail
          clear x0 x1 x2 x3 x4
          go_loopw [18, 19] (fun k i wx => (i = .int .i64 0 ∧ k = .slice none 0 0 ∨ i = .int .i64 1 ∧ ∃ gd cd, k = .slice (some ⟨gd, 0, none⟩) 1 cd ∧ w.heap.size + 2 ≤ gd ∧ Hid (wx.ownsRow w.heap.size 126 2 (.slice (some ⟨gd, 0, none⟩) 1 cd) 1 [.string ⟨#[]⟩, .string ⟨#[98]⟩])) ∧ Hid (Fb w ⟨none, 0, 0, 0, false, false, none, 0, 0⟩ wx) ∧ Hid (wx.ownsRow (w.heap.size + 2) 122 2 (.slice (some ⟨gr, 0, none⟩) 1 cr) 1 rawL)) (fun _ i _ => 1 - (RowKit.intOf i).toNat)
          case atStart => exact ⟨.inl ⟨rfl, rfl⟩, F.out, HR.out⟩
          case round =>
            clear F HR
            obtain ⟨⟨rfl, rfl⟩ | ⟨rfl, gd, cd, rfl, hgd, HD⟩, F, HR⟩ := hrel
            · have q0 : wr.cell? ⟨gr, 0, none⟩ = some (.string ⟨#[120, 109, 108, 110, 115]⟩) := HR.out.cellAt 0 (by decide)
              go_wp2_with fail
              refine (DX.out _).mono ?_
              rintro r w3 ⟨rfl, hb⟩
              have F3 := Lib.hid (F.out.st F.out.big hb)
              have HR3 := Lib.hid (own_up HR.out hb)
              have q1 : w3.cell? ⟨gr, 1, none⟩ = some (.string ⟨#[98]⟩) := HR3.out.cellAt 1 (by decide)
              have hb3 := F3.out.big
              have lg := (HR3.out.lt gr rfl).2
              have e1 : ((⟨#[98]⟩ : ByteArray).toList.isEmpty) = false := by rw [ByteArray.toList_eq]; rfl
              have e2 : ((⟨#[]⟩ : ByteArray).toList == [120, 109, 108]) = false := by rw [ByteArray.toList_eq]; rfl
              have e3 : ((⟨#[]⟩ : ByteArray).toList == [120, 109, 108, 110, 115]) = false := by rw [ByteArray.toList_eq]; rfl
              clear hb q0 F HR
              go_wp2_with (at_builtin; go_loud (refine wpList_append_lies _ rfl _ _ 111 rfl w.heap.size 126 j0 _ 2 32 Tryz.underlying111 hj0 hy0 hy1 hy2 rfl (by decide) _ 0 [] rfl (World.ownsRow_nil _ _ _ _) ⟨w3.heap.size, 0, none⟩ 1 1 [.string ⟨#[]⟩, .string ⟨#[98]⟩] rfl rfl (World.news_of_block (cs := #[.string ⟨#[]⟩, .string ⟨#[98]⟩]) (t := 126) (fr := (0, 0)) (heap_alloc_new w3 _)) (by simp [Value.oneCell']) (by decide) (by decide) (by decide) (by simp; omega) (w3.heap.size + 1) (by simp) ?_; intro gd capD w5 hown hgrow hat hlt5; have hgrow : (w3.alloc (.cells #[.string ⟨#[]⟩, .string ⟨#[98]⟩] 126)).grownBy w5 none := hgrow; have HAT : Hid (gd = w3.heap.size + 1) := (hat.resolve_left (by intro h; cases h)); clear hat))
              have hgd : w.heap.size + 2 ≤ gd := by have := HAT.out; omega
              have F5 := Lib.hid ((F3.out.st hb3 ((Below.refl _ w3).alloc (Nat.le_refl _) (.cells #[.string ⟨#[]⟩, .string ⟨#[98]⟩] 126))).gr hgrow (fun b e => by cases e))
              have HD5 : Hid (w5.ownsRow w.heap.size 126 2 (.slice (some ⟨gd, 0, none⟩) 1 capD) 1 [.string ⟨#[]⟩, .string ⟨#[98]⟩]) := hown
              have HR5 : Hid (w5.ownsRow (w.heap.size + 2) 122 2 (.slice (some ⟨gr, 0, none⟩) 1 cr) 1 rawL) := own_keep HR3.out (fun b e => by cases e; exact (hgrow.block gr (by simp; omega) (fun e => by cases e)).trans (Below.heap_alloc _ _ _ lg))
              clear hown hgrow HAT F3 HR3 q1
              go_wp2_with fail
              go_roundw
              case rel => exact ⟨.inr ⟨rfl, gd, capD, rfl, hgd, HD5.out⟩, F5.out, HR5.out⟩
              case measure => simp [RowKit.intOf]
            · have SP := Lib.hid (fun W => split_plain ⟨#[97]⟩ W (by decide) (by decide))
              have SO : Hid (∀ W, Below wr.heap.size wr W → Calls Tryz.prog 83 #[.slice (some ⟨gd, 0, none⟩) 1 cd, .string ⟨#[]⟩] W fun e w' => e = .returned (.tuple #[.string ⟨#[98]⟩, .bool true]) ∧ Below W.heap.size W w') := fun W hb => space_one W _ _ _ ⟨w.heap.size, own_up HD.out hb⟩
              go_wp2_with fail
              refine (SP.out _).mono ?_
              rintro r w5 ⟨rfl, rfl⟩
              go_wp2_with fail
              refine (SO.out _ (Below.refl _ _)).mono ?_
              rintro r w5 ⟨rfl, hb⟩
              have F5 := Lib.hid (F.out.st F.out.big hb)
              have HD5 := Lib.hid (own_up HD.out hb)
              have HR5 := Lib.hid (own_up HR.out hb)
              clear hb F HD HR SO SP
              go_upto_region 42 with fail
              have F6 := Lib.hid (F5.out.st (Nat.le_refl _) ((Below.refl (w.heap.size + 2) w5).alloc F5.out.big (.cells #[.string ⟨#[98]⟩, .string ⟨#[97]⟩, .slice none 0 0, .string ⟨#[]⟩, .slice none 0 0] 48)))
              have HE6 := Lib.hid (box_new w5 #[.string ⟨#[98]⟩, .string ⟨#[97]⟩, .slice none 0 0, .string ⟨#[]⟩, .slice none 0 0] 48)
              have HD6 := Lib.hid (HD5.out.alloc (.cells #[.string ⟨#[98]⟩, .string ⟨#[97]⟩, .slice none 0 0, .string ⟨#[]⟩, .slice none 0 0] 48))
              have HR6 := Lib.hid (HR5.out.alloc (.cells #[.string ⟨#[98]⟩, .string ⟨#[97]⟩, .slice none 0 0, .string ⟨#[]⟩, .slice none 0 0] 48))
              have h5 := F5.out.big
              generalize w5.alloc (.cells #[.string ⟨#[98]⟩, .string ⟨#[97]⟩, .slice none 0 0, .string ⟨#[]⟩, .slice none 0 0] 48) = w6 at F6 HE6 HD6 HR6 ⊢
              have hE6 := heap_lt HE6.out
              generalize hE : w5.heap.size = E at HE6 h5 hE6 ⊢
              clear F5 HD5 HR5 hE
              go_wp2_with fail
              go_loopw [27] (fun i wy => (i = .int .i64 0 ∨ i = .int .i64 1) ∧ Hid (Below w6.heap.size w6 wy)) (fun i _ => 1 - (RowKit.intOf i).toNat)
              case atStart => exact ⟨.inl rfl, Below.refl _ _⟩
              case round =>
                obtain ⟨rfl | rfl, HBW⟩ := hrel
                · have HR7 := Lib.hid (own_up HR6.out HBW.out)
                  have q0 : wr.cell? ⟨gr, 0, none⟩ = some (.string ⟨#[120, 109, 108, 110, 115]⟩) := HR7.out.cellAt 0 (by decide)
                  go_wp2_with fail
                  refine (DX.out _).mono ?_
                  rintro r w7 ⟨rfl, hb⟩
                  have HBW2 := Lib.hid (HBW.out.trans (hb.mono HBW.out.size))
                  clear hb q0
                  go_wp2_with fail
                  go_roundw
                  case rel => exact ⟨.inr rfl, HBW2.out⟩
                  case measure => simp [RowKit.intOf]
                · have F7 := Lib.hid (F6.out.st F6.out.big HBW.out)
                  have HE7 : Hid (wr.heap[E]? = some (.cells #[.string ⟨#[98]⟩, .string ⟨#[97]⟩, .slice none 0 0, .string ⟨#[]⟩, .slice none 0 0] 48 (0, 0))) := (HBW.out.block _ hE6).trans HE6.out
                  have HD7 := Lib.hid (own_up HD6.out HBW.out)
                  clear F6 HE6 HD6 HR6 HBW
                  obtain ⟨x0, x1, x2, x3, x4⟩ := bx5 F7.out.bx
                  dsimp only at x0 x1 x2 x3 x4
                  obtain ⟨z0, z1, z2, z3, z4⟩ := bx5 HE7.out
                  have h7 := F7.out.big
                  have lx7 := heap_lt F7.out.bx
                  have lE7 := heap_lt HE7.out
                  have f74 := Lib.frozen_of_heap F7.out.bx 4
                  have hgd7 := (HD7.out.lt gd rfl).2
                  go_upto_region 59 with (at_builtin; go_loud (refine wpList_append_lies _ rfl _ _ 27 rfl w.heap.size 50 k0 _ 7 112 Tryz.underlying27 hk0 hv0 hv1 hv2 rfl (by decide) _ 0 [] rfl (World.ownsRow_nil _ _ _ _) ⟨wr.heap.size, 0, none⟩ 1 1 openCells rfl rfl (World.news_of_block (cs := #[.int .i64 1, .string ⟨#[98]⟩, .string ⟨#[97]⟩, .slice none 0 0, .string ⟨#[]⟩, .slice none 0 0, .int .i64 0]) (t := 50) (fr := (0, 0)) (heap_alloc_new wr _)) (by simp [openCells, Value.oneCell']) (by decide) (by decide) (by decide) (by simp; omega) (wr.heap.size + 1) (by simp) ?_; intro ge capE w8 hown hgrow hat hlt8; have hgrow : (wr.alloc (.cells #[.int .i64 1, .string ⟨#[98]⟩, .string ⟨#[97]⟩, .slice none 0 0, .string ⟨#[]⟩, .slice none 0 0, .int .i64 0] 50)).grownBy w8 none := hgrow; have HAT : Hid (ge = wr.heap.size + 1) := (hat.resolve_left (by intro h; cases h)); clear hat; have F8 := Lib.hid ((F7.out.st h7 ((Below.refl _ wr).alloc (Nat.le_refl _) (.cells #[.int .i64 1, .string ⟨#[98]⟩, .string ⟨#[97]⟩, .slice none 0 0, .string ⟨#[]⟩, .slice none 0 0, .int .i64 0] 50))).gr hgrow (fun b e => by cases e)); have k4 := (bx5 F8.out.bx).2.2.2.2; dsimp only at k4; have f84 := Lib.frozen_of_heap F8.out.bx 4; have lx8 := heap_lt F8.out.bx))
                  have hge : w.heap.size + 2 ≤ ge := by have := HAT.out; omega
                  have hgo : ∀ b, b < wr.heap.size → b ≠ w.heap.size → (w8.setCell ⟨w.heap.size, 4, none⟩ (.slice (some ⟨ge, 0, none⟩) (0 + 1) capE)).heap[b]? = wr.heap[b]? := fun b hb hne => by
                    rw [show (w8.setCell ⟨w.heap.size, 4, none⟩ (.slice (some ⟨ge, 0, none⟩) (0 + 1) capE)).heap[b]? = w8.heap[b]? from by
                      have : w.heap.size ≠ b := fun e => hne e.symm
                      simp [World.setCell, Array.getElem?_modify, this]]
                    exact (hgrow.block b (by simp; omega) (fun e => by cases e)).trans (Below.heap_alloc _ _ _ hb)
                  have F9 := Lib.hid (put_out F8.out (some ⟨ge, 0, none⟩) (0 + 1) capE)
                  have HE9 := Lib.hid ((hgo E lE7 (by omega)).trans HE7.out)
                  have HD9 : Hid ((w8.setCell ⟨w.heap.size, 4, none⟩ (.slice (some ⟨ge, 0, none⟩) (0 + 1) capE)).ownsRow w.heap.size 126 2 (.slice (some ⟨gd, 0, none⟩) 1 cd) 1 [.string ⟨#[]⟩, .string ⟨#[98]⟩]) := own_keep HD7.out (fun b e => by cases e; exact hgo gd hgd7 (by omega))
                  have HX9 : Hid ((w8.setCell ⟨w.heap.size, 4, none⟩ (.slice (some ⟨ge, 0, none⟩) (0 + 1) capE)).ownsRow w.heap.size 50 7 (.slice (some ⟨ge, 0, none⟩) 1 capE) 1 openCells) := ownsRow_setCell_other hown (fun e => by have e : some ge = some w.heap.size := e; have := Option.some.inj e; omega) _
                  clear hgo hgrow hown HAT F7 HE7 HD7 F8 x0 x1 x2 x3 x4 z0 z1 z2 z3 z4 k4 f74 f84 lx7 lE7 lx8 hlt8
                  generalize w8.setCell ⟨w.heap.size, 4, none⟩ (.slice (some ⟨ge, 0, none⟩) (0 + 1) capE) = w9 at F9 HE9 HD9 HX9 ⊢
                  have hW9 : w.heap.size + 2 ≤ w9.heap.size := F9.out.big
                  have hgd9 := (HD9.out.lt gd rfl).2
                  have hge9 := (HX9.out.lt ge rfl).2
                  go_upto_region 63 with fail
                  refine region63 ⟨_, w9.drew, w.heap.size, none, 0, 0, [], ⟨#[97]⟩, gd, cd, w.heap.size⟩ w9 rfl E _ _ _ _ (by show 296 < 301; decide) rfl rfl rfl rfl HE9.out F9.out.bx (by show w.heap.size ≤ w9.heap.size; omega) rfl (by show 0 ≤ 40; decide)
                    (fun N W hb h1 h2 hN => append_none w.heap.size N W h2 hN) ?_
                  intro a' p W9 hs hd ho hbl hg9 hown
                  have hbl : Below w9.heap.size w9 W9 := ((Below.refl w9.heap.size w9).drew).trans hbl
                  have hg9 : w9.heap.size ≤ p.g9 := hg9
                  have F10 := Lib.hid (F9.out.st hW9 hbl)
                  have HDD := Lib.hid (own_up HD9.out hbl)
                  have HXX := Lib.hid (own_up HX9.out hbl)
                  have ha := canon_eq (ks := [286, 287, 288, 289, 290, 291, 292, 293, 294, 295, 296]) hs hd (fun j hj => ho j (by simp at hj; omega))
                  rw [ha]
                  clear ha hs hd ho
                  generalize a'.eval (.tmp 286) = t286
                  generalize a'.eval (.tmp 287) = t287
                  generalize a'.eval (.tmp 288) = t288
                  generalize a'.eval (.tmp 289) = t289
                  generalize a'.eval (.tmp 290) = t290
                  generalize a'.eval (.tmp 291) = t291
                  generalize a'.eval (.tmp 292) = t292
                  generalize a'.eval (.tmp 293) = t293
                  generalize a'.eval (.tmp 294) = t294
                  generalize a'.eval (.tmp 295) = t295
                  generalize a'.eval (.tmp 296) = t296
                  have HOW : Hid (W9.ownsRow w.heap.size 113 7 (.slice (some ⟨p.g9, 0, none⟩) 1 p.cap9) 1 ([] ++ opV ⟨#[97]⟩ ⟨#[]⟩ (some ⟨gd, 0, none⟩) cd)) := hown
                  have hg9N : p.g9 ≠ w.heap.size := by omega
                  have hg9N1 : p.g9 ≠ w.heap.size + 1 := by omega
                  clear hown hbl F9 HD9 HX9
                  generalize p.g9 = g9 at HOW hg9 hg9N hg9N1 ⊢
                  generalize p.cap9 = cap9 at HOW ⊢
                  have F11 := Lib.hid (put_one F10.out (some ⟨g9, 0, none⟩) (0 + 1) cap9)
                  generalize hW : W9.setCell ⟨w.heap.size, 0, none⟩ (.slice (some ⟨g9, 0, none⟩) (0 + 1) cap9) = w10 at F11 ⊢
                  have HW := Lib.hid hW
                  clear hW F10
                  obtain ⟨x0, x1, x2, x3, x4⟩ := bx5 F11.out.bx
                  dsimp only at x0 x1 x2 x3 x4
                  obtain ⟨y0, y1, y2, y3, y4⟩ := bx5 F11.out.rt
                  have fy := fun i => Lib.frozen_of_heap F11.out.rt i
                  have ly := heap_lt F11.out.rt
                  simp only [canonL, Act.put, List.setIfInBounds_toArray, List.set_cons_zero, List.set_cons_succ]
                  go_wp2_with fail
                  have hT := fun (v0 v1 v2 v3 v4 : Value) => put5_bel F11.out.bel (Nat.le_succ w.heap.size) v0 v1 v2 v3 v4
                  have hBk := fun (b : Nat) (h1 : b ≠ w.heap.size) (h2 : b ≠ w.heap.size + 1) (v0 v1 v2 v3 v4 : Value) => show (Put5 w10 (w.heap.size + 1) v0 v1 v2 v3 v4).heap[b]? = W9.heap[b]? by rw [← HW.out]; exact fin_block h1 h2 _ _ _ _ _ _
                  have hS := fun (v0 v1 v2 v3 v4 : Value) => own_keep (w' := Put5 w10 (w.heap.size + 1) v0 v1 v2 v3 v4) HOW.out (fun b e => by cases e; exact hBk g9 hg9N hg9N1 _ _ _ _ _)
                  have hD := fun (v0 v1 v2 v3 v4 : Value) => own_keep (w' := Put5 w10 (w.heap.size + 1) v0 v1 v2 v3 v4) HDD.out (fun b e => by cases e; exact hBk gd (by omega) (by omega) _ _ _ _ _)
                  have hX := fun (v0 v1 v2 v3 v4 : Value) => own_keep (w' := Put5 w10 (w.heap.size + 1) v0 v1 v2 v3 v4) HXX.out (fun b e => by cases e; exact hBk ge (by omega) (by omega) _ _ _ _ _)
                  (try simp only [Exit.inBlock, Exit.then])
                  exact bodyPost_ret (v := .agg #[.slice (some ⟨g9, 0, none⟩) 1 cap9, .int .i64 0, .bool false, .bool false, .slice (some ⟨ge, 0, none⟩) 1 capE]) (by simp [results, Tryz.results52, go_sem, y0, y1, y2, y3, y4]) rfl
                    ⟨g9, cap9, some ⟨ge, 0, none⟩, capE, rfl, ⟨g9, [], gd, cd, rfl, hS _ _ _ _ _, fun u hu => (by cases hu), hD _ _ _ _ _⟩, hX _ _ _ _ _, hT _ _ _ _ _⟩
end Go.Proofs.YtolnpfcncmcacaaGreatDoor
