/- Contracts: twins of items. Conditions: those of each theorem's head. -/
import Derived.Test.YtdmbngkkbgmlfaaGreatDoorLf
import Derived.Test.YtdmbngkkbgmlfaaGreatDoorS3
namespace Go.Proofs.YtdmbngkkbgmlfaaGreatDoor.T
open Go.RowKit Go.Lib

theorem kpB {w w' : World} {b : Nat} {ob : Obj} (hb : Below w.heap.size w w') (h : Hid (w.heap[b]? = some ob)) : Hid (w'.heap[b]? = some ob) := Lib.hid ((hb.block _ (heap_lt h.out)).trans h.out)
theorem set_other {w : World} {b c i : Nat} {v : Value} {ob : Option Obj} (h : w.heap[c]? = ob) (hc : c ≠ b) : (w.setCell ⟨b, i, none⟩ v).heap[c]? = ob := (Below.heap_setCell _ _ _ _ hc).trans h
theorem st6 {w : World} {b : Nat} {v0 v1 v2 v3 v4 v5 : Value} {t : TypeId} (h : w.heap[b]? = some (.cells #[v0, v1, v2, v3, v4, v5] t (0, 0))) (u0 u1 u2 u3 u4 u5 : Value) : ((((((w.setCell ⟨b, 0, none⟩ u0).setCell ⟨b, 1, none⟩ u1).setCell ⟨b, 2, none⟩ u2).setCell ⟨b, 3, none⟩ u3).setCell ⟨b, 4, none⟩ u4).setCell ⟨b, 5, none⟩ u5).heap[b]? = some (.cells #[u0, u1, u2, u3, u4, u5] t (0, 0)) := by
  simp [World.setCell, Array.getElem?_modify, h]
theorem st6b {M : Nat} {w V : World} {b : Nat} (h : Below M w V) (hb : M ≤ b) (u0 u1 u2 u3 u4 u5 : Value) : Below M w ((((((V.setCell ⟨b, 0, none⟩ u0).setCell ⟨b, 1, none⟩ u1).setCell ⟨b, 2, none⟩ u2).setCell ⟨b, 3, none⟩ u3).setCell ⟨b, 4, none⟩ u4).setCell ⟨b, 5, none⟩ u5) :=
  (((((h.setCell (p := ⟨b, 0, none⟩) hb _).setCell (p := ⟨b, 1, none⟩) hb _).setCell (p := ⟨b, 2, none⟩) hb _).setCell (p := ⟨b, 3, none⟩) hb _).setCell (p := ⟨b, 4, none⟩) hb _).setCell (p := ⟨b, 5, none⟩) hb _
theorem set6_self {w : World} {b o : Nat} {v0 v1 v2 v3 v4 v5 : Value} (h0 : w.cell? ⟨b, o, none⟩ = some v0) (h1 : w.cell? ⟨b, o + 1, none⟩ = some v1) (h2 : w.cell? ⟨b, o + 2, none⟩ = some v2) (h3 : w.cell? ⟨b, o + 3, none⟩ = some v3) (h4 : w.cell? ⟨b, o + 4, none⟩ = some v4) (h5 : w.cell? ⟨b, o + 5, none⟩ = some v5) :
    ((((((w.setCell ⟨b, o, none⟩ v0).setCell ⟨b, o + 1, none⟩ v1).setCell ⟨b, o + 2, none⟩ v2).setCell ⟨b, o + 3, none⟩ v3).setCell ⟨b, o + 4, none⟩ v4).setCell ⟨b, o + 5, none⟩ v5) = w := by
  rw [setCell_self h0, setCell_self h1, setCell_self h2, setCell_self h3, setCell_self h4, setCell_self h5]
set_option maxRecDepth 100000 in
set_option maxHeartbeats 8000000 in
theorem twin_any (x : It) (w : World) (hn : x.n.size ≤ 1000000) (ha : x.a.size ≤ 1000000) : Calls Tryz.prog 31 #[.agg #[.string x.n, .int .i64 x.g, .int .i64 x.i, .int .i64 x.t, .string x.a, .bool x.w]] w (Gives (.agg #[.string x.n, .int .i64 x.g, .int .i64 x.i, .int .i64 x.t, .string x.a, .bool x.w]) w) := by
  have HX : Hid (((w.alloc (.cells #[.string x.n, .int .i64 x.g, .int .i64 x.i, .int .i64 x.t, .string x.a, .bool x.w] 26)).alloc (.cells #[.string ⟨#[]⟩, .int .i64 0, .int .i64 0, .int .i64 0, .string ⟨#[]⟩, .bool false] 26)).heap[w.heap.size]? = some (.cells #[.string x.n, .int .i64 x.g, .int .i64 x.i, .int .i64 x.t, .string x.a, .bool x.w] 26 (0, 0))) := (Below.heap_alloc (w.alloc (.cells #[.string x.n, .int .i64 x.g, .int .i64 x.i, .int .i64 x.t, .string x.a, .bool x.w] 26)) (.cells #[.string ⟨#[]⟩, .int .i64 0, .int .i64 0, .int .i64 0, .string ⟨#[]⟩, .bool false] 26) _ (by simp)).trans (box_new w _ _)
  have HR := Lib.hid (box_new2 w (.cells #[.string x.n, .int .i64 x.g, .int .i64 x.i, .int .i64 x.t, .string x.a, .bool x.w] 26) #[.string ⟨#[]⟩, .int .i64 0, .int .i64 0, .int .i64 0, .string ⟨#[]⟩, .bool false] 26)
  have HB : Hid (Below w.heap.size w ((w.alloc (.cells #[.string x.n, .int .i64 x.g, .int .i64 x.i, .int .i64 x.t, .string x.a, .bool x.w] 26)).alloc (.cells #[.string ⟨#[]⟩, .int .i64 0, .int .i64 0, .int .i64 0, .string ⟨#[]⟩, .bool false] 26))) := ((Below.refl _ w).alloc (Nat.le_refl _) _).alloc (by simp) _
  obtain ⟨m0, m1, m2, m3, m4, m5⟩ := bx6 HX.out
  have f0 := bxf HX.out 0
  have f4 := bxf HX.out 4
  go_enter Tryz.func31, Tryz.ntmps31
  go_upto_region 1 with fail
  generalize ((w.alloc (.cells #[.string x.n, .int .i64 x.g, .int .i64 x.i, .int .i64 x.t, .string x.a, .bool x.w] 26)).alloc (.cells #[.string ⟨#[]⟩, .int .i64 0, .int .i64 0, .int .i64 0, .string ⟨#[]⟩, .bool false] 26)) = V at HX HR HB m0 m1 m2 m3 m4 m5 f0 f4 ⊢
  have x0 : ∀ y : Ext V, y.to.cell? ⟨w.heap.size, 0, none⟩ = _ := fun y => ext_cell y m0
  have x4 : ∀ y : Ext V, y.to.cell? ⟨w.heap.size, 4, none⟩ = _ := fun y => ext_cell y m4
  have g0 : ∀ y : Ext V, y.to.frozen? ⟨w.heap.size, 0, none⟩ = false := fun y => ext_frz y m0 f0
  have k0 : ∀ y : Ext V, y.to.setCell ⟨w.heap.size, 0, none⟩ (.string x.n) = y.to := fun y => setCell_self (ext_cell y m0)
  have C0 : Hid (Xc V 36 #[.string x.n] (.string x.n)) := fun y => clone_any x.n y.to (by omega)
  have g4 : ∀ y : Ext V, y.to.frozen? ⟨w.heap.size, 4, none⟩ = false := fun y => ext_frz y m4 f4
  have k4 : ∀ y : Ext V, y.to.setCell ⟨w.heap.size, 4, none⟩ (.string x.a) = y.to := fun y => setCell_self (ext_cell y m4)
  have C4 : Hid (Xc V 36 #[.string x.a] (.string x.a)) := fun y => clone_any x.a y.to (by omega)
  have hsome := extSome V
  clear m0 m1 m2 m3 m4 m5 f0 f4 hn ha
  refine ext_region (by kernel_rfl) (by kernel_rfl) ?_
  repeat (go_big_quiet_step ((first | (go_at_call 36; with_reducible exact ext_call _ (C0.out _)) | (go_at_call 36; with_reducible exact ext_call _ (C4.out _)))))
  refine wpQuiet_nil ?_
  rintro _ ⟨y, hy⟩
  subst hy
  have HB1 := Lib.hid (HB.out.trans (y.below.mono HB.out.size))
  replace HX := kpB y.below HX
  replace HR := kpB y.below HR
  clear x0 x4 g0 g4 k0 k4 C0 C4 HB
  generalize y.to = W at HB1 HX HR ⊢
  clear y hsome
  obtain ⟨m0, m1, m2, m3, m4, m5⟩ := bx6 HX.out
  obtain ⟨r0, r1, r2, r3, r4, r5⟩ := bx6 HR.out
  have z0 := bxf HR.out 0
  have z1 := bxf HR.out 1
  have z2 := bxf HR.out 2
  have z3 := bxf HR.out 3
  have z4 := bxf HR.out 4
  have z5 := bxf HR.out 5
  go_wp2_with fail
  exact bodyPost_ret (results_cell_row Tryz.results31 _ _ (w.heap.size + 1) 26 _ (0, 0) _ rfl (st6 HR.out _ _ _ _ _ _) Tryz.underlying26 rfl (by kernel_rfl)) rfl ⟨rfl, st6b HB1.out (Nat.le_succ _) _ _ _ _ _ _⟩
/-- The row that v names holds the items l; from block N on. -/
def OwI (w : World) (N : Nat) (v : Value) (l : List It) : Prop := w.ownsRow N 26 6 v l.length (cellsI l)
theorem OwI.below {w w' : World} {N : Nat} {v : Value} {l : List It} (h : OwI w N v l) (hb : Below w.heap.size w w') : OwI w' N v l := own_below h hb
theorem OwI.its {w : World} {N n c : Nat} {a : Option Addr} {l : List It} (h : OwI w N (.slice a n c) l) : ItS w a l := itS_own h
theorem OwI.slice {w : World} {N : Nat} {v : Value} {l : List It} (h : OwI w N v l) : ∃ a c, v = .slice a l.length c ∧ l.length ≤ c := by
  rcases h.2 with ⟨rfl, h0⟩ | ⟨g, cap, cur, rfl, _, _, h1, _⟩
  · exact ⟨none, 0, by rw [h0], by omega⟩
  · exact ⟨_, _, rfl, h1⟩
set_option maxRecDepth 100000 in
set_option maxHeartbeats 8000000 in
theorem twins_any (l : List It) (a : Option Addr) (c : Nat) (w : World) (hL : ItS w a l) (hn : l.length ≤ 1000000) (hz : ∀ x ∈ l, x.n.size ≤ 1000000 ∧ x.a.size ≤ 1000000) : Calls Tryz.prog 27 #[.slice a l.length c] w fun e w' => ∃ b d, e = .returned (.slice b l.length d) ∧ l.length ≤ d ∧ OwI w' w.heap.size (.slice b l.length d) l ∧ Below w.heap.size w w' := by
  have HL := Lib.hid fun W (hb : Below w.heap.size w W) => hL.below hb
  have HZ := Lib.hid hz
  have CC : Hid (Calls Tryz.prog 46 #[.slice a l.length c] w fun e w' => ∃ v, e = .returned v ∧ Below w.heap.size w w' ∧ OwI w' w.heap.size v l) := cloneI_any l a c w hL hn
  clear hL hz
  go_enter Tryz.func27, Tryz.ntmps27
  go_wp2_with fail
  refine CC.out.mono ?_
  rintro e w1 ⟨v, rfl, hb, ho⟩
  obtain ⟨b, d, rfl, hd⟩ := ho.slice
  have HO := Lib.hid ho
  have HB0 := Lib.hid hb
  clear hb ho CC
  go_wp2_with fail
  go_loopw [10] (fun i wr => ∃ j : Nat, i = .int .i64 j ∧ j ≤ l.length ∧ Hid (OwI wr w.heap.size (.slice b l.length d) l) ∧ Hid (Below w.heap.size w wr)) (fun i _ => l.length - (RowKit.intOf i).toNat)
  case atStart => exact ⟨0, rfl, Nat.zero_le _, HO, HB0⟩
  case round =>
    clear HO HB0
    obtain ⟨j, rfl, hj, HO, HB⟩ := hrel
    by_cases hlt : j < l.length
    · obtain ⟨b1, o1, rfl, e0, e1, e2, e3, e4, e5⟩ := HL.out _ HB.out j hlt
      obtain ⟨b2, o2, h2, g0, g1, g2, g3, g4, g5⟩ := HO.out.its j hlt
      have hzz := HZ.out _ (List.getElem_mem hlt)
      have C := Lib.hid fun W => twin_any l[j] W hzz.1 hzz.2
      subst h2
      have hfz := (rwI_of HO.out).f j hlt _ rfl
      clear hzz
      generalize l[j] = y at e0 e1 e2 e3 e4 e5 g0 g1 g2 g3 g4 g5 C
      have HX := Lib.hid (box_new wr #[.string y.n, .int .i64 y.g, .int .i64 y.i, .int .i64 y.t, .string y.a, .bool y.w] 26)
      have HBW := Lib.hid (HB.out.alloc HB.out.size (.cells #[.string y.n, .int .i64 y.g, .int .i64 y.i, .int .i64 y.t, .string y.a, .bool y.w] 26))
      have HOW := Lib.hid (HO.out.below ((Below.refl _ wr).alloc (Nat.le_refl _) (.cells #[.string y.n, .int .i64 y.g, .int .i64 y.i, .int .i64 y.t, .string y.a, .bool y.w] 26)))
      obtain ⟨c0, c1, c2, c3, c4, c5⟩ := bx6 HX.out
      have GB := Lib.hid (World.block_lt_of_cell? _ _ g0)
      have G : Hid (∀ W, Below wr.heap.size wr W → W.cell? ⟨b2, o2 + j * 6, none⟩ = some (.string y.n) ∧ W.cell? ⟨b2, o2 + j * 6 + 1, none⟩ = some (.int .i64 y.g) ∧ W.cell? ⟨b2, o2 + j * 6 + 2, none⟩ = some (.int .i64 y.i) ∧ W.cell? ⟨b2, o2 + j * 6 + 3, none⟩ = some (.int .i64 y.t) ∧ W.cell? ⟨b2, o2 + j * 6 + 4, none⟩ = some (.string y.a) ∧ W.cell? ⟨b2, o2 + j * 6 + 5, none⟩ = some (.bool y.w) ∧ ∀ k, W.frozen? ⟨b2, k, none⟩ = false) := fun W hb => ⟨keep_cell hb g0 GB.out, keep_cell hb g1 GB.out, keep_cell hb g2 GB.out, keep_cell hb g3 GB.out, keep_cell hb g4 GB.out, keep_cell hb g5 GB.out, fun k => by have q := hb.block _ GB.out; rw [← hfz k]; simp [World.frozen?, q]⟩
      clear g0 g1 g2 g3 g4 g5 hfz GB
      go_wp2_with fail
      refine (C.out _).mono ?_
      rintro e w2 ⟨rfl, hb⟩
      have HO2 := Lib.hid (HOW.out.below hb)
      have HB2 := Lib.hid (HBW.out.trans (hb.mono HBW.out.size))
      obtain ⟨g0, g1, g2, g3, g4, g5, gf⟩ := G.out _ (((Below.refl _ wr).alloc (Nat.le_refl _) _).trans (hb.mono (by simp)))
      have f0 := gf (o2 + j * 6)
      have f1 := gf (o2 + j * 6 + 1)
      have f2 := gf (o2 + j * 6 + 2)
      have f3 := gf (o2 + j * 6 + 3)
      have f4 := gf (o2 + j * 6 + 4)
      have f5 := gf (o2 + j * 6 + 5)
      have HS := Lib.hid (set6_self g0 g1 g2 g3 g4 g5)
      clear hb gf G HX HBW HOW c0 c1 c2 c3 c4 c5 HO HB
      go_wp2_with fail
      exact ⟨⟨j + 1, by go_num, by omega, by rw [HS.out]; exact HO2, by rw [HS.out]; exact HB2⟩, by simp [RowKit.intOf]; omega⟩
    · obtain rfl : j = l.length := by omega
      go_wp2_with fail
      go_ret
      exact ⟨_, _, rfl, hd, HO.out, HB.out⟩
end Go.Proofs.YtdmbngkkbgmlfaaGreatDoor.T
