/- Contracts: whether a change may be. Conditions: those of each theorem's head. -/
import Derived.Test.YtdmbngkkbgmlfaaGreatDoorLl
namespace Go.Proofs.YtdmbngkkbgmlfaaGreatDoor.T
open Go.RowKit Go.Lib

set_option maxRecDepth 100000 in
set_option maxHeartbeats 8000000 in
theorem may_0 (l : List It) (a : Option Addr) (c : Nat) (x : It) (w : World) (_hL : ItS w a l) (_hn : l.length ≤ 1000000) (hx : x.n.size ≤ 1000000) (ha : x.a.size ≤ 1000000) (h1 : itB x = false) : Calls Tryz.prog 49 #[.slice a l.length c, .agg #[.string x.n, .int .i64 x.g, .int .i64 x.i, .int .i64 x.t, .string x.a, .bool x.w]] w (Gives (.bool false) w) := by
  have HX0 : Hid (((w.alloc (.cells #[.string x.n, .int .i64 x.g, .int .i64 x.i, .int .i64 x.t, .string x.a, .bool x.w] 26)).alloc (.cells #[.string x.n, .int .i64 x.g, .int .i64 x.i, .int .i64 x.t, .string x.a, .bool x.w] 26)).heap[w.heap.size]? = some (.cells #[.string x.n, .int .i64 x.g, .int .i64 x.i, .int .i64 x.t, .string x.a, .bool x.w] 26 (0, 0))) := (Below.heap_alloc (w.alloc (.cells #[.string x.n, .int .i64 x.g, .int .i64 x.i, .int .i64 x.t, .string x.a, .bool x.w] 26)) (.cells #[.string x.n, .int .i64 x.g, .int .i64 x.i, .int .i64 x.t, .string x.a, .bool x.w] 26) _ (by simp)).trans (box_new w _ _)
  have HB0 : Hid (Below w.heap.size w ((w.alloc (.cells #[.string x.n, .int .i64 x.g, .int .i64 x.i, .int .i64 x.t, .string x.a, .bool x.w] 26)).alloc (.cells #[.string x.n, .int .i64 x.g, .int .i64 x.i, .int .i64 x.t, .string x.a, .bool x.w] 26))) := ((Below.refl _ w).alloc (Nat.le_refl _) _).alloc (by simp) _
  obtain ⟨c0, c1, c2, c3, c4, c5⟩ := bx6 (box_new w #[.string x.n, .int .i64 x.g, .int .i64 x.i, .int .i64 x.t, .string x.a, .bool x.w] 26)
  have CL : Hid (Calls Tryz.prog 17 #[.agg #[.int .i64 20, .string ⟨#[]⟩, .string ⟨#[]⟩, .string ⟨#[]⟩, .int .i64 0, .int .i64 0, .int .i64 0, .int .i64 0, .bool false, .slice (some ⟨w.heap.size + 1, 0, none⟩) 1 1, .slice none 0 0]] ((w.alloc (.cells #[.string x.n, .int .i64 x.g, .int .i64 x.i, .int .i64 x.t, .string x.a, .bool x.w] 26)).alloc (.cells #[.string x.n, .int .i64 x.g, .int .i64 x.i, .int .i64 x.t, .string x.a, .bool x.w] 26)) (Gives (.int .i64 (if itB x = true then 0 else 140)) ((w.alloc (.cells #[.string x.n, .int .i64 x.g, .int .i64 x.i, .int .i64 x.t, .string x.a, .bool x.w] 26)).alloc (.cells #[.string x.n, .int .i64 x.g, .int .i64 x.i, .int .i64 x.t, .string x.a, .bool x.w] 26)))) := by
    have h := lcheck_any (lsN 20 [x] 0) (some ⟨w.heap.size + 1, 0, none⟩) none 1 0 ((w.alloc (.cells #[.string x.n, .int .i64 x.g, .int .i64 x.i, .int .i64 x.t, .string x.a, .bool x.w] 26)).alloc (.cells #[.string x.n, .int .i64 x.g, .int .i64 x.i, .int .i64 x.t, .string x.a, .bool x.w] 26)) ⟨⟨Nat.zero_le _, Nat.zero_le _, Nat.zero_le _, itS_one x (box_new2 w _ _ _), CdS.nil _ _⟩, Nat.le_trans (Nat.le_refl 1) (by decide), fun y hy => by rw [List.mem_singleton.1 hy]; exact ⟨hx, ha⟩, Nat.zero_le _⟩
    rw [may_add] at h
    exact h
  clear hx ha
  rw [h1] at CL
  clear h1
  go_enter Tryz.func49, Tryz.ntmps49
  go_wp2_with fail
  refine CL.out.mono ?_
  rintro e w1 ⟨rfl, hb⟩
  have HB1 := Lib.hid (HB0.out.trans (hb.mono HB0.out.size))
  have HX1 := kpB hb HX0
  clear hb c0 c1 c2 c3 c4 c5 HB0 HX0 CL
  obtain ⟨c0, c1, c2, c3, c4, c5⟩ := bx6 HX1.out
  go_wp2_with fail
  go_ret
  exact ⟨rfl, HB1.out⟩
set_option maxRecDepth 100000 in
set_option maxHeartbeats 8000000 in
theorem may_1 (l : List It) (a : Option Addr) (c : Nat) (x : It) (w : World) (_hL : ItS w a l) (_hn : l.length ≤ 1000000) (hx : x.n.size ≤ 1000000) (ha : x.a.size ≤ 1000000) (h1 : itB x = true) (h2 : grp x = true) : Calls Tryz.prog 49 #[.slice a l.length c, .agg #[.string x.n, .int .i64 x.g, .int .i64 x.i, .int .i64 x.t, .string x.a, .bool x.w]] w (Gives (.bool true) w) := by
  have HX0 : Hid (((w.alloc (.cells #[.string x.n, .int .i64 x.g, .int .i64 x.i, .int .i64 x.t, .string x.a, .bool x.w] 26)).alloc (.cells #[.string x.n, .int .i64 x.g, .int .i64 x.i, .int .i64 x.t, .string x.a, .bool x.w] 26)).heap[w.heap.size]? = some (.cells #[.string x.n, .int .i64 x.g, .int .i64 x.i, .int .i64 x.t, .string x.a, .bool x.w] 26 (0, 0))) := (Below.heap_alloc (w.alloc (.cells #[.string x.n, .int .i64 x.g, .int .i64 x.i, .int .i64 x.t, .string x.a, .bool x.w] 26)) (.cells #[.string x.n, .int .i64 x.g, .int .i64 x.i, .int .i64 x.t, .string x.a, .bool x.w] 26) _ (by simp)).trans (box_new w _ _)
  have HB0 : Hid (Below w.heap.size w ((w.alloc (.cells #[.string x.n, .int .i64 x.g, .int .i64 x.i, .int .i64 x.t, .string x.a, .bool x.w] 26)).alloc (.cells #[.string x.n, .int .i64 x.g, .int .i64 x.i, .int .i64 x.t, .string x.a, .bool x.w] 26))) := ((Below.refl _ w).alloc (Nat.le_refl _) _).alloc (by simp) _
  obtain ⟨c0, c1, c2, c3, c4, c5⟩ := bx6 (box_new w #[.string x.n, .int .i64 x.g, .int .i64 x.i, .int .i64 x.t, .string x.a, .bool x.w] 26)
  have CL : Hid (Calls Tryz.prog 17 #[.agg #[.int .i64 20, .string ⟨#[]⟩, .string ⟨#[]⟩, .string ⟨#[]⟩, .int .i64 0, .int .i64 0, .int .i64 0, .int .i64 0, .bool false, .slice (some ⟨w.heap.size + 1, 0, none⟩) 1 1, .slice none 0 0]] ((w.alloc (.cells #[.string x.n, .int .i64 x.g, .int .i64 x.i, .int .i64 x.t, .string x.a, .bool x.w] 26)).alloc (.cells #[.string x.n, .int .i64 x.g, .int .i64 x.i, .int .i64 x.t, .string x.a, .bool x.w] 26)) (Gives (.int .i64 (if itB x = true then 0 else 140)) ((w.alloc (.cells #[.string x.n, .int .i64 x.g, .int .i64 x.i, .int .i64 x.t, .string x.a, .bool x.w] 26)).alloc (.cells #[.string x.n, .int .i64 x.g, .int .i64 x.i, .int .i64 x.t, .string x.a, .bool x.w] 26)))) := by
    have h := lcheck_any (lsN 20 [x] 0) (some ⟨w.heap.size + 1, 0, none⟩) none 1 0 ((w.alloc (.cells #[.string x.n, .int .i64 x.g, .int .i64 x.i, .int .i64 x.t, .string x.a, .bool x.w] 26)).alloc (.cells #[.string x.n, .int .i64 x.g, .int .i64 x.i, .int .i64 x.t, .string x.a, .bool x.w] 26)) ⟨⟨Nat.zero_le _, Nat.zero_le _, Nat.zero_le _, itS_one x (box_new2 w _ _ _), CdS.nil _ _⟩, Nat.le_trans (Nat.le_refl 1) (by decide), fun y hy => by rw [List.mem_singleton.1 hy]; exact ⟨hx, ha⟩, Nat.zero_le _⟩
    rw [may_add] at h
    exact h
  clear hx ha
  rw [h1] at CL
  have CG := Lib.hid fun W => isGroup_any x W
  rw [h2] at CG
  clear h1 h2
  go_enter Tryz.func49, Tryz.ntmps49
  go_wp2_with fail
  refine CL.out.mono ?_
  rintro e w1 ⟨rfl, hb⟩
  have HB1 := Lib.hid (HB0.out.trans (hb.mono HB0.out.size))
  have HX1 := kpB hb HX0
  clear hb c0 c1 c2 c3 c4 c5 HB0 HX0 CL
  obtain ⟨c0, c1, c2, c3, c4, c5⟩ := bx6 HX1.out
  go_wp2_with fail
  refine (CG.out _).mono ?_
  rintro e w2 ⟨rfl, hb⟩
  have HB2 := Lib.hid (HB1.out.trans (hb.mono HB1.out.size))
  have HX2 := kpB hb HX1
  clear hb c0 c1 c2 c3 c4 c5 HB1 HX1 CG
  obtain ⟨c0, c1, c2, c3, c4, c5⟩ := bx6 HX2.out
  go_wp2_with fail
  go_ret
  exact ⟨rfl, HB2.out⟩
set_option maxRecDepth 100000 in
set_option maxHeartbeats 8000000 in
theorem may_2 (l : List It) (a : Option Addr) (c : Nat) (x : It) (w : World) (hL : ItS w a l) (hn : l.length ≤ 1000000) (hx : x.n.size ≤ 1000000) (ha : x.a.size ≤ 1000000) (h1 : itB x = true) (h2 : grp x = false) : Calls Tryz.prog 49 #[.slice a l.length c, .agg #[.string x.n, .int .i64 x.g, .int .i64 x.i, .int .i64 x.t, .string x.a, .bool x.w]] w (Gives (.bool (bud l x)) w) := by
  have HL := Lib.hid fun W (hb : Below w.heap.size w W) => hL.below hb
  have HX0 : Hid (((w.alloc (.cells #[.string x.n, .int .i64 x.g, .int .i64 x.i, .int .i64 x.t, .string x.a, .bool x.w] 26)).alloc (.cells #[.string x.n, .int .i64 x.g, .int .i64 x.i, .int .i64 x.t, .string x.a, .bool x.w] 26)).heap[w.heap.size]? = some (.cells #[.string x.n, .int .i64 x.g, .int .i64 x.i, .int .i64 x.t, .string x.a, .bool x.w] 26 (0, 0))) := (Below.heap_alloc (w.alloc (.cells #[.string x.n, .int .i64 x.g, .int .i64 x.i, .int .i64 x.t, .string x.a, .bool x.w] 26)) (.cells #[.string x.n, .int .i64 x.g, .int .i64 x.i, .int .i64 x.t, .string x.a, .bool x.w] 26) _ (by simp)).trans (box_new w _ _)
  have HB0 : Hid (Below w.heap.size w ((w.alloc (.cells #[.string x.n, .int .i64 x.g, .int .i64 x.i, .int .i64 x.t, .string x.a, .bool x.w] 26)).alloc (.cells #[.string x.n, .int .i64 x.g, .int .i64 x.i, .int .i64 x.t, .string x.a, .bool x.w] 26))) := ((Below.refl _ w).alloc (Nat.le_refl _) _).alloc (by simp) _
  obtain ⟨c0, c1, c2, c3, c4, c5⟩ := bx6 (box_new w #[.string x.n, .int .i64 x.g, .int .i64 x.i, .int .i64 x.t, .string x.a, .bool x.w] 26)
  have CL : Hid (Calls Tryz.prog 17 #[.agg #[.int .i64 20, .string ⟨#[]⟩, .string ⟨#[]⟩, .string ⟨#[]⟩, .int .i64 0, .int .i64 0, .int .i64 0, .int .i64 0, .bool false, .slice (some ⟨w.heap.size + 1, 0, none⟩) 1 1, .slice none 0 0]] ((w.alloc (.cells #[.string x.n, .int .i64 x.g, .int .i64 x.i, .int .i64 x.t, .string x.a, .bool x.w] 26)).alloc (.cells #[.string x.n, .int .i64 x.g, .int .i64 x.i, .int .i64 x.t, .string x.a, .bool x.w] 26)) (Gives (.int .i64 (if itB x = true then 0 else 140)) ((w.alloc (.cells #[.string x.n, .int .i64 x.g, .int .i64 x.i, .int .i64 x.t, .string x.a, .bool x.w] 26)).alloc (.cells #[.string x.n, .int .i64 x.g, .int .i64 x.i, .int .i64 x.t, .string x.a, .bool x.w] 26)))) := by
    have h := lcheck_any (lsN 20 [x] 0) (some ⟨w.heap.size + 1, 0, none⟩) none 1 0 ((w.alloc (.cells #[.string x.n, .int .i64 x.g, .int .i64 x.i, .int .i64 x.t, .string x.a, .bool x.w] 26)).alloc (.cells #[.string x.n, .int .i64 x.g, .int .i64 x.i, .int .i64 x.t, .string x.a, .bool x.w] 26)) ⟨⟨Nat.zero_le _, Nat.zero_le _, Nat.zero_le _, itS_one x (box_new2 w _ _ _), CdS.nil _ _⟩, Nat.le_trans (Nat.le_refl 1) (by decide), fun y hy => by rw [List.mem_singleton.1 hy]; exact ⟨hx, ha⟩, Nat.zero_le _⟩
    rw [may_add] at h
    exact h
  clear hL hx ha
  rw [h1] at CL
  have CG := Lib.hid fun W => isGroup_any x W
  rw [h2] at CG
  have CB := Lib.hid fun W (hb : Below w.heap.size w W) => isBuddy_any l a c x W (HL.out W hb) hn
  generalize bud l x = R at CB ⊢
  clear h1 h2
  go_enter Tryz.func49, Tryz.ntmps49
  go_wp2_with fail
  refine CL.out.mono ?_
  rintro e w1 ⟨rfl, hb⟩
  have HB1 := Lib.hid (HB0.out.trans (hb.mono HB0.out.size))
  have HX1 := kpB hb HX0
  clear hb c0 c1 c2 c3 c4 c5 HB0 HX0 CL
  obtain ⟨c0, c1, c2, c3, c4, c5⟩ := bx6 HX1.out
  go_wp2_with fail
  refine (CG.out _).mono ?_
  rintro e w2 ⟨rfl, hb⟩
  have HB2 := Lib.hid (HB1.out.trans (hb.mono HB1.out.size))
  have HX2 := kpB hb HX1
  clear hb c0 c1 c2 c3 c4 c5 HB1 HX1 CG
  obtain ⟨c0, c1, c2, c3, c4, c5⟩ := bx6 HX2.out
  go_wp2_with fail
  refine (CB.out _ HB2.out).mono ?_
  rintro e w3 ⟨rfl, hb⟩
  have HB3 := Lib.hid (HB2.out.trans (hb.mono HB2.out.size))
  clear hb
  go_wp2_with fail
  go_ret
  exact ⟨rfl, HB3.out⟩
theorem mayBe_any (l : List It) (a : Option Addr) (c : Nat) (x : It) (w : World) (hL : ItS w a l) (hn : l.length ≤ 1000000) (hx : x.n.size ≤ 1000000) (ha : x.a.size ≤ 1000000) : Calls Tryz.prog 49 #[.slice a l.length c, .agg #[.string x.n, .int .i64 x.g, .int .i64 x.i, .int .i64 x.t, .string x.a, .bool x.w]] w (Gives (.bool (mayB l x)) w) := by
  unfold mayB
  cases h1 : itB x
  · exact may_0 l a c x w hL hn hx ha h1
  · cases h2 : grp x
    · exact may_2 l a c x w hL hn hx ha h1 h2
    · exact may_1 l a c x w hL hn hx ha h1 h2
set_option maxRecDepth 100000 in
set_option maxHeartbeats 8000000 in
theorem tk_same (y x : It) (k : Int) (s : ByteArray) (X T : Nat) (w : World) (hX : w.heap[X]? = some (.cells #[.string x.n, .int .i64 x.g, .int .i64 x.i, .int .i64 x.t, .string x.a, .bool x.w] 26 (0, 0))) (hT : w.heap[T]? = some (.cells #[.int .i64 k, .string s] 70 (0, 0))) (hy : y.n.size ≤ 1000000) (h1 : y.g = x.g) (h2 : y.i = x.i) : Calls Tryz.prog 66 #[.agg #[.string y.n, .int .i64 y.g, .int .i64 y.i, .int .i64 y.t, .string y.a, .bool y.w], .pointer (some ⟨X, 0, none⟩), .pointer (some ⟨T, 0, none⟩)] w (Gives (.bool false) w) := by
  have HY := Lib.hid (box_new w #[.string y.n, .int .i64 y.g, .int .i64 y.i, .int .i64 y.t, .string y.a, .bool y.w] 26)
  have HB : Hid (Below w.heap.size w (w.alloc (.cells #[.string y.n, .int .i64 y.g, .int .i64 y.i, .int .i64 y.t, .string y.a, .bool y.w] 26))) := (Below.refl _ w).alloc (Nat.le_refl _) _
  have HX := kpB HB.out (Lib.hid hX)
  have HT := kpB HB.out (Lib.hid hT)
  have C1 := Lib.hid fun W => placeOf_any y W
  have C2 := Lib.hid fun W => placeOf_any x W
  have C3 : Hid (∀ W, Calls Tryz.prog 35 #[.agg #[.string y.n, .int .i64 y.g, .int .i64 y.i, .int .i64 y.t, .string y.a, .bool y.w]] W (Gives (tA (ttl y)) W)) := fun W => titleOf_any y W (by omega)
  unfold tA at C3
  generalize hp : ttl y = p at C3
  obtain ⟨k1, s1⟩ := p
  dsimp only at C3
  have q1 : ((y.g : Int) == x.g) = true := by simpa using h1
  have q2 : ((y.i : Int) == x.i) = true := by simpa using h2
  clear h1 h2 hp
  clear hX hT hy
  generalize hV : w.alloc (.cells #[.string y.n, .int .i64 y.g, .int .i64 y.i, .int .i64 y.t, .string y.a, .bool y.w] 26) = V at HY HB HX HT
  go_enter Tryz.func66, Tryz.ntmps66
  go_upto_region 1 with fail

  clear hV
  obtain ⟨c0, c1, c2, c3, c4, c5⟩ := bx6 HY.out
  obtain ⟨d0, d1, d2, d3, d4, d5⟩ := bx6 HX.out
  obtain ⟨t0, t1⟩ := bx2 HT.out
  have v0 : ∀ z : Ext V, z.to.cell? _ = _ := fun z => ext_cell z c0
  have w0 : ∀ z : Ext V, z.to.cell? _ = _ := fun z => ext_cell z d0
  have v1 : ∀ z : Ext V, z.to.cell? _ = _ := fun z => ext_cell z c1
  have w1 : ∀ z : Ext V, z.to.cell? _ = _ := fun z => ext_cell z d1
  have v2 : ∀ z : Ext V, z.to.cell? _ = _ := fun z => ext_cell z c2
  have w2 : ∀ z : Ext V, z.to.cell? _ = _ := fun z => ext_cell z d2
  have v3 : ∀ z : Ext V, z.to.cell? _ = _ := fun z => ext_cell z c3
  have w3 : ∀ z : Ext V, z.to.cell? _ = _ := fun z => ext_cell z d3
  have v4 : ∀ z : Ext V, z.to.cell? _ = _ := fun z => ext_cell z c4
  have w4 : ∀ z : Ext V, z.to.cell? _ = _ := fun z => ext_cell z d4
  have v5 : ∀ z : Ext V, z.to.cell? _ = _ := fun z => ext_cell z c5
  have w5 : ∀ z : Ext V, z.to.cell? _ = _ := fun z => ext_cell z d5
  have u0 : ∀ z : Ext V, z.to.cell? _ = _ := fun z => ext_cell z t0
  have u1 : ∀ z : Ext V, z.to.cell? _ = _ := fun z => ext_cell z t1
  have X1 : Hid (Xc V 41 #[.agg #[.string y.n, .int .i64 y.g, .int .i64 y.i, .int .i64 y.t, .string y.a, .bool y.w]] (.agg #[.int .i64 y.g, .int .i64 y.i])) := fun z => C1.out z.to
  have X2 : Hid (Xc V 41 #[.agg #[.string x.n, .int .i64 x.g, .int .i64 x.i, .int .i64 x.t, .string x.a, .bool x.w]] (.agg #[.int .i64 x.g, .int .i64 x.i])) := fun z => C2.out z.to
  have X3 : Hid (Xc V 35 #[.agg #[.string y.n, .int .i64 y.g, .int .i64 y.i, .int .i64 y.t, .string y.a, .bool y.w]] (.agg #[.int .i64 k1, .string s1])) := fun z => C3.out z.to
  have hsome := extSome V
  clear c0 c1 c2 c3 c4 c5 d0 d1 d2 d3 d4 d5 t0 t1 C1 C2 C3 HX HT HY
  refine ext_region (by kernel_rfl) (by kernel_rfl) ?_
  repeat (go_big_quiet_step ((first | (go_at_call 41; with_reducible exact ext_call _ (X1.out _)) | (go_at_call 41; with_reducible exact ext_call _ (X2.out _)) | (go_at_call 35; with_reducible exact ext_call _ (X3.out _)))))
  refine wpQuiet_nil ?_
  rintro _ ⟨z, hy⟩
  subst hy
  have HB1 := Lib.hid (HB.out.trans (z.below.mono HB.out.size))
  go_wp2_with fail
  go_ret
  exact ⟨rfl, HB1.out⟩
set_option maxRecDepth 100000 in
set_option maxHeartbeats 8000000 in
theorem tk_g_eq (y x : It) (k : Int) (s : ByteArray) (X T : Nat) (w : World) (hX : w.heap[X]? = some (.cells #[.string x.n, .int .i64 x.g, .int .i64 x.i, .int .i64 x.t, .string x.a, .bool x.w] 26 (0, 0))) (hT : w.heap[T]? = some (.cells #[.int .i64 k, .string s] 70 (0, 0))) (hy : y.n.size ≤ 1000000) (h1 : ¬ y.g = x.g) (h3 : ttl y = (k, s)) : Calls Tryz.prog 66 #[.agg #[.string y.n, .int .i64 y.g, .int .i64 y.i, .int .i64 y.t, .string y.a, .bool y.w], .pointer (some ⟨X, 0, none⟩), .pointer (some ⟨T, 0, none⟩)] w (Gives (.bool true) w) := by
  have HY := Lib.hid (box_new w #[.string y.n, .int .i64 y.g, .int .i64 y.i, .int .i64 y.t, .string y.a, .bool y.w] 26)
  have HB : Hid (Below w.heap.size w (w.alloc (.cells #[.string y.n, .int .i64 y.g, .int .i64 y.i, .int .i64 y.t, .string y.a, .bool y.w] 26))) := (Below.refl _ w).alloc (Nat.le_refl _) _
  have HX := kpB HB.out (Lib.hid hX)
  have HT := kpB HB.out (Lib.hid hT)
  have C1 := Lib.hid fun W => placeOf_any y W
  have C2 := Lib.hid fun W => placeOf_any x W
  have C3 : Hid (∀ W, Calls Tryz.prog 35 #[.agg #[.string y.n, .int .i64 y.g, .int .i64 y.i, .int .i64 y.t, .string y.a, .bool y.w]] W (Gives (tA (ttl y)) W)) := fun W => titleOf_any y W (by omega)
  unfold tA at C3
  generalize hp : ttl y = p at C3 h3
  obtain ⟨k1, s1⟩ := p
  dsimp only at C3
  have q1 : ((y.g : Int) == x.g) = false := by simpa using h1
  clear h1
  have q3 : ((k1 : Int) == k) = true := by have := congrArg Prod.fst h3; simpa using this
  have q4 : (s1.toList == s.toList) = true := by have := congrArg Prod.snd h3; dsimp only at this; rw [this]; simp
  clear h3 hp
  clear hX hT hy
  generalize hV : w.alloc (.cells #[.string y.n, .int .i64 y.g, .int .i64 y.i, .int .i64 y.t, .string y.a, .bool y.w] 26) = V at HY HB HX HT
  go_enter Tryz.func66, Tryz.ntmps66
  go_upto_region 1 with fail

  clear hV
  obtain ⟨c0, c1, c2, c3, c4, c5⟩ := bx6 HY.out
  obtain ⟨d0, d1, d2, d3, d4, d5⟩ := bx6 HX.out
  obtain ⟨t0, t1⟩ := bx2 HT.out
  have v0 : ∀ z : Ext V, z.to.cell? _ = _ := fun z => ext_cell z c0
  have w0 : ∀ z : Ext V, z.to.cell? _ = _ := fun z => ext_cell z d0
  have v1 : ∀ z : Ext V, z.to.cell? _ = _ := fun z => ext_cell z c1
  have w1 : ∀ z : Ext V, z.to.cell? _ = _ := fun z => ext_cell z d1
  have v2 : ∀ z : Ext V, z.to.cell? _ = _ := fun z => ext_cell z c2
  have w2 : ∀ z : Ext V, z.to.cell? _ = _ := fun z => ext_cell z d2
  have v3 : ∀ z : Ext V, z.to.cell? _ = _ := fun z => ext_cell z c3
  have w3 : ∀ z : Ext V, z.to.cell? _ = _ := fun z => ext_cell z d3
  have v4 : ∀ z : Ext V, z.to.cell? _ = _ := fun z => ext_cell z c4
  have w4 : ∀ z : Ext V, z.to.cell? _ = _ := fun z => ext_cell z d4
  have v5 : ∀ z : Ext V, z.to.cell? _ = _ := fun z => ext_cell z c5
  have w5 : ∀ z : Ext V, z.to.cell? _ = _ := fun z => ext_cell z d5
  have u0 : ∀ z : Ext V, z.to.cell? _ = _ := fun z => ext_cell z t0
  have u1 : ∀ z : Ext V, z.to.cell? _ = _ := fun z => ext_cell z t1
  have X1 : Hid (Xc V 41 #[.agg #[.string y.n, .int .i64 y.g, .int .i64 y.i, .int .i64 y.t, .string y.a, .bool y.w]] (.agg #[.int .i64 y.g, .int .i64 y.i])) := fun z => C1.out z.to
  have X2 : Hid (Xc V 41 #[.agg #[.string x.n, .int .i64 x.g, .int .i64 x.i, .int .i64 x.t, .string x.a, .bool x.w]] (.agg #[.int .i64 x.g, .int .i64 x.i])) := fun z => C2.out z.to
  have X3 : Hid (Xc V 35 #[.agg #[.string y.n, .int .i64 y.g, .int .i64 y.i, .int .i64 y.t, .string y.a, .bool y.w]] (.agg #[.int .i64 k1, .string s1])) := fun z => C3.out z.to
  have hsome := extSome V
  clear c0 c1 c2 c3 c4 c5 d0 d1 d2 d3 d4 d5 t0 t1 C1 C2 C3 HX HT HY
  refine ext_region (by kernel_rfl) (by kernel_rfl) ?_
  repeat (go_big_quiet_step ((first | (go_at_call 41; with_reducible exact ext_call _ (X1.out _)) | (go_at_call 41; with_reducible exact ext_call _ (X2.out _)) | (go_at_call 35; with_reducible exact ext_call _ (X3.out _)))))
  refine wpQuiet_nil ?_
  rintro _ ⟨z, hy⟩
  subst hy
  have HB1 := Lib.hid (HB.out.trans (z.below.mono HB.out.size))
  go_wp2_with fail
  go_ret
  exact ⟨rfl, HB1.out⟩
set_option maxRecDepth 100000 in
set_option maxHeartbeats 8000000 in
theorem tk_g_nk (y x : It) (k : Int) (s : ByteArray) (X T : Nat) (w : World) (hX : w.heap[X]? = some (.cells #[.string x.n, .int .i64 x.g, .int .i64 x.i, .int .i64 x.t, .string x.a, .bool x.w] 26 (0, 0))) (hT : w.heap[T]? = some (.cells #[.int .i64 k, .string s] 70 (0, 0))) (hy : y.n.size ≤ 1000000) (h1 : ¬ y.g = x.g) (h3 : ¬ (ttl y).1 = k) : Calls Tryz.prog 66 #[.agg #[.string y.n, .int .i64 y.g, .int .i64 y.i, .int .i64 y.t, .string y.a, .bool y.w], .pointer (some ⟨X, 0, none⟩), .pointer (some ⟨T, 0, none⟩)] w (Gives (.bool false) w) := by
  have HY := Lib.hid (box_new w #[.string y.n, .int .i64 y.g, .int .i64 y.i, .int .i64 y.t, .string y.a, .bool y.w] 26)
  have HB : Hid (Below w.heap.size w (w.alloc (.cells #[.string y.n, .int .i64 y.g, .int .i64 y.i, .int .i64 y.t, .string y.a, .bool y.w] 26))) := (Below.refl _ w).alloc (Nat.le_refl _) _
  have HX := kpB HB.out (Lib.hid hX)
  have HT := kpB HB.out (Lib.hid hT)
  have C1 := Lib.hid fun W => placeOf_any y W
  have C2 := Lib.hid fun W => placeOf_any x W
  have C3 : Hid (∀ W, Calls Tryz.prog 35 #[.agg #[.string y.n, .int .i64 y.g, .int .i64 y.i, .int .i64 y.t, .string y.a, .bool y.w]] W (Gives (tA (ttl y)) W)) := fun W => titleOf_any y W (by omega)
  unfold tA at C3
  generalize hp : ttl y = p at C3 h3
  obtain ⟨k1, s1⟩ := p
  dsimp only at C3
  have q1 : ((y.g : Int) == x.g) = false := by simpa using h1
  clear h1
  have q3 : ((k1 : Int) == k) = false := by simpa using h3
  clear h3 hp
  clear hX hT hy
  generalize hV : w.alloc (.cells #[.string y.n, .int .i64 y.g, .int .i64 y.i, .int .i64 y.t, .string y.a, .bool y.w] 26) = V at HY HB HX HT
  go_enter Tryz.func66, Tryz.ntmps66
  go_upto_region 1 with fail

  clear hV
  obtain ⟨c0, c1, c2, c3, c4, c5⟩ := bx6 HY.out
  obtain ⟨d0, d1, d2, d3, d4, d5⟩ := bx6 HX.out
  obtain ⟨t0, t1⟩ := bx2 HT.out
  have v0 : ∀ z : Ext V, z.to.cell? _ = _ := fun z => ext_cell z c0
  have w0 : ∀ z : Ext V, z.to.cell? _ = _ := fun z => ext_cell z d0
  have v1 : ∀ z : Ext V, z.to.cell? _ = _ := fun z => ext_cell z c1
  have w1 : ∀ z : Ext V, z.to.cell? _ = _ := fun z => ext_cell z d1
  have v2 : ∀ z : Ext V, z.to.cell? _ = _ := fun z => ext_cell z c2
  have w2 : ∀ z : Ext V, z.to.cell? _ = _ := fun z => ext_cell z d2
  have v3 : ∀ z : Ext V, z.to.cell? _ = _ := fun z => ext_cell z c3
  have w3 : ∀ z : Ext V, z.to.cell? _ = _ := fun z => ext_cell z d3
  have v4 : ∀ z : Ext V, z.to.cell? _ = _ := fun z => ext_cell z c4
  have w4 : ∀ z : Ext V, z.to.cell? _ = _ := fun z => ext_cell z d4
  have v5 : ∀ z : Ext V, z.to.cell? _ = _ := fun z => ext_cell z c5
  have w5 : ∀ z : Ext V, z.to.cell? _ = _ := fun z => ext_cell z d5
  have u0 : ∀ z : Ext V, z.to.cell? _ = _ := fun z => ext_cell z t0
  have u1 : ∀ z : Ext V, z.to.cell? _ = _ := fun z => ext_cell z t1
  have X1 : Hid (Xc V 41 #[.agg #[.string y.n, .int .i64 y.g, .int .i64 y.i, .int .i64 y.t, .string y.a, .bool y.w]] (.agg #[.int .i64 y.g, .int .i64 y.i])) := fun z => C1.out z.to
  have X2 : Hid (Xc V 41 #[.agg #[.string x.n, .int .i64 x.g, .int .i64 x.i, .int .i64 x.t, .string x.a, .bool x.w]] (.agg #[.int .i64 x.g, .int .i64 x.i])) := fun z => C2.out z.to
  have X3 : Hid (Xc V 35 #[.agg #[.string y.n, .int .i64 y.g, .int .i64 y.i, .int .i64 y.t, .string y.a, .bool y.w]] (.agg #[.int .i64 k1, .string s1])) := fun z => C3.out z.to
  have hsome := extSome V
  clear c0 c1 c2 c3 c4 c5 d0 d1 d2 d3 d4 d5 t0 t1 C1 C2 C3 HX HT HY
  refine ext_region (by kernel_rfl) (by kernel_rfl) ?_
  repeat (go_big_quiet_step ((first | (go_at_call 41; with_reducible exact ext_call _ (X1.out _)) | (go_at_call 41; with_reducible exact ext_call _ (X2.out _)) | (go_at_call 35; with_reducible exact ext_call _ (X3.out _)))))
  refine wpQuiet_nil ?_
  rintro _ ⟨z, hy⟩
  subst hy
  have HB1 := Lib.hid (HB.out.trans (z.below.mono HB.out.size))
  go_wp2_with fail
  go_ret
  exact ⟨rfl, HB1.out⟩
set_option maxRecDepth 100000 in
set_option maxHeartbeats 8000000 in
theorem tk_g_ns (y x : It) (k : Int) (s : ByteArray) (X T : Nat) (w : World) (hX : w.heap[X]? = some (.cells #[.string x.n, .int .i64 x.g, .int .i64 x.i, .int .i64 x.t, .string x.a, .bool x.w] 26 (0, 0))) (hT : w.heap[T]? = some (.cells #[.int .i64 k, .string s] 70 (0, 0))) (hy : y.n.size ≤ 1000000) (h1 : ¬ y.g = x.g) (h4 : (ttl y).1 = k) (h3 : ¬ (ttl y).2 = s) : Calls Tryz.prog 66 #[.agg #[.string y.n, .int .i64 y.g, .int .i64 y.i, .int .i64 y.t, .string y.a, .bool y.w], .pointer (some ⟨X, 0, none⟩), .pointer (some ⟨T, 0, none⟩)] w (Gives (.bool false) w) := by
  have HY := Lib.hid (box_new w #[.string y.n, .int .i64 y.g, .int .i64 y.i, .int .i64 y.t, .string y.a, .bool y.w] 26)
  have HB : Hid (Below w.heap.size w (w.alloc (.cells #[.string y.n, .int .i64 y.g, .int .i64 y.i, .int .i64 y.t, .string y.a, .bool y.w] 26))) := (Below.refl _ w).alloc (Nat.le_refl _) _
  have HX := kpB HB.out (Lib.hid hX)
  have HT := kpB HB.out (Lib.hid hT)
  have C1 := Lib.hid fun W => placeOf_any y W
  have C2 := Lib.hid fun W => placeOf_any x W
  have C3 : Hid (∀ W, Calls Tryz.prog 35 #[.agg #[.string y.n, .int .i64 y.g, .int .i64 y.i, .int .i64 y.t, .string y.a, .bool y.w]] W (Gives (tA (ttl y)) W)) := fun W => titleOf_any y W (by omega)
  unfold tA at C3
  generalize hp : ttl y = p at C3 h3
  obtain ⟨k1, s1⟩ := p
  dsimp only at C3
  have q1 : ((y.g : Int) == x.g) = false := by simpa using h1
  clear h1
  have q3 : ((k1 : Int) == k) = true := by rw [hp] at h4; simpa using h4
  have q4 : (s1.toList == s.toList) = false := text_neb h3
  clear h3 h4 hp
  clear hX hT hy
  generalize hV : w.alloc (.cells #[.string y.n, .int .i64 y.g, .int .i64 y.i, .int .i64 y.t, .string y.a, .bool y.w] 26) = V at HY HB HX HT
  go_enter Tryz.func66, Tryz.ntmps66
  go_upto_region 1 with fail

  clear hV
  obtain ⟨c0, c1, c2, c3, c4, c5⟩ := bx6 HY.out
  obtain ⟨d0, d1, d2, d3, d4, d5⟩ := bx6 HX.out
  obtain ⟨t0, t1⟩ := bx2 HT.out
  have v0 : ∀ z : Ext V, z.to.cell? _ = _ := fun z => ext_cell z c0
  have w0 : ∀ z : Ext V, z.to.cell? _ = _ := fun z => ext_cell z d0
  have v1 : ∀ z : Ext V, z.to.cell? _ = _ := fun z => ext_cell z c1
  have w1 : ∀ z : Ext V, z.to.cell? _ = _ := fun z => ext_cell z d1
  have v2 : ∀ z : Ext V, z.to.cell? _ = _ := fun z => ext_cell z c2
  have w2 : ∀ z : Ext V, z.to.cell? _ = _ := fun z => ext_cell z d2
  have v3 : ∀ z : Ext V, z.to.cell? _ = _ := fun z => ext_cell z c3
  have w3 : ∀ z : Ext V, z.to.cell? _ = _ := fun z => ext_cell z d3
  have v4 : ∀ z : Ext V, z.to.cell? _ = _ := fun z => ext_cell z c4
  have w4 : ∀ z : Ext V, z.to.cell? _ = _ := fun z => ext_cell z d4
  have v5 : ∀ z : Ext V, z.to.cell? _ = _ := fun z => ext_cell z c5
  have w5 : ∀ z : Ext V, z.to.cell? _ = _ := fun z => ext_cell z d5
  have u0 : ∀ z : Ext V, z.to.cell? _ = _ := fun z => ext_cell z t0
  have u1 : ∀ z : Ext V, z.to.cell? _ = _ := fun z => ext_cell z t1
  have X1 : Hid (Xc V 41 #[.agg #[.string y.n, .int .i64 y.g, .int .i64 y.i, .int .i64 y.t, .string y.a, .bool y.w]] (.agg #[.int .i64 y.g, .int .i64 y.i])) := fun z => C1.out z.to
  have X2 : Hid (Xc V 41 #[.agg #[.string x.n, .int .i64 x.g, .int .i64 x.i, .int .i64 x.t, .string x.a, .bool x.w]] (.agg #[.int .i64 x.g, .int .i64 x.i])) := fun z => C2.out z.to
  have X3 : Hid (Xc V 35 #[.agg #[.string y.n, .int .i64 y.g, .int .i64 y.i, .int .i64 y.t, .string y.a, .bool y.w]] (.agg #[.int .i64 k1, .string s1])) := fun z => C3.out z.to
  have hsome := extSome V
  clear c0 c1 c2 c3 c4 c5 d0 d1 d2 d3 d4 d5 t0 t1 C1 C2 C3 HX HT HY
  refine ext_region (by kernel_rfl) (by kernel_rfl) ?_
  repeat (go_big_quiet_step ((first | (go_at_call 41; with_reducible exact ext_call _ (X1.out _)) | (go_at_call 41; with_reducible exact ext_call _ (X2.out _)) | (go_at_call 35; with_reducible exact ext_call _ (X3.out _)))))
  refine wpQuiet_nil ?_
  rintro _ ⟨z, hy⟩
  subst hy
  have HB1 := Lib.hid (HB.out.trans (z.below.mono HB.out.size))
  go_wp2_with fail
  go_ret
  exact ⟨rfl, HB1.out⟩
set_option maxRecDepth 100000 in
set_option maxHeartbeats 8000000 in
theorem tk_i_eq (y x : It) (k : Int) (s : ByteArray) (X T : Nat) (w : World) (hX : w.heap[X]? = some (.cells #[.string x.n, .int .i64 x.g, .int .i64 x.i, .int .i64 x.t, .string x.a, .bool x.w] 26 (0, 0))) (hT : w.heap[T]? = some (.cells #[.int .i64 k, .string s] 70 (0, 0))) (hy : y.n.size ≤ 1000000) (h1 : y.g = x.g) (h2 : ¬ y.i = x.i) (h3 : ttl y = (k, s)) : Calls Tryz.prog 66 #[.agg #[.string y.n, .int .i64 y.g, .int .i64 y.i, .int .i64 y.t, .string y.a, .bool y.w], .pointer (some ⟨X, 0, none⟩), .pointer (some ⟨T, 0, none⟩)] w (Gives (.bool true) w) := by
  have HY := Lib.hid (box_new w #[.string y.n, .int .i64 y.g, .int .i64 y.i, .int .i64 y.t, .string y.a, .bool y.w] 26)
  have HB : Hid (Below w.heap.size w (w.alloc (.cells #[.string y.n, .int .i64 y.g, .int .i64 y.i, .int .i64 y.t, .string y.a, .bool y.w] 26))) := (Below.refl _ w).alloc (Nat.le_refl _) _
  have HX := kpB HB.out (Lib.hid hX)
  have HT := kpB HB.out (Lib.hid hT)
  have C1 := Lib.hid fun W => placeOf_any y W
  have C2 := Lib.hid fun W => placeOf_any x W
  have C3 : Hid (∀ W, Calls Tryz.prog 35 #[.agg #[.string y.n, .int .i64 y.g, .int .i64 y.i, .int .i64 y.t, .string y.a, .bool y.w]] W (Gives (tA (ttl y)) W)) := fun W => titleOf_any y W (by omega)
  unfold tA at C3
  generalize hp : ttl y = p at C3 h3
  obtain ⟨k1, s1⟩ := p
  dsimp only at C3
  have q1 : ((y.g : Int) == x.g) = true := by simpa using h1
  have q2 : ((y.i : Int) == x.i) = false := by simpa using h2
  clear h1 h2
  have q3 : ((k1 : Int) == k) = true := by have := congrArg Prod.fst h3; simpa using this
  have q4 : (s1.toList == s.toList) = true := by have := congrArg Prod.snd h3; dsimp only at this; rw [this]; simp
  clear h3 hp
  clear hX hT hy
  generalize hV : w.alloc (.cells #[.string y.n, .int .i64 y.g, .int .i64 y.i, .int .i64 y.t, .string y.a, .bool y.w] 26) = V at HY HB HX HT
  go_enter Tryz.func66, Tryz.ntmps66
  go_upto_region 1 with fail

  clear hV
  obtain ⟨c0, c1, c2, c3, c4, c5⟩ := bx6 HY.out
  obtain ⟨d0, d1, d2, d3, d4, d5⟩ := bx6 HX.out
  obtain ⟨t0, t1⟩ := bx2 HT.out
  have v0 : ∀ z : Ext V, z.to.cell? _ = _ := fun z => ext_cell z c0
  have w0 : ∀ z : Ext V, z.to.cell? _ = _ := fun z => ext_cell z d0
  have v1 : ∀ z : Ext V, z.to.cell? _ = _ := fun z => ext_cell z c1
  have w1 : ∀ z : Ext V, z.to.cell? _ = _ := fun z => ext_cell z d1
  have v2 : ∀ z : Ext V, z.to.cell? _ = _ := fun z => ext_cell z c2
  have w2 : ∀ z : Ext V, z.to.cell? _ = _ := fun z => ext_cell z d2
  have v3 : ∀ z : Ext V, z.to.cell? _ = _ := fun z => ext_cell z c3
  have w3 : ∀ z : Ext V, z.to.cell? _ = _ := fun z => ext_cell z d3
  have v4 : ∀ z : Ext V, z.to.cell? _ = _ := fun z => ext_cell z c4
  have w4 : ∀ z : Ext V, z.to.cell? _ = _ := fun z => ext_cell z d4
  have v5 : ∀ z : Ext V, z.to.cell? _ = _ := fun z => ext_cell z c5
  have w5 : ∀ z : Ext V, z.to.cell? _ = _ := fun z => ext_cell z d5
  have u0 : ∀ z : Ext V, z.to.cell? _ = _ := fun z => ext_cell z t0
  have u1 : ∀ z : Ext V, z.to.cell? _ = _ := fun z => ext_cell z t1
  have X1 : Hid (Xc V 41 #[.agg #[.string y.n, .int .i64 y.g, .int .i64 y.i, .int .i64 y.t, .string y.a, .bool y.w]] (.agg #[.int .i64 y.g, .int .i64 y.i])) := fun z => C1.out z.to
  have X2 : Hid (Xc V 41 #[.agg #[.string x.n, .int .i64 x.g, .int .i64 x.i, .int .i64 x.t, .string x.a, .bool x.w]] (.agg #[.int .i64 x.g, .int .i64 x.i])) := fun z => C2.out z.to
  have X3 : Hid (Xc V 35 #[.agg #[.string y.n, .int .i64 y.g, .int .i64 y.i, .int .i64 y.t, .string y.a, .bool y.w]] (.agg #[.int .i64 k1, .string s1])) := fun z => C3.out z.to
  have hsome := extSome V
  clear c0 c1 c2 c3 c4 c5 d0 d1 d2 d3 d4 d5 t0 t1 C1 C2 C3 HX HT HY
  refine ext_region (by kernel_rfl) (by kernel_rfl) ?_
  repeat (go_big_quiet_step ((first | (go_at_call 41; with_reducible exact ext_call _ (X1.out _)) | (go_at_call 41; with_reducible exact ext_call _ (X2.out _)) | (go_at_call 35; with_reducible exact ext_call _ (X3.out _)))))
  refine wpQuiet_nil ?_
  rintro _ ⟨z, hy⟩
  subst hy
  have HB1 := Lib.hid (HB.out.trans (z.below.mono HB.out.size))
  go_wp2_with fail
  go_ret
  exact ⟨rfl, HB1.out⟩
set_option maxRecDepth 100000 in
set_option maxHeartbeats 8000000 in
theorem tk_i_nk (y x : It) (k : Int) (s : ByteArray) (X T : Nat) (w : World) (hX : w.heap[X]? = some (.cells #[.string x.n, .int .i64 x.g, .int .i64 x.i, .int .i64 x.t, .string x.a, .bool x.w] 26 (0, 0))) (hT : w.heap[T]? = some (.cells #[.int .i64 k, .string s] 70 (0, 0))) (hy : y.n.size ≤ 1000000) (h1 : y.g = x.g) (h2 : ¬ y.i = x.i) (h3 : ¬ (ttl y).1 = k) : Calls Tryz.prog 66 #[.agg #[.string y.n, .int .i64 y.g, .int .i64 y.i, .int .i64 y.t, .string y.a, .bool y.w], .pointer (some ⟨X, 0, none⟩), .pointer (some ⟨T, 0, none⟩)] w (Gives (.bool false) w) := by
  have HY := Lib.hid (box_new w #[.string y.n, .int .i64 y.g, .int .i64 y.i, .int .i64 y.t, .string y.a, .bool y.w] 26)
  have HB : Hid (Below w.heap.size w (w.alloc (.cells #[.string y.n, .int .i64 y.g, .int .i64 y.i, .int .i64 y.t, .string y.a, .bool y.w] 26))) := (Below.refl _ w).alloc (Nat.le_refl _) _
  have HX := kpB HB.out (Lib.hid hX)
  have HT := kpB HB.out (Lib.hid hT)
  have C1 := Lib.hid fun W => placeOf_any y W
  have C2 := Lib.hid fun W => placeOf_any x W
  have C3 : Hid (∀ W, Calls Tryz.prog 35 #[.agg #[.string y.n, .int .i64 y.g, .int .i64 y.i, .int .i64 y.t, .string y.a, .bool y.w]] W (Gives (tA (ttl y)) W)) := fun W => titleOf_any y W (by omega)
  unfold tA at C3
  generalize hp : ttl y = p at C3 h3
  obtain ⟨k1, s1⟩ := p
  dsimp only at C3
  have q1 : ((y.g : Int) == x.g) = true := by simpa using h1
  have q2 : ((y.i : Int) == x.i) = false := by simpa using h2
  clear h1 h2
  have q3 : ((k1 : Int) == k) = false := by simpa using h3
  clear h3 hp
  clear hX hT hy
  generalize hV : w.alloc (.cells #[.string y.n, .int .i64 y.g, .int .i64 y.i, .int .i64 y.t, .string y.a, .bool y.w] 26) = V at HY HB HX HT
  go_enter Tryz.func66, Tryz.ntmps66
  go_upto_region 1 with fail

  clear hV
  obtain ⟨c0, c1, c2, c3, c4, c5⟩ := bx6 HY.out
  obtain ⟨d0, d1, d2, d3, d4, d5⟩ := bx6 HX.out
  obtain ⟨t0, t1⟩ := bx2 HT.out
  have v0 : ∀ z : Ext V, z.to.cell? _ = _ := fun z => ext_cell z c0
  have w0 : ∀ z : Ext V, z.to.cell? _ = _ := fun z => ext_cell z d0
  have v1 : ∀ z : Ext V, z.to.cell? _ = _ := fun z => ext_cell z c1
  have w1 : ∀ z : Ext V, z.to.cell? _ = _ := fun z => ext_cell z d1
  have v2 : ∀ z : Ext V, z.to.cell? _ = _ := fun z => ext_cell z c2
  have w2 : ∀ z : Ext V, z.to.cell? _ = _ := fun z => ext_cell z d2
  have v3 : ∀ z : Ext V, z.to.cell? _ = _ := fun z => ext_cell z c3
  have w3 : ∀ z : Ext V, z.to.cell? _ = _ := fun z => ext_cell z d3
  have v4 : ∀ z : Ext V, z.to.cell? _ = _ := fun z => ext_cell z c4
  have w4 : ∀ z : Ext V, z.to.cell? _ = _ := fun z => ext_cell z d4
  have v5 : ∀ z : Ext V, z.to.cell? _ = _ := fun z => ext_cell z c5
  have w5 : ∀ z : Ext V, z.to.cell? _ = _ := fun z => ext_cell z d5
  have u0 : ∀ z : Ext V, z.to.cell? _ = _ := fun z => ext_cell z t0
  have u1 : ∀ z : Ext V, z.to.cell? _ = _ := fun z => ext_cell z t1
  have X1 : Hid (Xc V 41 #[.agg #[.string y.n, .int .i64 y.g, .int .i64 y.i, .int .i64 y.t, .string y.a, .bool y.w]] (.agg #[.int .i64 y.g, .int .i64 y.i])) := fun z => C1.out z.to
  have X2 : Hid (Xc V 41 #[.agg #[.string x.n, .int .i64 x.g, .int .i64 x.i, .int .i64 x.t, .string x.a, .bool x.w]] (.agg #[.int .i64 x.g, .int .i64 x.i])) := fun z => C2.out z.to
  have X3 : Hid (Xc V 35 #[.agg #[.string y.n, .int .i64 y.g, .int .i64 y.i, .int .i64 y.t, .string y.a, .bool y.w]] (.agg #[.int .i64 k1, .string s1])) := fun z => C3.out z.to
  have hsome := extSome V
  clear c0 c1 c2 c3 c4 c5 d0 d1 d2 d3 d4 d5 t0 t1 C1 C2 C3 HX HT HY
  refine ext_region (by kernel_rfl) (by kernel_rfl) ?_
  repeat (go_big_quiet_step ((first | (go_at_call 41; with_reducible exact ext_call _ (X1.out _)) | (go_at_call 41; with_reducible exact ext_call _ (X2.out _)) | (go_at_call 35; with_reducible exact ext_call _ (X3.out _)))))
  refine wpQuiet_nil ?_
  rintro _ ⟨z, hy⟩
  subst hy
  have HB1 := Lib.hid (HB.out.trans (z.below.mono HB.out.size))
  go_wp2_with fail
  go_ret
  exact ⟨rfl, HB1.out⟩
set_option maxRecDepth 100000 in
set_option maxHeartbeats 8000000 in
theorem tk_i_ns (y x : It) (k : Int) (s : ByteArray) (X T : Nat) (w : World) (hX : w.heap[X]? = some (.cells #[.string x.n, .int .i64 x.g, .int .i64 x.i, .int .i64 x.t, .string x.a, .bool x.w] 26 (0, 0))) (hT : w.heap[T]? = some (.cells #[.int .i64 k, .string s] 70 (0, 0))) (hy : y.n.size ≤ 1000000) (h1 : y.g = x.g) (h2 : ¬ y.i = x.i) (h4 : (ttl y).1 = k) (h3 : ¬ (ttl y).2 = s) : Calls Tryz.prog 66 #[.agg #[.string y.n, .int .i64 y.g, .int .i64 y.i, .int .i64 y.t, .string y.a, .bool y.w], .pointer (some ⟨X, 0, none⟩), .pointer (some ⟨T, 0, none⟩)] w (Gives (.bool false) w) := by
  have HY := Lib.hid (box_new w #[.string y.n, .int .i64 y.g, .int .i64 y.i, .int .i64 y.t, .string y.a, .bool y.w] 26)
  have HB : Hid (Below w.heap.size w (w.alloc (.cells #[.string y.n, .int .i64 y.g, .int .i64 y.i, .int .i64 y.t, .string y.a, .bool y.w] 26))) := (Below.refl _ w).alloc (Nat.le_refl _) _
  have HX := kpB HB.out (Lib.hid hX)
  have HT := kpB HB.out (Lib.hid hT)
  have C1 := Lib.hid fun W => placeOf_any y W
  have C2 := Lib.hid fun W => placeOf_any x W
  have C3 : Hid (∀ W, Calls Tryz.prog 35 #[.agg #[.string y.n, .int .i64 y.g, .int .i64 y.i, .int .i64 y.t, .string y.a, .bool y.w]] W (Gives (tA (ttl y)) W)) := fun W => titleOf_any y W (by omega)
  unfold tA at C3
  generalize hp : ttl y = p at C3 h3
  obtain ⟨k1, s1⟩ := p
  dsimp only at C3
  have q1 : ((y.g : Int) == x.g) = true := by simpa using h1
  have q2 : ((y.i : Int) == x.i) = false := by simpa using h2
  clear h1 h2
  have q3 : ((k1 : Int) == k) = true := by rw [hp] at h4; simpa using h4
  have q4 : (s1.toList == s.toList) = false := text_neb h3
  clear h3 h4 hp
  clear hX hT hy
  generalize hV : w.alloc (.cells #[.string y.n, .int .i64 y.g, .int .i64 y.i, .int .i64 y.t, .string y.a, .bool y.w] 26) = V at HY HB HX HT
  go_enter Tryz.func66, Tryz.ntmps66
  go_upto_region 1 with fail

  clear hV
  obtain ⟨c0, c1, c2, c3, c4, c5⟩ := bx6 HY.out
  obtain ⟨d0, d1, d2, d3, d4, d5⟩ := bx6 HX.out
  obtain ⟨t0, t1⟩ := bx2 HT.out
  have v0 : ∀ z : Ext V, z.to.cell? _ = _ := fun z => ext_cell z c0
  have w0 : ∀ z : Ext V, z.to.cell? _ = _ := fun z => ext_cell z d0
  have v1 : ∀ z : Ext V, z.to.cell? _ = _ := fun z => ext_cell z c1
  have w1 : ∀ z : Ext V, z.to.cell? _ = _ := fun z => ext_cell z d1
  have v2 : ∀ z : Ext V, z.to.cell? _ = _ := fun z => ext_cell z c2
  have w2 : ∀ z : Ext V, z.to.cell? _ = _ := fun z => ext_cell z d2
  have v3 : ∀ z : Ext V, z.to.cell? _ = _ := fun z => ext_cell z c3
  have w3 : ∀ z : Ext V, z.to.cell? _ = _ := fun z => ext_cell z d3
  have v4 : ∀ z : Ext V, z.to.cell? _ = _ := fun z => ext_cell z c4
  have w4 : ∀ z : Ext V, z.to.cell? _ = _ := fun z => ext_cell z d4
  have v5 : ∀ z : Ext V, z.to.cell? _ = _ := fun z => ext_cell z c5
  have w5 : ∀ z : Ext V, z.to.cell? _ = _ := fun z => ext_cell z d5
  have u0 : ∀ z : Ext V, z.to.cell? _ = _ := fun z => ext_cell z t0
  have u1 : ∀ z : Ext V, z.to.cell? _ = _ := fun z => ext_cell z t1
  have X1 : Hid (Xc V 41 #[.agg #[.string y.n, .int .i64 y.g, .int .i64 y.i, .int .i64 y.t, .string y.a, .bool y.w]] (.agg #[.int .i64 y.g, .int .i64 y.i])) := fun z => C1.out z.to
  have X2 : Hid (Xc V 41 #[.agg #[.string x.n, .int .i64 x.g, .int .i64 x.i, .int .i64 x.t, .string x.a, .bool x.w]] (.agg #[.int .i64 x.g, .int .i64 x.i])) := fun z => C2.out z.to
  have X3 : Hid (Xc V 35 #[.agg #[.string y.n, .int .i64 y.g, .int .i64 y.i, .int .i64 y.t, .string y.a, .bool y.w]] (.agg #[.int .i64 k1, .string s1])) := fun z => C3.out z.to
  have hsome := extSome V
  clear c0 c1 c2 c3 c4 c5 d0 d1 d2 d3 d4 d5 t0 t1 C1 C2 C3 HX HT HY
  refine ext_region (by kernel_rfl) (by kernel_rfl) ?_
  repeat (go_big_quiet_step ((first | (go_at_call 41; with_reducible exact ext_call _ (X1.out _)) | (go_at_call 41; with_reducible exact ext_call _ (X2.out _)) | (go_at_call 35; with_reducible exact ext_call _ (X3.out _)))))
  refine wpQuiet_nil ?_
  rintro _ ⟨z, hy⟩
  subst hy
  have HB1 := Lib.hid (HB.out.trans (z.below.mono HB.out.size))
  go_wp2_with fail
  go_ret
  exact ⟨rfl, HB1.out⟩
theorem tk_any (y x : It) (k : Int) (s : ByteArray) (X T : Nat) (w : World) (hX : w.heap[X]? = some (.cells #[.string x.n, .int .i64 x.g, .int .i64 x.i, .int .i64 x.t, .string x.a, .bool x.w] 26 (0, 0))) (hT : w.heap[T]? = some (.cells #[.int .i64 k, .string s] 70 (0, 0))) (hy : y.n.size ≤ 1000000) : Calls Tryz.prog 66 #[.agg #[.string y.n, .int .i64 y.g, .int .i64 y.i, .int .i64 y.t, .string y.a, .bool y.w], .pointer (some ⟨X, 0, none⟩), .pointer (some ⟨T, 0, none⟩)] w (Gives (.bool (decide (¬ (y.g = x.g ∧ y.i = x.i) ∧ ttl y = (k, s)))) w) := by
  by_cases h1 : y.g = x.g
  · by_cases h2 : y.i = x.i
    · rw [decide_eq_false fun e => e.1 ⟨h1, h2⟩]; exact tk_same y x k s X T w hX hT hy h1 h2
    · by_cases h3 : (ttl y).1 = k
      · by_cases h4 : (ttl y).2 = s
        · have h5 : ttl y = (k, s) := Prod.ext h3 h4
          rw [decide_eq_true ⟨fun e => h2 e.2, h5⟩]; exact tk_i_eq y x k s X T w hX hT hy h1 h2 h5
        · rw [decide_eq_false fun e => h4 (congrArg Prod.snd e.2)]; exact tk_i_ns y x k s X T w hX hT hy h1 h2 h3 h4
      · rw [decide_eq_false fun e => h3 (congrArg Prod.fst e.2)]; exact tk_i_nk y x k s X T w hX hT hy h1 h2 h3
  · by_cases h3 : (ttl y).1 = k
    · by_cases h4 : (ttl y).2 = s
      · have h5 : ttl y = (k, s) := Prod.ext h3 h4
        rw [decide_eq_true ⟨fun e => h1 e.1, h5⟩]; exact tk_g_eq y x k s X T w hX hT hy h1 h5
      · rw [decide_eq_false fun e => h4 (congrArg Prod.snd e.2)]; exact tk_g_ns y x k s X T w hX hT hy h1 h3 h4
    · rw [decide_eq_false fun e => h3 (congrArg Prod.fst e.2)]; exact tk_g_nk y x k s X T w hX hT hy h1 h3
set_option maxRecDepth 100000 in
set_option maxHeartbeats 8000000 in
theorem index_tkn (l : List It) (a : Option Addr) (c : Nat) (p : It → Bool) (P0 P1 : Nat) (w : World) (hL : ItS w a l) (hn : l.length ≤ 1000000) (hp : ∀ i (h : i < l.length) (W : World), Below w.heap.size w W → Calls Tryz.prog 66 #[.agg #[.string l[i].n, .int .i64 l[i].g, .int .i64 l[i].i, .int .i64 l[i].t, .string l[i].a, .bool l[i].w], .pointer (some ⟨P0, 0, none⟩), .pointer (some ⟨P1, 0, none⟩)] W (Gives (.bool (p l[i])) W)) : Calls Tryz.prog 75 #[.slice a l.length c, .func (.func 66) #[] #[.pointer (some ⟨P0, 0, none⟩), .pointer (some ⟨P1, 0, none⟩)]] w fun e w' => ∃ r : Int, e = .returned (.int .i64 r) ∧ IxP (l.any p) r ∧ Below w.heap.size w w' := by
  have HL := Lib.hid fun W (hb : Below w.heap.size w W) => hL.below hb
  have HC := Lib.hid hp
  have HA : Hid (∀ i (h : i < l.length), p l[i] = true → l.any p = true) := fun i h e => any_yes i h e
  have HY : Hid ((∀ i (h : i < l.length), p l[i] = false) → l.any p = false) := fun h => any_no h
  generalize l.any p = R at HA HY ⊢
  have HB0 : Hid (Below w.heap.size w w) := Below.refl _ _
  clear hL hp
  go_enter Tryz.func75, Tryz.ntmps75
  go_wp2_with fail
  go_loopw [8] (fun i wr => ∃ j : Nat, i = .int .i64 j ∧ j ≤ l.length ∧ Hid (Below w.heap.size w wr) ∧ Hid (∀ i (h : i < l.length), i < j → p l[i] = false)) (fun i _ => l.length - (RowKit.intOf i).toNat)
  case atStart => exact ⟨0, rfl, Nat.zero_le _, HB0.out, fun i _ h => absurd h (Nat.not_lt_zero _)⟩
  case round =>
    clear HB0
    obtain ⟨j, rfl, hj, HB, HN⟩ := hrel
    by_cases hlt : j < l.length
    · obtain ⟨b, o, rfl, e0, e1, e2, e3, e4, e5⟩ := HL.out _ HB.out j hlt
      have HAj := Lib.hid (HA.out j hlt)
      have HNj : Hid (p l[j] = false → ∀ i (h : i < l.length), i < j + 1 → p l[i] = false) := fun e i h h2 => by
        by_cases h3 : i < j
        · exact HN.out i h h3
        · obtain rfl : i = j := by omega
          exact e
      have C := Lib.hid (HC.out j hlt wr HB.out)
      generalize p l[j] = q at HAj HNj C
      generalize l[j] = y at e0 e1 e2 e3 e4 e5 C
      have hj2 : j < 1000000 := by omega
      cases q
      · have HN2 := Lib.hid (HNj.out rfl)
        clear HAj HNj HN
        go_wp2_with fail
        refine C.out.mono ?_
        rintro e w1 ⟨rfl, hb⟩
        have HB1 := Lib.hid (HB.out.trans (hb.mono HB.out.size))
        clear hb
        go_wp2_with fail
        exact ⟨⟨j + 1, by go_num, by omega, HB1.out, HN2.out⟩, by simp [RowKit.intOf]; omega⟩
      · have e9 := HAj.out rfl
        subst e9
        clear HA HY HAj HNj
        go_wp2_with fail
        refine C.out.mono ?_
        rintro e w1 ⟨rfl, hb⟩
        have HB1 := Lib.hid (HB.out.trans (hb.mono HB.out.size))
        clear hb
        go_wp2_with fail
        go_ret
        exact ⟨_, rfl, .inr ⟨by omega, by omega, rfl⟩, HB1.out⟩
    · obtain rfl : j = l.length := by omega
      have e9 := HY.out fun i h => HN.out i h h
      subst e9
      clear HA HY HN
      go_wp2_with fail
      go_ret
      exact ⟨_, rfl, .inl ⟨rfl, rfl⟩, HB.out⟩
set_option maxRecDepth 100000 in
set_option maxHeartbeats 8000000 in
theorem cont_tkn (l : List It) (a : Option Addr) (c : Nat) (p : It → Bool) (P0 P1 : Nat) (w : World) (hL : ItS w a l) (hn : l.length ≤ 1000000) (hp : ∀ i (h : i < l.length) (W : World), Below w.heap.size w W → Calls Tryz.prog 66 #[.agg #[.string l[i].n, .int .i64 l[i].g, .int .i64 l[i].i, .int .i64 l[i].t, .string l[i].a, .bool l[i].w], .pointer (some ⟨P0, 0, none⟩), .pointer (some ⟨P1, 0, none⟩)] W (Gives (.bool (p l[i])) W)) : Calls Tryz.prog 64 #[.slice a l.length c, .func (.func 66) #[] #[.pointer (some ⟨P0, 0, none⟩), .pointer (some ⟨P1, 0, none⟩)]] w (Gives (.bool (l.any p)) w) := by
  have CI := Lib.hid (index_tkn l a c p P0 P1 w hL hn hp)
  generalize l.any p = R at CI ⊢
  clear hL hp
  go_enter Tryz.func64, Tryz.ntmps64
  go_wp2_with fail
  refine CI.out.mono ?_
  rintro e w1 ⟨r, rfl, hr, hb⟩
  have HB := Lib.hid hb
  clear hb
  rcases hr with ⟨rfl, rfl⟩ | ⟨h1, h2, rfl⟩
  · go_wp2_with fail
    go_ret
    exact ⟨rfl, HB.out⟩
  · go_wp2_with fail
    go_ret
    exact ⟨rfl, HB.out⟩
set_option maxRecDepth 100000 in
set_option maxHeartbeats 8000000 in
theorem isTaken_any (l : List It) (a : Option Addr) (c : Nat) (x : It) (w : World) (hL : ItS w a l) (hn : l.length ≤ 1000000) (hx : x.n.size ≤ 1000000) (hz : ∀ y ∈ l, y.n.size ≤ 1000000) : Calls Tryz.prog 51 #[.slice a l.length c, .agg #[.string x.n, .int .i64 x.g, .int .i64 x.i, .int .i64 x.t, .string x.a, .bool x.w]] w (Gives (.bool (tkn l x)) w) := by
  have HL := Lib.hid fun W (hb : Below w.heap.size w W) => hL.below hb
  have HZ := Lib.hid hz
  have HX := Lib.hid (box_new w #[.string x.n, .int .i64 x.g, .int .i64 x.i, .int .i64 x.t, .string x.a, .bool x.w] 26)
  have HB : Hid (Below w.heap.size w (w.alloc (.cells #[.string x.n, .int .i64 x.g, .int .i64 x.i, .int .i64 x.t, .string x.a, .bool x.w] 26))) := (Below.refl _ w).alloc (Nat.le_refl _) _
  have C1 : Hid (∀ W, Calls Tryz.prog 35 #[.agg #[.string x.n, .int .i64 x.g, .int .i64 x.i, .int .i64 x.t, .string x.a, .bool x.w]] W (Gives (tA (ttl x)) W)) := fun W => titleOf_any x W (by omega)
  unfold tA at C1
  have HT : Hid (tkn l x = l.any fun y => decide (¬ (y.g = x.g ∧ y.i = x.i) ∧ ttl y = ttl x)) := rfl
  generalize tkn l x = R at HT ⊢
  generalize ttl x = p at C1 HT
  obtain ⟨k, s⟩ := p
  dsimp only at C1
  clear hL hz hx
  obtain ⟨c0, c1, c2, c3, c4, c5⟩ := bx6 HX.out
  go_enter Tryz.func51, Tryz.ntmps51
  go_wp2_with fail
  refine (C1.out _).mono ?_
  rintro e w1 ⟨rfl, hb⟩
  have HB1 := Lib.hid (HB.out.trans (hb.mono HB.out.size))
  have HX1 := kpB hb HX
  clear hb c0 c1 c2 c3 c4 c5 HB HX C1
  have HTB := Lib.hid (box_new w1 #[.int .i64 k, .string s] 70)
  have hba := (Below.refl _ w1).alloc (Nat.le_refl _) (.cells #[.int .i64 k, .string s] 70)
  have HB2 := Lib.hid (HB1.out.trans (hba.mono HB1.out.size))
  have HX2 := kpB hba HX1
  clear hba
  have CC := Lib.hid (cont_tkn l a c (fun y => decide (¬ (y.g = x.g ∧ y.i = x.i) ∧ ttl y = (k, s))) w.heap.size w1.heap.size _ (HL.out _ HB2.out) hn fun i h W hb => tk_any l[i] x k s w.heap.size w1.heap.size W (kpB hb HX2).out (kpB hb HTB).out (HZ.out _ (List.getElem_mem h)))
  rw [← HT.out] at CC
  go_wp2_with fail
  refine CC.out.mono ?_
  rintro e w2 ⟨rfl, hb⟩
  have HB3 := Lib.hid (HB2.out.trans (hb.mono HB2.out.size))
  clear hb
  go_wp2_with fail
  go_ret
  exact ⟨rfl, HB3.out⟩
end Go.Proofs.YtdmbngkkbgmlfaaGreatDoor.T
