/- Contract: the document's Same of two notes. Conditions: those of each theorem's head. -/
import Derived.Test.YthbeempmdpfnmaaGreatDoorNa

set_option maxRecDepth 100000
set_option maxHeartbeats 8000000
namespace Go.Proofs.YthbeempmdpfnmaaGreatDoor.T
open Go.RowKit Go.Lib
theorem rsame_0 (n m : Nt) (ai az bi bz : Option Addr) (ci cz di dz : Nat) (w : World) (hn : NtL w ai az n) (hm : NtL w bi bz m) (h2 : n.k ≠ m.k) : Calls Tryz.prog 47 #[.agg #[.int .i64 n.k, .string n.n, .string n.x, .string n.d, .int .i64 n.c, .int .i64 n.s, .int .i64 n.e, .int .i64 n.t, .bool n.o, .slice ai n.l.length ci, .slice az n.z.length cz], .agg #[.int .i64 m.k, .string m.n, .string m.x, .string m.d, .int .i64 m.c, .int .i64 m.s, .int .i64 m.e, .int .i64 m.t, .bool m.o, .slice bi m.l.length di, .slice bz m.z.length dz]] w (Gives (.bool false) w) := by
  have HB0 : Hid (Below w.heap.size w ((w.alloc (.cells #[.int .i64 n.k, .string n.n, .string n.x, .string n.d, .int .i64 n.c, .int .i64 n.s, .int .i64 n.e, .int .i64 n.t, .bool n.o, .slice ai n.l.length ci, .slice az n.z.length cz] 42)).alloc (.cells #[.int .i64 m.k, .string m.n, .string m.x, .string m.d, .int .i64 m.c, .int .i64 m.s, .int .i64 m.e, .int .i64 m.t, .bool m.o, .slice bi m.l.length di, .slice bz m.z.length dz] 42))) := ((Below.refl _ w).alloc (Nat.le_refl _) _).alloc (by simp) _
  have HXo : Hid (((w.alloc (.cells #[.int .i64 n.k, .string n.n, .string n.x, .string n.d, .int .i64 n.c, .int .i64 n.s, .int .i64 n.e, .int .i64 n.t, .bool n.o, .slice ai n.l.length ci, .slice az n.z.length cz] 42)).alloc (.cells #[.int .i64 m.k, .string m.n, .string m.x, .string m.d, .int .i64 m.c, .int .i64 m.s, .int .i64 m.e, .int .i64 m.t, .bool m.o, .slice bi m.l.length di, .slice bz m.z.length dz] 42)).heap[w.heap.size]? = some (.cells #[.int .i64 n.k, .string n.n, .string n.x, .string n.d, .int .i64 n.c, .int .i64 n.s, .int .i64 n.e, .int .i64 n.t, .bool n.o, .slice ai n.l.length ci, .slice az n.z.length cz] 42 (0, 0))) := (Below.heap_alloc (w.alloc (.cells #[.int .i64 n.k, .string n.n, .string n.x, .string n.d, .int .i64 n.c, .int .i64 n.s, .int .i64 n.e, .int .i64 n.t, .bool n.o, .slice ai n.l.length ci, .slice az n.z.length cz] 42)) _ _ (by simp)).trans (box_new w _ _)
  have HXn : Hid (((w.alloc (.cells #[.int .i64 n.k, .string n.n, .string n.x, .string n.d, .int .i64 n.c, .int .i64 n.s, .int .i64 n.e, .int .i64 n.t, .bool n.o, .slice ai n.l.length ci, .slice az n.z.length cz] 42)).alloc (.cells #[.int .i64 m.k, .string m.n, .string m.x, .string m.d, .int .i64 m.c, .int .i64 m.s, .int .i64 m.e, .int .i64 m.t, .bool m.o, .slice bi m.l.length di, .slice bz m.z.length dz] 42)).heap[w.heap.size + 1]? = some (.cells #[.int .i64 m.k, .string m.n, .string m.x, .string m.d, .int .i64 m.c, .int .i64 m.s, .int .i64 m.e, .int .i64 m.t, .bool m.o, .slice bi m.l.length di, .slice bz m.z.length dz] 42 (0, 0))) := by
    have := box_new (w.alloc (.cells #[.int .i64 n.k, .string n.n, .string n.x, .string n.d, .int .i64 n.c, .int .i64 n.s, .int .i64 n.e, .int .i64 n.t, .bool n.o, .slice ai n.l.length ci, .slice az n.z.length cz] 42)) #[.int .i64 m.k, .string m.n, .string m.x, .string m.d, .int .i64 m.c, .int .i64 m.s, .int .i64 m.e, .int .i64 m.t, .bool m.o, .slice bi m.l.length di, .slice bz m.z.length dz] 42
    show _ = _
    simpa using this
  have q2 := bne_iff_ne.2 h2
  have l1 := hn.hin
  have l2 := hm.hin
  have l3 := hn.hzn
  have l4 := hm.hzn
  clear hn hm h2
  obtain ⟨m0, m1, m2, m3, m4, m5, m6, m7, m8, m9, m10⟩ := bx11 HXo.out
  obtain ⟨k0, k1, k2, k3, k4, k5, k6, k7, k8, k9, k10⟩ := bx11 HXn.out
  go_enter Tryz.func47, Tryz.ntmps47
  go_upto_region 1 with fail
  generalize ((w.alloc (.cells #[.int .i64 n.k, .string n.n, .string n.x, .string n.d, .int .i64 n.c, .int .i64 n.s, .int .i64 n.e, .int .i64 n.t, .bool n.o, .slice ai n.l.length ci, .slice az n.z.length cz] 42)).alloc (.cells #[.int .i64 m.k, .string m.n, .string m.x, .string m.d, .int .i64 m.c, .int .i64 m.s, .int .i64 m.e, .int .i64 m.t, .bool m.o, .slice bi m.l.length di, .slice bz m.z.length dz] 42)) = W at HB0 HXo HXn m0 m1 m2 m3 m4 m5 m6 m7 m8 m9 m10 k0 k1 k2 k3 k4 k5 k6 k7 k8 k9 k10 ⊢
  have xm0 : ∀ y : Ext W, y.to.cell? _ = _ := fun y => ext_cell y m0
  have xk0 : ∀ y : Ext W, y.to.cell? _ = _ := fun y => ext_cell y k0
  have xm1 : ∀ y : Ext W, y.to.cell? _ = _ := fun y => ext_cell y m1
  have xk1 : ∀ y : Ext W, y.to.cell? _ = _ := fun y => ext_cell y k1
  have xm2 : ∀ y : Ext W, y.to.cell? _ = _ := fun y => ext_cell y m2
  have xk2 : ∀ y : Ext W, y.to.cell? _ = _ := fun y => ext_cell y k2
  have xm3 : ∀ y : Ext W, y.to.cell? _ = _ := fun y => ext_cell y m3
  have xk3 : ∀ y : Ext W, y.to.cell? _ = _ := fun y => ext_cell y k3
  have xm4 : ∀ y : Ext W, y.to.cell? _ = _ := fun y => ext_cell y m4
  have xk4 : ∀ y : Ext W, y.to.cell? _ = _ := fun y => ext_cell y k4
  have xm5 : ∀ y : Ext W, y.to.cell? _ = _ := fun y => ext_cell y m5
  have xk5 : ∀ y : Ext W, y.to.cell? _ = _ := fun y => ext_cell y k5
  have xm6 : ∀ y : Ext W, y.to.cell? _ = _ := fun y => ext_cell y m6
  have xk6 : ∀ y : Ext W, y.to.cell? _ = _ := fun y => ext_cell y k6
  have xm7 : ∀ y : Ext W, y.to.cell? _ = _ := fun y => ext_cell y m7
  have xk7 : ∀ y : Ext W, y.to.cell? _ = _ := fun y => ext_cell y k7
  have xm8 : ∀ y : Ext W, y.to.cell? _ = _ := fun y => ext_cell y m8
  have xk8 : ∀ y : Ext W, y.to.cell? _ = _ := fun y => ext_cell y k8
  have xm9 : ∀ y : Ext W, y.to.cell? _ = _ := fun y => ext_cell y m9
  have xk9 : ∀ y : Ext W, y.to.cell? _ = _ := fun y => ext_cell y k9
  have xm10 : ∀ y : Ext W, y.to.cell? _ = _ := fun y => ext_cell y m10
  have xk10 : ∀ y : Ext W, y.to.cell? _ = _ := fun y => ext_cell y k10
  have hsome := extSome W
  clear HXo HXn m0 m1 m2 m3 m4 m5 m6 m7 m8 m9 m10 k0 k1 k2 k3 k4 k5 k6 k7 k8 k9 k10
  refine plain_quiet ?_
  dsimp only [List.append]
  repeat (go_big_quiet_step (fail))
  refine wpQuiet_nil ?_
  rintro _ ⟨y, hy⟩
  subst hy
  have HB1 := Lib.hid (HB0.out.trans (y.below.mono HB0.out.size))
  clear xm0 xk0 xm1 xk1 xm2 xk2 xm3 xk3 xm4 xk4 xm5 xk5 xm6 xk6 xm7 xk7 xm8 xk8 xm9 xk9 xm10 xk10
  go_wp2_with fail
  go_ret
  exact ⟨rfl, HB1.out⟩
theorem rsame_1 (n m : Nt) (ai az bi bz : Option Addr) (ci cz di dz : Nat) (w : World) (hn : NtL w ai az n) (hm : NtL w bi bz m) (h2 : n.n ≠ m.n) : Calls Tryz.prog 47 #[.agg #[.int .i64 n.k, .string n.n, .string n.x, .string n.d, .int .i64 n.c, .int .i64 n.s, .int .i64 n.e, .int .i64 n.t, .bool n.o, .slice ai n.l.length ci, .slice az n.z.length cz], .agg #[.int .i64 n.k, .string m.n, .string m.x, .string m.d, .int .i64 m.c, .int .i64 m.s, .int .i64 m.e, .int .i64 m.t, .bool m.o, .slice bi m.l.length di, .slice bz m.z.length dz]] w (Gives (.bool false) w) := by
  have HB0 : Hid (Below w.heap.size w ((w.alloc (.cells #[.int .i64 n.k, .string n.n, .string n.x, .string n.d, .int .i64 n.c, .int .i64 n.s, .int .i64 n.e, .int .i64 n.t, .bool n.o, .slice ai n.l.length ci, .slice az n.z.length cz] 42)).alloc (.cells #[.int .i64 n.k, .string m.n, .string m.x, .string m.d, .int .i64 m.c, .int .i64 m.s, .int .i64 m.e, .int .i64 m.t, .bool m.o, .slice bi m.l.length di, .slice bz m.z.length dz] 42))) := ((Below.refl _ w).alloc (Nat.le_refl _) _).alloc (by simp) _
  have HXo : Hid (((w.alloc (.cells #[.int .i64 n.k, .string n.n, .string n.x, .string n.d, .int .i64 n.c, .int .i64 n.s, .int .i64 n.e, .int .i64 n.t, .bool n.o, .slice ai n.l.length ci, .slice az n.z.length cz] 42)).alloc (.cells #[.int .i64 n.k, .string m.n, .string m.x, .string m.d, .int .i64 m.c, .int .i64 m.s, .int .i64 m.e, .int .i64 m.t, .bool m.o, .slice bi m.l.length di, .slice bz m.z.length dz] 42)).heap[w.heap.size]? = some (.cells #[.int .i64 n.k, .string n.n, .string n.x, .string n.d, .int .i64 n.c, .int .i64 n.s, .int .i64 n.e, .int .i64 n.t, .bool n.o, .slice ai n.l.length ci, .slice az n.z.length cz] 42 (0, 0))) := (Below.heap_alloc (w.alloc (.cells #[.int .i64 n.k, .string n.n, .string n.x, .string n.d, .int .i64 n.c, .int .i64 n.s, .int .i64 n.e, .int .i64 n.t, .bool n.o, .slice ai n.l.length ci, .slice az n.z.length cz] 42)) _ _ (by simp)).trans (box_new w _ _)
  have HXn : Hid (((w.alloc (.cells #[.int .i64 n.k, .string n.n, .string n.x, .string n.d, .int .i64 n.c, .int .i64 n.s, .int .i64 n.e, .int .i64 n.t, .bool n.o, .slice ai n.l.length ci, .slice az n.z.length cz] 42)).alloc (.cells #[.int .i64 n.k, .string m.n, .string m.x, .string m.d, .int .i64 m.c, .int .i64 m.s, .int .i64 m.e, .int .i64 m.t, .bool m.o, .slice bi m.l.length di, .slice bz m.z.length dz] 42)).heap[w.heap.size + 1]? = some (.cells #[.int .i64 n.k, .string m.n, .string m.x, .string m.d, .int .i64 m.c, .int .i64 m.s, .int .i64 m.e, .int .i64 m.t, .bool m.o, .slice bi m.l.length di, .slice bz m.z.length dz] 42 (0, 0))) := by
    have := box_new (w.alloc (.cells #[.int .i64 n.k, .string n.n, .string n.x, .string n.d, .int .i64 n.c, .int .i64 n.s, .int .i64 n.e, .int .i64 n.t, .bool n.o, .slice ai n.l.length ci, .slice az n.z.length cz] 42)) #[.int .i64 n.k, .string m.n, .string m.x, .string m.d, .int .i64 m.c, .int .i64 m.s, .int .i64 m.e, .int .i64 m.t, .bool m.o, .slice bi m.l.length di, .slice bz m.z.length dz] 42
    show _ = _
    simpa using this
  have q2 := text_neb h2
  have l1 := hn.hin
  have l2 := hm.hin
  have l3 := hn.hzn
  have l4 := hm.hzn
  clear hn hm h2
  obtain ⟨m0, m1, m2, m3, m4, m5, m6, m7, m8, m9, m10⟩ := bx11 HXo.out
  obtain ⟨k0, k1, k2, k3, k4, k5, k6, k7, k8, k9, k10⟩ := bx11 HXn.out
  go_enter Tryz.func47, Tryz.ntmps47
  go_upto_region 1 with fail
  generalize ((w.alloc (.cells #[.int .i64 n.k, .string n.n, .string n.x, .string n.d, .int .i64 n.c, .int .i64 n.s, .int .i64 n.e, .int .i64 n.t, .bool n.o, .slice ai n.l.length ci, .slice az n.z.length cz] 42)).alloc (.cells #[.int .i64 n.k, .string m.n, .string m.x, .string m.d, .int .i64 m.c, .int .i64 m.s, .int .i64 m.e, .int .i64 m.t, .bool m.o, .slice bi m.l.length di, .slice bz m.z.length dz] 42)) = W at HB0 HXo HXn m0 m1 m2 m3 m4 m5 m6 m7 m8 m9 m10 k0 k1 k2 k3 k4 k5 k6 k7 k8 k9 k10 ⊢
  have xm0 : ∀ y : Ext W, y.to.cell? _ = _ := fun y => ext_cell y m0
  have xk0 : ∀ y : Ext W, y.to.cell? _ = _ := fun y => ext_cell y k0
  have xm1 : ∀ y : Ext W, y.to.cell? _ = _ := fun y => ext_cell y m1
  have xk1 : ∀ y : Ext W, y.to.cell? _ = _ := fun y => ext_cell y k1
  have xm2 : ∀ y : Ext W, y.to.cell? _ = _ := fun y => ext_cell y m2
  have xk2 : ∀ y : Ext W, y.to.cell? _ = _ := fun y => ext_cell y k2
  have xm3 : ∀ y : Ext W, y.to.cell? _ = _ := fun y => ext_cell y m3
  have xk3 : ∀ y : Ext W, y.to.cell? _ = _ := fun y => ext_cell y k3
  have xm4 : ∀ y : Ext W, y.to.cell? _ = _ := fun y => ext_cell y m4
  have xk4 : ∀ y : Ext W, y.to.cell? _ = _ := fun y => ext_cell y k4
  have xm5 : ∀ y : Ext W, y.to.cell? _ = _ := fun y => ext_cell y m5
  have xk5 : ∀ y : Ext W, y.to.cell? _ = _ := fun y => ext_cell y k5
  have xm6 : ∀ y : Ext W, y.to.cell? _ = _ := fun y => ext_cell y m6
  have xk6 : ∀ y : Ext W, y.to.cell? _ = _ := fun y => ext_cell y k6
  have xm7 : ∀ y : Ext W, y.to.cell? _ = _ := fun y => ext_cell y m7
  have xk7 : ∀ y : Ext W, y.to.cell? _ = _ := fun y => ext_cell y k7
  have xm8 : ∀ y : Ext W, y.to.cell? _ = _ := fun y => ext_cell y m8
  have xk8 : ∀ y : Ext W, y.to.cell? _ = _ := fun y => ext_cell y k8
  have xm9 : ∀ y : Ext W, y.to.cell? _ = _ := fun y => ext_cell y m9
  have xk9 : ∀ y : Ext W, y.to.cell? _ = _ := fun y => ext_cell y k9
  have xm10 : ∀ y : Ext W, y.to.cell? _ = _ := fun y => ext_cell y m10
  have xk10 : ∀ y : Ext W, y.to.cell? _ = _ := fun y => ext_cell y k10
  have hsome := extSome W
  clear HXo HXn m0 m1 m2 m3 m4 m5 m6 m7 m8 m9 m10 k0 k1 k2 k3 k4 k5 k6 k7 k8 k9 k10
  refine plain_quiet ?_
  dsimp only [List.append]
  repeat (go_big_quiet_step (fail))
  refine wpQuiet_nil ?_
  rintro _ ⟨y, hy⟩
  subst hy
  have HB1 := Lib.hid (HB0.out.trans (y.below.mono HB0.out.size))
  clear xm0 xk0 xm1 xk1 xm2 xk2 xm3 xk3 xm4 xk4 xm5 xk5 xm6 xk6 xm7 xk7 xm8 xk8 xm9 xk9 xm10 xk10
  go_wp2_with fail
  go_ret
  exact ⟨rfl, HB1.out⟩
theorem rsame_2 (n m : Nt) (ai az bi bz : Option Addr) (ci cz di dz : Nat) (w : World) (hn : NtL w ai az n) (hm : NtL w bi bz m) (h2 : n.x ≠ m.x) : Calls Tryz.prog 47 #[.agg #[.int .i64 n.k, .string n.n, .string n.x, .string n.d, .int .i64 n.c, .int .i64 n.s, .int .i64 n.e, .int .i64 n.t, .bool n.o, .slice ai n.l.length ci, .slice az n.z.length cz], .agg #[.int .i64 n.k, .string n.n, .string m.x, .string m.d, .int .i64 m.c, .int .i64 m.s, .int .i64 m.e, .int .i64 m.t, .bool m.o, .slice bi m.l.length di, .slice bz m.z.length dz]] w (Gives (.bool false) w) := by
  have HB0 : Hid (Below w.heap.size w ((w.alloc (.cells #[.int .i64 n.k, .string n.n, .string n.x, .string n.d, .int .i64 n.c, .int .i64 n.s, .int .i64 n.e, .int .i64 n.t, .bool n.o, .slice ai n.l.length ci, .slice az n.z.length cz] 42)).alloc (.cells #[.int .i64 n.k, .string n.n, .string m.x, .string m.d, .int .i64 m.c, .int .i64 m.s, .int .i64 m.e, .int .i64 m.t, .bool m.o, .slice bi m.l.length di, .slice bz m.z.length dz] 42))) := ((Below.refl _ w).alloc (Nat.le_refl _) _).alloc (by simp) _
  have HXo : Hid (((w.alloc (.cells #[.int .i64 n.k, .string n.n, .string n.x, .string n.d, .int .i64 n.c, .int .i64 n.s, .int .i64 n.e, .int .i64 n.t, .bool n.o, .slice ai n.l.length ci, .slice az n.z.length cz] 42)).alloc (.cells #[.int .i64 n.k, .string n.n, .string m.x, .string m.d, .int .i64 m.c, .int .i64 m.s, .int .i64 m.e, .int .i64 m.t, .bool m.o, .slice bi m.l.length di, .slice bz m.z.length dz] 42)).heap[w.heap.size]? = some (.cells #[.int .i64 n.k, .string n.n, .string n.x, .string n.d, .int .i64 n.c, .int .i64 n.s, .int .i64 n.e, .int .i64 n.t, .bool n.o, .slice ai n.l.length ci, .slice az n.z.length cz] 42 (0, 0))) := (Below.heap_alloc (w.alloc (.cells #[.int .i64 n.k, .string n.n, .string n.x, .string n.d, .int .i64 n.c, .int .i64 n.s, .int .i64 n.e, .int .i64 n.t, .bool n.o, .slice ai n.l.length ci, .slice az n.z.length cz] 42)) _ _ (by simp)).trans (box_new w _ _)
  have HXn : Hid (((w.alloc (.cells #[.int .i64 n.k, .string n.n, .string n.x, .string n.d, .int .i64 n.c, .int .i64 n.s, .int .i64 n.e, .int .i64 n.t, .bool n.o, .slice ai n.l.length ci, .slice az n.z.length cz] 42)).alloc (.cells #[.int .i64 n.k, .string n.n, .string m.x, .string m.d, .int .i64 m.c, .int .i64 m.s, .int .i64 m.e, .int .i64 m.t, .bool m.o, .slice bi m.l.length di, .slice bz m.z.length dz] 42)).heap[w.heap.size + 1]? = some (.cells #[.int .i64 n.k, .string n.n, .string m.x, .string m.d, .int .i64 m.c, .int .i64 m.s, .int .i64 m.e, .int .i64 m.t, .bool m.o, .slice bi m.l.length di, .slice bz m.z.length dz] 42 (0, 0))) := by
    have := box_new (w.alloc (.cells #[.int .i64 n.k, .string n.n, .string n.x, .string n.d, .int .i64 n.c, .int .i64 n.s, .int .i64 n.e, .int .i64 n.t, .bool n.o, .slice ai n.l.length ci, .slice az n.z.length cz] 42)) #[.int .i64 n.k, .string n.n, .string m.x, .string m.d, .int .i64 m.c, .int .i64 m.s, .int .i64 m.e, .int .i64 m.t, .bool m.o, .slice bi m.l.length di, .slice bz m.z.length dz] 42
    show _ = _
    simpa using this
  have q2 := text_neb h2
  have l1 := hn.hin
  have l2 := hm.hin
  have l3 := hn.hzn
  have l4 := hm.hzn
  clear hn hm h2
  obtain ⟨m0, m1, m2, m3, m4, m5, m6, m7, m8, m9, m10⟩ := bx11 HXo.out
  obtain ⟨k0, k1, k2, k3, k4, k5, k6, k7, k8, k9, k10⟩ := bx11 HXn.out
  go_enter Tryz.func47, Tryz.ntmps47
  go_upto_region 1 with fail
  generalize ((w.alloc (.cells #[.int .i64 n.k, .string n.n, .string n.x, .string n.d, .int .i64 n.c, .int .i64 n.s, .int .i64 n.e, .int .i64 n.t, .bool n.o, .slice ai n.l.length ci, .slice az n.z.length cz] 42)).alloc (.cells #[.int .i64 n.k, .string n.n, .string m.x, .string m.d, .int .i64 m.c, .int .i64 m.s, .int .i64 m.e, .int .i64 m.t, .bool m.o, .slice bi m.l.length di, .slice bz m.z.length dz] 42)) = W at HB0 HXo HXn m0 m1 m2 m3 m4 m5 m6 m7 m8 m9 m10 k0 k1 k2 k3 k4 k5 k6 k7 k8 k9 k10 ⊢
  have xm0 : ∀ y : Ext W, y.to.cell? _ = _ := fun y => ext_cell y m0
  have xk0 : ∀ y : Ext W, y.to.cell? _ = _ := fun y => ext_cell y k0
  have xm1 : ∀ y : Ext W, y.to.cell? _ = _ := fun y => ext_cell y m1
  have xk1 : ∀ y : Ext W, y.to.cell? _ = _ := fun y => ext_cell y k1
  have xm2 : ∀ y : Ext W, y.to.cell? _ = _ := fun y => ext_cell y m2
  have xk2 : ∀ y : Ext W, y.to.cell? _ = _ := fun y => ext_cell y k2
  have xm3 : ∀ y : Ext W, y.to.cell? _ = _ := fun y => ext_cell y m3
  have xk3 : ∀ y : Ext W, y.to.cell? _ = _ := fun y => ext_cell y k3
  have xm4 : ∀ y : Ext W, y.to.cell? _ = _ := fun y => ext_cell y m4
  have xk4 : ∀ y : Ext W, y.to.cell? _ = _ := fun y => ext_cell y k4
  have xm5 : ∀ y : Ext W, y.to.cell? _ = _ := fun y => ext_cell y m5
  have xk5 : ∀ y : Ext W, y.to.cell? _ = _ := fun y => ext_cell y k5
  have xm6 : ∀ y : Ext W, y.to.cell? _ = _ := fun y => ext_cell y m6
  have xk6 : ∀ y : Ext W, y.to.cell? _ = _ := fun y => ext_cell y k6
  have xm7 : ∀ y : Ext W, y.to.cell? _ = _ := fun y => ext_cell y m7
  have xk7 : ∀ y : Ext W, y.to.cell? _ = _ := fun y => ext_cell y k7
  have xm8 : ∀ y : Ext W, y.to.cell? _ = _ := fun y => ext_cell y m8
  have xk8 : ∀ y : Ext W, y.to.cell? _ = _ := fun y => ext_cell y k8
  have xm9 : ∀ y : Ext W, y.to.cell? _ = _ := fun y => ext_cell y m9
  have xk9 : ∀ y : Ext W, y.to.cell? _ = _ := fun y => ext_cell y k9
  have xm10 : ∀ y : Ext W, y.to.cell? _ = _ := fun y => ext_cell y m10
  have xk10 : ∀ y : Ext W, y.to.cell? _ = _ := fun y => ext_cell y k10
  have hsome := extSome W
  clear HXo HXn m0 m1 m2 m3 m4 m5 m6 m7 m8 m9 m10 k0 k1 k2 k3 k4 k5 k6 k7 k8 k9 k10
  refine plain_quiet ?_
  dsimp only [List.append]
  repeat (go_big_quiet_step (fail))
  refine wpQuiet_nil ?_
  rintro _ ⟨y, hy⟩
  subst hy
  have HB1 := Lib.hid (HB0.out.trans (y.below.mono HB0.out.size))
  clear xm0 xk0 xm1 xk1 xm2 xk2 xm3 xk3 xm4 xk4 xm5 xk5 xm6 xk6 xm7 xk7 xm8 xk8 xm9 xk9 xm10 xk10
  go_wp2_with fail
  go_ret
  exact ⟨rfl, HB1.out⟩
theorem rsame_3 (n m : Nt) (ai az bi bz : Option Addr) (ci cz di dz : Nat) (w : World) (hn : NtL w ai az n) (hm : NtL w bi bz m) (h2 : n.d ≠ m.d) : Calls Tryz.prog 47 #[.agg #[.int .i64 n.k, .string n.n, .string n.x, .string n.d, .int .i64 n.c, .int .i64 n.s, .int .i64 n.e, .int .i64 n.t, .bool n.o, .slice ai n.l.length ci, .slice az n.z.length cz], .agg #[.int .i64 n.k, .string n.n, .string n.x, .string m.d, .int .i64 m.c, .int .i64 m.s, .int .i64 m.e, .int .i64 m.t, .bool m.o, .slice bi m.l.length di, .slice bz m.z.length dz]] w (Gives (.bool false) w) := by
  have HB0 : Hid (Below w.heap.size w ((w.alloc (.cells #[.int .i64 n.k, .string n.n, .string n.x, .string n.d, .int .i64 n.c, .int .i64 n.s, .int .i64 n.e, .int .i64 n.t, .bool n.o, .slice ai n.l.length ci, .slice az n.z.length cz] 42)).alloc (.cells #[.int .i64 n.k, .string n.n, .string n.x, .string m.d, .int .i64 m.c, .int .i64 m.s, .int .i64 m.e, .int .i64 m.t, .bool m.o, .slice bi m.l.length di, .slice bz m.z.length dz] 42))) := ((Below.refl _ w).alloc (Nat.le_refl _) _).alloc (by simp) _
  have HXo : Hid (((w.alloc (.cells #[.int .i64 n.k, .string n.n, .string n.x, .string n.d, .int .i64 n.c, .int .i64 n.s, .int .i64 n.e, .int .i64 n.t, .bool n.o, .slice ai n.l.length ci, .slice az n.z.length cz] 42)).alloc (.cells #[.int .i64 n.k, .string n.n, .string n.x, .string m.d, .int .i64 m.c, .int .i64 m.s, .int .i64 m.e, .int .i64 m.t, .bool m.o, .slice bi m.l.length di, .slice bz m.z.length dz] 42)).heap[w.heap.size]? = some (.cells #[.int .i64 n.k, .string n.n, .string n.x, .string n.d, .int .i64 n.c, .int .i64 n.s, .int .i64 n.e, .int .i64 n.t, .bool n.o, .slice ai n.l.length ci, .slice az n.z.length cz] 42 (0, 0))) := (Below.heap_alloc (w.alloc (.cells #[.int .i64 n.k, .string n.n, .string n.x, .string n.d, .int .i64 n.c, .int .i64 n.s, .int .i64 n.e, .int .i64 n.t, .bool n.o, .slice ai n.l.length ci, .slice az n.z.length cz] 42)) _ _ (by simp)).trans (box_new w _ _)
  have HXn : Hid (((w.alloc (.cells #[.int .i64 n.k, .string n.n, .string n.x, .string n.d, .int .i64 n.c, .int .i64 n.s, .int .i64 n.e, .int .i64 n.t, .bool n.o, .slice ai n.l.length ci, .slice az n.z.length cz] 42)).alloc (.cells #[.int .i64 n.k, .string n.n, .string n.x, .string m.d, .int .i64 m.c, .int .i64 m.s, .int .i64 m.e, .int .i64 m.t, .bool m.o, .slice bi m.l.length di, .slice bz m.z.length dz] 42)).heap[w.heap.size + 1]? = some (.cells #[.int .i64 n.k, .string n.n, .string n.x, .string m.d, .int .i64 m.c, .int .i64 m.s, .int .i64 m.e, .int .i64 m.t, .bool m.o, .slice bi m.l.length di, .slice bz m.z.length dz] 42 (0, 0))) := by
    have := box_new (w.alloc (.cells #[.int .i64 n.k, .string n.n, .string n.x, .string n.d, .int .i64 n.c, .int .i64 n.s, .int .i64 n.e, .int .i64 n.t, .bool n.o, .slice ai n.l.length ci, .slice az n.z.length cz] 42)) #[.int .i64 n.k, .string n.n, .string n.x, .string m.d, .int .i64 m.c, .int .i64 m.s, .int .i64 m.e, .int .i64 m.t, .bool m.o, .slice bi m.l.length di, .slice bz m.z.length dz] 42
    show _ = _
    simpa using this
  have q2 := text_neb h2
  have l1 := hn.hin
  have l2 := hm.hin
  have l3 := hn.hzn
  have l4 := hm.hzn
  clear hn hm h2
  obtain ⟨m0, m1, m2, m3, m4, m5, m6, m7, m8, m9, m10⟩ := bx11 HXo.out
  obtain ⟨k0, k1, k2, k3, k4, k5, k6, k7, k8, k9, k10⟩ := bx11 HXn.out
  go_enter Tryz.func47, Tryz.ntmps47
  go_upto_region 1 with fail
  generalize ((w.alloc (.cells #[.int .i64 n.k, .string n.n, .string n.x, .string n.d, .int .i64 n.c, .int .i64 n.s, .int .i64 n.e, .int .i64 n.t, .bool n.o, .slice ai n.l.length ci, .slice az n.z.length cz] 42)).alloc (.cells #[.int .i64 n.k, .string n.n, .string n.x, .string m.d, .int .i64 m.c, .int .i64 m.s, .int .i64 m.e, .int .i64 m.t, .bool m.o, .slice bi m.l.length di, .slice bz m.z.length dz] 42)) = W at HB0 HXo HXn m0 m1 m2 m3 m4 m5 m6 m7 m8 m9 m10 k0 k1 k2 k3 k4 k5 k6 k7 k8 k9 k10 ⊢
  have xm0 : ∀ y : Ext W, y.to.cell? _ = _ := fun y => ext_cell y m0
  have xk0 : ∀ y : Ext W, y.to.cell? _ = _ := fun y => ext_cell y k0
  have xm1 : ∀ y : Ext W, y.to.cell? _ = _ := fun y => ext_cell y m1
  have xk1 : ∀ y : Ext W, y.to.cell? _ = _ := fun y => ext_cell y k1
  have xm2 : ∀ y : Ext W, y.to.cell? _ = _ := fun y => ext_cell y m2
  have xk2 : ∀ y : Ext W, y.to.cell? _ = _ := fun y => ext_cell y k2
  have xm3 : ∀ y : Ext W, y.to.cell? _ = _ := fun y => ext_cell y m3
  have xk3 : ∀ y : Ext W, y.to.cell? _ = _ := fun y => ext_cell y k3
  have xm4 : ∀ y : Ext W, y.to.cell? _ = _ := fun y => ext_cell y m4
  have xk4 : ∀ y : Ext W, y.to.cell? _ = _ := fun y => ext_cell y k4
  have xm5 : ∀ y : Ext W, y.to.cell? _ = _ := fun y => ext_cell y m5
  have xk5 : ∀ y : Ext W, y.to.cell? _ = _ := fun y => ext_cell y k5
  have xm6 : ∀ y : Ext W, y.to.cell? _ = _ := fun y => ext_cell y m6
  have xk6 : ∀ y : Ext W, y.to.cell? _ = _ := fun y => ext_cell y k6
  have xm7 : ∀ y : Ext W, y.to.cell? _ = _ := fun y => ext_cell y m7
  have xk7 : ∀ y : Ext W, y.to.cell? _ = _ := fun y => ext_cell y k7
  have xm8 : ∀ y : Ext W, y.to.cell? _ = _ := fun y => ext_cell y m8
  have xk8 : ∀ y : Ext W, y.to.cell? _ = _ := fun y => ext_cell y k8
  have xm9 : ∀ y : Ext W, y.to.cell? _ = _ := fun y => ext_cell y m9
  have xk9 : ∀ y : Ext W, y.to.cell? _ = _ := fun y => ext_cell y k9
  have xm10 : ∀ y : Ext W, y.to.cell? _ = _ := fun y => ext_cell y m10
  have xk10 : ∀ y : Ext W, y.to.cell? _ = _ := fun y => ext_cell y k10
  have hsome := extSome W
  clear HXo HXn m0 m1 m2 m3 m4 m5 m6 m7 m8 m9 m10 k0 k1 k2 k3 k4 k5 k6 k7 k8 k9 k10
  refine plain_quiet ?_
  dsimp only [List.append]
  repeat (go_big_quiet_step (fail))
  refine wpQuiet_nil ?_
  rintro _ ⟨y, hy⟩
  subst hy
  have HB1 := Lib.hid (HB0.out.trans (y.below.mono HB0.out.size))
  clear xm0 xk0 xm1 xk1 xm2 xk2 xm3 xk3 xm4 xk4 xm5 xk5 xm6 xk6 xm7 xk7 xm8 xk8 xm9 xk9 xm10 xk10
  go_wp2_with fail
  go_ret
  exact ⟨rfl, HB1.out⟩
theorem rsame_4 (n m : Nt) (ai az bi bz : Option Addr) (ci cz di dz : Nat) (w : World) (hn : NtL w ai az n) (hm : NtL w bi bz m) (h2 : n.c ≠ m.c) : Calls Tryz.prog 47 #[.agg #[.int .i64 n.k, .string n.n, .string n.x, .string n.d, .int .i64 n.c, .int .i64 n.s, .int .i64 n.e, .int .i64 n.t, .bool n.o, .slice ai n.l.length ci, .slice az n.z.length cz], .agg #[.int .i64 n.k, .string n.n, .string n.x, .string n.d, .int .i64 m.c, .int .i64 m.s, .int .i64 m.e, .int .i64 m.t, .bool m.o, .slice bi m.l.length di, .slice bz m.z.length dz]] w (Gives (.bool false) w) := by
  have HB0 : Hid (Below w.heap.size w ((w.alloc (.cells #[.int .i64 n.k, .string n.n, .string n.x, .string n.d, .int .i64 n.c, .int .i64 n.s, .int .i64 n.e, .int .i64 n.t, .bool n.o, .slice ai n.l.length ci, .slice az n.z.length cz] 42)).alloc (.cells #[.int .i64 n.k, .string n.n, .string n.x, .string n.d, .int .i64 m.c, .int .i64 m.s, .int .i64 m.e, .int .i64 m.t, .bool m.o, .slice bi m.l.length di, .slice bz m.z.length dz] 42))) := ((Below.refl _ w).alloc (Nat.le_refl _) _).alloc (by simp) _
  have HXo : Hid (((w.alloc (.cells #[.int .i64 n.k, .string n.n, .string n.x, .string n.d, .int .i64 n.c, .int .i64 n.s, .int .i64 n.e, .int .i64 n.t, .bool n.o, .slice ai n.l.length ci, .slice az n.z.length cz] 42)).alloc (.cells #[.int .i64 n.k, .string n.n, .string n.x, .string n.d, .int .i64 m.c, .int .i64 m.s, .int .i64 m.e, .int .i64 m.t, .bool m.o, .slice bi m.l.length di, .slice bz m.z.length dz] 42)).heap[w.heap.size]? = some (.cells #[.int .i64 n.k, .string n.n, .string n.x, .string n.d, .int .i64 n.c, .int .i64 n.s, .int .i64 n.e, .int .i64 n.t, .bool n.o, .slice ai n.l.length ci, .slice az n.z.length cz] 42 (0, 0))) := (Below.heap_alloc (w.alloc (.cells #[.int .i64 n.k, .string n.n, .string n.x, .string n.d, .int .i64 n.c, .int .i64 n.s, .int .i64 n.e, .int .i64 n.t, .bool n.o, .slice ai n.l.length ci, .slice az n.z.length cz] 42)) _ _ (by simp)).trans (box_new w _ _)
  have HXn : Hid (((w.alloc (.cells #[.int .i64 n.k, .string n.n, .string n.x, .string n.d, .int .i64 n.c, .int .i64 n.s, .int .i64 n.e, .int .i64 n.t, .bool n.o, .slice ai n.l.length ci, .slice az n.z.length cz] 42)).alloc (.cells #[.int .i64 n.k, .string n.n, .string n.x, .string n.d, .int .i64 m.c, .int .i64 m.s, .int .i64 m.e, .int .i64 m.t, .bool m.o, .slice bi m.l.length di, .slice bz m.z.length dz] 42)).heap[w.heap.size + 1]? = some (.cells #[.int .i64 n.k, .string n.n, .string n.x, .string n.d, .int .i64 m.c, .int .i64 m.s, .int .i64 m.e, .int .i64 m.t, .bool m.o, .slice bi m.l.length di, .slice bz m.z.length dz] 42 (0, 0))) := by
    have := box_new (w.alloc (.cells #[.int .i64 n.k, .string n.n, .string n.x, .string n.d, .int .i64 n.c, .int .i64 n.s, .int .i64 n.e, .int .i64 n.t, .bool n.o, .slice ai n.l.length ci, .slice az n.z.length cz] 42)) #[.int .i64 n.k, .string n.n, .string n.x, .string n.d, .int .i64 m.c, .int .i64 m.s, .int .i64 m.e, .int .i64 m.t, .bool m.o, .slice bi m.l.length di, .slice bz m.z.length dz] 42
    show _ = _
    simpa using this
  have q2 := bne_iff_ne.2 h2
  have l1 := hn.hin
  have l2 := hm.hin
  have l3 := hn.hzn
  have l4 := hm.hzn
  clear hn hm h2
  obtain ⟨m0, m1, m2, m3, m4, m5, m6, m7, m8, m9, m10⟩ := bx11 HXo.out
  obtain ⟨k0, k1, k2, k3, k4, k5, k6, k7, k8, k9, k10⟩ := bx11 HXn.out
  go_enter Tryz.func47, Tryz.ntmps47
  go_upto_region 1 with fail
  generalize ((w.alloc (.cells #[.int .i64 n.k, .string n.n, .string n.x, .string n.d, .int .i64 n.c, .int .i64 n.s, .int .i64 n.e, .int .i64 n.t, .bool n.o, .slice ai n.l.length ci, .slice az n.z.length cz] 42)).alloc (.cells #[.int .i64 n.k, .string n.n, .string n.x, .string n.d, .int .i64 m.c, .int .i64 m.s, .int .i64 m.e, .int .i64 m.t, .bool m.o, .slice bi m.l.length di, .slice bz m.z.length dz] 42)) = W at HB0 HXo HXn m0 m1 m2 m3 m4 m5 m6 m7 m8 m9 m10 k0 k1 k2 k3 k4 k5 k6 k7 k8 k9 k10 ⊢
  have xm0 : ∀ y : Ext W, y.to.cell? _ = _ := fun y => ext_cell y m0
  have xk0 : ∀ y : Ext W, y.to.cell? _ = _ := fun y => ext_cell y k0
  have xm1 : ∀ y : Ext W, y.to.cell? _ = _ := fun y => ext_cell y m1
  have xk1 : ∀ y : Ext W, y.to.cell? _ = _ := fun y => ext_cell y k1
  have xm2 : ∀ y : Ext W, y.to.cell? _ = _ := fun y => ext_cell y m2
  have xk2 : ∀ y : Ext W, y.to.cell? _ = _ := fun y => ext_cell y k2
  have xm3 : ∀ y : Ext W, y.to.cell? _ = _ := fun y => ext_cell y m3
  have xk3 : ∀ y : Ext W, y.to.cell? _ = _ := fun y => ext_cell y k3
  have xm4 : ∀ y : Ext W, y.to.cell? _ = _ := fun y => ext_cell y m4
  have xk4 : ∀ y : Ext W, y.to.cell? _ = _ := fun y => ext_cell y k4
  have xm5 : ∀ y : Ext W, y.to.cell? _ = _ := fun y => ext_cell y m5
  have xk5 : ∀ y : Ext W, y.to.cell? _ = _ := fun y => ext_cell y k5
  have xm6 : ∀ y : Ext W, y.to.cell? _ = _ := fun y => ext_cell y m6
  have xk6 : ∀ y : Ext W, y.to.cell? _ = _ := fun y => ext_cell y k6
  have xm7 : ∀ y : Ext W, y.to.cell? _ = _ := fun y => ext_cell y m7
  have xk7 : ∀ y : Ext W, y.to.cell? _ = _ := fun y => ext_cell y k7
  have xm8 : ∀ y : Ext W, y.to.cell? _ = _ := fun y => ext_cell y m8
  have xk8 : ∀ y : Ext W, y.to.cell? _ = _ := fun y => ext_cell y k8
  have xm9 : ∀ y : Ext W, y.to.cell? _ = _ := fun y => ext_cell y m9
  have xk9 : ∀ y : Ext W, y.to.cell? _ = _ := fun y => ext_cell y k9
  have xm10 : ∀ y : Ext W, y.to.cell? _ = _ := fun y => ext_cell y m10
  have xk10 : ∀ y : Ext W, y.to.cell? _ = _ := fun y => ext_cell y k10
  have hsome := extSome W
  clear HXo HXn m0 m1 m2 m3 m4 m5 m6 m7 m8 m9 m10 k0 k1 k2 k3 k4 k5 k6 k7 k8 k9 k10
  refine plain_quiet ?_
  dsimp only [List.append]
  repeat (go_big_quiet_step (fail))
  refine wpQuiet_nil ?_
  rintro _ ⟨y, hy⟩
  subst hy
  have HB1 := Lib.hid (HB0.out.trans (y.below.mono HB0.out.size))
  clear xm0 xk0 xm1 xk1 xm2 xk2 xm3 xk3 xm4 xk4 xm5 xk5 xm6 xk6 xm7 xk7 xm8 xk8 xm9 xk9 xm10 xk10
  go_wp2_with fail
  go_ret
  exact ⟨rfl, HB1.out⟩
theorem rsame_5 (n m : Nt) (ai az bi bz : Option Addr) (ci cz di dz : Nat) (w : World) (hn : NtL w ai az n) (hm : NtL w bi bz m) (h2 : n.s ≠ m.s) : Calls Tryz.prog 47 #[.agg #[.int .i64 n.k, .string n.n, .string n.x, .string n.d, .int .i64 n.c, .int .i64 n.s, .int .i64 n.e, .int .i64 n.t, .bool n.o, .slice ai n.l.length ci, .slice az n.z.length cz], .agg #[.int .i64 n.k, .string n.n, .string n.x, .string n.d, .int .i64 n.c, .int .i64 m.s, .int .i64 m.e, .int .i64 m.t, .bool m.o, .slice bi m.l.length di, .slice bz m.z.length dz]] w (Gives (.bool false) w) := by
  have HB0 : Hid (Below w.heap.size w ((w.alloc (.cells #[.int .i64 n.k, .string n.n, .string n.x, .string n.d, .int .i64 n.c, .int .i64 n.s, .int .i64 n.e, .int .i64 n.t, .bool n.o, .slice ai n.l.length ci, .slice az n.z.length cz] 42)).alloc (.cells #[.int .i64 n.k, .string n.n, .string n.x, .string n.d, .int .i64 n.c, .int .i64 m.s, .int .i64 m.e, .int .i64 m.t, .bool m.o, .slice bi m.l.length di, .slice bz m.z.length dz] 42))) := ((Below.refl _ w).alloc (Nat.le_refl _) _).alloc (by simp) _
  have HXo : Hid (((w.alloc (.cells #[.int .i64 n.k, .string n.n, .string n.x, .string n.d, .int .i64 n.c, .int .i64 n.s, .int .i64 n.e, .int .i64 n.t, .bool n.o, .slice ai n.l.length ci, .slice az n.z.length cz] 42)).alloc (.cells #[.int .i64 n.k, .string n.n, .string n.x, .string n.d, .int .i64 n.c, .int .i64 m.s, .int .i64 m.e, .int .i64 m.t, .bool m.o, .slice bi m.l.length di, .slice bz m.z.length dz] 42)).heap[w.heap.size]? = some (.cells #[.int .i64 n.k, .string n.n, .string n.x, .string n.d, .int .i64 n.c, .int .i64 n.s, .int .i64 n.e, .int .i64 n.t, .bool n.o, .slice ai n.l.length ci, .slice az n.z.length cz] 42 (0, 0))) := (Below.heap_alloc (w.alloc (.cells #[.int .i64 n.k, .string n.n, .string n.x, .string n.d, .int .i64 n.c, .int .i64 n.s, .int .i64 n.e, .int .i64 n.t, .bool n.o, .slice ai n.l.length ci, .slice az n.z.length cz] 42)) _ _ (by simp)).trans (box_new w _ _)
  have HXn : Hid (((w.alloc (.cells #[.int .i64 n.k, .string n.n, .string n.x, .string n.d, .int .i64 n.c, .int .i64 n.s, .int .i64 n.e, .int .i64 n.t, .bool n.o, .slice ai n.l.length ci, .slice az n.z.length cz] 42)).alloc (.cells #[.int .i64 n.k, .string n.n, .string n.x, .string n.d, .int .i64 n.c, .int .i64 m.s, .int .i64 m.e, .int .i64 m.t, .bool m.o, .slice bi m.l.length di, .slice bz m.z.length dz] 42)).heap[w.heap.size + 1]? = some (.cells #[.int .i64 n.k, .string n.n, .string n.x, .string n.d, .int .i64 n.c, .int .i64 m.s, .int .i64 m.e, .int .i64 m.t, .bool m.o, .slice bi m.l.length di, .slice bz m.z.length dz] 42 (0, 0))) := by
    have := box_new (w.alloc (.cells #[.int .i64 n.k, .string n.n, .string n.x, .string n.d, .int .i64 n.c, .int .i64 n.s, .int .i64 n.e, .int .i64 n.t, .bool n.o, .slice ai n.l.length ci, .slice az n.z.length cz] 42)) #[.int .i64 n.k, .string n.n, .string n.x, .string n.d, .int .i64 n.c, .int .i64 m.s, .int .i64 m.e, .int .i64 m.t, .bool m.o, .slice bi m.l.length di, .slice bz m.z.length dz] 42
    show _ = _
    simpa using this
  have q2 := bne_iff_ne.2 h2
  have l1 := hn.hin
  have l2 := hm.hin
  have l3 := hn.hzn
  have l4 := hm.hzn
  clear hn hm h2
  obtain ⟨m0, m1, m2, m3, m4, m5, m6, m7, m8, m9, m10⟩ := bx11 HXo.out
  obtain ⟨k0, k1, k2, k3, k4, k5, k6, k7, k8, k9, k10⟩ := bx11 HXn.out
  go_enter Tryz.func47, Tryz.ntmps47
  go_upto_region 1 with fail
  generalize ((w.alloc (.cells #[.int .i64 n.k, .string n.n, .string n.x, .string n.d, .int .i64 n.c, .int .i64 n.s, .int .i64 n.e, .int .i64 n.t, .bool n.o, .slice ai n.l.length ci, .slice az n.z.length cz] 42)).alloc (.cells #[.int .i64 n.k, .string n.n, .string n.x, .string n.d, .int .i64 n.c, .int .i64 m.s, .int .i64 m.e, .int .i64 m.t, .bool m.o, .slice bi m.l.length di, .slice bz m.z.length dz] 42)) = W at HB0 HXo HXn m0 m1 m2 m3 m4 m5 m6 m7 m8 m9 m10 k0 k1 k2 k3 k4 k5 k6 k7 k8 k9 k10 ⊢
  have xm0 : ∀ y : Ext W, y.to.cell? _ = _ := fun y => ext_cell y m0
  have xk0 : ∀ y : Ext W, y.to.cell? _ = _ := fun y => ext_cell y k0
  have xm1 : ∀ y : Ext W, y.to.cell? _ = _ := fun y => ext_cell y m1
  have xk1 : ∀ y : Ext W, y.to.cell? _ = _ := fun y => ext_cell y k1
  have xm2 : ∀ y : Ext W, y.to.cell? _ = _ := fun y => ext_cell y m2
  have xk2 : ∀ y : Ext W, y.to.cell? _ = _ := fun y => ext_cell y k2
  have xm3 : ∀ y : Ext W, y.to.cell? _ = _ := fun y => ext_cell y m3
  have xk3 : ∀ y : Ext W, y.to.cell? _ = _ := fun y => ext_cell y k3
  have xm4 : ∀ y : Ext W, y.to.cell? _ = _ := fun y => ext_cell y m4
  have xk4 : ∀ y : Ext W, y.to.cell? _ = _ := fun y => ext_cell y k4
  have xm5 : ∀ y : Ext W, y.to.cell? _ = _ := fun y => ext_cell y m5
  have xk5 : ∀ y : Ext W, y.to.cell? _ = _ := fun y => ext_cell y k5
  have xm6 : ∀ y : Ext W, y.to.cell? _ = _ := fun y => ext_cell y m6
  have xk6 : ∀ y : Ext W, y.to.cell? _ = _ := fun y => ext_cell y k6
  have xm7 : ∀ y : Ext W, y.to.cell? _ = _ := fun y => ext_cell y m7
  have xk7 : ∀ y : Ext W, y.to.cell? _ = _ := fun y => ext_cell y k7
  have xm8 : ∀ y : Ext W, y.to.cell? _ = _ := fun y => ext_cell y m8
  have xk8 : ∀ y : Ext W, y.to.cell? _ = _ := fun y => ext_cell y k8
  have xm9 : ∀ y : Ext W, y.to.cell? _ = _ := fun y => ext_cell y m9
  have xk9 : ∀ y : Ext W, y.to.cell? _ = _ := fun y => ext_cell y k9
  have xm10 : ∀ y : Ext W, y.to.cell? _ = _ := fun y => ext_cell y m10
  have xk10 : ∀ y : Ext W, y.to.cell? _ = _ := fun y => ext_cell y k10
  have hsome := extSome W
  clear HXo HXn m0 m1 m2 m3 m4 m5 m6 m7 m8 m9 m10 k0 k1 k2 k3 k4 k5 k6 k7 k8 k9 k10
  refine plain_quiet ?_
  dsimp only [List.append]
  repeat (go_big_quiet_step (fail))
  refine wpQuiet_nil ?_
  rintro _ ⟨y, hy⟩
  subst hy
  have HB1 := Lib.hid (HB0.out.trans (y.below.mono HB0.out.size))
  clear xm0 xk0 xm1 xk1 xm2 xk2 xm3 xk3 xm4 xk4 xm5 xk5 xm6 xk6 xm7 xk7 xm8 xk8 xm9 xk9 xm10 xk10
  go_wp2_with fail
  go_ret
  exact ⟨rfl, HB1.out⟩
theorem rsame_6 (n m : Nt) (ai az bi bz : Option Addr) (ci cz di dz : Nat) (w : World) (hn : NtL w ai az n) (hm : NtL w bi bz m) (h2 : n.e ≠ m.e) : Calls Tryz.prog 47 #[.agg #[.int .i64 n.k, .string n.n, .string n.x, .string n.d, .int .i64 n.c, .int .i64 n.s, .int .i64 n.e, .int .i64 n.t, .bool n.o, .slice ai n.l.length ci, .slice az n.z.length cz], .agg #[.int .i64 n.k, .string n.n, .string n.x, .string n.d, .int .i64 n.c, .int .i64 n.s, .int .i64 m.e, .int .i64 m.t, .bool m.o, .slice bi m.l.length di, .slice bz m.z.length dz]] w (Gives (.bool false) w) := by
  have HB0 : Hid (Below w.heap.size w ((w.alloc (.cells #[.int .i64 n.k, .string n.n, .string n.x, .string n.d, .int .i64 n.c, .int .i64 n.s, .int .i64 n.e, .int .i64 n.t, .bool n.o, .slice ai n.l.length ci, .slice az n.z.length cz] 42)).alloc (.cells #[.int .i64 n.k, .string n.n, .string n.x, .string n.d, .int .i64 n.c, .int .i64 n.s, .int .i64 m.e, .int .i64 m.t, .bool m.o, .slice bi m.l.length di, .slice bz m.z.length dz] 42))) := ((Below.refl _ w).alloc (Nat.le_refl _) _).alloc (by simp) _
  have HXo : Hid (((w.alloc (.cells #[.int .i64 n.k, .string n.n, .string n.x, .string n.d, .int .i64 n.c, .int .i64 n.s, .int .i64 n.e, .int .i64 n.t, .bool n.o, .slice ai n.l.length ci, .slice az n.z.length cz] 42)).alloc (.cells #[.int .i64 n.k, .string n.n, .string n.x, .string n.d, .int .i64 n.c, .int .i64 n.s, .int .i64 m.e, .int .i64 m.t, .bool m.o, .slice bi m.l.length di, .slice bz m.z.length dz] 42)).heap[w.heap.size]? = some (.cells #[.int .i64 n.k, .string n.n, .string n.x, .string n.d, .int .i64 n.c, .int .i64 n.s, .int .i64 n.e, .int .i64 n.t, .bool n.o, .slice ai n.l.length ci, .slice az n.z.length cz] 42 (0, 0))) := (Below.heap_alloc (w.alloc (.cells #[.int .i64 n.k, .string n.n, .string n.x, .string n.d, .int .i64 n.c, .int .i64 n.s, .int .i64 n.e, .int .i64 n.t, .bool n.o, .slice ai n.l.length ci, .slice az n.z.length cz] 42)) _ _ (by simp)).trans (box_new w _ _)
  have HXn : Hid (((w.alloc (.cells #[.int .i64 n.k, .string n.n, .string n.x, .string n.d, .int .i64 n.c, .int .i64 n.s, .int .i64 n.e, .int .i64 n.t, .bool n.o, .slice ai n.l.length ci, .slice az n.z.length cz] 42)).alloc (.cells #[.int .i64 n.k, .string n.n, .string n.x, .string n.d, .int .i64 n.c, .int .i64 n.s, .int .i64 m.e, .int .i64 m.t, .bool m.o, .slice bi m.l.length di, .slice bz m.z.length dz] 42)).heap[w.heap.size + 1]? = some (.cells #[.int .i64 n.k, .string n.n, .string n.x, .string n.d, .int .i64 n.c, .int .i64 n.s, .int .i64 m.e, .int .i64 m.t, .bool m.o, .slice bi m.l.length di, .slice bz m.z.length dz] 42 (0, 0))) := by
    have := box_new (w.alloc (.cells #[.int .i64 n.k, .string n.n, .string n.x, .string n.d, .int .i64 n.c, .int .i64 n.s, .int .i64 n.e, .int .i64 n.t, .bool n.o, .slice ai n.l.length ci, .slice az n.z.length cz] 42)) #[.int .i64 n.k, .string n.n, .string n.x, .string n.d, .int .i64 n.c, .int .i64 n.s, .int .i64 m.e, .int .i64 m.t, .bool m.o, .slice bi m.l.length di, .slice bz m.z.length dz] 42
    show _ = _
    simpa using this
  have q2 := bne_iff_ne.2 h2
  have l1 := hn.hin
  have l2 := hm.hin
  have l3 := hn.hzn
  have l4 := hm.hzn
  clear hn hm h2
  obtain ⟨m0, m1, m2, m3, m4, m5, m6, m7, m8, m9, m10⟩ := bx11 HXo.out
  obtain ⟨k0, k1, k2, k3, k4, k5, k6, k7, k8, k9, k10⟩ := bx11 HXn.out
  go_enter Tryz.func47, Tryz.ntmps47
  go_upto_region 1 with fail
  generalize ((w.alloc (.cells #[.int .i64 n.k, .string n.n, .string n.x, .string n.d, .int .i64 n.c, .int .i64 n.s, .int .i64 n.e, .int .i64 n.t, .bool n.o, .slice ai n.l.length ci, .slice az n.z.length cz] 42)).alloc (.cells #[.int .i64 n.k, .string n.n, .string n.x, .string n.d, .int .i64 n.c, .int .i64 n.s, .int .i64 m.e, .int .i64 m.t, .bool m.o, .slice bi m.l.length di, .slice bz m.z.length dz] 42)) = W at HB0 HXo HXn m0 m1 m2 m3 m4 m5 m6 m7 m8 m9 m10 k0 k1 k2 k3 k4 k5 k6 k7 k8 k9 k10 ⊢
  have xm0 : ∀ y : Ext W, y.to.cell? _ = _ := fun y => ext_cell y m0
  have xk0 : ∀ y : Ext W, y.to.cell? _ = _ := fun y => ext_cell y k0
  have xm1 : ∀ y : Ext W, y.to.cell? _ = _ := fun y => ext_cell y m1
  have xk1 : ∀ y : Ext W, y.to.cell? _ = _ := fun y => ext_cell y k1
  have xm2 : ∀ y : Ext W, y.to.cell? _ = _ := fun y => ext_cell y m2
  have xk2 : ∀ y : Ext W, y.to.cell? _ = _ := fun y => ext_cell y k2
  have xm3 : ∀ y : Ext W, y.to.cell? _ = _ := fun y => ext_cell y m3
  have xk3 : ∀ y : Ext W, y.to.cell? _ = _ := fun y => ext_cell y k3
  have xm4 : ∀ y : Ext W, y.to.cell? _ = _ := fun y => ext_cell y m4
  have xk4 : ∀ y : Ext W, y.to.cell? _ = _ := fun y => ext_cell y k4
  have xm5 : ∀ y : Ext W, y.to.cell? _ = _ := fun y => ext_cell y m5
  have xk5 : ∀ y : Ext W, y.to.cell? _ = _ := fun y => ext_cell y k5
  have xm6 : ∀ y : Ext W, y.to.cell? _ = _ := fun y => ext_cell y m6
  have xk6 : ∀ y : Ext W, y.to.cell? _ = _ := fun y => ext_cell y k6
  have xm7 : ∀ y : Ext W, y.to.cell? _ = _ := fun y => ext_cell y m7
  have xk7 : ∀ y : Ext W, y.to.cell? _ = _ := fun y => ext_cell y k7
  have xm8 : ∀ y : Ext W, y.to.cell? _ = _ := fun y => ext_cell y m8
  have xk8 : ∀ y : Ext W, y.to.cell? _ = _ := fun y => ext_cell y k8
  have xm9 : ∀ y : Ext W, y.to.cell? _ = _ := fun y => ext_cell y m9
  have xk9 : ∀ y : Ext W, y.to.cell? _ = _ := fun y => ext_cell y k9
  have xm10 : ∀ y : Ext W, y.to.cell? _ = _ := fun y => ext_cell y m10
  have xk10 : ∀ y : Ext W, y.to.cell? _ = _ := fun y => ext_cell y k10
  have hsome := extSome W
  clear HXo HXn m0 m1 m2 m3 m4 m5 m6 m7 m8 m9 m10 k0 k1 k2 k3 k4 k5 k6 k7 k8 k9 k10
  refine plain_quiet ?_
  dsimp only [List.append]
  repeat (go_big_quiet_step (fail))
  refine wpQuiet_nil ?_
  rintro _ ⟨y, hy⟩
  subst hy
  have HB1 := Lib.hid (HB0.out.trans (y.below.mono HB0.out.size))
  clear xm0 xk0 xm1 xk1 xm2 xk2 xm3 xk3 xm4 xk4 xm5 xk5 xm6 xk6 xm7 xk7 xm8 xk8 xm9 xk9 xm10 xk10
  go_wp2_with fail
  go_ret
  exact ⟨rfl, HB1.out⟩
theorem rsame_7 (n m : Nt) (ai az bi bz : Option Addr) (ci cz di dz : Nat) (w : World) (hn : NtL w ai az n) (hm : NtL w bi bz m) (h2 : n.t ≠ m.t) : Calls Tryz.prog 47 #[.agg #[.int .i64 n.k, .string n.n, .string n.x, .string n.d, .int .i64 n.c, .int .i64 n.s, .int .i64 n.e, .int .i64 n.t, .bool n.o, .slice ai n.l.length ci, .slice az n.z.length cz], .agg #[.int .i64 n.k, .string n.n, .string n.x, .string n.d, .int .i64 n.c, .int .i64 n.s, .int .i64 n.e, .int .i64 m.t, .bool m.o, .slice bi m.l.length di, .slice bz m.z.length dz]] w (Gives (.bool false) w) := by
  have HB0 : Hid (Below w.heap.size w ((w.alloc (.cells #[.int .i64 n.k, .string n.n, .string n.x, .string n.d, .int .i64 n.c, .int .i64 n.s, .int .i64 n.e, .int .i64 n.t, .bool n.o, .slice ai n.l.length ci, .slice az n.z.length cz] 42)).alloc (.cells #[.int .i64 n.k, .string n.n, .string n.x, .string n.d, .int .i64 n.c, .int .i64 n.s, .int .i64 n.e, .int .i64 m.t, .bool m.o, .slice bi m.l.length di, .slice bz m.z.length dz] 42))) := ((Below.refl _ w).alloc (Nat.le_refl _) _).alloc (by simp) _
  have HXo : Hid (((w.alloc (.cells #[.int .i64 n.k, .string n.n, .string n.x, .string n.d, .int .i64 n.c, .int .i64 n.s, .int .i64 n.e, .int .i64 n.t, .bool n.o, .slice ai n.l.length ci, .slice az n.z.length cz] 42)).alloc (.cells #[.int .i64 n.k, .string n.n, .string n.x, .string n.d, .int .i64 n.c, .int .i64 n.s, .int .i64 n.e, .int .i64 m.t, .bool m.o, .slice bi m.l.length di, .slice bz m.z.length dz] 42)).heap[w.heap.size]? = some (.cells #[.int .i64 n.k, .string n.n, .string n.x, .string n.d, .int .i64 n.c, .int .i64 n.s, .int .i64 n.e, .int .i64 n.t, .bool n.o, .slice ai n.l.length ci, .slice az n.z.length cz] 42 (0, 0))) := (Below.heap_alloc (w.alloc (.cells #[.int .i64 n.k, .string n.n, .string n.x, .string n.d, .int .i64 n.c, .int .i64 n.s, .int .i64 n.e, .int .i64 n.t, .bool n.o, .slice ai n.l.length ci, .slice az n.z.length cz] 42)) _ _ (by simp)).trans (box_new w _ _)
  have HXn : Hid (((w.alloc (.cells #[.int .i64 n.k, .string n.n, .string n.x, .string n.d, .int .i64 n.c, .int .i64 n.s, .int .i64 n.e, .int .i64 n.t, .bool n.o, .slice ai n.l.length ci, .slice az n.z.length cz] 42)).alloc (.cells #[.int .i64 n.k, .string n.n, .string n.x, .string n.d, .int .i64 n.c, .int .i64 n.s, .int .i64 n.e, .int .i64 m.t, .bool m.o, .slice bi m.l.length di, .slice bz m.z.length dz] 42)).heap[w.heap.size + 1]? = some (.cells #[.int .i64 n.k, .string n.n, .string n.x, .string n.d, .int .i64 n.c, .int .i64 n.s, .int .i64 n.e, .int .i64 m.t, .bool m.o, .slice bi m.l.length di, .slice bz m.z.length dz] 42 (0, 0))) := by
    have := box_new (w.alloc (.cells #[.int .i64 n.k, .string n.n, .string n.x, .string n.d, .int .i64 n.c, .int .i64 n.s, .int .i64 n.e, .int .i64 n.t, .bool n.o, .slice ai n.l.length ci, .slice az n.z.length cz] 42)) #[.int .i64 n.k, .string n.n, .string n.x, .string n.d, .int .i64 n.c, .int .i64 n.s, .int .i64 n.e, .int .i64 m.t, .bool m.o, .slice bi m.l.length di, .slice bz m.z.length dz] 42
    show _ = _
    simpa using this
  have q2 := bne_iff_ne.2 h2
  have l1 := hn.hin
  have l2 := hm.hin
  have l3 := hn.hzn
  have l4 := hm.hzn
  clear hn hm h2
  obtain ⟨m0, m1, m2, m3, m4, m5, m6, m7, m8, m9, m10⟩ := bx11 HXo.out
  obtain ⟨k0, k1, k2, k3, k4, k5, k6, k7, k8, k9, k10⟩ := bx11 HXn.out
  go_enter Tryz.func47, Tryz.ntmps47
  go_upto_region 1 with fail
  generalize ((w.alloc (.cells #[.int .i64 n.k, .string n.n, .string n.x, .string n.d, .int .i64 n.c, .int .i64 n.s, .int .i64 n.e, .int .i64 n.t, .bool n.o, .slice ai n.l.length ci, .slice az n.z.length cz] 42)).alloc (.cells #[.int .i64 n.k, .string n.n, .string n.x, .string n.d, .int .i64 n.c, .int .i64 n.s, .int .i64 n.e, .int .i64 m.t, .bool m.o, .slice bi m.l.length di, .slice bz m.z.length dz] 42)) = W at HB0 HXo HXn m0 m1 m2 m3 m4 m5 m6 m7 m8 m9 m10 k0 k1 k2 k3 k4 k5 k6 k7 k8 k9 k10 ⊢
  have xm0 : ∀ y : Ext W, y.to.cell? _ = _ := fun y => ext_cell y m0
  have xk0 : ∀ y : Ext W, y.to.cell? _ = _ := fun y => ext_cell y k0
  have xm1 : ∀ y : Ext W, y.to.cell? _ = _ := fun y => ext_cell y m1
  have xk1 : ∀ y : Ext W, y.to.cell? _ = _ := fun y => ext_cell y k1
  have xm2 : ∀ y : Ext W, y.to.cell? _ = _ := fun y => ext_cell y m2
  have xk2 : ∀ y : Ext W, y.to.cell? _ = _ := fun y => ext_cell y k2
  have xm3 : ∀ y : Ext W, y.to.cell? _ = _ := fun y => ext_cell y m3
  have xk3 : ∀ y : Ext W, y.to.cell? _ = _ := fun y => ext_cell y k3
  have xm4 : ∀ y : Ext W, y.to.cell? _ = _ := fun y => ext_cell y m4
  have xk4 : ∀ y : Ext W, y.to.cell? _ = _ := fun y => ext_cell y k4
  have xm5 : ∀ y : Ext W, y.to.cell? _ = _ := fun y => ext_cell y m5
  have xk5 : ∀ y : Ext W, y.to.cell? _ = _ := fun y => ext_cell y k5
  have xm6 : ∀ y : Ext W, y.to.cell? _ = _ := fun y => ext_cell y m6
  have xk6 : ∀ y : Ext W, y.to.cell? _ = _ := fun y => ext_cell y k6
  have xm7 : ∀ y : Ext W, y.to.cell? _ = _ := fun y => ext_cell y m7
  have xk7 : ∀ y : Ext W, y.to.cell? _ = _ := fun y => ext_cell y k7
  have xm8 : ∀ y : Ext W, y.to.cell? _ = _ := fun y => ext_cell y m8
  have xk8 : ∀ y : Ext W, y.to.cell? _ = _ := fun y => ext_cell y k8
  have xm9 : ∀ y : Ext W, y.to.cell? _ = _ := fun y => ext_cell y m9
  have xk9 : ∀ y : Ext W, y.to.cell? _ = _ := fun y => ext_cell y k9
  have xm10 : ∀ y : Ext W, y.to.cell? _ = _ := fun y => ext_cell y m10
  have xk10 : ∀ y : Ext W, y.to.cell? _ = _ := fun y => ext_cell y k10
  have hsome := extSome W
  clear HXo HXn m0 m1 m2 m3 m4 m5 m6 m7 m8 m9 m10 k0 k1 k2 k3 k4 k5 k6 k7 k8 k9 k10
  refine plain_quiet ?_
  dsimp only [List.append]
  repeat (go_big_quiet_step (fail))
  refine wpQuiet_nil ?_
  rintro _ ⟨y, hy⟩
  subst hy
  have HB1 := Lib.hid (HB0.out.trans (y.below.mono HB0.out.size))
  clear xm0 xk0 xm1 xk1 xm2 xk2 xm3 xk3 xm4 xk4 xm5 xk5 xm6 xk6 xm7 xk7 xm8 xk8 xm9 xk9 xm10 xk10
  go_wp2_with fail
  go_ret
  exact ⟨rfl, HB1.out⟩
theorem rsame_8_0 (n m : Nt) (ai az bi bz : Option Addr) (ci cz di dz : Nat) (w : World) (hn : NtL w ai az n) (hm : NtL w bi bz m)  : Calls Tryz.prog 47 #[.agg #[.int .i64 n.k, .string n.n, .string n.x, .string n.d, .int .i64 n.c, .int .i64 n.s, .int .i64 n.e, .int .i64 n.t, .bool false, .slice ai n.l.length ci, .slice az n.z.length cz], .agg #[.int .i64 n.k, .string n.n, .string n.x, .string n.d, .int .i64 n.c, .int .i64 n.s, .int .i64 n.e, .int .i64 n.t, .bool true, .slice bi m.l.length di, .slice bz m.z.length dz]] w (Gives (.bool false) w) := by
  have HB0 : Hid (Below w.heap.size w ((w.alloc (.cells #[.int .i64 n.k, .string n.n, .string n.x, .string n.d, .int .i64 n.c, .int .i64 n.s, .int .i64 n.e, .int .i64 n.t, .bool false, .slice ai n.l.length ci, .slice az n.z.length cz] 42)).alloc (.cells #[.int .i64 n.k, .string n.n, .string n.x, .string n.d, .int .i64 n.c, .int .i64 n.s, .int .i64 n.e, .int .i64 n.t, .bool true, .slice bi m.l.length di, .slice bz m.z.length dz] 42))) := ((Below.refl _ w).alloc (Nat.le_refl _) _).alloc (by simp) _
  have HXo : Hid (((w.alloc (.cells #[.int .i64 n.k, .string n.n, .string n.x, .string n.d, .int .i64 n.c, .int .i64 n.s, .int .i64 n.e, .int .i64 n.t, .bool false, .slice ai n.l.length ci, .slice az n.z.length cz] 42)).alloc (.cells #[.int .i64 n.k, .string n.n, .string n.x, .string n.d, .int .i64 n.c, .int .i64 n.s, .int .i64 n.e, .int .i64 n.t, .bool true, .slice bi m.l.length di, .slice bz m.z.length dz] 42)).heap[w.heap.size]? = some (.cells #[.int .i64 n.k, .string n.n, .string n.x, .string n.d, .int .i64 n.c, .int .i64 n.s, .int .i64 n.e, .int .i64 n.t, .bool false, .slice ai n.l.length ci, .slice az n.z.length cz] 42 (0, 0))) := (Below.heap_alloc (w.alloc (.cells #[.int .i64 n.k, .string n.n, .string n.x, .string n.d, .int .i64 n.c, .int .i64 n.s, .int .i64 n.e, .int .i64 n.t, .bool false, .slice ai n.l.length ci, .slice az n.z.length cz] 42)) _ _ (by simp)).trans (box_new w _ _)
  have HXn : Hid (((w.alloc (.cells #[.int .i64 n.k, .string n.n, .string n.x, .string n.d, .int .i64 n.c, .int .i64 n.s, .int .i64 n.e, .int .i64 n.t, .bool false, .slice ai n.l.length ci, .slice az n.z.length cz] 42)).alloc (.cells #[.int .i64 n.k, .string n.n, .string n.x, .string n.d, .int .i64 n.c, .int .i64 n.s, .int .i64 n.e, .int .i64 n.t, .bool true, .slice bi m.l.length di, .slice bz m.z.length dz] 42)).heap[w.heap.size + 1]? = some (.cells #[.int .i64 n.k, .string n.n, .string n.x, .string n.d, .int .i64 n.c, .int .i64 n.s, .int .i64 n.e, .int .i64 n.t, .bool true, .slice bi m.l.length di, .slice bz m.z.length dz] 42 (0, 0))) := by
    have := box_new (w.alloc (.cells #[.int .i64 n.k, .string n.n, .string n.x, .string n.d, .int .i64 n.c, .int .i64 n.s, .int .i64 n.e, .int .i64 n.t, .bool false, .slice ai n.l.length ci, .slice az n.z.length cz] 42)) #[.int .i64 n.k, .string n.n, .string n.x, .string n.d, .int .i64 n.c, .int .i64 n.s, .int .i64 n.e, .int .i64 n.t, .bool true, .slice bi m.l.length di, .slice bz m.z.length dz] 42
    show _ = _
    simpa using this
  have l1 := hn.hin
  have l2 := hm.hin
  have l3 := hn.hzn
  have l4 := hm.hzn
  clear hn hm
  obtain ⟨m0, m1, m2, m3, m4, m5, m6, m7, m8, m9, m10⟩ := bx11 HXo.out
  obtain ⟨k0, k1, k2, k3, k4, k5, k6, k7, k8, k9, k10⟩ := bx11 HXn.out
  go_enter Tryz.func47, Tryz.ntmps47
  go_upto_region 1 with fail
  generalize ((w.alloc (.cells #[.int .i64 n.k, .string n.n, .string n.x, .string n.d, .int .i64 n.c, .int .i64 n.s, .int .i64 n.e, .int .i64 n.t, .bool false, .slice ai n.l.length ci, .slice az n.z.length cz] 42)).alloc (.cells #[.int .i64 n.k, .string n.n, .string n.x, .string n.d, .int .i64 n.c, .int .i64 n.s, .int .i64 n.e, .int .i64 n.t, .bool true, .slice bi m.l.length di, .slice bz m.z.length dz] 42)) = W at HB0 HXo HXn m0 m1 m2 m3 m4 m5 m6 m7 m8 m9 m10 k0 k1 k2 k3 k4 k5 k6 k7 k8 k9 k10 ⊢
  have xm0 : ∀ y : Ext W, y.to.cell? _ = _ := fun y => ext_cell y m0
  have xk0 : ∀ y : Ext W, y.to.cell? _ = _ := fun y => ext_cell y k0
  have xm1 : ∀ y : Ext W, y.to.cell? _ = _ := fun y => ext_cell y m1
  have xk1 : ∀ y : Ext W, y.to.cell? _ = _ := fun y => ext_cell y k1
  have xm2 : ∀ y : Ext W, y.to.cell? _ = _ := fun y => ext_cell y m2
  have xk2 : ∀ y : Ext W, y.to.cell? _ = _ := fun y => ext_cell y k2
  have xm3 : ∀ y : Ext W, y.to.cell? _ = _ := fun y => ext_cell y m3
  have xk3 : ∀ y : Ext W, y.to.cell? _ = _ := fun y => ext_cell y k3
  have xm4 : ∀ y : Ext W, y.to.cell? _ = _ := fun y => ext_cell y m4
  have xk4 : ∀ y : Ext W, y.to.cell? _ = _ := fun y => ext_cell y k4
  have xm5 : ∀ y : Ext W, y.to.cell? _ = _ := fun y => ext_cell y m5
  have xk5 : ∀ y : Ext W, y.to.cell? _ = _ := fun y => ext_cell y k5
  have xm6 : ∀ y : Ext W, y.to.cell? _ = _ := fun y => ext_cell y m6
  have xk6 : ∀ y : Ext W, y.to.cell? _ = _ := fun y => ext_cell y k6
  have xm7 : ∀ y : Ext W, y.to.cell? _ = _ := fun y => ext_cell y m7
  have xk7 : ∀ y : Ext W, y.to.cell? _ = _ := fun y => ext_cell y k7
  have xm8 : ∀ y : Ext W, y.to.cell? _ = _ := fun y => ext_cell y m8
  have xk8 : ∀ y : Ext W, y.to.cell? _ = _ := fun y => ext_cell y k8
  have xm9 : ∀ y : Ext W, y.to.cell? _ = _ := fun y => ext_cell y m9
  have xk9 : ∀ y : Ext W, y.to.cell? _ = _ := fun y => ext_cell y k9
  have xm10 : ∀ y : Ext W, y.to.cell? _ = _ := fun y => ext_cell y m10
  have xk10 : ∀ y : Ext W, y.to.cell? _ = _ := fun y => ext_cell y k10
  have hsome := extSome W
  clear HXo HXn m0 m1 m2 m3 m4 m5 m6 m7 m8 m9 m10 k0 k1 k2 k3 k4 k5 k6 k7 k8 k9 k10
  refine plain_quiet ?_
  dsimp only [List.append]
  repeat (go_big_quiet_step (fail))
  refine wpQuiet_nil ?_
  rintro _ ⟨y, hy⟩
  subst hy
  have HB1 := Lib.hid (HB0.out.trans (y.below.mono HB0.out.size))
  clear xm0 xk0 xm1 xk1 xm2 xk2 xm3 xk3 xm4 xk4 xm5 xk5 xm6 xk6 xm7 xk7 xm8 xk8 xm9 xk9 xm10 xk10
  go_wp2_with fail
  go_ret
  exact ⟨rfl, HB1.out⟩
theorem rsame_8_1 (n m : Nt) (ai az bi bz : Option Addr) (ci cz di dz : Nat) (w : World) (hn : NtL w ai az n) (hm : NtL w bi bz m)  : Calls Tryz.prog 47 #[.agg #[.int .i64 n.k, .string n.n, .string n.x, .string n.d, .int .i64 n.c, .int .i64 n.s, .int .i64 n.e, .int .i64 n.t, .bool true, .slice ai n.l.length ci, .slice az n.z.length cz], .agg #[.int .i64 n.k, .string n.n, .string n.x, .string n.d, .int .i64 n.c, .int .i64 n.s, .int .i64 n.e, .int .i64 n.t, .bool false, .slice bi m.l.length di, .slice bz m.z.length dz]] w (Gives (.bool false) w) := by
  have HB0 : Hid (Below w.heap.size w ((w.alloc (.cells #[.int .i64 n.k, .string n.n, .string n.x, .string n.d, .int .i64 n.c, .int .i64 n.s, .int .i64 n.e, .int .i64 n.t, .bool true, .slice ai n.l.length ci, .slice az n.z.length cz] 42)).alloc (.cells #[.int .i64 n.k, .string n.n, .string n.x, .string n.d, .int .i64 n.c, .int .i64 n.s, .int .i64 n.e, .int .i64 n.t, .bool false, .slice bi m.l.length di, .slice bz m.z.length dz] 42))) := ((Below.refl _ w).alloc (Nat.le_refl _) _).alloc (by simp) _
  have HXo : Hid (((w.alloc (.cells #[.int .i64 n.k, .string n.n, .string n.x, .string n.d, .int .i64 n.c, .int .i64 n.s, .int .i64 n.e, .int .i64 n.t, .bool true, .slice ai n.l.length ci, .slice az n.z.length cz] 42)).alloc (.cells #[.int .i64 n.k, .string n.n, .string n.x, .string n.d, .int .i64 n.c, .int .i64 n.s, .int .i64 n.e, .int .i64 n.t, .bool false, .slice bi m.l.length di, .slice bz m.z.length dz] 42)).heap[w.heap.size]? = some (.cells #[.int .i64 n.k, .string n.n, .string n.x, .string n.d, .int .i64 n.c, .int .i64 n.s, .int .i64 n.e, .int .i64 n.t, .bool true, .slice ai n.l.length ci, .slice az n.z.length cz] 42 (0, 0))) := (Below.heap_alloc (w.alloc (.cells #[.int .i64 n.k, .string n.n, .string n.x, .string n.d, .int .i64 n.c, .int .i64 n.s, .int .i64 n.e, .int .i64 n.t, .bool true, .slice ai n.l.length ci, .slice az n.z.length cz] 42)) _ _ (by simp)).trans (box_new w _ _)
  have HXn : Hid (((w.alloc (.cells #[.int .i64 n.k, .string n.n, .string n.x, .string n.d, .int .i64 n.c, .int .i64 n.s, .int .i64 n.e, .int .i64 n.t, .bool true, .slice ai n.l.length ci, .slice az n.z.length cz] 42)).alloc (.cells #[.int .i64 n.k, .string n.n, .string n.x, .string n.d, .int .i64 n.c, .int .i64 n.s, .int .i64 n.e, .int .i64 n.t, .bool false, .slice bi m.l.length di, .slice bz m.z.length dz] 42)).heap[w.heap.size + 1]? = some (.cells #[.int .i64 n.k, .string n.n, .string n.x, .string n.d, .int .i64 n.c, .int .i64 n.s, .int .i64 n.e, .int .i64 n.t, .bool false, .slice bi m.l.length di, .slice bz m.z.length dz] 42 (0, 0))) := by
    have := box_new (w.alloc (.cells #[.int .i64 n.k, .string n.n, .string n.x, .string n.d, .int .i64 n.c, .int .i64 n.s, .int .i64 n.e, .int .i64 n.t, .bool true, .slice ai n.l.length ci, .slice az n.z.length cz] 42)) #[.int .i64 n.k, .string n.n, .string n.x, .string n.d, .int .i64 n.c, .int .i64 n.s, .int .i64 n.e, .int .i64 n.t, .bool false, .slice bi m.l.length di, .slice bz m.z.length dz] 42
    show _ = _
    simpa using this
  have l1 := hn.hin
  have l2 := hm.hin
  have l3 := hn.hzn
  have l4 := hm.hzn
  clear hn hm
  obtain ⟨m0, m1, m2, m3, m4, m5, m6, m7, m8, m9, m10⟩ := bx11 HXo.out
  obtain ⟨k0, k1, k2, k3, k4, k5, k6, k7, k8, k9, k10⟩ := bx11 HXn.out
  go_enter Tryz.func47, Tryz.ntmps47
  go_upto_region 1 with fail
  generalize ((w.alloc (.cells #[.int .i64 n.k, .string n.n, .string n.x, .string n.d, .int .i64 n.c, .int .i64 n.s, .int .i64 n.e, .int .i64 n.t, .bool true, .slice ai n.l.length ci, .slice az n.z.length cz] 42)).alloc (.cells #[.int .i64 n.k, .string n.n, .string n.x, .string n.d, .int .i64 n.c, .int .i64 n.s, .int .i64 n.e, .int .i64 n.t, .bool false, .slice bi m.l.length di, .slice bz m.z.length dz] 42)) = W at HB0 HXo HXn m0 m1 m2 m3 m4 m5 m6 m7 m8 m9 m10 k0 k1 k2 k3 k4 k5 k6 k7 k8 k9 k10 ⊢
  have xm0 : ∀ y : Ext W, y.to.cell? _ = _ := fun y => ext_cell y m0
  have xk0 : ∀ y : Ext W, y.to.cell? _ = _ := fun y => ext_cell y k0
  have xm1 : ∀ y : Ext W, y.to.cell? _ = _ := fun y => ext_cell y m1
  have xk1 : ∀ y : Ext W, y.to.cell? _ = _ := fun y => ext_cell y k1
  have xm2 : ∀ y : Ext W, y.to.cell? _ = _ := fun y => ext_cell y m2
  have xk2 : ∀ y : Ext W, y.to.cell? _ = _ := fun y => ext_cell y k2
  have xm3 : ∀ y : Ext W, y.to.cell? _ = _ := fun y => ext_cell y m3
  have xk3 : ∀ y : Ext W, y.to.cell? _ = _ := fun y => ext_cell y k3
  have xm4 : ∀ y : Ext W, y.to.cell? _ = _ := fun y => ext_cell y m4
  have xk4 : ∀ y : Ext W, y.to.cell? _ = _ := fun y => ext_cell y k4
  have xm5 : ∀ y : Ext W, y.to.cell? _ = _ := fun y => ext_cell y m5
  have xk5 : ∀ y : Ext W, y.to.cell? _ = _ := fun y => ext_cell y k5
  have xm6 : ∀ y : Ext W, y.to.cell? _ = _ := fun y => ext_cell y m6
  have xk6 : ∀ y : Ext W, y.to.cell? _ = _ := fun y => ext_cell y k6
  have xm7 : ∀ y : Ext W, y.to.cell? _ = _ := fun y => ext_cell y m7
  have xk7 : ∀ y : Ext W, y.to.cell? _ = _ := fun y => ext_cell y k7
  have xm8 : ∀ y : Ext W, y.to.cell? _ = _ := fun y => ext_cell y m8
  have xk8 : ∀ y : Ext W, y.to.cell? _ = _ := fun y => ext_cell y k8
  have xm9 : ∀ y : Ext W, y.to.cell? _ = _ := fun y => ext_cell y m9
  have xk9 : ∀ y : Ext W, y.to.cell? _ = _ := fun y => ext_cell y k9
  have xm10 : ∀ y : Ext W, y.to.cell? _ = _ := fun y => ext_cell y m10
  have xk10 : ∀ y : Ext W, y.to.cell? _ = _ := fun y => ext_cell y k10
  have hsome := extSome W
  clear HXo HXn m0 m1 m2 m3 m4 m5 m6 m7 m8 m9 m10 k0 k1 k2 k3 k4 k5 k6 k7 k8 k9 k10
  refine plain_quiet ?_
  dsimp only [List.append]
  repeat (go_big_quiet_step (fail))
  refine wpQuiet_nil ?_
  rintro _ ⟨y, hy⟩
  subst hy
  have HB1 := Lib.hid (HB0.out.trans (y.below.mono HB0.out.size))
  clear xm0 xk0 xm1 xk1 xm2 xk2 xm3 xk3 xm4 xk4 xm5 xk5 xm6 xk6 xm7 xk7 xm8 xk8 xm9 xk9 xm10 xk10
  go_wp2_with fail
  go_ret
  exact ⟨rfl, HB1.out⟩
theorem rsame_9 (n m : Nt) (ai az bi bz : Option Addr) (ci cz di dz : Nat) (w : World) (hn : NtL w ai az n) (hm : NtL w bi bz m) (h2 : n.l.length ≠ m.l.length) : Calls Tryz.prog 47 #[.agg #[.int .i64 n.k, .string n.n, .string n.x, .string n.d, .int .i64 n.c, .int .i64 n.s, .int .i64 n.e, .int .i64 n.t, .bool n.o, .slice ai n.l.length ci, .slice az n.z.length cz], .agg #[.int .i64 n.k, .string n.n, .string n.x, .string n.d, .int .i64 n.c, .int .i64 n.s, .int .i64 n.e, .int .i64 n.t, .bool n.o, .slice bi m.l.length di, .slice bz m.z.length dz]] w (Gives (.bool false) w) := by
  have HB0 : Hid (Below w.heap.size w ((w.alloc (.cells #[.int .i64 n.k, .string n.n, .string n.x, .string n.d, .int .i64 n.c, .int .i64 n.s, .int .i64 n.e, .int .i64 n.t, .bool n.o, .slice ai n.l.length ci, .slice az n.z.length cz] 42)).alloc (.cells #[.int .i64 n.k, .string n.n, .string n.x, .string n.d, .int .i64 n.c, .int .i64 n.s, .int .i64 n.e, .int .i64 n.t, .bool n.o, .slice bi m.l.length di, .slice bz m.z.length dz] 42))) := ((Below.refl _ w).alloc (Nat.le_refl _) _).alloc (by simp) _
  have HXo : Hid (((w.alloc (.cells #[.int .i64 n.k, .string n.n, .string n.x, .string n.d, .int .i64 n.c, .int .i64 n.s, .int .i64 n.e, .int .i64 n.t, .bool n.o, .slice ai n.l.length ci, .slice az n.z.length cz] 42)).alloc (.cells #[.int .i64 n.k, .string n.n, .string n.x, .string n.d, .int .i64 n.c, .int .i64 n.s, .int .i64 n.e, .int .i64 n.t, .bool n.o, .slice bi m.l.length di, .slice bz m.z.length dz] 42)).heap[w.heap.size]? = some (.cells #[.int .i64 n.k, .string n.n, .string n.x, .string n.d, .int .i64 n.c, .int .i64 n.s, .int .i64 n.e, .int .i64 n.t, .bool n.o, .slice ai n.l.length ci, .slice az n.z.length cz] 42 (0, 0))) := (Below.heap_alloc (w.alloc (.cells #[.int .i64 n.k, .string n.n, .string n.x, .string n.d, .int .i64 n.c, .int .i64 n.s, .int .i64 n.e, .int .i64 n.t, .bool n.o, .slice ai n.l.length ci, .slice az n.z.length cz] 42)) _ _ (by simp)).trans (box_new w _ _)
  have HXn : Hid (((w.alloc (.cells #[.int .i64 n.k, .string n.n, .string n.x, .string n.d, .int .i64 n.c, .int .i64 n.s, .int .i64 n.e, .int .i64 n.t, .bool n.o, .slice ai n.l.length ci, .slice az n.z.length cz] 42)).alloc (.cells #[.int .i64 n.k, .string n.n, .string n.x, .string n.d, .int .i64 n.c, .int .i64 n.s, .int .i64 n.e, .int .i64 n.t, .bool n.o, .slice bi m.l.length di, .slice bz m.z.length dz] 42)).heap[w.heap.size + 1]? = some (.cells #[.int .i64 n.k, .string n.n, .string n.x, .string n.d, .int .i64 n.c, .int .i64 n.s, .int .i64 n.e, .int .i64 n.t, .bool n.o, .slice bi m.l.length di, .slice bz m.z.length dz] 42 (0, 0))) := by
    have := box_new (w.alloc (.cells #[.int .i64 n.k, .string n.n, .string n.x, .string n.d, .int .i64 n.c, .int .i64 n.s, .int .i64 n.e, .int .i64 n.t, .bool n.o, .slice ai n.l.length ci, .slice az n.z.length cz] 42)) #[.int .i64 n.k, .string n.n, .string n.x, .string n.d, .int .i64 n.c, .int .i64 n.s, .int .i64 n.e, .int .i64 n.t, .bool n.o, .slice bi m.l.length di, .slice bz m.z.length dz] 42
    show _ = _
    simpa using this
  have q2 : ((n.l.length : Int) != (m.l.length : Int)) = true := by rw [bne_iff_ne]; omega
  have l1 := hn.hin
  have l2 := hm.hin
  have l3 := hn.hzn
  have l4 := hm.hzn
  clear hn hm h2
  obtain ⟨m0, m1, m2, m3, m4, m5, m6, m7, m8, m9, m10⟩ := bx11 HXo.out
  obtain ⟨k0, k1, k2, k3, k4, k5, k6, k7, k8, k9, k10⟩ := bx11 HXn.out
  go_enter Tryz.func47, Tryz.ntmps47
  go_upto_region 1 with fail
  generalize ((w.alloc (.cells #[.int .i64 n.k, .string n.n, .string n.x, .string n.d, .int .i64 n.c, .int .i64 n.s, .int .i64 n.e, .int .i64 n.t, .bool n.o, .slice ai n.l.length ci, .slice az n.z.length cz] 42)).alloc (.cells #[.int .i64 n.k, .string n.n, .string n.x, .string n.d, .int .i64 n.c, .int .i64 n.s, .int .i64 n.e, .int .i64 n.t, .bool n.o, .slice bi m.l.length di, .slice bz m.z.length dz] 42)) = W at HB0 HXo HXn m0 m1 m2 m3 m4 m5 m6 m7 m8 m9 m10 k0 k1 k2 k3 k4 k5 k6 k7 k8 k9 k10 ⊢
  have xm0 : ∀ y : Ext W, y.to.cell? _ = _ := fun y => ext_cell y m0
  have xk0 : ∀ y : Ext W, y.to.cell? _ = _ := fun y => ext_cell y k0
  have xm1 : ∀ y : Ext W, y.to.cell? _ = _ := fun y => ext_cell y m1
  have xk1 : ∀ y : Ext W, y.to.cell? _ = _ := fun y => ext_cell y k1
  have xm2 : ∀ y : Ext W, y.to.cell? _ = _ := fun y => ext_cell y m2
  have xk2 : ∀ y : Ext W, y.to.cell? _ = _ := fun y => ext_cell y k2
  have xm3 : ∀ y : Ext W, y.to.cell? _ = _ := fun y => ext_cell y m3
  have xk3 : ∀ y : Ext W, y.to.cell? _ = _ := fun y => ext_cell y k3
  have xm4 : ∀ y : Ext W, y.to.cell? _ = _ := fun y => ext_cell y m4
  have xk4 : ∀ y : Ext W, y.to.cell? _ = _ := fun y => ext_cell y k4
  have xm5 : ∀ y : Ext W, y.to.cell? _ = _ := fun y => ext_cell y m5
  have xk5 : ∀ y : Ext W, y.to.cell? _ = _ := fun y => ext_cell y k5
  have xm6 : ∀ y : Ext W, y.to.cell? _ = _ := fun y => ext_cell y m6
  have xk6 : ∀ y : Ext W, y.to.cell? _ = _ := fun y => ext_cell y k6
  have xm7 : ∀ y : Ext W, y.to.cell? _ = _ := fun y => ext_cell y m7
  have xk7 : ∀ y : Ext W, y.to.cell? _ = _ := fun y => ext_cell y k7
  have xm8 : ∀ y : Ext W, y.to.cell? _ = _ := fun y => ext_cell y m8
  have xk8 : ∀ y : Ext W, y.to.cell? _ = _ := fun y => ext_cell y k8
  have xm9 : ∀ y : Ext W, y.to.cell? _ = _ := fun y => ext_cell y m9
  have xk9 : ∀ y : Ext W, y.to.cell? _ = _ := fun y => ext_cell y k9
  have xm10 : ∀ y : Ext W, y.to.cell? _ = _ := fun y => ext_cell y m10
  have xk10 : ∀ y : Ext W, y.to.cell? _ = _ := fun y => ext_cell y k10
  have hsome := extSome W
  clear HXo HXn m0 m1 m2 m3 m4 m5 m6 m7 m8 m9 m10 k0 k1 k2 k3 k4 k5 k6 k7 k8 k9 k10
  refine plain_quiet ?_
  dsimp only [List.append]
  repeat (go_big_quiet_step (fail))
  refine wpQuiet_nil ?_
  rintro _ ⟨y, hy⟩
  subst hy
  have HB1 := Lib.hid (HB0.out.trans (y.below.mono HB0.out.size))
  clear xm0 xk0 xm1 xk1 xm2 xk2 xm3 xk3 xm4 xk4 xm5 xk5 xm6 xk6 xm7 xk7 xm8 xk8 xm9 xk9 xm10 xk10
  go_wp2_with fail
  go_ret
  exact ⟨rfl, HB1.out⟩
theorem rsame_10 (n m : Nt) (ai az bi bz : Option Addr) (ci cz di dz : Nat) (w : World) (hn : NtL w ai az n) (hm : NtL w bi bz m) (h2 : n.z.length ≠ m.z.length) : Calls Tryz.prog 47 #[.agg #[.int .i64 n.k, .string n.n, .string n.x, .string n.d, .int .i64 n.c, .int .i64 n.s, .int .i64 n.e, .int .i64 n.t, .bool n.o, .slice ai n.l.length ci, .slice az n.z.length cz], .agg #[.int .i64 n.k, .string n.n, .string n.x, .string n.d, .int .i64 n.c, .int .i64 n.s, .int .i64 n.e, .int .i64 n.t, .bool n.o, .slice bi n.l.length di, .slice bz m.z.length dz]] w (Gives (.bool false) w) := by
  have HB0 : Hid (Below w.heap.size w ((w.alloc (.cells #[.int .i64 n.k, .string n.n, .string n.x, .string n.d, .int .i64 n.c, .int .i64 n.s, .int .i64 n.e, .int .i64 n.t, .bool n.o, .slice ai n.l.length ci, .slice az n.z.length cz] 42)).alloc (.cells #[.int .i64 n.k, .string n.n, .string n.x, .string n.d, .int .i64 n.c, .int .i64 n.s, .int .i64 n.e, .int .i64 n.t, .bool n.o, .slice bi n.l.length di, .slice bz m.z.length dz] 42))) := ((Below.refl _ w).alloc (Nat.le_refl _) _).alloc (by simp) _
  have HXo : Hid (((w.alloc (.cells #[.int .i64 n.k, .string n.n, .string n.x, .string n.d, .int .i64 n.c, .int .i64 n.s, .int .i64 n.e, .int .i64 n.t, .bool n.o, .slice ai n.l.length ci, .slice az n.z.length cz] 42)).alloc (.cells #[.int .i64 n.k, .string n.n, .string n.x, .string n.d, .int .i64 n.c, .int .i64 n.s, .int .i64 n.e, .int .i64 n.t, .bool n.o, .slice bi n.l.length di, .slice bz m.z.length dz] 42)).heap[w.heap.size]? = some (.cells #[.int .i64 n.k, .string n.n, .string n.x, .string n.d, .int .i64 n.c, .int .i64 n.s, .int .i64 n.e, .int .i64 n.t, .bool n.o, .slice ai n.l.length ci, .slice az n.z.length cz] 42 (0, 0))) := (Below.heap_alloc (w.alloc (.cells #[.int .i64 n.k, .string n.n, .string n.x, .string n.d, .int .i64 n.c, .int .i64 n.s, .int .i64 n.e, .int .i64 n.t, .bool n.o, .slice ai n.l.length ci, .slice az n.z.length cz] 42)) _ _ (by simp)).trans (box_new w _ _)
  have HXn : Hid (((w.alloc (.cells #[.int .i64 n.k, .string n.n, .string n.x, .string n.d, .int .i64 n.c, .int .i64 n.s, .int .i64 n.e, .int .i64 n.t, .bool n.o, .slice ai n.l.length ci, .slice az n.z.length cz] 42)).alloc (.cells #[.int .i64 n.k, .string n.n, .string n.x, .string n.d, .int .i64 n.c, .int .i64 n.s, .int .i64 n.e, .int .i64 n.t, .bool n.o, .slice bi n.l.length di, .slice bz m.z.length dz] 42)).heap[w.heap.size + 1]? = some (.cells #[.int .i64 n.k, .string n.n, .string n.x, .string n.d, .int .i64 n.c, .int .i64 n.s, .int .i64 n.e, .int .i64 n.t, .bool n.o, .slice bi n.l.length di, .slice bz m.z.length dz] 42 (0, 0))) := by
    have := box_new (w.alloc (.cells #[.int .i64 n.k, .string n.n, .string n.x, .string n.d, .int .i64 n.c, .int .i64 n.s, .int .i64 n.e, .int .i64 n.t, .bool n.o, .slice ai n.l.length ci, .slice az n.z.length cz] 42)) #[.int .i64 n.k, .string n.n, .string n.x, .string n.d, .int .i64 n.c, .int .i64 n.s, .int .i64 n.e, .int .i64 n.t, .bool n.o, .slice bi n.l.length di, .slice bz m.z.length dz] 42
    show _ = _
    simpa using this
  have q2 : ((n.z.length : Int) != (m.z.length : Int)) = true := by rw [bne_iff_ne]; omega
  have l1 := hn.hin
  have l2 := hm.hin
  have l3 := hn.hzn
  have l4 := hm.hzn
  clear hn hm h2
  obtain ⟨m0, m1, m2, m3, m4, m5, m6, m7, m8, m9, m10⟩ := bx11 HXo.out
  obtain ⟨k0, k1, k2, k3, k4, k5, k6, k7, k8, k9, k10⟩ := bx11 HXn.out
  go_enter Tryz.func47, Tryz.ntmps47
  go_upto_region 1 with fail
  generalize ((w.alloc (.cells #[.int .i64 n.k, .string n.n, .string n.x, .string n.d, .int .i64 n.c, .int .i64 n.s, .int .i64 n.e, .int .i64 n.t, .bool n.o, .slice ai n.l.length ci, .slice az n.z.length cz] 42)).alloc (.cells #[.int .i64 n.k, .string n.n, .string n.x, .string n.d, .int .i64 n.c, .int .i64 n.s, .int .i64 n.e, .int .i64 n.t, .bool n.o, .slice bi n.l.length di, .slice bz m.z.length dz] 42)) = W at HB0 HXo HXn m0 m1 m2 m3 m4 m5 m6 m7 m8 m9 m10 k0 k1 k2 k3 k4 k5 k6 k7 k8 k9 k10 ⊢
  have xm0 : ∀ y : Ext W, y.to.cell? _ = _ := fun y => ext_cell y m0
  have xk0 : ∀ y : Ext W, y.to.cell? _ = _ := fun y => ext_cell y k0
  have xm1 : ∀ y : Ext W, y.to.cell? _ = _ := fun y => ext_cell y m1
  have xk1 : ∀ y : Ext W, y.to.cell? _ = _ := fun y => ext_cell y k1
  have xm2 : ∀ y : Ext W, y.to.cell? _ = _ := fun y => ext_cell y m2
  have xk2 : ∀ y : Ext W, y.to.cell? _ = _ := fun y => ext_cell y k2
  have xm3 : ∀ y : Ext W, y.to.cell? _ = _ := fun y => ext_cell y m3
  have xk3 : ∀ y : Ext W, y.to.cell? _ = _ := fun y => ext_cell y k3
  have xm4 : ∀ y : Ext W, y.to.cell? _ = _ := fun y => ext_cell y m4
  have xk4 : ∀ y : Ext W, y.to.cell? _ = _ := fun y => ext_cell y k4
  have xm5 : ∀ y : Ext W, y.to.cell? _ = _ := fun y => ext_cell y m5
  have xk5 : ∀ y : Ext W, y.to.cell? _ = _ := fun y => ext_cell y k5
  have xm6 : ∀ y : Ext W, y.to.cell? _ = _ := fun y => ext_cell y m6
  have xk6 : ∀ y : Ext W, y.to.cell? _ = _ := fun y => ext_cell y k6
  have xm7 : ∀ y : Ext W, y.to.cell? _ = _ := fun y => ext_cell y m7
  have xk7 : ∀ y : Ext W, y.to.cell? _ = _ := fun y => ext_cell y k7
  have xm8 : ∀ y : Ext W, y.to.cell? _ = _ := fun y => ext_cell y m8
  have xk8 : ∀ y : Ext W, y.to.cell? _ = _ := fun y => ext_cell y k8
  have xm9 : ∀ y : Ext W, y.to.cell? _ = _ := fun y => ext_cell y m9
  have xk9 : ∀ y : Ext W, y.to.cell? _ = _ := fun y => ext_cell y k9
  have xm10 : ∀ y : Ext W, y.to.cell? _ = _ := fun y => ext_cell y m10
  have xk10 : ∀ y : Ext W, y.to.cell? _ = _ := fun y => ext_cell y k10
  have hsome := extSome W
  clear HXo HXn m0 m1 m2 m3 m4 m5 m6 m7 m8 m9 m10 k0 k1 k2 k3 k4 k5 k6 k7 k8 k9 k10
  refine plain_quiet ?_
  dsimp only [List.append]
  repeat (go_big_quiet_step (fail))
  refine wpQuiet_nil ?_
  rintro _ ⟨y, hy⟩
  subst hy
  have HB1 := Lib.hid (HB0.out.trans (y.below.mono HB0.out.size))
  clear xm0 xk0 xm1 xk1 xm2 xk2 xm3 xk3 xm4 xk4 xm5 xk5 xm6 xk6 xm7 xk7 xm8 xk8 xm9 xk9 xm10 xk10
  go_wp2_with fail
  go_ret
  exact ⟨rfl, HB1.out⟩
theorem rsame_z (n m : Nt) (ai az bi bz : Option Addr) (ci cz di dz : Nat) (w : World) (hn : NtL w ai az n) (hm : NtL w bi bz m) (hl : n.l.length = m.l.length) (hz : n.z.length = m.z.length) : Calls Tryz.prog 47 #[.agg #[.int .i64 n.k, .string n.n, .string n.x, .string n.d, .int .i64 n.c, .int .i64 n.s, .int .i64 n.e, .int .i64 n.t, .bool n.o, .slice ai n.l.length ci, .slice az n.z.length cz], .agg #[.int .i64 n.k, .string n.n, .string n.x, .string n.d, .int .i64 n.c, .int .i64 n.s, .int .i64 n.e, .int .i64 n.t, .bool n.o, .slice bi n.l.length di, .slice bz n.z.length dz]] w (Gives (.bool (eqv n.l m.l && eqv n.z m.z)) w) := by
  have HB0 : Hid (Below w.heap.size w ((w.alloc (.cells #[.int .i64 n.k, .string n.n, .string n.x, .string n.d, .int .i64 n.c, .int .i64 n.s, .int .i64 n.e, .int .i64 n.t, .bool n.o, .slice ai n.l.length ci, .slice az n.z.length cz] 42)).alloc (.cells #[.int .i64 n.k, .string n.n, .string n.x, .string n.d, .int .i64 n.c, .int .i64 n.s, .int .i64 n.e, .int .i64 n.t, .bool n.o, .slice bi n.l.length di, .slice bz n.z.length dz] 42))) := ((Below.refl _ w).alloc (Nat.le_refl _) _).alloc (by simp) _
  have HXo : Hid (((w.alloc (.cells #[.int .i64 n.k, .string n.n, .string n.x, .string n.d, .int .i64 n.c, .int .i64 n.s, .int .i64 n.e, .int .i64 n.t, .bool n.o, .slice ai n.l.length ci, .slice az n.z.length cz] 42)).alloc (.cells #[.int .i64 n.k, .string n.n, .string n.x, .string n.d, .int .i64 n.c, .int .i64 n.s, .int .i64 n.e, .int .i64 n.t, .bool n.o, .slice bi n.l.length di, .slice bz n.z.length dz] 42)).heap[w.heap.size]? = some (.cells #[.int .i64 n.k, .string n.n, .string n.x, .string n.d, .int .i64 n.c, .int .i64 n.s, .int .i64 n.e, .int .i64 n.t, .bool n.o, .slice ai n.l.length ci, .slice az n.z.length cz] 42 (0, 0))) := (Below.heap_alloc (w.alloc (.cells #[.int .i64 n.k, .string n.n, .string n.x, .string n.d, .int .i64 n.c, .int .i64 n.s, .int .i64 n.e, .int .i64 n.t, .bool n.o, .slice ai n.l.length ci, .slice az n.z.length cz] 42)) _ _ (by simp)).trans (box_new w _ _)
  have HXn : Hid (((w.alloc (.cells #[.int .i64 n.k, .string n.n, .string n.x, .string n.d, .int .i64 n.c, .int .i64 n.s, .int .i64 n.e, .int .i64 n.t, .bool n.o, .slice ai n.l.length ci, .slice az n.z.length cz] 42)).alloc (.cells #[.int .i64 n.k, .string n.n, .string n.x, .string n.d, .int .i64 n.c, .int .i64 n.s, .int .i64 n.e, .int .i64 n.t, .bool n.o, .slice bi n.l.length di, .slice bz n.z.length dz] 42)).heap[w.heap.size + 1]? = some (.cells #[.int .i64 n.k, .string n.n, .string n.x, .string n.d, .int .i64 n.c, .int .i64 n.s, .int .i64 n.e, .int .i64 n.t, .bool n.o, .slice bi n.l.length di, .slice bz n.z.length dz] 42 (0, 0))) := by
    have := box_new (w.alloc (.cells #[.int .i64 n.k, .string n.n, .string n.x, .string n.d, .int .i64 n.c, .int .i64 n.s, .int .i64 n.e, .int .i64 n.t, .bool n.o, .slice ai n.l.length ci, .slice az n.z.length cz] 42)) #[.int .i64 n.k, .string n.n, .string n.x, .string n.d, .int .i64 n.c, .int .i64 n.s, .int .i64 n.e, .int .i64 n.t, .bool n.o, .slice bi n.l.length di, .slice bz n.z.length dz] 42
    show _ = _
    simpa using this
  have HI := Lib.hid fun W (hb : Below w.heap.size w W) => hn.hI.below hb
  have HJ := Lib.hid fun W (hb : Below w.heap.size w W) => hm.hI.below hb
  have HZ := Lib.hid fun W (hb : Below w.heap.size w W) => hn.hZ.below hb
  have HK := Lib.hid fun W (hb : Below w.heap.size w W) => hm.hZ.below hb
  have HEl := Lib.hid hl
  have HEz := Lib.hid hz
  have l1 := hn.hin
  have l3 := hn.hzn
  have HN : Hid (∀ i (h : i < n.l.length) (h2 : i < m.l.length), n.l[i] ≠ m.l[i] → (eqv n.l m.l && eqv n.z m.z) = false) := fun i h h2 e => by rw [eqv_no (fun q => e (by simp only [q])), Bool.false_and]
  have HNz : Hid (∀ i (h : i < n.z.length) (h2 : i < m.z.length), n.z[i] ≠ m.z[i] → (eqv n.l m.l && eqv n.z m.z) = false) := fun i h h2 e => by rw [eqv_no (x := n.z) (fun q => e (by simp only [q])), Bool.and_false]
  have HY : Hid (n.l.take n.l.length = m.l.take n.l.length → n.z.take n.z.length = m.z.take n.z.length → (eqv n.l m.l && eqv n.z m.z) = true) := fun h h2 => by
    rw [List.take_length, hl, List.take_length] at h
    rw [List.take_length, hz, List.take_length] at h2
    rw [eqv_yes h, eqv_yes h2]; rfl
  generalize (eqv n.l m.l && eqv n.z m.z) = R at HN HNz HY ⊢
  clear hn hm hl hz
  obtain ⟨m0, m1, m2, m3, m4, m5, m6, m7, m8, m9, m10⟩ := bx11 HXo.out
  obtain ⟨k0, k1, k2, k3, k4, k5, k6, k7, k8, k9, k10⟩ := bx11 HXn.out
  go_enter Tryz.func47, Tryz.ntmps47
  go_upto_region 1 with fail
  generalize ((w.alloc (.cells #[.int .i64 n.k, .string n.n, .string n.x, .string n.d, .int .i64 n.c, .int .i64 n.s, .int .i64 n.e, .int .i64 n.t, .bool n.o, .slice ai n.l.length ci, .slice az n.z.length cz] 42)).alloc (.cells #[.int .i64 n.k, .string n.n, .string n.x, .string n.d, .int .i64 n.c, .int .i64 n.s, .int .i64 n.e, .int .i64 n.t, .bool n.o, .slice bi n.l.length di, .slice bz n.z.length dz] 42)) = V at HB0 HXo HXn m0 m1 m2 m3 m4 m5 m6 m7 m8 m9 m10 k0 k1 k2 k3 k4 k5 k6 k7 k8 k9 k10 ⊢
  have xm0 : ∀ y : Ext V, y.to.cell? _ = _ := fun y => ext_cell y m0
  have xk0 : ∀ y : Ext V, y.to.cell? _ = _ := fun y => ext_cell y k0
  have xm1 : ∀ y : Ext V, y.to.cell? _ = _ := fun y => ext_cell y m1
  have xk1 : ∀ y : Ext V, y.to.cell? _ = _ := fun y => ext_cell y k1
  have xm2 : ∀ y : Ext V, y.to.cell? _ = _ := fun y => ext_cell y m2
  have xk2 : ∀ y : Ext V, y.to.cell? _ = _ := fun y => ext_cell y k2
  have xm3 : ∀ y : Ext V, y.to.cell? _ = _ := fun y => ext_cell y m3
  have xk3 : ∀ y : Ext V, y.to.cell? _ = _ := fun y => ext_cell y k3
  have xm4 : ∀ y : Ext V, y.to.cell? _ = _ := fun y => ext_cell y m4
  have xk4 : ∀ y : Ext V, y.to.cell? _ = _ := fun y => ext_cell y k4
  have xm5 : ∀ y : Ext V, y.to.cell? _ = _ := fun y => ext_cell y m5
  have xk5 : ∀ y : Ext V, y.to.cell? _ = _ := fun y => ext_cell y k5
  have xm6 : ∀ y : Ext V, y.to.cell? _ = _ := fun y => ext_cell y m6
  have xk6 : ∀ y : Ext V, y.to.cell? _ = _ := fun y => ext_cell y k6
  have xm7 : ∀ y : Ext V, y.to.cell? _ = _ := fun y => ext_cell y m7
  have xk7 : ∀ y : Ext V, y.to.cell? _ = _ := fun y => ext_cell y k7
  have xm8 : ∀ y : Ext V, y.to.cell? _ = _ := fun y => ext_cell y m8
  have xk8 : ∀ y : Ext V, y.to.cell? _ = _ := fun y => ext_cell y k8
  have xm9 : ∀ y : Ext V, y.to.cell? _ = _ := fun y => ext_cell y m9
  have xk9 : ∀ y : Ext V, y.to.cell? _ = _ := fun y => ext_cell y k9
  have xm10 : ∀ y : Ext V, y.to.cell? _ = _ := fun y => ext_cell y m10
  have xk10 : ∀ y : Ext V, y.to.cell? _ = _ := fun y => ext_cell y k10
  have hsome := extSome V
  clear m0 m1 m2 m3 m4 m5 m6 m7 m8 m9 m10 k0 k1 k2 k3 k4 k5 k6 k7 k8 k9 k10
  refine plain_quiet ?_
  dsimp only [List.append]
  repeat (go_big_quiet_step (fail))
  refine wpQuiet_nil ?_
  rintro _ ⟨y, hy⟩
  subst hy
  have HB1 := Lib.hid (HB0.out.trans (y.below.mono HB0.out.size))
  have HXo1 := Lib.hid ((y.below.block _ (heap_lt HXo.out)).trans HXo.out)
  have HXn1 := Lib.hid ((y.below.block _ (heap_lt HXn.out)).trans HXn.out)
  clear xm0 xk0 xm1 xk1 xm2 xk2 xm3 xk3 xm4 xk4 xm5 xk5 xm6 xk6 xm7 xk7 xm8 xk8 xm9 xk9 xm10 xk10 HB0 HXo HXn
  generalize y.to = V1 at HB1 HXo1 HXn1 ⊢
  go_wp2_with fail
  go_loopw [5] (fun i wr => ∃ j : Nat, i = .int .i64 j ∧ j ≤ n.l.length ∧ Hid (n.l.take j = m.l.take j) ∧ Hid (wr.heap[w.heap.size]? = some (.cells #[.int .i64 n.k, .string n.n, .string n.x, .string n.d, .int .i64 n.c, .int .i64 n.s, .int .i64 n.e, .int .i64 n.t, .bool n.o, .slice ai n.l.length ci, .slice az n.z.length cz] 42 (0, 0))) ∧ Hid (wr.heap[w.heap.size + 1]? = some (.cells #[.int .i64 n.k, .string n.n, .string n.x, .string n.d, .int .i64 n.c, .int .i64 n.s, .int .i64 n.e, .int .i64 n.t, .bool n.o, .slice bi n.l.length di, .slice bz n.z.length dz] 42 (0, 0))) ∧ Hid (Below w.heap.size w wr)) (fun i _ => n.l.length - (RowKit.intOf i).toNat)
  case atStart => exact ⟨0, rfl, Nat.zero_le _, by exact rfl, HXo1.out, HXn1.out, HB1.out⟩
  case round =>
    clear HXo1 HXn1 HB1
    obtain ⟨j, rfl, hj, HT, HXo, HXn, HW⟩ := hrel
    obtain ⟨-, -, -, -, -, -, -, -, -, m9, -⟩ := bx11 HXo.out
    obtain ⟨-, -, -, -, -, -, -, -, -, k9, -⟩ := bx11 HXn.out
    by_cases hlt : j < n.l.length
    · have hlt2 : j < m.l.length := by have := HEl.out; omega
      obtain ⟨b1, p1, rfl, c0, c1, c2, c3, c4, c5⟩ := HI.out _ HW.out j hlt
      obtain ⟨b2, p2, rfl, d0, d1, d2, d3, d4, d5⟩ := HJ.out _ HW.out j hlt2
      have HNj := Lib.hid (HN.out j hlt hlt2)
      by_cases he : n.l[j] = m.l[j]
      · have HT2 := Lib.hid (take_eq hlt hlt2 HT.out he)
        rw [← he] at d0 d1 d2 d3 d4 d5
        clear HNj he HT HN HNz HY HI HJ HZ HK
        generalize n.l[j] = x at c0 c1 c2 c3 c4 c5 d0 d1 d2 d3 d4 d5
        obtain ⟨x0, x1, x2, x3, x4, x5⟩ := x
        dsimp only at c0 c1 c2 c3 c4 c5 d0 d1 d2 d3 d4 d5
        go_wp2_with fail
        go_region
        go_wp2_with fail
        exact ⟨⟨j + 1, by go_num, by omega, HT2.out, HXo.out, HXn.out, HW.out.drew⟩, by simp [RowKit.intOf]; omega⟩
      · have HR := HNj.out he
        have hc := it_ne he
        subst HR
        clear HNj he HT HN HNz HY HI HJ HZ HK
        generalize n.l[j] = x at c0 c1 c2 c3 c4 c5 hc
        generalize m.l[j] = y at d0 d1 d2 d3 d4 d5 hc
        obtain ⟨x0, x1, x2, x3, x4, x5⟩ := x
        obtain ⟨y0, y1, y2, y3, y4, y5⟩ := y
        dsimp only at c0 c1 c2 c3 c4 c5 d0 d1 d2 d3 d4 d5 hc
        rcases hc with h | ⟨rfl, h⟩ | ⟨rfl, rfl, h⟩ | ⟨rfl, rfl, rfl, h⟩ | ⟨rfl, rfl, rfl, rfl, h⟩ | ⟨rfl, rfl, rfl, rfl, rfl, h⟩
        · have q := text_neb h
          go_wp2_with fail
          go_region
          go_wp2_with fail
          go_ret
          exact ⟨rfl, HW.out.drew⟩
        · have q := beq_eq_false_iff_ne.2 h
          go_wp2_with fail
          go_region
          go_wp2_with fail
          go_ret
          exact ⟨rfl, HW.out.drew⟩
        · have q := beq_eq_false_iff_ne.2 h
          go_wp2_with fail
          go_region
          go_wp2_with fail
          go_ret
          exact ⟨rfl, HW.out.drew⟩
        · have q := beq_eq_false_iff_ne.2 h
          go_wp2_with fail
          go_region
          go_wp2_with fail
          go_ret
          exact ⟨rfl, HW.out.drew⟩
        · have q := text_neb h
          go_wp2_with fail
          go_region
          go_wp2_with fail
          go_ret
          exact ⟨rfl, HW.out.drew⟩
        · have q := beq_eq_false_iff_ne.2 h
          go_wp2_with fail
          go_region
          go_wp2_with fail
          go_ret
          exact ⟨rfl, HW.out.drew⟩
    · obtain rfl : j = n.l.length := by omega
      have HTl := Lib.hid HT.out
      have HXo1 := Lib.hid HXo.out
      have HXn1 := Lib.hid HXn.out
      have HB1 := Lib.hid HW.out
      clear HT HXo HXn HW
      go_wp2_with fail
      clear m9 k9
      go_loopw [6] (fun i wr => ∃ j : Nat, i = .int .i64 j ∧ j ≤ n.z.length ∧ Hid (n.z.take j = m.z.take j) ∧ Hid (wr.heap[w.heap.size]? = some (.cells #[.int .i64 n.k, .string n.n, .string n.x, .string n.d, .int .i64 n.c, .int .i64 n.s, .int .i64 n.e, .int .i64 n.t, .bool n.o, .slice ai n.l.length ci, .slice az n.z.length cz] 42 (0, 0))) ∧ Hid (wr.heap[w.heap.size + 1]? = some (.cells #[.int .i64 n.k, .string n.n, .string n.x, .string n.d, .int .i64 n.c, .int .i64 n.s, .int .i64 n.e, .int .i64 n.t, .bool n.o, .slice bi n.l.length di, .slice bz n.z.length dz] 42 (0, 0))) ∧ Hid (Below w.heap.size w wr)) (fun i _ => n.z.length - (RowKit.intOf i).toNat)
      case atStart => exact ⟨0, rfl, Nat.zero_le _, by exact rfl, HXo1.out, HXn1.out, HB1.out⟩
      case round =>
        clear HXo1 HXn1 HB1
        obtain ⟨j, rfl, hj, HT, HXo, HXn, HW⟩ := hrel
        obtain ⟨-, -, -, -, -, -, -, -, -, -, m10⟩ := bx11 HXo.out
        obtain ⟨-, -, -, -, -, -, -, -, -, -, k10⟩ := bx11 HXn.out
        by_cases hlt : j < n.z.length
        · have hlt2 : j < m.z.length := by have := HEz.out; omega
          obtain ⟨b1, p1, rfl, c0⟩ := HZ.out _ HW.out j hlt
          obtain ⟨b2, p2, rfl, d0⟩ := HK.out _ HW.out j hlt2
          have HNj := Lib.hid (HNz.out j hlt hlt2)
          by_cases he : n.z[j] = m.z[j]
          · have HT2 := Lib.hid (take_eq hlt hlt2 HT.out he)
            rw [← he] at d0
            clear HNj he HT HN HNz HY HI HJ HZ HK
            generalize n.z[j] = x at c0 d0
            go_wp2_with fail
            go_region
            go_wp2_with fail
            exact ⟨⟨j + 1, by go_num, by omega, HT2.out, HXo.out, HXn.out, HW.out.drew⟩, by simp [RowKit.intOf]; omega⟩
          · have HR := HNj.out he
            subst HR
            clear HNj HT HN HNz HY HI HJ HZ HK
            generalize n.z[j] = x at c0 he
            generalize m.z[j] = y at d0 he
            have q : (x != y) = true := by simpa using he
            go_wp2_with fail
            go_region
            go_wp2_with fail
            go_ret
            exact ⟨rfl, HW.out.drew⟩
        · obtain rfl : j = n.z.length := by omega
          have HR := HY.out HTl.out HT.out
          subst HR
          clear HN HNz HY HT HTl HI HJ HZ HK
          go_wp2_with fail
          go_ret
          exact ⟨rfl, HW.out⟩
theorem rsame_any (n m : Nt) (ai az bi bz : Option Addr) (ci cz di dz : Nat) (w : World) (hn : NtL w ai az n) (hm : NtL w bi bz m) : Calls Tryz.prog 47 #[nA n ai az ci cz, nA m bi bz di dz] w (Gives (.bool (eqv n m)) w) := by
  unfold nA
  by_cases g0 : n.k = m.k
  · skip
    by_cases g1 : n.n = m.n
    · skip
      by_cases g2 : n.x = m.x
      · skip
        by_cases g3 : n.d = m.d
        · skip
          by_cases g4 : n.c = m.c
          · skip
            by_cases g5 : n.s = m.s
            · skip
              by_cases g6 : n.e = m.e
              · skip
                by_cases g7 : n.t = m.t
                · skip
                  by_cases g8 : n.o = m.o
                  · skip
                    by_cases g9 : n.l.length = m.l.length
                    · skip
                      by_cases g10 : n.z.length = m.z.length
                      · skip
                        have e : eqv n m = (eqv n.l m.l && eqv n.z m.z) := by
                          by_cases h0 : n.l = m.l
                          · by_cases h1 : n.z = m.z
                            · rw [eqv_yes h0, eqv_yes h1]
                              exact eqv_yes (by obtain ⟨a0, a1, a2, a3, a4, a5, a6, a7, a8, a9, a10⟩ := n; obtain ⟨b0, b1, b2, b3, b4, b5, b6, b7, b8, b9, b10⟩ := m; simp only at h0 h1 g0 g1 g2 g3 g4 g5 g6 g7 g8; rw [h0, h1, g0, g1, g2, g3, g4, g5, g6, g7, g8])
                            · rw [eqv_no h1, Bool.and_false]; exact eqv_no fun q => h1 (by rw [q])
                          · rw [eqv_no h0, Bool.false_and]; exact eqv_no fun q => h0 (by rw [q])
                        rw [e]
                        have q := rsame_z n m ai az bi bz ci cz di dz w hn hm g9 g10
                        rw [g0, g1, g2, g3, g4, g5, g6, g7, g8, g9, g10] at q
                        rw [g0, g1, g2, g3, g4, g5, g6, g7, g8, g9, g10]
                        exact q
                      · have e : eqv n m = false := eqv_no fun q => g10 (by rw [q])
                        rw [e]
                        have q := rsame_10 n m ai az bi bz ci cz di dz w hn hm g10
                        rw [g0, g1, g2, g3, g4, g5, g6, g7, g8, g9] at q
                        rw [g0, g1, g2, g3, g4, g5, g6, g7, g8, g9]
                        exact q
                    · have e : eqv n m = false := eqv_no fun q => g9 (by rw [q])
                      rw [e]
                      have q := rsame_9 n m ai az bi bz ci cz di dz w hn hm g9
                      rw [g0, g1, g2, g3, g4, g5, g6, g7, g8] at q
                      rw [g0, g1, g2, g3, g4, g5, g6, g7, g8]
                      exact q
                  · have e : eqv n m = false := eqv_no fun q => g8 (by rw [q])
                    rw [e]
                    cases ho : n.o
                    · have hm8 : m.o = true := by cases hb : m.o <;> simp_all
                      have q := rsame_8_0 n m ai az bi bz ci cz di dz w hn hm
                      rw [g0, g1, g2, g3, g4, g5, g6, g7] at q
                      rw [g0, g1, g2, g3, g4, g5, g6, g7, hm8]
                      exact q
                    · have hm8 : m.o = false := by cases hb : m.o <;> simp_all
                      have q := rsame_8_1 n m ai az bi bz ci cz di dz w hn hm
                      rw [g0, g1, g2, g3, g4, g5, g6, g7] at q
                      rw [g0, g1, g2, g3, g4, g5, g6, g7, hm8]
                      exact q
                · have e : eqv n m = false := eqv_no fun q => g7 (by rw [q])
                  rw [e]
                  have q := rsame_7 n m ai az bi bz ci cz di dz w hn hm g7
                  rw [g0, g1, g2, g3, g4, g5, g6] at q
                  rw [g0, g1, g2, g3, g4, g5, g6]
                  exact q
              · have e : eqv n m = false := eqv_no fun q => g6 (by rw [q])
                rw [e]
                have q := rsame_6 n m ai az bi bz ci cz di dz w hn hm g6
                rw [g0, g1, g2, g3, g4, g5] at q
                rw [g0, g1, g2, g3, g4, g5]
                exact q
            · have e : eqv n m = false := eqv_no fun q => g5 (by rw [q])
              rw [e]
              have q := rsame_5 n m ai az bi bz ci cz di dz w hn hm g5
              rw [g0, g1, g2, g3, g4] at q
              rw [g0, g1, g2, g3, g4]
              exact q
          · have e : eqv n m = false := eqv_no fun q => g4 (by rw [q])
            rw [e]
            have q := rsame_4 n m ai az bi bz ci cz di dz w hn hm g4
            rw [g0, g1, g2, g3] at q
            rw [g0, g1, g2, g3]
            exact q
        · have e : eqv n m = false := eqv_no fun q => g3 (by rw [q])
          rw [e]
          have q := rsame_3 n m ai az bi bz ci cz di dz w hn hm g3
          rw [g0, g1, g2] at q
          rw [g0, g1, g2]
          exact q
      · have e : eqv n m = false := eqv_no fun q => g2 (by rw [q])
        rw [e]
        have q := rsame_2 n m ai az bi bz ci cz di dz w hn hm g2
        rw [g0, g1] at q
        rw [g0, g1]
        exact q
    · have e : eqv n m = false := eqv_no fun q => g1 (by rw [q])
      rw [e]
      have q := rsame_1 n m ai az bi bz ci cz di dz w hn hm g1
      rw [g0] at q
      rw [g0]
      exact q
  · have e : eqv n m = false := eqv_no fun q => g0 (by rw [q])
    rw [e]
    have q := rsame_0 n m ai az bi bz ci cz di dz w hn hm g0
    exact q
end Go.Proofs.YthbeempmdpfnmaaGreatDoor.T
