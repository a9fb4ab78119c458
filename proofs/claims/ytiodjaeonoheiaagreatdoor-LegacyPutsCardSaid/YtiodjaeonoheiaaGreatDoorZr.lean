/- Contracts: Parse, Same of package legacy. Conditions: those of each theorem's head. -/
import Derived.Test.YtiodjaeonoheiaaGreatDoorZt
import Derived.Test.YtiodjaeonoheiaaGreatDoorZq
set_option maxRecDepth 100000
set_option maxHeartbeats 8000000
namespace Go.Proofs.YtiodjaeonoheiaaGreatDoor.T
open Go.RowKit Go.Lib
theorem lparse_any (ch : Int) (b : ByteArray) (w : World) (hG : Gp w) (hb : b.size ≤ 1000000) : Calls Tryz.prog 16 #[.int .i64 ch, .string b] w (LpP (lprs ch b) (lprsE ch b) w) := by
  unfold lprs lprsE lprsOk
  cases h1 : may (lrd ch b)
  · exact lparse_c ch b w hG hb h1
  · by_cases h2 : bodyL (lrd ch b) = (opnB ch b).data.toList
    · rw [decide_eq_true h2]
      exact lparse_y ch b w hG hb h1 h2
    · rw [decide_eq_false h2]
      exact lparse_d ch b w hG hb h1 h2
theorem nt_load {n : Nt} {w : World} {ai az : Option Addr} (s : Sm 1000000 n) (hI : ItS w ai n.l) (hZ : CdS w az n.z) : NtL w ai az n := ⟨⟨s.hn, s.hx, s.hd, hI, hZ⟩, s.hin, s.hiz, s.hzn⟩
theorem Sm.mono {M K : Nat} {n : Nt} (h : Sm M n) (k : M ≤ K) : Sm K n := ⟨Nat.le_trans h.hn k, Nat.le_trans h.hx k, Nat.le_trans h.hd k, Nat.le_trans h.hin k, fun y hy => ⟨Nat.le_trans (h.hiz y hy).1 k, Nat.le_trans (h.hiz y hy).2 k⟩, Nat.le_trans h.hzn k⟩
theorem same_0 (n m : Nt) (ai az bi bz : Option Addr) (ci cz di dz : Nat) (w : World) (hn : NtL w ai az n) (hm : NtL w bi bz m) (h0 : eqv n.l m.l = false) : Calls Tryz.prog 12 #[.agg #[.int .i64 n.k, .string n.n, .string n.x, .string n.d, .int .i64 n.c, .int .i64 n.s, .int .i64 n.e, .int .i64 n.t, .bool n.o, .slice ai n.l.length ci, .slice az n.z.length cz], .agg #[.int .i64 m.k, .string m.n, .string m.x, .string m.d, .int .i64 m.c, .int .i64 m.s, .int .i64 m.e, .int .i64 m.t, .bool m.o, .slice bi m.l.length di, .slice bz m.z.length dz]] w (Gives (.bool false) w) := by
  obtain ⟨HB0, HBo, HNo⟩ := bxTwo w #[.int .i64 n.k, .string n.n, .string n.x, .string n.d, .int .i64 n.c, .int .i64 n.s, .int .i64 n.e, .int .i64 n.t, .bool n.o, .slice ai n.l.length ci, .slice az n.z.length cz] 25 #[.int .i64 m.k, .string m.n, .string m.x, .string m.d, .int .i64 m.c, .int .i64 m.s, .int .i64 m.e, .int .i64 m.t, .bool m.o, .slice bi m.l.length di, .slice bz m.z.length dz] 25
  have X0 : Hid (Xc ((w.alloc (.cells #[.int .i64 n.k, .string n.n, .string n.x, .string n.d, .int .i64 n.c, .int .i64 n.s, .int .i64 n.e, .int .i64 n.t, .bool n.o, .slice ai n.l.length ci, .slice az n.z.length cz] 25)).alloc (.cells #[.int .i64 m.k, .string m.n, .string m.x, .string m.d, .int .i64 m.c, .int .i64 m.s, .int .i64 m.e, .int .i64 m.t, .bool m.o, .slice bi m.l.length di, .slice bz m.z.length dz] 25)) 34 #[.slice ai n.l.length ci, .slice bi m.l.length di] (.bool false)) := fun y => by have := eqI_any n.l m.l ai bi ci di y.to (hn.hI.below (HB0.out.trans (y.below.mono HB0.out.size))) (hm.hI.below (HB0.out.trans (y.below.mono HB0.out.size))) (Nat.le_trans hn.hin (by decide)) (Nat.le_trans hm.hin (by decide)); rw [h0] at this; exact this
  clear hn hm h0
  obtain ⟨m0, m1, m2, m3, m4, m5, m6, m7, m8, m9, m10⟩ := bx11 HBo.out
  obtain ⟨k0, k1, k2, k3, k4, k5, k6, k7, k8, k9, k10⟩ := bx11 HNo.out
  go_enter Tryz.func12, Tryz.ntmps12
  go_upto_region 1 with fail
  generalize ((w.alloc (.cells #[.int .i64 n.k, .string n.n, .string n.x, .string n.d, .int .i64 n.c, .int .i64 n.s, .int .i64 n.e, .int .i64 n.t, .bool n.o, .slice ai n.l.length ci, .slice az n.z.length cz] 25)).alloc (.cells #[.int .i64 m.k, .string m.n, .string m.x, .string m.d, .int .i64 m.c, .int .i64 m.s, .int .i64 m.e, .int .i64 m.t, .bool m.o, .slice bi m.l.length di, .slice bz m.z.length dz] 25)) = W at HB0 HBo HNo X0 m0 m1 m2 m3 m4 m5 m6 m7 m8 m9 m10 k0 k1 k2 k3 k4 k5 k6 k7 k8 k9 k10 ⊢
  have xm0 : ∀ y : Ext W, y.to.cell? _ = _ := fun y => ext_cell y m0
  have xk0 : ∀ y : Ext W, y.to.cell? _ = _ := fun y => ext_cell y k0
  have xm1 : ∀ y : Ext W, y.to.cell? _ = _ := fun y => ext_cell y m1
  have xk1 : ∀ y : Ext W, y.to.cell? _ = _ := fun y => ext_cell y k1
  have xm2 : ∀ y : Ext W, y.to.cell? _ = _ := fun y => ext_cell y m2
  have xk2 : ∀ y : Ext W, y.to.cell? _ = _ := fun y => ext_cell y k2
  have xm3 : ∀ y : Ext W, y.to.cell? _ = _ := fun y => ext_cell y m3
  have xk3 : ∀ y : Ext W, y.to.cell? _ = _ := fun y => ext_cell y k3
  have xm4 : ∀ y : Ext W, y.to.cell? _ = _ := fun y => ext_cell y m4
  have xk4 : ∀ y : Ext W, y.to.cell? _ = _ := fun y => ext_cell y k4
  have xm5 : ∀ y : Ext W, y.to.cell? _ = _ := fun y => ext_cell y m5
  have xk5 : ∀ y : Ext W, y.to.cell? _ = _ := fun y => ext_cell y k5
  have xm6 : ∀ y : Ext W, y.to.cell? _ = _ := fun y => ext_cell y m6
  have xk6 : ∀ y : Ext W, y.to.cell? _ = _ := fun y => ext_cell y k6
  have xm7 : ∀ y : Ext W, y.to.cell? _ = _ := fun y => ext_cell y m7
  have xk7 : ∀ y : Ext W, y.to.cell? _ = _ := fun y => ext_cell y k7
  have xm8 : ∀ y : Ext W, y.to.cell? _ = _ := fun y => ext_cell y m8
  have xk8 : ∀ y : Ext W, y.to.cell? _ = _ := fun y => ext_cell y k8
  have xm9 : ∀ y : Ext W, y.to.cell? _ = _ := fun y => ext_cell y m9
  have xk9 : ∀ y : Ext W, y.to.cell? _ = _ := fun y => ext_cell y k9
  have xm10 : ∀ y : Ext W, y.to.cell? _ = _ := fun y => ext_cell y m10
  have xk10 : ∀ y : Ext W, y.to.cell? _ = _ := fun y => ext_cell y k10
  have hsome := extSome W
  clear HBo HNo m0 m1 m2 m3 m4 m5 m6 m7 m8 m9 m10 k0 k1 k2 k3 k4 k5 k6 k7 k8 k9 k10
  refine plain_quiet ?_
  dsimp only [List.append]
  repeat (go_big_quiet_step ((first | (go_at_call 34; with_reducible exact ext_call _ (X0.out _)))))
  refine wpQuiet_nil ?_
  rintro _ ⟨y, hy⟩
  subst hy
  have HB1 := trB HB0 y.below
  clear xm0 xk0 xm1 xk1 xm2 xk2 xm3 xk3 xm4 xk4 xm5 xk5 xm6 xk6 xm7 xk7 xm8 xk8 xm9 xk9 xm10 xk10
  go_wp2_with fail
  go_ret
  exact ⟨rfl, HB1.out⟩
theorem same_1 (n m : Nt) (ai az bi bz : Option Addr) (ci cz di dz : Nat) (w : World) (hn : NtL w ai az n) (hm : NtL w bi bz m) (h0 : eqv n.l m.l = true) (h1 : eqv n.z m.z = false) : Calls Tryz.prog 12 #[.agg #[.int .i64 n.k, .string n.n, .string n.x, .string n.d, .int .i64 n.c, .int .i64 n.s, .int .i64 n.e, .int .i64 n.t, .bool n.o, .slice ai n.l.length ci, .slice az n.z.length cz], .agg #[.int .i64 m.k, .string m.n, .string m.x, .string m.d, .int .i64 m.c, .int .i64 m.s, .int .i64 m.e, .int .i64 m.t, .bool m.o, .slice bi m.l.length di, .slice bz m.z.length dz]] w (Gives (.bool false) w) := by
  obtain ⟨HB0, HBo, HNo⟩ := bxTwo w #[.int .i64 n.k, .string n.n, .string n.x, .string n.d, .int .i64 n.c, .int .i64 n.s, .int .i64 n.e, .int .i64 n.t, .bool n.o, .slice ai n.l.length ci, .slice az n.z.length cz] 25 #[.int .i64 m.k, .string m.n, .string m.x, .string m.d, .int .i64 m.c, .int .i64 m.s, .int .i64 m.e, .int .i64 m.t, .bool m.o, .slice bi m.l.length di, .slice bz m.z.length dz] 25
  have X0 : Hid (Xc ((w.alloc (.cells #[.int .i64 n.k, .string n.n, .string n.x, .string n.d, .int .i64 n.c, .int .i64 n.s, .int .i64 n.e, .int .i64 n.t, .bool n.o, .slice ai n.l.length ci, .slice az n.z.length cz] 25)).alloc (.cells #[.int .i64 m.k, .string m.n, .string m.x, .string m.d, .int .i64 m.c, .int .i64 m.s, .int .i64 m.e, .int .i64 m.t, .bool m.o, .slice bi m.l.length di, .slice bz m.z.length dz] 25)) 34 #[.slice ai n.l.length ci, .slice bi m.l.length di] (.bool true)) := fun y => by have := eqI_any n.l m.l ai bi ci di y.to (hn.hI.below (HB0.out.trans (y.below.mono HB0.out.size))) (hm.hI.below (HB0.out.trans (y.below.mono HB0.out.size))) (Nat.le_trans hn.hin (by decide)) (Nat.le_trans hm.hin (by decide)); rw [h0] at this; exact this
  have X1 : Hid (Xc ((w.alloc (.cells #[.int .i64 n.k, .string n.n, .string n.x, .string n.d, .int .i64 n.c, .int .i64 n.s, .int .i64 n.e, .int .i64 n.t, .bool n.o, .slice ai n.l.length ci, .slice az n.z.length cz] 25)).alloc (.cells #[.int .i64 m.k, .string m.n, .string m.x, .string m.d, .int .i64 m.c, .int .i64 m.s, .int .i64 m.e, .int .i64 m.t, .bool m.o, .slice bi m.l.length di, .slice bz m.z.length dz] 25)) 35 #[.slice az n.z.length cz, .slice bz m.z.length dz] (.bool false)) := fun y => by have := eqC_any n.z m.z az bz cz dz y.to (hn.hZ.below (HB0.out.trans (y.below.mono HB0.out.size))) (hm.hZ.below (HB0.out.trans (y.below.mono HB0.out.size))) (Nat.le_trans hn.hzn (by decide)) (Nat.le_trans hm.hzn (by decide)); rw [h1] at this; exact this
  clear hn hm h0 h1
  obtain ⟨m0, m1, m2, m3, m4, m5, m6, m7, m8, m9, m10⟩ := bx11 HBo.out
  obtain ⟨k0, k1, k2, k3, k4, k5, k6, k7, k8, k9, k10⟩ := bx11 HNo.out
  go_enter Tryz.func12, Tryz.ntmps12
  go_upto_region 1 with fail
  generalize ((w.alloc (.cells #[.int .i64 n.k, .string n.n, .string n.x, .string n.d, .int .i64 n.c, .int .i64 n.s, .int .i64 n.e, .int .i64 n.t, .bool n.o, .slice ai n.l.length ci, .slice az n.z.length cz] 25)).alloc (.cells #[.int .i64 m.k, .string m.n, .string m.x, .string m.d, .int .i64 m.c, .int .i64 m.s, .int .i64 m.e, .int .i64 m.t, .bool m.o, .slice bi m.l.length di, .slice bz m.z.length dz] 25)) = W at HB0 HBo HNo X0 X1 m0 m1 m2 m3 m4 m5 m6 m7 m8 m9 m10 k0 k1 k2 k3 k4 k5 k6 k7 k8 k9 k10 ⊢
  have xm0 : ∀ y : Ext W, y.to.cell? _ = _ := fun y => ext_cell y m0
  have xk0 : ∀ y : Ext W, y.to.cell? _ = _ := fun y => ext_cell y k0
  have xm1 : ∀ y : Ext W, y.to.cell? _ = _ := fun y => ext_cell y m1
  have xk1 : ∀ y : Ext W, y.to.cell? _ = _ := fun y => ext_cell y k1
  have xm2 : ∀ y : Ext W, y.to.cell? _ = _ := fun y => ext_cell y m2
  have xk2 : ∀ y : Ext W, y.to.cell? _ = _ := fun y => ext_cell y k2
  have xm3 : ∀ y : Ext W, y.to.cell? _ = _ := fun y => ext_cell y m3
  have xk3 : ∀ y : Ext W, y.to.cell? _ = _ := fun y => ext_cell y k3
  have xm4 : ∀ y : Ext W, y.to.cell? _ = _ := fun y => ext_cell y m4
  have xk4 : ∀ y : Ext W, y.to.cell? _ = _ := fun y => ext_cell y k4
  have xm5 : ∀ y : Ext W, y.to.cell? _ = _ := fun y => ext_cell y m5
  have xk5 : ∀ y : Ext W, y.to.cell? _ = _ := fun y => ext_cell y k5
  have xm6 : ∀ y : Ext W, y.to.cell? _ = _ := fun y => ext_cell y m6
  have xk6 : ∀ y : Ext W, y.to.cell? _ = _ := fun y => ext_cell y k6
  have xm7 : ∀ y : Ext W, y.to.cell? _ = _ := fun y => ext_cell y m7
  have xk7 : ∀ y : Ext W, y.to.cell? _ = _ := fun y => ext_cell y k7
  have xm8 : ∀ y : Ext W, y.to.cell? _ = _ := fun y => ext_cell y m8
  have xk8 : ∀ y : Ext W, y.to.cell? _ = _ := fun y => ext_cell y k8
  have xm9 : ∀ y : Ext W, y.to.cell? _ = _ := fun y => ext_cell y m9
  have xk9 : ∀ y : Ext W, y.to.cell? _ = _ := fun y => ext_cell y k9
  have xm10 : ∀ y : Ext W, y.to.cell? _ = _ := fun y => ext_cell y m10
  have xk10 : ∀ y : Ext W, y.to.cell? _ = _ := fun y => ext_cell y k10
  have hsome := extSome W
  clear HBo HNo m0 m1 m2 m3 m4 m5 m6 m7 m8 m9 m10 k0 k1 k2 k3 k4 k5 k6 k7 k8 k9 k10
  refine plain_quiet ?_
  dsimp only [List.append]
  repeat (go_big_quiet_step ((first | (go_at_call 34; with_reducible exact ext_call _ (X0.out _)) | (go_at_call 35; with_reducible exact ext_call _ (X1.out _)))))
  refine wpQuiet_nil ?_
  rintro _ ⟨y, hy⟩
  subst hy
  have HB1 := trB HB0 y.below
  clear xm0 xk0 xm1 xk1 xm2 xk2 xm3 xk3 xm4 xk4 xm5 xk5 xm6 xk6 xm7 xk7 xm8 xk8 xm9 xk9 xm10 xk10
  go_wp2_with fail
  go_ret
  exact ⟨rfl, HB1.out⟩
theorem same_2 (n m : Nt) (ai az bi bz : Option Addr) (ci cz di dz : Nat) (w : World) (hn : NtL w ai az n) (hm : NtL w bi bz m) (h0 : eqv n.l m.l = true) (h1 : eqv n.z m.z = true) (h2 : n.k ≠ m.k) : Calls Tryz.prog 12 #[.agg #[.int .i64 n.k, .string n.n, .string n.x, .string n.d, .int .i64 n.c, .int .i64 n.s, .int .i64 n.e, .int .i64 n.t, .bool n.o, .slice ai n.l.length ci, .slice az n.z.length cz], .agg #[.int .i64 m.k, .string m.n, .string m.x, .string m.d, .int .i64 m.c, .int .i64 m.s, .int .i64 m.e, .int .i64 m.t, .bool m.o, .slice bi m.l.length di, .slice bz m.z.length dz]] w (Gives (.bool false) w) := by
  have q2 := beq_eq_false_iff_ne.2 h2
  obtain ⟨HB0, HBo, HNo⟩ := bxTwo w #[.int .i64 n.k, .string n.n, .string n.x, .string n.d, .int .i64 n.c, .int .i64 n.s, .int .i64 n.e, .int .i64 n.t, .bool n.o, .slice ai n.l.length ci, .slice az n.z.length cz] 25 #[.int .i64 m.k, .string m.n, .string m.x, .string m.d, .int .i64 m.c, .int .i64 m.s, .int .i64 m.e, .int .i64 m.t, .bool m.o, .slice bi m.l.length di, .slice bz m.z.length dz] 25
  have X0 : Hid (Xc ((w.alloc (.cells #[.int .i64 n.k, .string n.n, .string n.x, .string n.d, .int .i64 n.c, .int .i64 n.s, .int .i64 n.e, .int .i64 n.t, .bool n.o, .slice ai n.l.length ci, .slice az n.z.length cz] 25)).alloc (.cells #[.int .i64 m.k, .string m.n, .string m.x, .string m.d, .int .i64 m.c, .int .i64 m.s, .int .i64 m.e, .int .i64 m.t, .bool m.o, .slice bi m.l.length di, .slice bz m.z.length dz] 25)) 34 #[.slice ai n.l.length ci, .slice bi m.l.length di] (.bool true)) := fun y => by have := eqI_any n.l m.l ai bi ci di y.to (hn.hI.below (HB0.out.trans (y.below.mono HB0.out.size))) (hm.hI.below (HB0.out.trans (y.below.mono HB0.out.size))) (Nat.le_trans hn.hin (by decide)) (Nat.le_trans hm.hin (by decide)); rw [h0] at this; exact this
  have X1 : Hid (Xc ((w.alloc (.cells #[.int .i64 n.k, .string n.n, .string n.x, .string n.d, .int .i64 n.c, .int .i64 n.s, .int .i64 n.e, .int .i64 n.t, .bool n.o, .slice ai n.l.length ci, .slice az n.z.length cz] 25)).alloc (.cells #[.int .i64 m.k, .string m.n, .string m.x, .string m.d, .int .i64 m.c, .int .i64 m.s, .int .i64 m.e, .int .i64 m.t, .bool m.o, .slice bi m.l.length di, .slice bz m.z.length dz] 25)) 35 #[.slice az n.z.length cz, .slice bz m.z.length dz] (.bool true)) := fun y => by have := eqC_any n.z m.z az bz cz dz y.to (hn.hZ.below (HB0.out.trans (y.below.mono HB0.out.size))) (hm.hZ.below (HB0.out.trans (y.below.mono HB0.out.size))) (Nat.le_trans hn.hzn (by decide)) (Nat.le_trans hm.hzn (by decide)); rw [h1] at this; exact this
  clear hn hm h0 h1 h2
  obtain ⟨m0, m1, m2, m3, m4, m5, m6, m7, m8, m9, m10⟩ := bx11 HBo.out
  obtain ⟨k0, k1, k2, k3, k4, k5, k6, k7, k8, k9, k10⟩ := bx11 HNo.out
  go_enter Tryz.func12, Tryz.ntmps12
  go_upto_region 1 with fail
  generalize ((w.alloc (.cells #[.int .i64 n.k, .string n.n, .string n.x, .string n.d, .int .i64 n.c, .int .i64 n.s, .int .i64 n.e, .int .i64 n.t, .bool n.o, .slice ai n.l.length ci, .slice az n.z.length cz] 25)).alloc (.cells #[.int .i64 m.k, .string m.n, .string m.x, .string m.d, .int .i64 m.c, .int .i64 m.s, .int .i64 m.e, .int .i64 m.t, .bool m.o, .slice bi m.l.length di, .slice bz m.z.length dz] 25)) = W at HB0 HBo HNo X0 X1 m0 m1 m2 m3 m4 m5 m6 m7 m8 m9 m10 k0 k1 k2 k3 k4 k5 k6 k7 k8 k9 k10 ⊢
  have xm0 : ∀ y : Ext W, y.to.cell? _ = _ := fun y => ext_cell y m0
  have xk0 : ∀ y : Ext W, y.to.cell? _ = _ := fun y => ext_cell y k0
  have xm1 : ∀ y : Ext W, y.to.cell? _ = _ := fun y => ext_cell y m1
  have xk1 : ∀ y : Ext W, y.to.cell? _ = _ := fun y => ext_cell y k1
  have xm2 : ∀ y : Ext W, y.to.cell? _ = _ := fun y => ext_cell y m2
  have xk2 : ∀ y : Ext W, y.to.cell? _ = _ := fun y => ext_cell y k2
  have xm3 : ∀ y : Ext W, y.to.cell? _ = _ := fun y => ext_cell y m3
  have xk3 : ∀ y : Ext W, y.to.cell? _ = _ := fun y => ext_cell y k3
  have xm4 : ∀ y : Ext W, y.to.cell? _ = _ := fun y => ext_cell y m4
  have xk4 : ∀ y : Ext W, y.to.cell? _ = _ := fun y => ext_cell y k4
  have xm5 : ∀ y : Ext W, y.to.cell? _ = _ := fun y => ext_cell y m5
  have xk5 : ∀ y : Ext W, y.to.cell? _ = _ := fun y => ext_cell y k5
  have xm6 : ∀ y : Ext W, y.to.cell? _ = _ := fun y => ext_cell y m6
  have xk6 : ∀ y : Ext W, y.to.cell? _ = _ := fun y => ext_cell y k6
  have xm7 : ∀ y : Ext W, y.to.cell? _ = _ := fun y => ext_cell y m7
  have xk7 : ∀ y : Ext W, y.to.cell? _ = _ := fun y => ext_cell y k7
  have xm8 : ∀ y : Ext W, y.to.cell? _ = _ := fun y => ext_cell y m8
  have xk8 : ∀ y : Ext W, y.to.cell? _ = _ := fun y => ext_cell y k8
  have xm9 : ∀ y : Ext W, y.to.cell? _ = _ := fun y => ext_cell y m9
  have xk9 : ∀ y : Ext W, y.to.cell? _ = _ := fun y => ext_cell y k9
  have xm10 : ∀ y : Ext W, y.to.cell? _ = _ := fun y => ext_cell y m10
  have xk10 : ∀ y : Ext W, y.to.cell? _ = _ := fun y => ext_cell y k10
  have hsome := extSome W
  clear HBo HNo m0 m1 m2 m3 m4 m5 m6 m7 m8 m9 m10 k0 k1 k2 k3 k4 k5 k6 k7 k8 k9 k10
  refine plain_quiet ?_
  dsimp only [List.append]
  repeat (go_big_quiet_step ((first | (go_at_call 34; with_reducible exact ext_call _ (X0.out _)) | (go_at_call 35; with_reducible exact ext_call _ (X1.out _)))))
  refine wpQuiet_nil ?_
  rintro _ ⟨y, hy⟩
  subst hy
  have HB1 := trB HB0 y.below
  clear xm0 xk0 xm1 xk1 xm2 xk2 xm3 xk3 xm4 xk4 xm5 xk5 xm6 xk6 xm7 xk7 xm8 xk8 xm9 xk9 xm10 xk10
  go_wp2_with fail
  go_ret
  exact ⟨rfl, HB1.out⟩
theorem same_3 (n m : Nt) (ai az bi bz : Option Addr) (ci cz di dz : Nat) (w : World) (hn : NtL w ai az n) (hm : NtL w bi bz m) (h0 : eqv n.l m.l = true) (h1 : eqv n.z m.z = true) (h2 : n.n ≠ m.n) : Calls Tryz.prog 12 #[.agg #[.int .i64 n.k, .string n.n, .string n.x, .string n.d, .int .i64 n.c, .int .i64 n.s, .int .i64 n.e, .int .i64 n.t, .bool n.o, .slice ai n.l.length ci, .slice az n.z.length cz], .agg #[.int .i64 n.k, .string m.n, .string m.x, .string m.d, .int .i64 m.c, .int .i64 m.s, .int .i64 m.e, .int .i64 m.t, .bool m.o, .slice bi m.l.length di, .slice bz m.z.length dz]] w (Gives (.bool false) w) := by
  have q2 := text_neb h2
  obtain ⟨HB0, HBo, HNo⟩ := bxTwo w #[.int .i64 n.k, .string n.n, .string n.x, .string n.d, .int .i64 n.c, .int .i64 n.s, .int .i64 n.e, .int .i64 n.t, .bool n.o, .slice ai n.l.length ci, .slice az n.z.length cz] 25 #[.int .i64 n.k, .string m.n, .string m.x, .string m.d, .int .i64 m.c, .int .i64 m.s, .int .i64 m.e, .int .i64 m.t, .bool m.o, .slice bi m.l.length di, .slice bz m.z.length dz] 25
  have X0 : Hid (Xc ((w.alloc (.cells #[.int .i64 n.k, .string n.n, .string n.x, .string n.d, .int .i64 n.c, .int .i64 n.s, .int .i64 n.e, .int .i64 n.t, .bool n.o, .slice ai n.l.length ci, .slice az n.z.length cz] 25)).alloc (.cells #[.int .i64 n.k, .string m.n, .string m.x, .string m.d, .int .i64 m.c, .int .i64 m.s, .int .i64 m.e, .int .i64 m.t, .bool m.o, .slice bi m.l.length di, .slice bz m.z.length dz] 25)) 34 #[.slice ai n.l.length ci, .slice bi m.l.length di] (.bool true)) := fun y => by have := eqI_any n.l m.l ai bi ci di y.to (hn.hI.below (HB0.out.trans (y.below.mono HB0.out.size))) (hm.hI.below (HB0.out.trans (y.below.mono HB0.out.size))) (Nat.le_trans hn.hin (by decide)) (Nat.le_trans hm.hin (by decide)); rw [h0] at this; exact this
  have X1 : Hid (Xc ((w.alloc (.cells #[.int .i64 n.k, .string n.n, .string n.x, .string n.d, .int .i64 n.c, .int .i64 n.s, .int .i64 n.e, .int .i64 n.t, .bool n.o, .slice ai n.l.length ci, .slice az n.z.length cz] 25)).alloc (.cells #[.int .i64 n.k, .string m.n, .string m.x, .string m.d, .int .i64 m.c, .int .i64 m.s, .int .i64 m.e, .int .i64 m.t, .bool m.o, .slice bi m.l.length di, .slice bz m.z.length dz] 25)) 35 #[.slice az n.z.length cz, .slice bz m.z.length dz] (.bool true)) := fun y => by have := eqC_any n.z m.z az bz cz dz y.to (hn.hZ.below (HB0.out.trans (y.below.mono HB0.out.size))) (hm.hZ.below (HB0.out.trans (y.below.mono HB0.out.size))) (Nat.le_trans hn.hzn (by decide)) (Nat.le_trans hm.hzn (by decide)); rw [h1] at this; exact this
  clear hn hm h0 h1 h2
  obtain ⟨m0, m1, m2, m3, m4, m5, m6, m7, m8, m9, m10⟩ := bx11 HBo.out
  obtain ⟨k0, k1, k2, k3, k4, k5, k6, k7, k8, k9, k10⟩ := bx11 HNo.out
  go_enter Tryz.func12, Tryz.ntmps12
  go_upto_region 1 with fail
  generalize ((w.alloc (.cells #[.int .i64 n.k, .string n.n, .string n.x, .string n.d, .int .i64 n.c, .int .i64 n.s, .int .i64 n.e, .int .i64 n.t, .bool n.o, .slice ai n.l.length ci, .slice az n.z.length cz] 25)).alloc (.cells #[.int .i64 n.k, .string m.n, .string m.x, .string m.d, .int .i64 m.c, .int .i64 m.s, .int .i64 m.e, .int .i64 m.t, .bool m.o, .slice bi m.l.length di, .slice bz m.z.length dz] 25)) = W at HB0 HBo HNo X0 X1 m0 m1 m2 m3 m4 m5 m6 m7 m8 m9 m10 k0 k1 k2 k3 k4 k5 k6 k7 k8 k9 k10 ⊢
  have xm0 : ∀ y : Ext W, y.to.cell? _ = _ := fun y => ext_cell y m0
  have xk0 : ∀ y : Ext W, y.to.cell? _ = _ := fun y => ext_cell y k0
  have xm1 : ∀ y : Ext W, y.to.cell? _ = _ := fun y => ext_cell y m1
  have xk1 : ∀ y : Ext W, y.to.cell? _ = _ := fun y => ext_cell y k1
  have xm2 : ∀ y : Ext W, y.to.cell? _ = _ := fun y => ext_cell y m2
  have xk2 : ∀ y : Ext W, y.to.cell? _ = _ := fun y => ext_cell y k2
  have xm3 : ∀ y : Ext W, y.to.cell? _ = _ := fun y => ext_cell y m3
  have xk3 : ∀ y : Ext W, y.to.cell? _ = _ := fun y => ext_cell y k3
  have xm4 : ∀ y : Ext W, y.to.cell? _ = _ := fun y => ext_cell y m4
  have xk4 : ∀ y : Ext W, y.to.cell? _ = _ := fun y => ext_cell y k4
  have xm5 : ∀ y : Ext W, y.to.cell? _ = _ := fun y => ext_cell y m5
  have xk5 : ∀ y : Ext W, y.to.cell? _ = _ := fun y => ext_cell y k5
  have xm6 : ∀ y : Ext W, y.to.cell? _ = _ := fun y => ext_cell y m6
  have xk6 : ∀ y : Ext W, y.to.cell? _ = _ := fun y => ext_cell y k6
  have xm7 : ∀ y : Ext W, y.to.cell? _ = _ := fun y => ext_cell y m7
  have xk7 : ∀ y : Ext W, y.to.cell? _ = _ := fun y => ext_cell y k7
  have xm8 : ∀ y : Ext W, y.to.cell? _ = _ := fun y => ext_cell y m8
  have xk8 : ∀ y : Ext W, y.to.cell? _ = _ := fun y => ext_cell y k8
  have xm9 : ∀ y : Ext W, y.to.cell? _ = _ := fun y => ext_cell y m9
  have xk9 : ∀ y : Ext W, y.to.cell? _ = _ := fun y => ext_cell y k9
  have xm10 : ∀ y : Ext W, y.to.cell? _ = _ := fun y => ext_cell y m10
  have xk10 : ∀ y : Ext W, y.to.cell? _ = _ := fun y => ext_cell y k10
  have hsome := extSome W
  clear HBo HNo m0 m1 m2 m3 m4 m5 m6 m7 m8 m9 m10 k0 k1 k2 k3 k4 k5 k6 k7 k8 k9 k10
  refine plain_quiet ?_
  dsimp only [List.append]
  repeat (go_big_quiet_step ((first | (go_at_call 34; with_reducible exact ext_call _ (X0.out _)) | (go_at_call 35; with_reducible exact ext_call _ (X1.out _)))))
  refine wpQuiet_nil ?_
  rintro _ ⟨y, hy⟩
  subst hy
  have HB1 := trB HB0 y.below
  clear xm0 xk0 xm1 xk1 xm2 xk2 xm3 xk3 xm4 xk4 xm5 xk5 xm6 xk6 xm7 xk7 xm8 xk8 xm9 xk9 xm10 xk10
  go_wp2_with fail
  go_ret
  exact ⟨rfl, HB1.out⟩
theorem same_4 (n m : Nt) (ai az bi bz : Option Addr) (ci cz di dz : Nat) (w : World) (hn : NtL w ai az n) (hm : NtL w bi bz m) (h0 : eqv n.l m.l = true) (h1 : eqv n.z m.z = true) (h2 : n.x ≠ m.x) : Calls Tryz.prog 12 #[.agg #[.int .i64 n.k, .string n.n, .string n.x, .string n.d, .int .i64 n.c, .int .i64 n.s, .int .i64 n.e, .int .i64 n.t, .bool n.o, .slice ai n.l.length ci, .slice az n.z.length cz], .agg #[.int .i64 n.k, .string n.n, .string m.x, .string m.d, .int .i64 m.c, .int .i64 m.s, .int .i64 m.e, .int .i64 m.t, .bool m.o, .slice bi m.l.length di, .slice bz m.z.length dz]] w (Gives (.bool false) w) := by
  have q2 := text_neb h2
  obtain ⟨HB0, HBo, HNo⟩ := bxTwo w #[.int .i64 n.k, .string n.n, .string n.x, .string n.d, .int .i64 n.c, .int .i64 n.s, .int .i64 n.e, .int .i64 n.t, .bool n.o, .slice ai n.l.length ci, .slice az n.z.length cz] 25 #[.int .i64 n.k, .string n.n, .string m.x, .string m.d, .int .i64 m.c, .int .i64 m.s, .int .i64 m.e, .int .i64 m.t, .bool m.o, .slice bi m.l.length di, .slice bz m.z.length dz] 25
  have X0 : Hid (Xc ((w.alloc (.cells #[.int .i64 n.k, .string n.n, .string n.x, .string n.d, .int .i64 n.c, .int .i64 n.s, .int .i64 n.e, .int .i64 n.t, .bool n.o, .slice ai n.l.length ci, .slice az n.z.length cz] 25)).alloc (.cells #[.int .i64 n.k, .string n.n, .string m.x, .string m.d, .int .i64 m.c, .int .i64 m.s, .int .i64 m.e, .int .i64 m.t, .bool m.o, .slice bi m.l.length di, .slice bz m.z.length dz] 25)) 34 #[.slice ai n.l.length ci, .slice bi m.l.length di] (.bool true)) := fun y => by have := eqI_any n.l m.l ai bi ci di y.to (hn.hI.below (HB0.out.trans (y.below.mono HB0.out.size))) (hm.hI.below (HB0.out.trans (y.below.mono HB0.out.size))) (Nat.le_trans hn.hin (by decide)) (Nat.le_trans hm.hin (by decide)); rw [h0] at this; exact this
  have X1 : Hid (Xc ((w.alloc (.cells #[.int .i64 n.k, .string n.n, .string n.x, .string n.d, .int .i64 n.c, .int .i64 n.s, .int .i64 n.e, .int .i64 n.t, .bool n.o, .slice ai n.l.length ci, .slice az n.z.length cz] 25)).alloc (.cells #[.int .i64 n.k, .string n.n, .string m.x, .string m.d, .int .i64 m.c, .int .i64 m.s, .int .i64 m.e, .int .i64 m.t, .bool m.o, .slice bi m.l.length di, .slice bz m.z.length dz] 25)) 35 #[.slice az n.z.length cz, .slice bz m.z.length dz] (.bool true)) := fun y => by have := eqC_any n.z m.z az bz cz dz y.to (hn.hZ.below (HB0.out.trans (y.below.mono HB0.out.size))) (hm.hZ.below (HB0.out.trans (y.below.mono HB0.out.size))) (Nat.le_trans hn.hzn (by decide)) (Nat.le_trans hm.hzn (by decide)); rw [h1] at this; exact this
  clear hn hm h0 h1 h2
  obtain ⟨m0, m1, m2, m3, m4, m5, m6, m7, m8, m9, m10⟩ := bx11 HBo.out
  obtain ⟨k0, k1, k2, k3, k4, k5, k6, k7, k8, k9, k10⟩ := bx11 HNo.out
  go_enter Tryz.func12, Tryz.ntmps12
  go_upto_region 1 with fail
  generalize ((w.alloc (.cells #[.int .i64 n.k, .string n.n, .string n.x, .string n.d, .int .i64 n.c, .int .i64 n.s, .int .i64 n.e, .int .i64 n.t, .bool n.o, .slice ai n.l.length ci, .slice az n.z.length cz] 25)).alloc (.cells #[.int .i64 n.k, .string n.n, .string m.x, .string m.d, .int .i64 m.c, .int .i64 m.s, .int .i64 m.e, .int .i64 m.t, .bool m.o, .slice bi m.l.length di, .slice bz m.z.length dz] 25)) = W at HB0 HBo HNo X0 X1 m0 m1 m2 m3 m4 m5 m6 m7 m8 m9 m10 k0 k1 k2 k3 k4 k5 k6 k7 k8 k9 k10 ⊢
  have xm0 : ∀ y : Ext W, y.to.cell? _ = _ := fun y => ext_cell y m0
  have xk0 : ∀ y : Ext W, y.to.cell? _ = _ := fun y => ext_cell y k0
  have xm1 : ∀ y : Ext W, y.to.cell? _ = _ := fun y => ext_cell y m1
  have xk1 : ∀ y : Ext W, y.to.cell? _ = _ := fun y => ext_cell y k1
  have xm2 : ∀ y : Ext W, y.to.cell? _ = _ := fun y => ext_cell y m2
  have xk2 : ∀ y : Ext W, y.to.cell? _ = _ := fun y => ext_cell y k2
  have xm3 : ∀ y : Ext W, y.to.cell? _ = _ := fun y => ext_cell y m3
  have xk3 : ∀ y : Ext W, y.to.cell? _ = _ := fun y => ext_cell y k3
  have xm4 : ∀ y : Ext W, y.to.cell? _ = _ := fun y => ext_cell y m4
  have xk4 : ∀ y : Ext W, y.to.cell? _ = _ := fun y => ext_cell y k4
  have xm5 : ∀ y : Ext W, y.to.cell? _ = _ := fun y => ext_cell y m5
  have xk5 : ∀ y : Ext W, y.to.cell? _ = _ := fun y => ext_cell y k5
  have xm6 : ∀ y : Ext W, y.to.cell? _ = _ := fun y => ext_cell y m6
  have xk6 : ∀ y : Ext W, y.to.cell? _ = _ := fun y => ext_cell y k6
  have xm7 : ∀ y : Ext W, y.to.cell? _ = _ := fun y => ext_cell y m7
  have xk7 : ∀ y : Ext W, y.to.cell? _ = _ := fun y => ext_cell y k7
  have xm8 : ∀ y : Ext W, y.to.cell? _ = _ := fun y => ext_cell y m8
  have xk8 : ∀ y : Ext W, y.to.cell? _ = _ := fun y => ext_cell y k8
  have xm9 : ∀ y : Ext W, y.to.cell? _ = _ := fun y => ext_cell y m9
  have xk9 : ∀ y : Ext W, y.to.cell? _ = _ := fun y => ext_cell y k9
  have xm10 : ∀ y : Ext W, y.to.cell? _ = _ := fun y => ext_cell y m10
  have xk10 : ∀ y : Ext W, y.to.cell? _ = _ := fun y => ext_cell y k10
  have hsome := extSome W
  clear HBo HNo m0 m1 m2 m3 m4 m5 m6 m7 m8 m9 m10 k0 k1 k2 k3 k4 k5 k6 k7 k8 k9 k10
  refine plain_quiet ?_
  dsimp only [List.append]
  repeat (go_big_quiet_step ((first | (go_at_call 34; with_reducible exact ext_call _ (X0.out _)) | (go_at_call 35; with_reducible exact ext_call _ (X1.out _)))))
  refine wpQuiet_nil ?_
  rintro _ ⟨y, hy⟩
  subst hy
  have HB1 := trB HB0 y.below
  clear xm0 xk0 xm1 xk1 xm2 xk2 xm3 xk3 xm4 xk4 xm5 xk5 xm6 xk6 xm7 xk7 xm8 xk8 xm9 xk9 xm10 xk10
  go_wp2_with fail
  go_ret
  exact ⟨rfl, HB1.out⟩
theorem same_5 (n m : Nt) (ai az bi bz : Option Addr) (ci cz di dz : Nat) (w : World) (hn : NtL w ai az n) (hm : NtL w bi bz m) (h0 : eqv n.l m.l = true) (h1 : eqv n.z m.z = true) (h2 : n.d ≠ m.d) : Calls Tryz.prog 12 #[.agg #[.int .i64 n.k, .string n.n, .string n.x, .string n.d, .int .i64 n.c, .int .i64 n.s, .int .i64 n.e, .int .i64 n.t, .bool n.o, .slice ai n.l.length ci, .slice az n.z.length cz], .agg #[.int .i64 n.k, .string n.n, .string n.x, .string m.d, .int .i64 m.c, .int .i64 m.s, .int .i64 m.e, .int .i64 m.t, .bool m.o, .slice bi m.l.length di, .slice bz m.z.length dz]] w (Gives (.bool false) w) := by
  have q2 := text_neb h2
  obtain ⟨HB0, HBo, HNo⟩ := bxTwo w #[.int .i64 n.k, .string n.n, .string n.x, .string n.d, .int .i64 n.c, .int .i64 n.s, .int .i64 n.e, .int .i64 n.t, .bool n.o, .slice ai n.l.length ci, .slice az n.z.length cz] 25 #[.int .i64 n.k, .string n.n, .string n.x, .string m.d, .int .i64 m.c, .int .i64 m.s, .int .i64 m.e, .int .i64 m.t, .bool m.o, .slice bi m.l.length di, .slice bz m.z.length dz] 25
  have X0 : Hid (Xc ((w.alloc (.cells #[.int .i64 n.k, .string n.n, .string n.x, .string n.d, .int .i64 n.c, .int .i64 n.s, .int .i64 n.e, .int .i64 n.t, .bool n.o, .slice ai n.l.length ci, .slice az n.z.length cz] 25)).alloc (.cells #[.int .i64 n.k, .string n.n, .string n.x, .string m.d, .int .i64 m.c, .int .i64 m.s, .int .i64 m.e, .int .i64 m.t, .bool m.o, .slice bi m.l.length di, .slice bz m.z.length dz] 25)) 34 #[.slice ai n.l.length ci, .slice bi m.l.length di] (.bool true)) := fun y => by have := eqI_any n.l m.l ai bi ci di y.to (hn.hI.below (HB0.out.trans (y.below.mono HB0.out.size))) (hm.hI.below (HB0.out.trans (y.below.mono HB0.out.size))) (Nat.le_trans hn.hin (by decide)) (Nat.le_trans hm.hin (by decide)); rw [h0] at this; exact this
  have X1 : Hid (Xc ((w.alloc (.cells #[.int .i64 n.k, .string n.n, .string n.x, .string n.d, .int .i64 n.c, .int .i64 n.s, .int .i64 n.e, .int .i64 n.t, .bool n.o, .slice ai n.l.length ci, .slice az n.z.length cz] 25)).alloc (.cells #[.int .i64 n.k, .string n.n, .string n.x, .string m.d, .int .i64 m.c, .int .i64 m.s, .int .i64 m.e, .int .i64 m.t, .bool m.o, .slice bi m.l.length di, .slice bz m.z.length dz] 25)) 35 #[.slice az n.z.length cz, .slice bz m.z.length dz] (.bool true)) := fun y => by have := eqC_any n.z m.z az bz cz dz y.to (hn.hZ.below (HB0.out.trans (y.below.mono HB0.out.size))) (hm.hZ.below (HB0.out.trans (y.below.mono HB0.out.size))) (Nat.le_trans hn.hzn (by decide)) (Nat.le_trans hm.hzn (by decide)); rw [h1] at this; exact this
  clear hn hm h0 h1 h2
  obtain ⟨m0, m1, m2, m3, m4, m5, m6, m7, m8, m9, m10⟩ := bx11 HBo.out
  obtain ⟨k0, k1, k2, k3, k4, k5, k6, k7, k8, k9, k10⟩ := bx11 HNo.out
  go_enter Tryz.func12, Tryz.ntmps12
  go_upto_region 1 with fail
  generalize ((w.alloc (.cells #[.int .i64 n.k, .string n.n, .string n.x, .string n.d, .int .i64 n.c, .int .i64 n.s, .int .i64 n.e, .int .i64 n.t, .bool n.o, .slice ai n.l.length ci, .slice az n.z.length cz] 25)).alloc (.cells #[.int .i64 n.k, .string n.n, .string n.x, .string m.d, .int .i64 m.c, .int .i64 m.s, .int .i64 m.e, .int .i64 m.t, .bool m.o, .slice bi m.l.length di, .slice bz m.z.length dz] 25)) = W at HB0 HBo HNo X0 X1 m0 m1 m2 m3 m4 m5 m6 m7 m8 m9 m10 k0 k1 k2 k3 k4 k5 k6 k7 k8 k9 k10 ⊢
  have xm0 : ∀ y : Ext W, y.to.cell? _ = _ := fun y => ext_cell y m0
  have xk0 : ∀ y : Ext W, y.to.cell? _ = _ := fun y => ext_cell y k0
  have xm1 : ∀ y : Ext W, y.to.cell? _ = _ := fun y => ext_cell y m1
  have xk1 : ∀ y : Ext W, y.to.cell? _ = _ := fun y => ext_cell y k1
  have xm2 : ∀ y : Ext W, y.to.cell? _ = _ := fun y => ext_cell y m2
  have xk2 : ∀ y : Ext W, y.to.cell? _ = _ := fun y => ext_cell y k2
  have xm3 : ∀ y : Ext W, y.to.cell? _ = _ := fun y => ext_cell y m3
  have xk3 : ∀ y : Ext W, y.to.cell? _ = _ := fun y => ext_cell y k3
  have xm4 : ∀ y : Ext W, y.to.cell? _ = _ := fun y => ext_cell y m4
  have xk4 : ∀ y : Ext W, y.to.cell? _ = _ := fun y => ext_cell y k4
  have xm5 : ∀ y : Ext W, y.to.cell? _ = _ := fun y => ext_cell y m5
  have xk5 : ∀ y : Ext W, y.to.cell? _ = _ := fun y => ext_cell y k5
  have xm6 : ∀ y : Ext W, y.to.cell? _ = _ := fun y => ext_cell y m6
  have xk6 : ∀ y : Ext W, y.to.cell? _ = _ := fun y => ext_cell y k6
  have xm7 : ∀ y : Ext W, y.to.cell? _ = _ := fun y => ext_cell y m7
  have xk7 : ∀ y : Ext W, y.to.cell? _ = _ := fun y => ext_cell y k7
  have xm8 : ∀ y : Ext W, y.to.cell? _ = _ := fun y => ext_cell y m8
  have xk8 : ∀ y : Ext W, y.to.cell? _ = _ := fun y => ext_cell y k8
  have xm9 : ∀ y : Ext W, y.to.cell? _ = _ := fun y => ext_cell y m9
  have xk9 : ∀ y : Ext W, y.to.cell? _ = _ := fun y => ext_cell y k9
  have xm10 : ∀ y : Ext W, y.to.cell? _ = _ := fun y => ext_cell y m10
  have xk10 : ∀ y : Ext W, y.to.cell? _ = _ := fun y => ext_cell y k10
  have hsome := extSome W
  clear HBo HNo m0 m1 m2 m3 m4 m5 m6 m7 m8 m9 m10 k0 k1 k2 k3 k4 k5 k6 k7 k8 k9 k10
  refine plain_quiet ?_
  dsimp only [List.append]
  repeat (go_big_quiet_step ((first | (go_at_call 34; with_reducible exact ext_call _ (X0.out _)) | (go_at_call 35; with_reducible exact ext_call _ (X1.out _)))))
  refine wpQuiet_nil ?_
  rintro _ ⟨y, hy⟩
  subst hy
  have HB1 := trB HB0 y.below
  clear xm0 xk0 xm1 xk1 xm2 xk2 xm3 xk3 xm4 xk4 xm5 xk5 xm6 xk6 xm7 xk7 xm8 xk8 xm9 xk9 xm10 xk10
  go_wp2_with fail
  go_ret
  exact ⟨rfl, HB1.out⟩
theorem same_6 (n m : Nt) (ai az bi bz : Option Addr) (ci cz di dz : Nat) (w : World) (hn : NtL w ai az n) (hm : NtL w bi bz m) (h0 : eqv n.l m.l = true) (h1 : eqv n.z m.z = true) (h2 : n.c ≠ m.c) : Calls Tryz.prog 12 #[.agg #[.int .i64 n.k, .string n.n, .string n.x, .string n.d, .int .i64 n.c, .int .i64 n.s, .int .i64 n.e, .int .i64 n.t, .bool n.o, .slice ai n.l.length ci, .slice az n.z.length cz], .agg #[.int .i64 n.k, .string n.n, .string n.x, .string n.d, .int .i64 m.c, .int .i64 m.s, .int .i64 m.e, .int .i64 m.t, .bool m.o, .slice bi m.l.length di, .slice bz m.z.length dz]] w (Gives (.bool false) w) := by
  have q2 := beq_eq_false_iff_ne.2 h2
  obtain ⟨HB0, HBo, HNo⟩ := bxTwo w #[.int .i64 n.k, .string n.n, .string n.x, .string n.d, .int .i64 n.c, .int .i64 n.s, .int .i64 n.e, .int .i64 n.t, .bool n.o, .slice ai n.l.length ci, .slice az n.z.length cz] 25 #[.int .i64 n.k, .string n.n, .string n.x, .string n.d, .int .i64 m.c, .int .i64 m.s, .int .i64 m.e, .int .i64 m.t, .bool m.o, .slice bi m.l.length di, .slice bz m.z.length dz] 25
  have X0 : Hid (Xc ((w.alloc (.cells #[.int .i64 n.k, .string n.n, .string n.x, .string n.d, .int .i64 n.c, .int .i64 n.s, .int .i64 n.e, .int .i64 n.t, .bool n.o, .slice ai n.l.length ci, .slice az n.z.length cz] 25)).alloc (.cells #[.int .i64 n.k, .string n.n, .string n.x, .string n.d, .int .i64 m.c, .int .i64 m.s, .int .i64 m.e, .int .i64 m.t, .bool m.o, .slice bi m.l.length di, .slice bz m.z.length dz] 25)) 34 #[.slice ai n.l.length ci, .slice bi m.l.length di] (.bool true)) := fun y => by have := eqI_any n.l m.l ai bi ci di y.to (hn.hI.below (HB0.out.trans (y.below.mono HB0.out.size))) (hm.hI.below (HB0.out.trans (y.below.mono HB0.out.size))) (Nat.le_trans hn.hin (by decide)) (Nat.le_trans hm.hin (by decide)); rw [h0] at this; exact this
  have X1 : Hid (Xc ((w.alloc (.cells #[.int .i64 n.k, .string n.n, .string n.x, .string n.d, .int .i64 n.c, .int .i64 n.s, .int .i64 n.e, .int .i64 n.t, .bool n.o, .slice ai n.l.length ci, .slice az n.z.length cz] 25)).alloc (.cells #[.int .i64 n.k, .string n.n, .string n.x, .string n.d, .int .i64 m.c, .int .i64 m.s, .int .i64 m.e, .int .i64 m.t, .bool m.o, .slice bi m.l.length di, .slice bz m.z.length dz] 25)) 35 #[.slice az n.z.length cz, .slice bz m.z.length dz] (.bool true)) := fun y => by have := eqC_any n.z m.z az bz cz dz y.to (hn.hZ.below (HB0.out.trans (y.below.mono HB0.out.size))) (hm.hZ.below (HB0.out.trans (y.below.mono HB0.out.size))) (Nat.le_trans hn.hzn (by decide)) (Nat.le_trans hm.hzn (by decide)); rw [h1] at this; exact this
  clear hn hm h0 h1 h2
  obtain ⟨m0, m1, m2, m3, m4, m5, m6, m7, m8, m9, m10⟩ := bx11 HBo.out
  obtain ⟨k0, k1, k2, k3, k4, k5, k6, k7, k8, k9, k10⟩ := bx11 HNo.out
  go_enter Tryz.func12, Tryz.ntmps12
  go_upto_region 1 with fail
  generalize ((w.alloc (.cells #[.int .i64 n.k, .string n.n, .string n.x, .string n.d, .int .i64 n.c, .int .i64 n.s, .int .i64 n.e, .int .i64 n.t, .bool n.o, .slice ai n.l.length ci, .slice az n.z.length cz] 25)).alloc (.cells #[.int .i64 n.k, .string n.n, .string n.x, .string n.d, .int .i64 m.c, .int .i64 m.s, .int .i64 m.e, .int .i64 m.t, .bool m.o, .slice bi m.l.length di, .slice bz m.z.length dz] 25)) = W at HB0 HBo HNo X0 X1 m0 m1 m2 m3 m4 m5 m6 m7 m8 m9 m10 k0 k1 k2 k3 k4 k5 k6 k7 k8 k9 k10 ⊢
  have xm0 : ∀ y : Ext W, y.to.cell? _ = _ := fun y => ext_cell y m0
  have xk0 : ∀ y : Ext W, y.to.cell? _ = _ := fun y => ext_cell y k0
  have xm1 : ∀ y : Ext W, y.to.cell? _ = _ := fun y => ext_cell y m1
  have xk1 : ∀ y : Ext W, y.to.cell? _ = _ := fun y => ext_cell y k1
  have xm2 : ∀ y : Ext W, y.to.cell? _ = _ := fun y => ext_cell y m2
  have xk2 : ∀ y : Ext W, y.to.cell? _ = _ := fun y => ext_cell y k2
  have xm3 : ∀ y : Ext W, y.to.cell? _ = _ := fun y => ext_cell y m3
  have xk3 : ∀ y : Ext W, y.to.cell? _ = _ := fun y => ext_cell y k3
  have xm4 : ∀ y : Ext W, y.to.cell? _ = _ := fun y => ext_cell y m4
  have xk4 : ∀ y : Ext W, y.to.cell? _ = _ := fun y => ext_cell y k4
  have xm5 : ∀ y : Ext W, y.to.cell? _ = _ := fun y => ext_cell y m5
  have xk5 : ∀ y : Ext W, y.to.cell? _ = _ := fun y => ext_cell y k5
  have xm6 : ∀ y : Ext W, y.to.cell? _ = _ := fun y => ext_cell y m6
  have xk6 : ∀ y : Ext W, y.to.cell? _ = _ := fun y => ext_cell y k6
  have xm7 : ∀ y : Ext W, y.to.cell? _ = _ := fun y => ext_cell y m7
  have xk7 : ∀ y : Ext W, y.to.cell? _ = _ := fun y => ext_cell y k7
  have xm8 : ∀ y : Ext W, y.to.cell? _ = _ := fun y => ext_cell y m8
  have xk8 : ∀ y : Ext W, y.to.cell? _ = _ := fun y => ext_cell y k8
  have xm9 : ∀ y : Ext W, y.to.cell? _ = _ := fun y => ext_cell y m9
  have xk9 : ∀ y : Ext W, y.to.cell? _ = _ := fun y => ext_cell y k9
  have xm10 : ∀ y : Ext W, y.to.cell? _ = _ := fun y => ext_cell y m10
  have xk10 : ∀ y : Ext W, y.to.cell? _ = _ := fun y => ext_cell y k10
  have hsome := extSome W
  clear HBo HNo m0 m1 m2 m3 m4 m5 m6 m7 m8 m9 m10 k0 k1 k2 k3 k4 k5 k6 k7 k8 k9 k10
  refine plain_quiet ?_
  dsimp only [List.append]
  repeat (go_big_quiet_step ((first | (go_at_call 34; with_reducible exact ext_call _ (X0.out _)) | (go_at_call 35; with_reducible exact ext_call _ (X1.out _)))))
  refine wpQuiet_nil ?_
  rintro _ ⟨y, hy⟩
  subst hy
  have HB1 := trB HB0 y.below
  clear xm0 xk0 xm1 xk1 xm2 xk2 xm3 xk3 xm4 xk4 xm5 xk5 xm6 xk6 xm7 xk7 xm8 xk8 xm9 xk9 xm10 xk10
  go_wp2_with fail
  go_ret
  exact ⟨rfl, HB1.out⟩
theorem same_7 (n m : Nt) (ai az bi bz : Option Addr) (ci cz di dz : Nat) (w : World) (hn : NtL w ai az n) (hm : NtL w bi bz m) (h0 : eqv n.l m.l = true) (h1 : eqv n.z m.z = true) (h2 : n.s ≠ m.s) : Calls Tryz.prog 12 #[.agg #[.int .i64 n.k, .string n.n, .string n.x, .string n.d, .int .i64 n.c, .int .i64 n.s, .int .i64 n.e, .int .i64 n.t, .bool n.o, .slice ai n.l.length ci, .slice az n.z.length cz], .agg #[.int .i64 n.k, .string n.n, .string n.x, .string n.d, .int .i64 n.c, .int .i64 m.s, .int .i64 m.e, .int .i64 m.t, .bool m.o, .slice bi m.l.length di, .slice bz m.z.length dz]] w (Gives (.bool false) w) := by
  have q2 := beq_eq_false_iff_ne.2 h2
  obtain ⟨HB0, HBo, HNo⟩ := bxTwo w #[.int .i64 n.k, .string n.n, .string n.x, .string n.d, .int .i64 n.c, .int .i64 n.s, .int .i64 n.e, .int .i64 n.t, .bool n.o, .slice ai n.l.length ci, .slice az n.z.length cz] 25 #[.int .i64 n.k, .string n.n, .string n.x, .string n.d, .int .i64 n.c, .int .i64 m.s, .int .i64 m.e, .int .i64 m.t, .bool m.o, .slice bi m.l.length di, .slice bz m.z.length dz] 25
  have X0 : Hid (Xc ((w.alloc (.cells #[.int .i64 n.k, .string n.n, .string n.x, .string n.d, .int .i64 n.c, .int .i64 n.s, .int .i64 n.e, .int .i64 n.t, .bool n.o, .slice ai n.l.length ci, .slice az n.z.length cz] 25)).alloc (.cells #[.int .i64 n.k, .string n.n, .string n.x, .string n.d, .int .i64 n.c, .int .i64 m.s, .int .i64 m.e, .int .i64 m.t, .bool m.o, .slice bi m.l.length di, .slice bz m.z.length dz] 25)) 34 #[.slice ai n.l.length ci, .slice bi m.l.length di] (.bool true)) := fun y => by have := eqI_any n.l m.l ai bi ci di y.to (hn.hI.below (HB0.out.trans (y.below.mono HB0.out.size))) (hm.hI.below (HB0.out.trans (y.below.mono HB0.out.size))) (Nat.le_trans hn.hin (by decide)) (Nat.le_trans hm.hin (by decide)); rw [h0] at this; exact this
  have X1 : Hid (Xc ((w.alloc (.cells #[.int .i64 n.k, .string n.n, .string n.x, .string n.d, .int .i64 n.c, .int .i64 n.s, .int .i64 n.e, .int .i64 n.t, .bool n.o, .slice ai n.l.length ci, .slice az n.z.length cz] 25)).alloc (.cells #[.int .i64 n.k, .string n.n, .string n.x, .string n.d, .int .i64 n.c, .int .i64 m.s, .int .i64 m.e, .int .i64 m.t, .bool m.o, .slice bi m.l.length di, .slice bz m.z.length dz] 25)) 35 #[.slice az n.z.length cz, .slice bz m.z.length dz] (.bool true)) := fun y => by have := eqC_any n.z m.z az bz cz dz y.to (hn.hZ.below (HB0.out.trans (y.below.mono HB0.out.size))) (hm.hZ.below (HB0.out.trans (y.below.mono HB0.out.size))) (Nat.le_trans hn.hzn (by decide)) (Nat.le_trans hm.hzn (by decide)); rw [h1] at this; exact this
  clear hn hm h0 h1 h2
  obtain ⟨m0, m1, m2, m3, m4, m5, m6, m7, m8, m9, m10⟩ := bx11 HBo.out
  obtain ⟨k0, k1, k2, k3, k4, k5, k6, k7, k8, k9, k10⟩ := bx11 HNo.out
  go_enter Tryz.func12, Tryz.ntmps12
  go_upto_region 1 with fail
  generalize ((w.alloc (.cells #[.int .i64 n.k, .string n.n, .string n.x, .string n.d, .int .i64 n.c, .int .i64 n.s, .int .i64 n.e, .int .i64 n.t, .bool n.o, .slice ai n.l.length ci, .slice az n.z.length cz] 25)).alloc (.cells #[.int .i64 n.k, .string n.n, .string n.x, .string n.d, .int .i64 n.c, .int .i64 m.s, .int .i64 m.e, .int .i64 m.t, .bool m.o, .slice bi m.l.length di, .slice bz m.z.length dz] 25)) = W at HB0 HBo HNo X0 X1 m0 m1 m2 m3 m4 m5 m6 m7 m8 m9 m10 k0 k1 k2 k3 k4 k5 k6 k7 k8 k9 k10 ⊢
  have xm0 : ∀ y : Ext W, y.to.cell? _ = _ := fun y => ext_cell y m0
  have xk0 : ∀ y : Ext W, y.to.cell? _ = _ := fun y => ext_cell y k0
  have xm1 : ∀ y : Ext W, y.to.cell? _ = _ := fun y => ext_cell y m1
  have xk1 : ∀ y : Ext W, y.to.cell? _ = _ := fun y => ext_cell y k1
  have xm2 : ∀ y : Ext W, y.to.cell? _ = _ := fun y => ext_cell y m2
  have xk2 : ∀ y : Ext W, y.to.cell? _ = _ := fun y => ext_cell y k2
  have xm3 : ∀ y : Ext W, y.to.cell? _ = _ := fun y => ext_cell y m3
  have xk3 : ∀ y : Ext W, y.to.cell? _ = _ := fun y => ext_cell y k3
  have xm4 : ∀ y : Ext W, y.to.cell? _ = _ := fun y => ext_cell y m4
  have xk4 : ∀ y : Ext W, y.to.cell? _ = _ := fun y => ext_cell y k4
  have xm5 : ∀ y : Ext W, y.to.cell? _ = _ := fun y => ext_cell y m5
  have xk5 : ∀ y : Ext W, y.to.cell? _ = _ := fun y => ext_cell y k5
  have xm6 : ∀ y : Ext W, y.to.cell? _ = _ := fun y => ext_cell y m6
  have xk6 : ∀ y : Ext W, y.to.cell? _ = _ := fun y => ext_cell y k6
  have xm7 : ∀ y : Ext W, y.to.cell? _ = _ := fun y => ext_cell y m7
  have xk7 : ∀ y : Ext W, y.to.cell? _ = _ := fun y => ext_cell y k7
  have xm8 : ∀ y : Ext W, y.to.cell? _ = _ := fun y => ext_cell y m8
  have xk8 : ∀ y : Ext W, y.to.cell? _ = _ := fun y => ext_cell y k8
  have xm9 : ∀ y : Ext W, y.to.cell? _ = _ := fun y => ext_cell y m9
  have xk9 : ∀ y : Ext W, y.to.cell? _ = _ := fun y => ext_cell y k9
  have xm10 : ∀ y : Ext W, y.to.cell? _ = _ := fun y => ext_cell y m10
  have xk10 : ∀ y : Ext W, y.to.cell? _ = _ := fun y => ext_cell y k10
  have hsome := extSome W
  clear HBo HNo m0 m1 m2 m3 m4 m5 m6 m7 m8 m9 m10 k0 k1 k2 k3 k4 k5 k6 k7 k8 k9 k10
  refine plain_quiet ?_
  dsimp only [List.append]
  repeat (go_big_quiet_step ((first | (go_at_call 34; with_reducible exact ext_call _ (X0.out _)) | (go_at_call 35; with_reducible exact ext_call _ (X1.out _)))))
  refine wpQuiet_nil ?_
  rintro _ ⟨y, hy⟩
  subst hy
  have HB1 := trB HB0 y.below
  clear xm0 xk0 xm1 xk1 xm2 xk2 xm3 xk3 xm4 xk4 xm5 xk5 xm6 xk6 xm7 xk7 xm8 xk8 xm9 xk9 xm10 xk10
  go_wp2_with fail
  go_ret
  exact ⟨rfl, HB1.out⟩
theorem same_8 (n m : Nt) (ai az bi bz : Option Addr) (ci cz di dz : Nat) (w : World) (hn : NtL w ai az n) (hm : NtL w bi bz m) (h0 : eqv n.l m.l = true) (h1 : eqv n.z m.z = true) (h2 : n.e ≠ m.e) : Calls Tryz.prog 12 #[.agg #[.int .i64 n.k, .string n.n, .string n.x, .string n.d, .int .i64 n.c, .int .i64 n.s, .int .i64 n.e, .int .i64 n.t, .bool n.o, .slice ai n.l.length ci, .slice az n.z.length cz], .agg #[.int .i64 n.k, .string n.n, .string n.x, .string n.d, .int .i64 n.c, .int .i64 n.s, .int .i64 m.e, .int .i64 m.t, .bool m.o, .slice bi m.l.length di, .slice bz m.z.length dz]] w (Gives (.bool false) w) := by
  have q2 := beq_eq_false_iff_ne.2 h2
  obtain ⟨HB0, HBo, HNo⟩ := bxTwo w #[.int .i64 n.k, .string n.n, .string n.x, .string n.d, .int .i64 n.c, .int .i64 n.s, .int .i64 n.e, .int .i64 n.t, .bool n.o, .slice ai n.l.length ci, .slice az n.z.length cz] 25 #[.int .i64 n.k, .string n.n, .string n.x, .string n.d, .int .i64 n.c, .int .i64 n.s, .int .i64 m.e, .int .i64 m.t, .bool m.o, .slice bi m.l.length di, .slice bz m.z.length dz] 25
  have X0 : Hid (Xc ((w.alloc (.cells #[.int .i64 n.k, .string n.n, .string n.x, .string n.d, .int .i64 n.c, .int .i64 n.s, .int .i64 n.e, .int .i64 n.t, .bool n.o, .slice ai n.l.length ci, .slice az n.z.length cz] 25)).alloc (.cells #[.int .i64 n.k, .string n.n, .string n.x, .string n.d, .int .i64 n.c, .int .i64 n.s, .int .i64 m.e, .int .i64 m.t, .bool m.o, .slice bi m.l.length di, .slice bz m.z.length dz] 25)) 34 #[.slice ai n.l.length ci, .slice bi m.l.length di] (.bool true)) := fun y => by have := eqI_any n.l m.l ai bi ci di y.to (hn.hI.below (HB0.out.trans (y.below.mono HB0.out.size))) (hm.hI.below (HB0.out.trans (y.below.mono HB0.out.size))) (Nat.le_trans hn.hin (by decide)) (Nat.le_trans hm.hin (by decide)); rw [h0] at this; exact this
  have X1 : Hid (Xc ((w.alloc (.cells #[.int .i64 n.k, .string n.n, .string n.x, .string n.d, .int .i64 n.c, .int .i64 n.s, .int .i64 n.e, .int .i64 n.t, .bool n.o, .slice ai n.l.length ci, .slice az n.z.length cz] 25)).alloc (.cells #[.int .i64 n.k, .string n.n, .string n.x, .string n.d, .int .i64 n.c, .int .i64 n.s, .int .i64 m.e, .int .i64 m.t, .bool m.o, .slice bi m.l.length di, .slice bz m.z.length dz] 25)) 35 #[.slice az n.z.length cz, .slice bz m.z.length dz] (.bool true)) := fun y => by have := eqC_any n.z m.z az bz cz dz y.to (hn.hZ.below (HB0.out.trans (y.below.mono HB0.out.size))) (hm.hZ.below (HB0.out.trans (y.below.mono HB0.out.size))) (Nat.le_trans hn.hzn (by decide)) (Nat.le_trans hm.hzn (by decide)); rw [h1] at this; exact this
  clear hn hm h0 h1 h2
  obtain ⟨m0, m1, m2, m3, m4, m5, m6, m7, m8, m9, m10⟩ := bx11 HBo.out
  obtain ⟨k0, k1, k2, k3, k4, k5, k6, k7, k8, k9, k10⟩ := bx11 HNo.out
  go_enter Tryz.func12, Tryz.ntmps12
  go_upto_region 1 with fail
  generalize ((w.alloc (.cells #[.int .i64 n.k, .string n.n, .string n.x, .string n.d, .int .i64 n.c, .int .i64 n.s, .int .i64 n.e, .int .i64 n.t, .bool n.o, .slice ai n.l.length ci, .slice az n.z.length cz] 25)).alloc (.cells #[.int .i64 n.k, .string n.n, .string n.x, .string n.d, .int .i64 n.c, .int .i64 n.s, .int .i64 m.e, .int .i64 m.t, .bool m.o, .slice bi m.l.length di, .slice bz m.z.length dz] 25)) = W at HB0 HBo HNo X0 X1 m0 m1 m2 m3 m4 m5 m6 m7 m8 m9 m10 k0 k1 k2 k3 k4 k5 k6 k7 k8 k9 k10 ⊢
  have xm0 : ∀ y : Ext W, y.to.cell? _ = _ := fun y => ext_cell y m0
  have xk0 : ∀ y : Ext W, y.to.cell? _ = _ := fun y => ext_cell y k0
  have xm1 : ∀ y : Ext W, y.to.cell? _ = _ := fun y => ext_cell y m1
  have xk1 : ∀ y : Ext W, y.to.cell? _ = _ := fun y => ext_cell y k1
  have xm2 : ∀ y : Ext W, y.to.cell? _ = _ := fun y => ext_cell y m2
  have xk2 : ∀ y : Ext W, y.to.cell? _ = _ := fun y => ext_cell y k2
  have xm3 : ∀ y : Ext W, y.to.cell? _ = _ := fun y => ext_cell y m3
  have xk3 : ∀ y : Ext W, y.to.cell? _ = _ := fun y => ext_cell y k3
  have xm4 : ∀ y : Ext W, y.to.cell? _ = _ := fun y => ext_cell y m4
  have xk4 : ∀ y : Ext W, y.to.cell? _ = _ := fun y => ext_cell y k4
  have xm5 : ∀ y : Ext W, y.to.cell? _ = _ := fun y => ext_cell y m5
  have xk5 : ∀ y : Ext W, y.to.cell? _ = _ := fun y => ext_cell y k5
  have xm6 : ∀ y : Ext W, y.to.cell? _ = _ := fun y => ext_cell y m6
  have xk6 : ∀ y : Ext W, y.to.cell? _ = _ := fun y => ext_cell y k6
  have xm7 : ∀ y : Ext W, y.to.cell? _ = _ := fun y => ext_cell y m7
  have xk7 : ∀ y : Ext W, y.to.cell? _ = _ := fun y => ext_cell y k7
  have xm8 : ∀ y : Ext W, y.to.cell? _ = _ := fun y => ext_cell y m8
  have xk8 : ∀ y : Ext W, y.to.cell? _ = _ := fun y => ext_cell y k8
  have xm9 : ∀ y : Ext W, y.to.cell? _ = _ := fun y => ext_cell y m9
  have xk9 : ∀ y : Ext W, y.to.cell? _ = _ := fun y => ext_cell y k9
  have xm10 : ∀ y : Ext W, y.to.cell? _ = _ := fun y => ext_cell y m10
  have xk10 : ∀ y : Ext W, y.to.cell? _ = _ := fun y => ext_cell y k10
  have hsome := extSome W
  clear HBo HNo m0 m1 m2 m3 m4 m5 m6 m7 m8 m9 m10 k0 k1 k2 k3 k4 k5 k6 k7 k8 k9 k10
  refine plain_quiet ?_
  dsimp only [List.append]
  repeat (go_big_quiet_step ((first | (go_at_call 34; with_reducible exact ext_call _ (X0.out _)) | (go_at_call 35; with_reducible exact ext_call _ (X1.out _)))))
  refine wpQuiet_nil ?_
  rintro _ ⟨y, hy⟩
  subst hy
  have HB1 := trB HB0 y.below
  clear xm0 xk0 xm1 xk1 xm2 xk2 xm3 xk3 xm4 xk4 xm5 xk5 xm6 xk6 xm7 xk7 xm8 xk8 xm9 xk9 xm10 xk10
  go_wp2_with fail
  go_ret
  exact ⟨rfl, HB1.out⟩
theorem same_9 (n m : Nt) (ai az bi bz : Option Addr) (ci cz di dz : Nat) (w : World) (hn : NtL w ai az n) (hm : NtL w bi bz m) (h0 : eqv n.l m.l = true) (h1 : eqv n.z m.z = true) (h2 : n.t ≠ m.t) : Calls Tryz.prog 12 #[.agg #[.int .i64 n.k, .string n.n, .string n.x, .string n.d, .int .i64 n.c, .int .i64 n.s, .int .i64 n.e, .int .i64 n.t, .bool n.o, .slice ai n.l.length ci, .slice az n.z.length cz], .agg #[.int .i64 n.k, .string n.n, .string n.x, .string n.d, .int .i64 n.c, .int .i64 n.s, .int .i64 n.e, .int .i64 m.t, .bool m.o, .slice bi m.l.length di, .slice bz m.z.length dz]] w (Gives (.bool false) w) := by
  have q2 := beq_eq_false_iff_ne.2 h2
  obtain ⟨HB0, HBo, HNo⟩ := bxTwo w #[.int .i64 n.k, .string n.n, .string n.x, .string n.d, .int .i64 n.c, .int .i64 n.s, .int .i64 n.e, .int .i64 n.t, .bool n.o, .slice ai n.l.length ci, .slice az n.z.length cz] 25 #[.int .i64 n.k, .string n.n, .string n.x, .string n.d, .int .i64 n.c, .int .i64 n.s, .int .i64 n.e, .int .i64 m.t, .bool m.o, .slice bi m.l.length di, .slice bz m.z.length dz] 25
  have X0 : Hid (Xc ((w.alloc (.cells #[.int .i64 n.k, .string n.n, .string n.x, .string n.d, .int .i64 n.c, .int .i64 n.s, .int .i64 n.e, .int .i64 n.t, .bool n.o, .slice ai n.l.length ci, .slice az n.z.length cz] 25)).alloc (.cells #[.int .i64 n.k, .string n.n, .string n.x, .string n.d, .int .i64 n.c, .int .i64 n.s, .int .i64 n.e, .int .i64 m.t, .bool m.o, .slice bi m.l.length di, .slice bz m.z.length dz] 25)) 34 #[.slice ai n.l.length ci, .slice bi m.l.length di] (.bool true)) := fun y => by have := eqI_any n.l m.l ai bi ci di y.to (hn.hI.below (HB0.out.trans (y.below.mono HB0.out.size))) (hm.hI.below (HB0.out.trans (y.below.mono HB0.out.size))) (Nat.le_trans hn.hin (by decide)) (Nat.le_trans hm.hin (by decide)); rw [h0] at this; exact this
  have X1 : Hid (Xc ((w.alloc (.cells #[.int .i64 n.k, .string n.n, .string n.x, .string n.d, .int .i64 n.c, .int .i64 n.s, .int .i64 n.e, .int .i64 n.t, .bool n.o, .slice ai n.l.length ci, .slice az n.z.length cz] 25)).alloc (.cells #[.int .i64 n.k, .string n.n, .string n.x, .string n.d, .int .i64 n.c, .int .i64 n.s, .int .i64 n.e, .int .i64 m.t, .bool m.o, .slice bi m.l.length di, .slice bz m.z.length dz] 25)) 35 #[.slice az n.z.length cz, .slice bz m.z.length dz] (.bool true)) := fun y => by have := eqC_any n.z m.z az bz cz dz y.to (hn.hZ.below (HB0.out.trans (y.below.mono HB0.out.size))) (hm.hZ.below (HB0.out.trans (y.below.mono HB0.out.size))) (Nat.le_trans hn.hzn (by decide)) (Nat.le_trans hm.hzn (by decide)); rw [h1] at this; exact this
  clear hn hm h0 h1 h2
  obtain ⟨m0, m1, m2, m3, m4, m5, m6, m7, m8, m9, m10⟩ := bx11 HBo.out
  obtain ⟨k0, k1, k2, k3, k4, k5, k6, k7, k8, k9, k10⟩ := bx11 HNo.out
  go_enter Tryz.func12, Tryz.ntmps12
  go_upto_region 1 with fail
  generalize ((w.alloc (.cells #[.int .i64 n.k, .string n.n, .string n.x, .string n.d, .int .i64 n.c, .int .i64 n.s, .int .i64 n.e, .int .i64 n.t, .bool n.o, .slice ai n.l.length ci, .slice az n.z.length cz] 25)).alloc (.cells #[.int .i64 n.k, .string n.n, .string n.x, .string n.d, .int .i64 n.c, .int .i64 n.s, .int .i64 n.e, .int .i64 m.t, .bool m.o, .slice bi m.l.length di, .slice bz m.z.length dz] 25)) = W at HB0 HBo HNo X0 X1 m0 m1 m2 m3 m4 m5 m6 m7 m8 m9 m10 k0 k1 k2 k3 k4 k5 k6 k7 k8 k9 k10 ⊢
  have xm0 : ∀ y : Ext W, y.to.cell? _ = _ := fun y => ext_cell y m0
  have xk0 : ∀ y : Ext W, y.to.cell? _ = _ := fun y => ext_cell y k0
  have xm1 : ∀ y : Ext W, y.to.cell? _ = _ := fun y => ext_cell y m1
  have xk1 : ∀ y : Ext W, y.to.cell? _ = _ := fun y => ext_cell y k1
  have xm2 : ∀ y : Ext W, y.to.cell? _ = _ := fun y => ext_cell y m2
  have xk2 : ∀ y : Ext W, y.to.cell? _ = _ := fun y => ext_cell y k2
  have xm3 : ∀ y : Ext W, y.to.cell? _ = _ := fun y => ext_cell y m3
  have xk3 : ∀ y : Ext W, y.to.cell? _ = _ := fun y => ext_cell y k3
  have xm4 : ∀ y : Ext W, y.to.cell? _ = _ := fun y => ext_cell y m4
  have xk4 : ∀ y : Ext W, y.to.cell? _ = _ := fun y => ext_cell y k4
  have xm5 : ∀ y : Ext W, y.to.cell? _ = _ := fun y => ext_cell y m5
  have xk5 : ∀ y : Ext W, y.to.cell? _ = _ := fun y => ext_cell y k5
  have xm6 : ∀ y : Ext W, y.to.cell? _ = _ := fun y => ext_cell y m6
  have xk6 : ∀ y : Ext W, y.to.cell? _ = _ := fun y => ext_cell y k6
  have xm7 : ∀ y : Ext W, y.to.cell? _ = _ := fun y => ext_cell y m7
  have xk7 : ∀ y : Ext W, y.to.cell? _ = _ := fun y => ext_cell y k7
  have xm8 : ∀ y : Ext W, y.to.cell? _ = _ := fun y => ext_cell y m8
  have xk8 : ∀ y : Ext W, y.to.cell? _ = _ := fun y => ext_cell y k8
  have xm9 : ∀ y : Ext W, y.to.cell? _ = _ := fun y => ext_cell y m9
  have xk9 : ∀ y : Ext W, y.to.cell? _ = _ := fun y => ext_cell y k9
  have xm10 : ∀ y : Ext W, y.to.cell? _ = _ := fun y => ext_cell y m10
  have xk10 : ∀ y : Ext W, y.to.cell? _ = _ := fun y => ext_cell y k10
  have hsome := extSome W
  clear HBo HNo m0 m1 m2 m3 m4 m5 m6 m7 m8 m9 m10 k0 k1 k2 k3 k4 k5 k6 k7 k8 k9 k10
  refine plain_quiet ?_
  dsimp only [List.append]
  repeat (go_big_quiet_step ((first | (go_at_call 34; with_reducible exact ext_call _ (X0.out _)) | (go_at_call 35; with_reducible exact ext_call _ (X1.out _)))))
  refine wpQuiet_nil ?_
  rintro _ ⟨y, hy⟩
  subst hy
  have HB1 := trB HB0 y.below
  clear xm0 xk0 xm1 xk1 xm2 xk2 xm3 xk3 xm4 xk4 xm5 xk5 xm6 xk6 xm7 xk7 xm8 xk8 xm9 xk9 xm10 xk10
  go_wp2_with fail
  go_ret
  exact ⟨rfl, HB1.out⟩
theorem same_10 (n m : Nt) (ai az bi bz : Option Addr) (ci cz di dz : Nat) (w : World) (hn : NtL w ai az n) (hm : NtL w bi bz m) (h0 : eqv n.l m.l = true) (h1 : eqv n.z m.z = true) (h2 : n.o ≠ m.o) : Calls Tryz.prog 12 #[.agg #[.int .i64 n.k, .string n.n, .string n.x, .string n.d, .int .i64 n.c, .int .i64 n.s, .int .i64 n.e, .int .i64 n.t, .bool n.o, .slice ai n.l.length ci, .slice az n.z.length cz], .agg #[.int .i64 n.k, .string n.n, .string n.x, .string n.d, .int .i64 n.c, .int .i64 n.s, .int .i64 n.e, .int .i64 n.t, .bool m.o, .slice bi m.l.length di, .slice bz m.z.length dz]] w (Gives (.bool false) w) := by
  have q2 := beq_eq_false_iff_ne.2 h2
  obtain ⟨HB0, HBo, HNo⟩ := bxTwo w #[.int .i64 n.k, .string n.n, .string n.x, .string n.d, .int .i64 n.c, .int .i64 n.s, .int .i64 n.e, .int .i64 n.t, .bool n.o, .slice ai n.l.length ci, .slice az n.z.length cz] 25 #[.int .i64 n.k, .string n.n, .string n.x, .string n.d, .int .i64 n.c, .int .i64 n.s, .int .i64 n.e, .int .i64 n.t, .bool m.o, .slice bi m.l.length di, .slice bz m.z.length dz] 25
  have X0 : Hid (Xc ((w.alloc (.cells #[.int .i64 n.k, .string n.n, .string n.x, .string n.d, .int .i64 n.c, .int .i64 n.s, .int .i64 n.e, .int .i64 n.t, .bool n.o, .slice ai n.l.length ci, .slice az n.z.length cz] 25)).alloc (.cells #[.int .i64 n.k, .string n.n, .string n.x, .string n.d, .int .i64 n.c, .int .i64 n.s, .int .i64 n.e, .int .i64 n.t, .bool m.o, .slice bi m.l.length di, .slice bz m.z.length dz] 25)) 34 #[.slice ai n.l.length ci, .slice bi m.l.length di] (.bool true)) := fun y => by have := eqI_any n.l m.l ai bi ci di y.to (hn.hI.below (HB0.out.trans (y.below.mono HB0.out.size))) (hm.hI.below (HB0.out.trans (y.below.mono HB0.out.size))) (Nat.le_trans hn.hin (by decide)) (Nat.le_trans hm.hin (by decide)); rw [h0] at this; exact this
  have X1 : Hid (Xc ((w.alloc (.cells #[.int .i64 n.k, .string n.n, .string n.x, .string n.d, .int .i64 n.c, .int .i64 n.s, .int .i64 n.e, .int .i64 n.t, .bool n.o, .slice ai n.l.length ci, .slice az n.z.length cz] 25)).alloc (.cells #[.int .i64 n.k, .string n.n, .string n.x, .string n.d, .int .i64 n.c, .int .i64 n.s, .int .i64 n.e, .int .i64 n.t, .bool m.o, .slice bi m.l.length di, .slice bz m.z.length dz] 25)) 35 #[.slice az n.z.length cz, .slice bz m.z.length dz] (.bool true)) := fun y => by have := eqC_any n.z m.z az bz cz dz y.to (hn.hZ.below (HB0.out.trans (y.below.mono HB0.out.size))) (hm.hZ.below (HB0.out.trans (y.below.mono HB0.out.size))) (Nat.le_trans hn.hzn (by decide)) (Nat.le_trans hm.hzn (by decide)); rw [h1] at this; exact this
  clear hn hm h0 h1 h2
  obtain ⟨m0, m1, m2, m3, m4, m5, m6, m7, m8, m9, m10⟩ := bx11 HBo.out
  obtain ⟨k0, k1, k2, k3, k4, k5, k6, k7, k8, k9, k10⟩ := bx11 HNo.out
  go_enter Tryz.func12, Tryz.ntmps12
  go_upto_region 1 with fail
  generalize ((w.alloc (.cells #[.int .i64 n.k, .string n.n, .string n.x, .string n.d, .int .i64 n.c, .int .i64 n.s, .int .i64 n.e, .int .i64 n.t, .bool n.o, .slice ai n.l.length ci, .slice az n.z.length cz] 25)).alloc (.cells #[.int .i64 n.k, .string n.n, .string n.x, .string n.d, .int .i64 n.c, .int .i64 n.s, .int .i64 n.e, .int .i64 n.t, .bool m.o, .slice bi m.l.length di, .slice bz m.z.length dz] 25)) = W at HB0 HBo HNo X0 X1 m0 m1 m2 m3 m4 m5 m6 m7 m8 m9 m10 k0 k1 k2 k3 k4 k5 k6 k7 k8 k9 k10 ⊢
  have xm0 : ∀ y : Ext W, y.to.cell? _ = _ := fun y => ext_cell y m0
  have xk0 : ∀ y : Ext W, y.to.cell? _ = _ := fun y => ext_cell y k0
  have xm1 : ∀ y : Ext W, y.to.cell? _ = _ := fun y => ext_cell y m1
  have xk1 : ∀ y : Ext W, y.to.cell? _ = _ := fun y => ext_cell y k1
  have xm2 : ∀ y : Ext W, y.to.cell? _ = _ := fun y => ext_cell y m2
  have xk2 : ∀ y : Ext W, y.to.cell? _ = _ := fun y => ext_cell y k2
  have xm3 : ∀ y : Ext W, y.to.cell? _ = _ := fun y => ext_cell y m3
  have xk3 : ∀ y : Ext W, y.to.cell? _ = _ := fun y => ext_cell y k3
  have xm4 : ∀ y : Ext W, y.to.cell? _ = _ := fun y => ext_cell y m4
  have xk4 : ∀ y : Ext W, y.to.cell? _ = _ := fun y => ext_cell y k4
  have xm5 : ∀ y : Ext W, y.to.cell? _ = _ := fun y => ext_cell y m5
  have xk5 : ∀ y : Ext W, y.to.cell? _ = _ := fun y => ext_cell y k5
  have xm6 : ∀ y : Ext W, y.to.cell? _ = _ := fun y => ext_cell y m6
  have xk6 : ∀ y : Ext W, y.to.cell? _ = _ := fun y => ext_cell y k6
  have xm7 : ∀ y : Ext W, y.to.cell? _ = _ := fun y => ext_cell y m7
  have xk7 : ∀ y : Ext W, y.to.cell? _ = _ := fun y => ext_cell y k7
  have xm8 : ∀ y : Ext W, y.to.cell? _ = _ := fun y => ext_cell y m8
  have xk8 : ∀ y : Ext W, y.to.cell? _ = _ := fun y => ext_cell y k8
  have xm9 : ∀ y : Ext W, y.to.cell? _ = _ := fun y => ext_cell y m9
  have xk9 : ∀ y : Ext W, y.to.cell? _ = _ := fun y => ext_cell y k9
  have xm10 : ∀ y : Ext W, y.to.cell? _ = _ := fun y => ext_cell y m10
  have xk10 : ∀ y : Ext W, y.to.cell? _ = _ := fun y => ext_cell y k10
  have hsome := extSome W
  clear HBo HNo m0 m1 m2 m3 m4 m5 m6 m7 m8 m9 m10 k0 k1 k2 k3 k4 k5 k6 k7 k8 k9 k10
  refine plain_quiet ?_
  dsimp only [List.append]
  repeat (go_big_quiet_step ((first | (go_at_call 34; with_reducible exact ext_call _ (X0.out _)) | (go_at_call 35; with_reducible exact ext_call _ (X1.out _)))))
  refine wpQuiet_nil ?_
  rintro _ ⟨y, hy⟩
  subst hy
  have HB1 := trB HB0 y.below
  clear xm0 xk0 xm1 xk1 xm2 xk2 xm3 xk3 xm4 xk4 xm5 xk5 xm6 xk6 xm7 xk7 xm8 xk8 xm9 xk9 xm10 xk10
  go_wp2_with fail
  go_ret
  exact ⟨rfl, HB1.out⟩
theorem same_11 (n m : Nt) (ai az bi bz : Option Addr) (ci cz di dz : Nat) (w : World) (hn : NtL w ai az n) (hm : NtL w bi bz m) (h0 : eqv n.l m.l = true) (h1 : eqv n.z m.z = true) : Calls Tryz.prog 12 #[.agg #[.int .i64 n.k, .string n.n, .string n.x, .string n.d, .int .i64 n.c, .int .i64 n.s, .int .i64 n.e, .int .i64 n.t, .bool n.o, .slice ai n.l.length ci, .slice az n.z.length cz], .agg #[.int .i64 n.k, .string n.n, .string n.x, .string n.d, .int .i64 n.c, .int .i64 n.s, .int .i64 n.e, .int .i64 n.t, .bool n.o, .slice bi m.l.length di, .slice bz m.z.length dz]] w (Gives (.bool true) w) := by
  obtain ⟨HB0, HBo, HNo⟩ := bxTwo w #[.int .i64 n.k, .string n.n, .string n.x, .string n.d, .int .i64 n.c, .int .i64 n.s, .int .i64 n.e, .int .i64 n.t, .bool n.o, .slice ai n.l.length ci, .slice az n.z.length cz] 25 #[.int .i64 n.k, .string n.n, .string n.x, .string n.d, .int .i64 n.c, .int .i64 n.s, .int .i64 n.e, .int .i64 n.t, .bool n.o, .slice bi m.l.length di, .slice bz m.z.length dz] 25
  have X0 : Hid (Xc ((w.alloc (.cells #[.int .i64 n.k, .string n.n, .string n.x, .string n.d, .int .i64 n.c, .int .i64 n.s, .int .i64 n.e, .int .i64 n.t, .bool n.o, .slice ai n.l.length ci, .slice az n.z.length cz] 25)).alloc (.cells #[.int .i64 n.k, .string n.n, .string n.x, .string n.d, .int .i64 n.c, .int .i64 n.s, .int .i64 n.e, .int .i64 n.t, .bool n.o, .slice bi m.l.length di, .slice bz m.z.length dz] 25)) 34 #[.slice ai n.l.length ci, .slice bi m.l.length di] (.bool true)) := fun y => by have := eqI_any n.l m.l ai bi ci di y.to (hn.hI.below (HB0.out.trans (y.below.mono HB0.out.size))) (hm.hI.below (HB0.out.trans (y.below.mono HB0.out.size))) (Nat.le_trans hn.hin (by decide)) (Nat.le_trans hm.hin (by decide)); rw [h0] at this; exact this
  have X1 : Hid (Xc ((w.alloc (.cells #[.int .i64 n.k, .string n.n, .string n.x, .string n.d, .int .i64 n.c, .int .i64 n.s, .int .i64 n.e, .int .i64 n.t, .bool n.o, .slice ai n.l.length ci, .slice az n.z.length cz] 25)).alloc (.cells #[.int .i64 n.k, .string n.n, .string n.x, .string n.d, .int .i64 n.c, .int .i64 n.s, .int .i64 n.e, .int .i64 n.t, .bool n.o, .slice bi m.l.length di, .slice bz m.z.length dz] 25)) 35 #[.slice az n.z.length cz, .slice bz m.z.length dz] (.bool true)) := fun y => by have := eqC_any n.z m.z az bz cz dz y.to (hn.hZ.below (HB0.out.trans (y.below.mono HB0.out.size))) (hm.hZ.below (HB0.out.trans (y.below.mono HB0.out.size))) (Nat.le_trans hn.hzn (by decide)) (Nat.le_trans hm.hzn (by decide)); rw [h1] at this; exact this
  clear hn hm h0 h1
  obtain ⟨m0, m1, m2, m3, m4, m5, m6, m7, m8, m9, m10⟩ := bx11 HBo.out
  obtain ⟨k0, k1, k2, k3, k4, k5, k6, k7, k8, k9, k10⟩ := bx11 HNo.out
  go_enter Tryz.func12, Tryz.ntmps12
  go_upto_region 1 with fail
  generalize ((w.alloc (.cells #[.int .i64 n.k, .string n.n, .string n.x, .string n.d, .int .i64 n.c, .int .i64 n.s, .int .i64 n.e, .int .i64 n.t, .bool n.o, .slice ai n.l.length ci, .slice az n.z.length cz] 25)).alloc (.cells #[.int .i64 n.k, .string n.n, .string n.x, .string n.d, .int .i64 n.c, .int .i64 n.s, .int .i64 n.e, .int .i64 n.t, .bool n.o, .slice bi m.l.length di, .slice bz m.z.length dz] 25)) = W at HB0 HBo HNo X0 X1 m0 m1 m2 m3 m4 m5 m6 m7 m8 m9 m10 k0 k1 k2 k3 k4 k5 k6 k7 k8 k9 k10 ⊢
  have xm0 : ∀ y : Ext W, y.to.cell? _ = _ := fun y => ext_cell y m0
  have xk0 : ∀ y : Ext W, y.to.cell? _ = _ := fun y => ext_cell y k0
  have xm1 : ∀ y : Ext W, y.to.cell? _ = _ := fun y => ext_cell y m1
  have xk1 : ∀ y : Ext W, y.to.cell? _ = _ := fun y => ext_cell y k1
  have xm2 : ∀ y : Ext W, y.to.cell? _ = _ := fun y => ext_cell y m2
  have xk2 : ∀ y : Ext W, y.to.cell? _ = _ := fun y => ext_cell y k2
  have xm3 : ∀ y : Ext W, y.to.cell? _ = _ := fun y => ext_cell y m3
  have xk3 : ∀ y : Ext W, y.to.cell? _ = _ := fun y => ext_cell y k3
  have xm4 : ∀ y : Ext W, y.to.cell? _ = _ := fun y => ext_cell y m4
  have xk4 : ∀ y : Ext W, y.to.cell? _ = _ := fun y => ext_cell y k4
  have xm5 : ∀ y : Ext W, y.to.cell? _ = _ := fun y => ext_cell y m5
  have xk5 : ∀ y : Ext W, y.to.cell? _ = _ := fun y => ext_cell y k5
  have xm6 : ∀ y : Ext W, y.to.cell? _ = _ := fun y => ext_cell y m6
  have xk6 : ∀ y : Ext W, y.to.cell? _ = _ := fun y => ext_cell y k6
  have xm7 : ∀ y : Ext W, y.to.cell? _ = _ := fun y => ext_cell y m7
  have xk7 : ∀ y : Ext W, y.to.cell? _ = _ := fun y => ext_cell y k7
  have xm8 : ∀ y : Ext W, y.to.cell? _ = _ := fun y => ext_cell y m8
  have xk8 : ∀ y : Ext W, y.to.cell? _ = _ := fun y => ext_cell y k8
  have xm9 : ∀ y : Ext W, y.to.cell? _ = _ := fun y => ext_cell y m9
  have xk9 : ∀ y : Ext W, y.to.cell? _ = _ := fun y => ext_cell y k9
  have xm10 : ∀ y : Ext W, y.to.cell? _ = _ := fun y => ext_cell y m10
  have xk10 : ∀ y : Ext W, y.to.cell? _ = _ := fun y => ext_cell y k10
  have hsome := extSome W
  clear HBo HNo m0 m1 m2 m3 m4 m5 m6 m7 m8 m9 m10 k0 k1 k2 k3 k4 k5 k6 k7 k8 k9 k10
  refine plain_quiet ?_
  dsimp only [List.append]
  repeat (go_big_quiet_step ((first | (go_at_call 34; with_reducible exact ext_call _ (X0.out _)) | (go_at_call 35; with_reducible exact ext_call _ (X1.out _)))))
  refine wpQuiet_nil ?_
  rintro _ ⟨y, hy⟩
  subst hy
  have HB1 := trB HB0 y.below
  clear xm0 xk0 xm1 xk1 xm2 xk2 xm3 xk3 xm4 xk4 xm5 xk5 xm6 xk6 xm7 xk7 xm8 xk8 xm9 xk9 xm10 xk10
  go_wp2_with fail
  go_ret
  exact ⟨rfl, HB1.out⟩
theorem lsame_any (n m : Nt) (ai az bi bz : Option Addr) (ci cz di dz : Nat) (w : World) (hn : NtL w ai az n) (hm : NtL w bi bz m) : Calls Tryz.prog 12 #[nA n ai az ci cz, nA m bi bz di dz] w (Gives (.bool (eqv n m)) w) := by
  unfold nA
  by_cases h0 : n.l = m.l
  · have i0 := eqv_yes h0
    by_cases h1 : n.z = m.z
    · have i1 := eqv_yes h1
      by_cases g0 : n.k = m.k
      · skip
        by_cases g1 : n.n = m.n
        · skip
          by_cases g2 : n.x = m.x
          · skip
            by_cases g3 : n.d = m.d
            · skip
              by_cases g4 : n.c = m.c
              · skip
                by_cases g5 : n.s = m.s
                · skip
                  by_cases g6 : n.e = m.e
                  · skip
                    by_cases g7 : n.t = m.t
                    · skip
                      by_cases g8 : n.o = m.o
                      · skip
                        have e : eqv n m = true := eqv_yes (by obtain ⟨a0, a1, a2, a3, a4, a5, a6, a7, a8, a9, a10⟩ := n; obtain ⟨b0, b1, b2, b3, b4, b5, b6, b7, b8, b9, b10⟩ := m; simp only at h0 h1 g0 g1 g2 g3 g4 g5 g6 g7 g8; rw [h0, h1, g0, g1, g2, g3, g4, g5, g6, g7, g8])
                        rw [e]
                        have q := same_11 n m ai az bi bz ci cz di dz w hn hm i0 i1
                        rw [g0, g1, g2, g3, g4, g5, g6, g7, g8] at q
                        rw [g0, g1, g2, g3, g4, g5, g6, g7, g8]
                        exact q
                      · have e : eqv n m = false := eqv_no fun q => g8 (by rw [q])
                        rw [e]
                        have q := same_10 n m ai az bi bz ci cz di dz w hn hm i0 i1 g8
                        rw [g0, g1, g2, g3, g4, g5, g6, g7] at q
                        rw [g0, g1, g2, g3, g4, g5, g6, g7]
                        exact q
                    · have e : eqv n m = false := eqv_no fun q => g7 (by rw [q])
                      rw [e]
                      have q := same_9 n m ai az bi bz ci cz di dz w hn hm i0 i1 g7
                      rw [g0, g1, g2, g3, g4, g5, g6] at q
                      rw [g0, g1, g2, g3, g4, g5, g6]
                      exact q
                  · have e : eqv n m = false := eqv_no fun q => g6 (by rw [q])
                    rw [e]
                    have q := same_8 n m ai az bi bz ci cz di dz w hn hm i0 i1 g6
                    rw [g0, g1, g2, g3, g4, g5] at q
                    rw [g0, g1, g2, g3, g4, g5]
                    exact q
                · have e : eqv n m = false := eqv_no fun q => g5 (by rw [q])
                  rw [e]
                  have q := same_7 n m ai az bi bz ci cz di dz w hn hm i0 i1 g5
                  rw [g0, g1, g2, g3, g4] at q
                  rw [g0, g1, g2, g3, g4]
                  exact q
              · have e : eqv n m = false := eqv_no fun q => g4 (by rw [q])
                rw [e]
                have q := same_6 n m ai az bi bz ci cz di dz w hn hm i0 i1 g4
                rw [g0, g1, g2, g3] at q
                rw [g0, g1, g2, g3]
                exact q
            · have e : eqv n m = false := eqv_no fun q => g3 (by rw [q])
              rw [e]
              have q := same_5 n m ai az bi bz ci cz di dz w hn hm i0 i1 g3
              rw [g0, g1, g2] at q
              rw [g0, g1, g2]
              exact q
          · have e : eqv n m = false := eqv_no fun q => g2 (by rw [q])
            rw [e]
            have q := same_4 n m ai az bi bz ci cz di dz w hn hm i0 i1 g2
            rw [g0, g1] at q
            rw [g0, g1]
            exact q
        · have e : eqv n m = false := eqv_no fun q => g1 (by rw [q])
          rw [e]
          have q := same_3 n m ai az bi bz ci cz di dz w hn hm i0 i1 g1
          rw [g0] at q
          rw [g0]
          exact q
      · have e : eqv n m = false := eqv_no fun q => g0 (by rw [q])
        rw [e]
        have q := same_2 n m ai az bi bz ci cz di dz w hn hm i0 i1 g0
        exact q
    · have e : eqv n m = false := eqv_no fun q => h1 (by rw [q])
      rw [e]
      exact same_1 n m ai az bi bz ci cz di dz w hn hm i0 (eqv_no h1)
  · have e : eqv n m = false := eqv_no fun q => h0 (by rw [q])
    rw [e]
    exact same_0 n m ai az bi bz ci cz di dz w hn hm (eqv_no h0)
end Go.Proofs.YtiodjaeonoheiaaGreatDoor.T
