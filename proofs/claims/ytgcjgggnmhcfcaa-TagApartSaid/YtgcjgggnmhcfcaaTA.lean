/- The walk of the law TagApart: over any two elements in memory. No condition. -/
import Derived.Test.YtgcjgggnmhcfcaaTd
namespace Go.Proofs.Ytgcjgggnmhcfcaa
open Go.RowKit Go.Lib Go.Shelf Tg

/-- What a call that leaves the old blocks gives, in every world in which w's blocks stand. -/
abbrev At (w : World) (f : FuncId) (args : Array Value) (v : Value) : Prop := ∀ W, Below w.heap.size w W → Calls Try.prog f args W fun r w' => r = .returned v ∧ Below W.heap.size W w'
set_option maxRecDepth 100000 in
set_option maxHeartbeats 8000000 in
theorem apart_s1 (w : World) (p0 p1 p3 q0 q1 q3 : ByteArray) (pa pk qa qk : Option Addr) (n1 n2 m1 m2 pc pd qc qd : Nat)
    (L : Hid (∀ W, Calls Try.prog 8 #[] W fun e w' => e = .returned (.bool true) ∧ Below W.heap.size W w'))
    (S1 : Hid (At w 5 #[.agg #[.string p0, .string p1, .slice pa n1 pc, .string p3, .slice pk n2 pd]] (.bool false))) :
    Calls Try.prog 3 #[.agg #[.string p0, .string p1, .slice pa n1 pc, .string p3, .slice pk n2 pd], .agg #[.string q0, .string q1, .slice qa m1 qc, .string q3, .slice qk m2 qd]] w fun e w' => e = .returned (.bool true) ∧ Below w.heap.size w w' := by
  have HB0 : Hid (Below w.heap.size w ((w.alloc (.cells #[.string p0, .string p1, .slice pa n1 pc, .string p3, .slice pk n2 pd] 25)).alloc (.cells #[.string q0, .string q1, .slice qa m1 qc, .string q3, .slice qk m2 qd] 25))) := ((Below.refl _ w).alloc (Nat.le_refl _) _).alloc (by simp) _
  have HX : Hid (((w.alloc (.cells #[.string p0, .string p1, .slice pa n1 pc, .string p3, .slice pk n2 pd] 25)).alloc (.cells #[.string q0, .string q1, .slice qa m1 qc, .string q3, .slice qk m2 qd] 25)).heap[w.heap.size]? = some (.cells #[.string p0, .string p1, .slice pa n1 pc, .string p3, .slice pk n2 pd] 25 (0, 0))) := (Below.heap_alloc _ _ _ (by simp)).trans (box_new w _ _)
  have HY : Hid (((w.alloc (.cells #[.string p0, .string p1, .slice pa n1 pc, .string p3, .slice pk n2 pd] 25)).alloc (.cells #[.string q0, .string q1, .slice qa m1 qc, .string q3, .slice qk m2 qd] 25)).heap[w.heap.size + 1]? = some (.cells #[.string q0, .string q1, .slice qa m1 qc, .string q3, .slice qk m2 qd] 25 (0, 0))) := by
    show _ = _
    have := box_new (w.alloc (.cells #[.string p0, .string p1, .slice pa n1 pc, .string p3, .slice pk n2 pd] 25)) #[.string q0, .string q1, .slice qa m1 qc, .string q3, .slice qk m2 qd] 25
    simpa using this
  go_enter Try.func3, Try.ntmps3
  go_wp2_with fail
  have HBX : Hid (∀ x : Ext ((w.alloc (.cells #[.string p0, .string p1, .slice pa n1 pc, .string p3, .slice pk n2 pd] 25)).alloc (.cells #[.string q0, .string q1, .slice qa m1 qc, .string q3, .slice qk m2 qd] 25)), Below w.heap.size w x.to) := fun x => HB0.out.trans (x.below.mono HB0.out.size)
  obtain ⟨x0, x1, x2, x3, x4⟩ := bx5 HX.out
  obtain ⟨y0, y1, y2, y3, y4⟩ := bx5 HY.out
  have z0 := fun (x : Ext _) => ext_cell x x0
  have z1 := fun (x : Ext _) => ext_cell x x1
  have z2 := fun (x : Ext _) => ext_cell x x2
  have z3 := fun (x : Ext _) => ext_cell x x3
  have z4 := fun (x : Ext _) => ext_cell x x4
  have u0 := fun (x : Ext _) => ext_cell x y0
  have u1 := fun (x : Ext _) => ext_cell x y1
  have u2 := fun (x : Ext _) => ext_cell x y2
  have u3 := fun (x : Ext _) => ext_cell x y3
  have u4 := fun (x : Ext _) => ext_cell x y4
  clear x0 x1 x2 x3 x4 y0 y1 y2 y3 y4
  refine ext_region (by kernel_rfl) (by kernel_rfl) ?_
  repeat (go_big_quiet_step ((first | (go_at_call 5; with_reducible exact ext_call _ (S1.out _ (HBX.out _))))))
  refine wpQuiet_nil ?_
  rintro _ ⟨x5, hx⟩
  subst hx
  clear z0 z1 z2 z3 z4 u0 u1 u2 u3 u4
  have HB1 := Lib.hid (HBX.out x5)
  clear HBX HX HY HB0
  go_wp2_with fail
  refine (L.out _).mono ?_
  rintro e w3 ⟨rfl, hb⟩
  have HB2 := Lib.hid (HB1.out.trans (hb.mono HB1.out.size))
  clear hb
  go_wp2_with fail
  go_ret
  exact ⟨rfl, HB2.out⟩

set_option maxRecDepth 100000 in
set_option maxHeartbeats 8000000 in
theorem apart_s2 (w : World) (p0 p1 p3 q0 q1 q3 : ByteArray) (pa pk qa qk : Option Addr) (n1 n2 m1 m2 pc pd qc qd : Nat)
    (L : Hid (∀ W, Calls Try.prog 8 #[] W fun e w' => e = .returned (.bool true) ∧ Below W.heap.size W w'))
    (S1 : Hid (At w 5 #[.agg #[.string p0, .string p1, .slice pa n1 pc, .string p3, .slice pk n2 pd]] (.bool true)))
    (S2 : Hid (At w 5 #[.agg #[.string q0, .string q1, .slice qa m1 qc, .string q3, .slice qk m2 qd]] (.bool false))) :
    Calls Try.prog 3 #[.agg #[.string p0, .string p1, .slice pa n1 pc, .string p3, .slice pk n2 pd], .agg #[.string q0, .string q1, .slice qa m1 qc, .string q3, .slice qk m2 qd]] w fun e w' => e = .returned (.bool true) ∧ Below w.heap.size w w' := by
  have HB0 : Hid (Below w.heap.size w ((w.alloc (.cells #[.string p0, .string p1, .slice pa n1 pc, .string p3, .slice pk n2 pd] 25)).alloc (.cells #[.string q0, .string q1, .slice qa m1 qc, .string q3, .slice qk m2 qd] 25))) := ((Below.refl _ w).alloc (Nat.le_refl _) _).alloc (by simp) _
  have HX : Hid (((w.alloc (.cells #[.string p0, .string p1, .slice pa n1 pc, .string p3, .slice pk n2 pd] 25)).alloc (.cells #[.string q0, .string q1, .slice qa m1 qc, .string q3, .slice qk m2 qd] 25)).heap[w.heap.size]? = some (.cells #[.string p0, .string p1, .slice pa n1 pc, .string p3, .slice pk n2 pd] 25 (0, 0))) := (Below.heap_alloc _ _ _ (by simp)).trans (box_new w _ _)
  have HY : Hid (((w.alloc (.cells #[.string p0, .string p1, .slice pa n1 pc, .string p3, .slice pk n2 pd] 25)).alloc (.cells #[.string q0, .string q1, .slice qa m1 qc, .string q3, .slice qk m2 qd] 25)).heap[w.heap.size + 1]? = some (.cells #[.string q0, .string q1, .slice qa m1 qc, .string q3, .slice qk m2 qd] 25 (0, 0))) := by
    show _ = _
    have := box_new (w.alloc (.cells #[.string p0, .string p1, .slice pa n1 pc, .string p3, .slice pk n2 pd] 25)) #[.string q0, .string q1, .slice qa m1 qc, .string q3, .slice qk m2 qd] 25
    simpa using this
  go_enter Try.func3, Try.ntmps3
  go_wp2_with fail
  have HBX : Hid (∀ x : Ext ((w.alloc (.cells #[.string p0, .string p1, .slice pa n1 pc, .string p3, .slice pk n2 pd] 25)).alloc (.cells #[.string q0, .string q1, .slice qa m1 qc, .string q3, .slice qk m2 qd] 25)), Below w.heap.size w x.to) := fun x => HB0.out.trans (x.below.mono HB0.out.size)
  obtain ⟨x0, x1, x2, x3, x4⟩ := bx5 HX.out
  obtain ⟨y0, y1, y2, y3, y4⟩ := bx5 HY.out
  have z0 := fun (x : Ext _) => ext_cell x x0
  have z1 := fun (x : Ext _) => ext_cell x x1
  have z2 := fun (x : Ext _) => ext_cell x x2
  have z3 := fun (x : Ext _) => ext_cell x x3
  have z4 := fun (x : Ext _) => ext_cell x x4
  have u0 := fun (x : Ext _) => ext_cell x y0
  have u1 := fun (x : Ext _) => ext_cell x y1
  have u2 := fun (x : Ext _) => ext_cell x y2
  have u3 := fun (x : Ext _) => ext_cell x y3
  have u4 := fun (x : Ext _) => ext_cell x y4
  clear x0 x1 x2 x3 x4 y0 y1 y2 y3 y4
  refine ext_region (by kernel_rfl) (by kernel_rfl) ?_
  repeat (go_big_quiet_step ((first | (go_at_call 5; with_reducible exact ext_call _ (S1.out _ (HBX.out _))) | (go_at_call 5; with_reducible exact ext_call _ (S2.out _ (HBX.out _))))))
  refine wpQuiet_nil ?_
  rintro _ ⟨x5, hx⟩
  subst hx
  clear z0 z1 z2 z3 z4 u0 u1 u2 u3 u4
  have HB1 := Lib.hid (HBX.out x5)
  clear HBX HX HY HB0
  go_wp2_with fail
  refine (L.out _).mono ?_
  rintro e w3 ⟨rfl, hb⟩
  have HB2 := Lib.hid (HB1.out.trans (hb.mono HB1.out.size))
  clear hb
  go_wp2_with fail
  go_ret
  exact ⟨rfl, HB2.out⟩

set_option maxRecDepth 100000 in
set_option maxHeartbeats 8000000 in
theorem apart_c1 (w : World) (p0 p1 p3 q0 q1 q3 : ByteArray) (pa pk qa qk : Option Addr) (n1 n2 m1 m2 pc pd qc qd : Nat)
    (L : Hid (∀ W, Calls Try.prog 8 #[] W fun e w' => e = .returned (.bool true) ∧ Below W.heap.size W w'))
    (S1 : Hid (At w 5 #[.agg #[.string p0, .string p1, .slice pa n1 pc, .string p3, .slice pk n2 pd]] (.bool true)))
    (S2 : Hid (At w 5 #[.agg #[.string q0, .string q1, .slice qa m1 qc, .string q3, .slice qk m2 qd]] (.bool true)))
    (K1 : Hid (At w 7 #[.agg #[.string p0, .string p1, .slice pa n1 pc, .string p3, .slice pk n2 pd]] (.int .i64 50)))
    (K2 : Hid (At w 7 #[.agg #[.string q0, .string q1, .slice qa m1 qc, .string q3, .slice qk m2 qd]] (.int .i64 0))) :
    Calls Try.prog 3 #[.agg #[.string p0, .string p1, .slice pa n1 pc, .string p3, .slice pk n2 pd], .agg #[.string q0, .string q1, .slice qa m1 qc, .string q3, .slice qk m2 qd]] w fun e w' => e = .returned (.bool true) ∧ Below w.heap.size w w' := by
  have HB0 : Hid (Below w.heap.size w ((w.alloc (.cells #[.string p0, .string p1, .slice pa n1 pc, .string p3, .slice pk n2 pd] 25)).alloc (.cells #[.string q0, .string q1, .slice qa m1 qc, .string q3, .slice qk m2 qd] 25))) := ((Below.refl _ w).alloc (Nat.le_refl _) _).alloc (by simp) _
  have HX : Hid (((w.alloc (.cells #[.string p0, .string p1, .slice pa n1 pc, .string p3, .slice pk n2 pd] 25)).alloc (.cells #[.string q0, .string q1, .slice qa m1 qc, .string q3, .slice qk m2 qd] 25)).heap[w.heap.size]? = some (.cells #[.string p0, .string p1, .slice pa n1 pc, .string p3, .slice pk n2 pd] 25 (0, 0))) := (Below.heap_alloc _ _ _ (by simp)).trans (box_new w _ _)
  have HY : Hid (((w.alloc (.cells #[.string p0, .string p1, .slice pa n1 pc, .string p3, .slice pk n2 pd] 25)).alloc (.cells #[.string q0, .string q1, .slice qa m1 qc, .string q3, .slice qk m2 qd] 25)).heap[w.heap.size + 1]? = some (.cells #[.string q0, .string q1, .slice qa m1 qc, .string q3, .slice qk m2 qd] 25 (0, 0))) := by
    show _ = _
    have := box_new (w.alloc (.cells #[.string p0, .string p1, .slice pa n1 pc, .string p3, .slice pk n2 pd] 25)) #[.string q0, .string q1, .slice qa m1 qc, .string q3, .slice qk m2 qd] 25
    simpa using this
  go_enter Try.func3, Try.ntmps3
  go_wp2_with fail
  have HBX : Hid (∀ x : Ext ((w.alloc (.cells #[.string p0, .string p1, .slice pa n1 pc, .string p3, .slice pk n2 pd] 25)).alloc (.cells #[.string q0, .string q1, .slice qa m1 qc, .string q3, .slice qk m2 qd] 25)), Below w.heap.size w x.to) := fun x => HB0.out.trans (x.below.mono HB0.out.size)
  obtain ⟨x0, x1, x2, x3, x4⟩ := bx5 HX.out
  obtain ⟨y0, y1, y2, y3, y4⟩ := bx5 HY.out
  have z0 := fun (x : Ext _) => ext_cell x x0
  have z1 := fun (x : Ext _) => ext_cell x x1
  have z2 := fun (x : Ext _) => ext_cell x x2
  have z3 := fun (x : Ext _) => ext_cell x x3
  have z4 := fun (x : Ext _) => ext_cell x x4
  have u0 := fun (x : Ext _) => ext_cell x y0
  have u1 := fun (x : Ext _) => ext_cell x y1
  have u2 := fun (x : Ext _) => ext_cell x y2
  have u3 := fun (x : Ext _) => ext_cell x y3
  have u4 := fun (x : Ext _) => ext_cell x y4
  clear x0 x1 x2 x3 x4 y0 y1 y2 y3 y4
  refine ext_region (by kernel_rfl) (by kernel_rfl) ?_
  repeat (go_big_quiet_step ((first | (go_at_call 5; with_reducible exact ext_call _ (S1.out _ (HBX.out _))) | (go_at_call 5; with_reducible exact ext_call _ (S2.out _ (HBX.out _))) | (go_at_call 7; with_reducible exact ext_call _ (K1.out _ (HBX.out _))) | (go_at_call 7; with_reducible exact ext_call _ (K2.out _ (HBX.out _))) | (go_at_call 6; with_reducible exact ext_same _ (num_any _ _)))))
  refine wpQuiet_nil ?_
  rintro _ ⟨x5, hx⟩
  subst hx
  clear z0 z1 z2 z3 z4 u0 u1 u2 u3 u4
  have HB1 := Lib.hid (HBX.out x5)
  clear HBX HX HY HB0
  go_wp2_with fail
  refine (L.out _).mono ?_
  rintro e w3 ⟨rfl, hb⟩
  have HB2 := Lib.hid (HB1.out.trans (hb.mono HB1.out.size))
  clear hb
  go_wp2_with fail
  go_ret
  exact ⟨rfl, HB2.out⟩

set_option maxRecDepth 100000 in
set_option maxHeartbeats 8000000 in
theorem apart_c2 (w : World) (p0 p1 p3 q0 q1 q3 : ByteArray) (pa pk qa qk : Option Addr) (n1 n2 m1 m2 pc pd qc qd : Nat)
    (L : Hid (∀ W, Calls Try.prog 8 #[] W fun e w' => e = .returned (.bool true) ∧ Below W.heap.size W w'))
    (S1 : Hid (At w 5 #[.agg #[.string p0, .string p1, .slice pa n1 pc, .string p3, .slice pk n2 pd]] (.bool true)))
    (S2 : Hid (At w 5 #[.agg #[.string q0, .string q1, .slice qa m1 qc, .string q3, .slice qk m2 qd]] (.bool true)))
    (K1 : Hid (At w 7 #[.agg #[.string p0, .string p1, .slice pa n1 pc, .string p3, .slice pk n2 pd]] (.int .i64 0)))
    (K2 : Hid (At w 7 #[.agg #[.string q0, .string q1, .slice qa m1 qc, .string q3, .slice qk m2 qd]] (.int .i64 50))) :
    Calls Try.prog 3 #[.agg #[.string p0, .string p1, .slice pa n1 pc, .string p3, .slice pk n2 pd], .agg #[.string q0, .string q1, .slice qa m1 qc, .string q3, .slice qk m2 qd]] w fun e w' => e = .returned (.bool true) ∧ Below w.heap.size w w' := by
  have HB0 : Hid (Below w.heap.size w ((w.alloc (.cells #[.string p0, .string p1, .slice pa n1 pc, .string p3, .slice pk n2 pd] 25)).alloc (.cells #[.string q0, .string q1, .slice qa m1 qc, .string q3, .slice qk m2 qd] 25))) := ((Below.refl _ w).alloc (Nat.le_refl _) _).alloc (by simp) _
  have HX : Hid (((w.alloc (.cells #[.string p0, .string p1, .slice pa n1 pc, .string p3, .slice pk n2 pd] 25)).alloc (.cells #[.string q0, .string q1, .slice qa m1 qc, .string q3, .slice qk m2 qd] 25)).heap[w.heap.size]? = some (.cells #[.string p0, .string p1, .slice pa n1 pc, .string p3, .slice pk n2 pd] 25 (0, 0))) := (Below.heap_alloc _ _ _ (by simp)).trans (box_new w _ _)
  have HY : Hid (((w.alloc (.cells #[.string p0, .string p1, .slice pa n1 pc, .string p3, .slice pk n2 pd] 25)).alloc (.cells #[.string q0, .string q1, .slice qa m1 qc, .string q3, .slice qk m2 qd] 25)).heap[w.heap.size + 1]? = some (.cells #[.string q0, .string q1, .slice qa m1 qc, .string q3, .slice qk m2 qd] 25 (0, 0))) := by
    show _ = _
    have := box_new (w.alloc (.cells #[.string p0, .string p1, .slice pa n1 pc, .string p3, .slice pk n2 pd] 25)) #[.string q0, .string q1, .slice qa m1 qc, .string q3, .slice qk m2 qd] 25
    simpa using this
  go_enter Try.func3, Try.ntmps3
  go_wp2_with fail
  have HBX : Hid (∀ x : Ext ((w.alloc (.cells #[.string p0, .string p1, .slice pa n1 pc, .string p3, .slice pk n2 pd] 25)).alloc (.cells #[.string q0, .string q1, .slice qa m1 qc, .string q3, .slice qk m2 qd] 25)), Below w.heap.size w x.to) := fun x => HB0.out.trans (x.below.mono HB0.out.size)
  obtain ⟨x0, x1, x2, x3, x4⟩ := bx5 HX.out
  obtain ⟨y0, y1, y2, y3, y4⟩ := bx5 HY.out
  have z0 := fun (x : Ext _) => ext_cell x x0
  have z1 := fun (x : Ext _) => ext_cell x x1
  have z2 := fun (x : Ext _) => ext_cell x x2
  have z3 := fun (x : Ext _) => ext_cell x x3
  have z4 := fun (x : Ext _) => ext_cell x x4
  have u0 := fun (x : Ext _) => ext_cell x y0
  have u1 := fun (x : Ext _) => ext_cell x y1
  have u2 := fun (x : Ext _) => ext_cell x y2
  have u3 := fun (x : Ext _) => ext_cell x y3
  have u4 := fun (x : Ext _) => ext_cell x y4
  clear x0 x1 x2 x3 x4 y0 y1 y2 y3 y4
  refine ext_region (by kernel_rfl) (by kernel_rfl) ?_
  repeat (go_big_quiet_step ((first | (go_at_call 5; with_reducible exact ext_call _ (S1.out _ (HBX.out _))) | (go_at_call 5; with_reducible exact ext_call _ (S2.out _ (HBX.out _))) | (go_at_call 7; with_reducible exact ext_call _ (K1.out _ (HBX.out _))) | (go_at_call 7; with_reducible exact ext_call _ (K2.out _ (HBX.out _))) | (go_at_call 6; with_reducible exact ext_same _ (num_any _ _)))))
  refine wpQuiet_nil ?_
  rintro _ ⟨x5, hx⟩
  subst hx
  clear z0 z1 z2 z3 z4 u0 u1 u2 u3 u4
  have HB1 := Lib.hid (HBX.out x5)
  clear HBX HX HY HB0
  go_wp2_with fail
  refine (L.out _).mono ?_
  rintro e w3 ⟨rfl, hb⟩
  have HB2 := Lib.hid (HB1.out.trans (hb.mono HB1.out.size))
  clear hb
  go_wp2_with fail
  go_ret
  exact ⟨rfl, HB2.out⟩

set_option maxRecDepth 100000 in
set_option maxHeartbeats 8000000 in
theorem apart_c3 (w : World) (p0 p1 p3 q0 q1 q3 : ByteArray) (pa pk qa qk : Option Addr) (n1 n2 m1 m2 pc pd qc qd : Nat)
    (L : Hid (∀ W, Calls Try.prog 8 #[] W fun e w' => e = .returned (.bool true) ∧ Below W.heap.size W w'))
    (S1 : Hid (At w 5 #[.agg #[.string p0, .string p1, .slice pa n1 pc, .string p3, .slice pk n2 pd]] (.bool true)))
    (S2 : Hid (At w 5 #[.agg #[.string q0, .string q1, .slice qa m1 qc, .string q3, .slice qk m2 qd]] (.bool true)))
    (K1 : Hid (At w 7 #[.agg #[.string p0, .string p1, .slice pa n1 pc, .string p3, .slice pk n2 pd]] (.int .i64 50)))
    (K2 : Hid (At w 7 #[.agg #[.string q0, .string q1, .slice qa m1 qc, .string q3, .slice qk m2 qd]] (.int .i64 50))) :
    Calls Try.prog 3 #[.agg #[.string p0, .string p1, .slice pa n1 pc, .string p3, .slice pk n2 pd], .agg #[.string q0, .string q1, .slice qa m1 qc, .string q3, .slice qk m2 qd]] w fun e w' => e = .returned (.bool true) ∧ Below w.heap.size w w' := by
  have HB0 : Hid (Below w.heap.size w ((w.alloc (.cells #[.string p0, .string p1, .slice pa n1 pc, .string p3, .slice pk n2 pd] 25)).alloc (.cells #[.string q0, .string q1, .slice qa m1 qc, .string q3, .slice qk m2 qd] 25))) := ((Below.refl _ w).alloc (Nat.le_refl _) _).alloc (by simp) _
  have HX : Hid (((w.alloc (.cells #[.string p0, .string p1, .slice pa n1 pc, .string p3, .slice pk n2 pd] 25)).alloc (.cells #[.string q0, .string q1, .slice qa m1 qc, .string q3, .slice qk m2 qd] 25)).heap[w.heap.size]? = some (.cells #[.string p0, .string p1, .slice pa n1 pc, .string p3, .slice pk n2 pd] 25 (0, 0))) := (Below.heap_alloc _ _ _ (by simp)).trans (box_new w _ _)
  have HY : Hid (((w.alloc (.cells #[.string p0, .string p1, .slice pa n1 pc, .string p3, .slice pk n2 pd] 25)).alloc (.cells #[.string q0, .string q1, .slice qa m1 qc, .string q3, .slice qk m2 qd] 25)).heap[w.heap.size + 1]? = some (.cells #[.string q0, .string q1, .slice qa m1 qc, .string q3, .slice qk m2 qd] 25 (0, 0))) := by
    show _ = _
    have := box_new (w.alloc (.cells #[.string p0, .string p1, .slice pa n1 pc, .string p3, .slice pk n2 pd] 25)) #[.string q0, .string q1, .slice qa m1 qc, .string q3, .slice qk m2 qd] 25
    simpa using this
  go_enter Try.func3, Try.ntmps3
  go_wp2_with fail
  have HBX : Hid (∀ x : Ext ((w.alloc (.cells #[.string p0, .string p1, .slice pa n1 pc, .string p3, .slice pk n2 pd] 25)).alloc (.cells #[.string q0, .string q1, .slice qa m1 qc, .string q3, .slice qk m2 qd] 25)), Below w.heap.size w x.to) := fun x => HB0.out.trans (x.below.mono HB0.out.size)
  obtain ⟨x0, x1, x2, x3, x4⟩ := bx5 HX.out
  obtain ⟨y0, y1, y2, y3, y4⟩ := bx5 HY.out
  have z0 := fun (x : Ext _) => ext_cell x x0
  have z1 := fun (x : Ext _) => ext_cell x x1
  have z2 := fun (x : Ext _) => ext_cell x x2
  have z3 := fun (x : Ext _) => ext_cell x x3
  have z4 := fun (x : Ext _) => ext_cell x x4
  have u0 := fun (x : Ext _) => ext_cell x y0
  have u1 := fun (x : Ext _) => ext_cell x y1
  have u2 := fun (x : Ext _) => ext_cell x y2
  have u3 := fun (x : Ext _) => ext_cell x y3
  have u4 := fun (x : Ext _) => ext_cell x y4
  clear x0 x1 x2 x3 x4 y0 y1 y2 y3 y4
  refine ext_region (by kernel_rfl) (by kernel_rfl) ?_
  repeat (go_big_quiet_step ((first | (go_at_call 5; with_reducible exact ext_call _ (S1.out _ (HBX.out _))) | (go_at_call 5; with_reducible exact ext_call _ (S2.out _ (HBX.out _))) | (go_at_call 7; with_reducible exact ext_call _ (K1.out _ (HBX.out _))) | (go_at_call 7; with_reducible exact ext_call _ (K2.out _ (HBX.out _))) | (go_at_call 6; with_reducible exact ext_same _ (num_any _ _)))))
  refine wpQuiet_nil ?_
  rintro _ ⟨x5, hx⟩
  subst hx
  clear z0 z1 z2 z3 z4 u0 u1 u2 u3 u4
  have HB1 := Lib.hid (HBX.out x5)
  clear HBX HX HY HB0
  go_wp2_with fail
  refine (L.out _).mono ?_
  rintro e w3 ⟨rfl, hb⟩
  have HB2 := Lib.hid (HB1.out.trans (hb.mono HB1.out.size))
  clear hb
  go_wp2_with fail
  go_ret
  exact ⟨rfl, HB2.out⟩

set_option maxRecDepth 100000 in
set_option maxHeartbeats 8000000 in
theorem apart_same (w : World) (p0 p1 p3 q0 q1 q3 : ByteArray) (pa pk qa qk : Option Addr) (n1 n2 m1 m2 pc pd qc qd : Nat)
    (L : Hid (∀ W, Calls Try.prog 8 #[] W fun e w' => e = .returned (.bool true) ∧ Below W.heap.size W w'))
    (T : ByteArray)
    (S1 : Hid (At w 5 #[.agg #[.string p0, .string p1, .slice pa n1 pc, .string p3, .slice pk n2 pd]] (.bool true)))
    (S2 : Hid (At w 5 #[.agg #[.string q0, .string q1, .slice qa m1 qc, .string q3, .slice qk m2 qd]] (.bool true)))
    (K1 : Hid (At w 7 #[.agg #[.string p0, .string p1, .slice pa n1 pc, .string p3, .slice pk n2 pd]] (.int .i64 0)))
    (K2 : Hid (At w 7 #[.agg #[.string q0, .string q1, .slice qa m1 qc, .string q3, .slice qk m2 qd]] (.int .i64 0)))
    (P1 : Hid (At w 9 #[.agg #[.string p0, .string p1, .slice pa n1 pc, .string p3, .slice pk n2 pd], .string { data := #[] }] (.string T)))
    (P2 : Hid (At w 9 #[.agg #[.string q0, .string q1, .slice qa m1 qc, .string q3, .slice qk m2 qd], .string { data := #[] }] (.string T)))
    (SA : Hid (At w 10 #[.agg #[.string p0, .string p1, .slice pa n1 pc, .string p3, .slice pk n2 pd], .agg #[.string q0, .string q1, .slice qa m1 qc, .string q3, .slice qk m2 qd]] (.bool true))) :
    Calls Try.prog 3 #[.agg #[.string p0, .string p1, .slice pa n1 pc, .string p3, .slice pk n2 pd], .agg #[.string q0, .string q1, .slice qa m1 qc, .string q3, .slice qk m2 qd]] w fun e w' => e = .returned (.bool true) ∧ Below w.heap.size w w' := by
  have HB0 : Hid (Below w.heap.size w ((w.alloc (.cells #[.string p0, .string p1, .slice pa n1 pc, .string p3, .slice pk n2 pd] 25)).alloc (.cells #[.string q0, .string q1, .slice qa m1 qc, .string q3, .slice qk m2 qd] 25))) := ((Below.refl _ w).alloc (Nat.le_refl _) _).alloc (by simp) _
  have HX : Hid (((w.alloc (.cells #[.string p0, .string p1, .slice pa n1 pc, .string p3, .slice pk n2 pd] 25)).alloc (.cells #[.string q0, .string q1, .slice qa m1 qc, .string q3, .slice qk m2 qd] 25)).heap[w.heap.size]? = some (.cells #[.string p0, .string p1, .slice pa n1 pc, .string p3, .slice pk n2 pd] 25 (0, 0))) := (Below.heap_alloc _ _ _ (by simp)).trans (box_new w _ _)
  have HY : Hid (((w.alloc (.cells #[.string p0, .string p1, .slice pa n1 pc, .string p3, .slice pk n2 pd] 25)).alloc (.cells #[.string q0, .string q1, .slice qa m1 qc, .string q3, .slice qk m2 qd] 25)).heap[w.heap.size + 1]? = some (.cells #[.string q0, .string q1, .slice qa m1 qc, .string q3, .slice qk m2 qd] 25 (0, 0))) := by
    show _ = _
    have := box_new (w.alloc (.cells #[.string p0, .string p1, .slice pa n1 pc, .string p3, .slice pk n2 pd] 25)) #[.string q0, .string q1, .slice qa m1 qc, .string q3, .slice qk m2 qd] 25
    simpa using this
  go_enter Try.func3, Try.ntmps3
  go_wp2_with fail
  have HBX : Hid (∀ x : Ext ((w.alloc (.cells #[.string p0, .string p1, .slice pa n1 pc, .string p3, .slice pk n2 pd] 25)).alloc (.cells #[.string q0, .string q1, .slice qa m1 qc, .string q3, .slice qk m2 qd] 25)), Below w.heap.size w x.to) := fun x => HB0.out.trans (x.below.mono HB0.out.size)
  obtain ⟨x0, x1, x2, x3, x4⟩ := bx5 HX.out
  obtain ⟨y0, y1, y2, y3, y4⟩ := bx5 HY.out
  have z0 := fun (x : Ext _) => ext_cell x x0
  have z1 := fun (x : Ext _) => ext_cell x x1
  have z2 := fun (x : Ext _) => ext_cell x x2
  have z3 := fun (x : Ext _) => ext_cell x x3
  have z4 := fun (x : Ext _) => ext_cell x x4
  have u0 := fun (x : Ext _) => ext_cell x y0
  have u1 := fun (x : Ext _) => ext_cell x y1
  have u2 := fun (x : Ext _) => ext_cell x y2
  have u3 := fun (x : Ext _) => ext_cell x y3
  have u4 := fun (x : Ext _) => ext_cell x y4
  clear x0 x1 x2 x3 x4 y0 y1 y2 y3 y4
  refine ext_region (by kernel_rfl) (by kernel_rfl) ?_
  repeat (go_big_quiet_step ((first | (go_at_call 5; with_reducible exact ext_call _ (S1.out _ (HBX.out _))) | (go_at_call 5; with_reducible exact ext_call _ (S2.out _ (HBX.out _))) | (go_at_call 7; with_reducible exact ext_call _ (K1.out _ (HBX.out _))) | (go_at_call 7; with_reducible exact ext_call _ (K2.out _ (HBX.out _))) | (go_at_call 6; with_reducible exact ext_same _ (num_any _ _)))))
  refine wpQuiet_nil ?_
  rintro _ ⟨x5, hx⟩
  subst hx
  clear z0 z1 z2 z3 z4 u0 u1 u2 u3 u4
  have HB1 := Lib.hid (HBX.out x5)
  have HX1 := Lib.hid ((x5.below.block _ (heap_lt HX.out)).trans HX.out)
  have HY1 := Lib.hid ((x5.below.block _ (heap_lt HY.out)).trans HY.out)
  clear HBX HX HY HB0
  go_wp2_with fail
  have HBY : Hid (∀ x : Ext x5.to, Below w.heap.size w x.to) := fun x => HB1.out.trans (x.below.mono HB1.out.size)
  obtain ⟨x0, x1, x2, x3, x4⟩ := bx5 HX1.out
  obtain ⟨y0, y1, y2, y3, y4⟩ := bx5 HY1.out
  have z0 := fun (x : Ext _) => ext_cell x x0
  have z1 := fun (x : Ext _) => ext_cell x x1
  have z2 := fun (x : Ext _) => ext_cell x x2
  have z3 := fun (x : Ext _) => ext_cell x x3
  have z4 := fun (x : Ext _) => ext_cell x x4
  have u0 := fun (x : Ext _) => ext_cell x y0
  have u1 := fun (x : Ext _) => ext_cell x y1
  have u2 := fun (x : Ext _) => ext_cell x y2
  have u3 := fun (x : Ext _) => ext_cell x y3
  have u4 := fun (x : Ext _) => ext_cell x y4
  clear x0 x1 x2 x3 x4 y0 y1 y2 y3 y4 HX1 HY1
  refine ext_region (by kernel_rfl) (by kernel_rfl) ?_
  repeat (go_big_quiet_step ((first | (go_at_call 9; with_reducible exact ext_call _ (P1.out _ (HBY.out _))) | (go_at_call 9; with_reducible exact ext_call _ (P2.out _ (HBY.out _))) | (go_at_call 10; with_reducible exact ext_call _ (SA.out _ (HBY.out _))) | (go_at_call 8; with_reducible exact ext_call _ (L.out _)))))
  refine wpQuiet_nil ?_
  rintro _ ⟨x6, hx⟩
  subst hx
  clear z0 z1 z2 z3 z4 u0 u1 u2 u3 u4
  have HB2 := Lib.hid (HBY.out x6)
  go_wp2_with fail
  go_ret
  exact ⟨rfl, HB2.out⟩

set_option maxRecDepth 100000 in
set_option maxHeartbeats 8000000 in
theorem apart_unlike (w : World) (p0 p1 p3 q0 q1 q3 : ByteArray) (pa pk qa qk : Option Addr) (n1 n2 m1 m2 pc pd qc qd : Nat)
    (L : Hid (∀ W, Calls Try.prog 8 #[] W fun e w' => e = .returned (.bool true) ∧ Below W.heap.size W w'))
    (T T' : ByteArray) (hneb : (T.toList == T'.toList) = false)
    (S1 : Hid (At w 5 #[.agg #[.string p0, .string p1, .slice pa n1 pc, .string p3, .slice pk n2 pd]] (.bool true)))
    (S2 : Hid (At w 5 #[.agg #[.string q0, .string q1, .slice qa m1 qc, .string q3, .slice qk m2 qd]] (.bool true)))
    (K1 : Hid (At w 7 #[.agg #[.string p0, .string p1, .slice pa n1 pc, .string p3, .slice pk n2 pd]] (.int .i64 0)))
    (K2 : Hid (At w 7 #[.agg #[.string q0, .string q1, .slice qa m1 qc, .string q3, .slice qk m2 qd]] (.int .i64 0)))
    (P1 : Hid (At w 9 #[.agg #[.string p0, .string p1, .slice pa n1 pc, .string p3, .slice pk n2 pd], .string { data := #[] }] (.string T)))
    (P2 : Hid (At w 9 #[.agg #[.string q0, .string q1, .slice qa m1 qc, .string q3, .slice qk m2 qd], .string { data := #[] }] (.string T')))
    (SA : Hid (At w 10 #[.agg #[.string p0, .string p1, .slice pa n1 pc, .string p3, .slice pk n2 pd], .agg #[.string q0, .string q1, .slice qa m1 qc, .string q3, .slice qk m2 qd]] (.bool false))) :
    Calls Try.prog 3 #[.agg #[.string p0, .string p1, .slice pa n1 pc, .string p3, .slice pk n2 pd], .agg #[.string q0, .string q1, .slice qa m1 qc, .string q3, .slice qk m2 qd]] w fun e w' => e = .returned (.bool true) ∧ Below w.heap.size w w' := by
  have HB0 : Hid (Below w.heap.size w ((w.alloc (.cells #[.string p0, .string p1, .slice pa n1 pc, .string p3, .slice pk n2 pd] 25)).alloc (.cells #[.string q0, .string q1, .slice qa m1 qc, .string q3, .slice qk m2 qd] 25))) := ((Below.refl _ w).alloc (Nat.le_refl _) _).alloc (by simp) _
  have HX : Hid (((w.alloc (.cells #[.string p0, .string p1, .slice pa n1 pc, .string p3, .slice pk n2 pd] 25)).alloc (.cells #[.string q0, .string q1, .slice qa m1 qc, .string q3, .slice qk m2 qd] 25)).heap[w.heap.size]? = some (.cells #[.string p0, .string p1, .slice pa n1 pc, .string p3, .slice pk n2 pd] 25 (0, 0))) := (Below.heap_alloc _ _ _ (by simp)).trans (box_new w _ _)
  have HY : Hid (((w.alloc (.cells #[.string p0, .string p1, .slice pa n1 pc, .string p3, .slice pk n2 pd] 25)).alloc (.cells #[.string q0, .string q1, .slice qa m1 qc, .string q3, .slice qk m2 qd] 25)).heap[w.heap.size + 1]? = some (.cells #[.string q0, .string q1, .slice qa m1 qc, .string q3, .slice qk m2 qd] 25 (0, 0))) := by
    show _ = _
    have := box_new (w.alloc (.cells #[.string p0, .string p1, .slice pa n1 pc, .string p3, .slice pk n2 pd] 25)) #[.string q0, .string q1, .slice qa m1 qc, .string q3, .slice qk m2 qd] 25
    simpa using this
  go_enter Try.func3, Try.ntmps3
  go_wp2_with fail
  have HBX : Hid (∀ x : Ext ((w.alloc (.cells #[.string p0, .string p1, .slice pa n1 pc, .string p3, .slice pk n2 pd] 25)).alloc (.cells #[.string q0, .string q1, .slice qa m1 qc, .string q3, .slice qk m2 qd] 25)), Below w.heap.size w x.to) := fun x => HB0.out.trans (x.below.mono HB0.out.size)
  obtain ⟨x0, x1, x2, x3, x4⟩ := bx5 HX.out
  obtain ⟨y0, y1, y2, y3, y4⟩ := bx5 HY.out
  have z0 := fun (x : Ext _) => ext_cell x x0
  have z1 := fun (x : Ext _) => ext_cell x x1
  have z2 := fun (x : Ext _) => ext_cell x x2
  have z3 := fun (x : Ext _) => ext_cell x x3
  have z4 := fun (x : Ext _) => ext_cell x x4
  have u0 := fun (x : Ext _) => ext_cell x y0
  have u1 := fun (x : Ext _) => ext_cell x y1
  have u2 := fun (x : Ext _) => ext_cell x y2
  have u3 := fun (x : Ext _) => ext_cell x y3
  have u4 := fun (x : Ext _) => ext_cell x y4
  clear x0 x1 x2 x3 x4 y0 y1 y2 y3 y4
  refine ext_region (by kernel_rfl) (by kernel_rfl) ?_
  repeat (go_big_quiet_step ((first | (go_at_call 5; with_reducible exact ext_call _ (S1.out _ (HBX.out _))) | (go_at_call 5; with_reducible exact ext_call _ (S2.out _ (HBX.out _))) | (go_at_call 7; with_reducible exact ext_call _ (K1.out _ (HBX.out _))) | (go_at_call 7; with_reducible exact ext_call _ (K2.out _ (HBX.out _))) | (go_at_call 6; with_reducible exact ext_same _ (num_any _ _)))))
  refine wpQuiet_nil ?_
  rintro _ ⟨x5, hx⟩
  subst hx
  clear z0 z1 z2 z3 z4 u0 u1 u2 u3 u4
  have HB1 := Lib.hid (HBX.out x5)
  have HX1 := Lib.hid ((x5.below.block _ (heap_lt HX.out)).trans HX.out)
  have HY1 := Lib.hid ((x5.below.block _ (heap_lt HY.out)).trans HY.out)
  clear HBX HX HY HB0
  go_wp2_with fail
  have HBY : Hid (∀ x : Ext x5.to, Below w.heap.size w x.to) := fun x => HB1.out.trans (x.below.mono HB1.out.size)
  obtain ⟨x0, x1, x2, x3, x4⟩ := bx5 HX1.out
  obtain ⟨y0, y1, y2, y3, y4⟩ := bx5 HY1.out
  have z0 := fun (x : Ext _) => ext_cell x x0
  have z1 := fun (x : Ext _) => ext_cell x x1
  have z2 := fun (x : Ext _) => ext_cell x x2
  have z3 := fun (x : Ext _) => ext_cell x x3
  have z4 := fun (x : Ext _) => ext_cell x x4
  have u0 := fun (x : Ext _) => ext_cell x y0
  have u1 := fun (x : Ext _) => ext_cell x y1
  have u2 := fun (x : Ext _) => ext_cell x y2
  have u3 := fun (x : Ext _) => ext_cell x y3
  have u4 := fun (x : Ext _) => ext_cell x y4
  clear x0 x1 x2 x3 x4 y0 y1 y2 y3 y4 HX1 HY1
  refine ext_region (by kernel_rfl) (by kernel_rfl) ?_
  repeat (go_big_quiet_step ((first | (go_at_call 9; with_reducible exact ext_call _ (P1.out _ (HBY.out _))) | (go_at_call 9; with_reducible exact ext_call _ (P2.out _ (HBY.out _))) | (go_at_call 10; with_reducible exact ext_call _ (SA.out _ (HBY.out _))) | (go_at_call 8; with_reducible exact ext_call _ (L.out _)))))
  refine wpQuiet_nil ?_
  rintro _ ⟨x6, hx⟩
  subst hx
  clear z0 z1 z2 z3 z4 u0 u1 u2 u3 u4
  have HB2 := Lib.hid (HBY.out x6)
  go_wp2_with fail
  go_ret
  exact ⟨rfl, HB2.out⟩

theorem awS_of : ∀ (l : List (ByteArray × ByteArray)) (n : Int), 0 ≤ n → 0 ≤ awS l n ∧ (awS l n ≤ 20000 → awS l n = n + wtA l)
  | [], n, h => ⟨h, fun _ => by simp [awS, wtA]⟩
  | a :: l, n, h => by
    have ih := awS_of l (n + (a.1.size : Int) + (a.2.size : Int)) (by omega)
    rw [awS]
    split
    · refine ⟨ih.1, fun h2 => ?_⟩
      rw [ih.2 h2, wtA_cons]
      omega
    · exact ⟨h, fun h2 => by omega⟩
theorem wvs_of : ∀ (l : List El) (D n : Int), (∀ k ∈ l, ∀ D, 0 ≤ wv k D ∧ (wv k D ≤ 20000 → wv k D = wt k)) → 0 ≤ n → 0 ≤ wvs l D n ∧ n ≤ wvs l D n ∧ (wvs l D n ≤ 20000 → wvs l D n = n + wts l)
  | [], D, n, _, h => by rw [wvs, wts]; exact ⟨h, Int.le_refl _, fun _ => by omega⟩
  | k :: r, D, n, hk, h => by
    have h1 := hk k List.mem_cons_self (D + 1)
    have ih := wvs_of r D (n + wv k (D + 1)) (fun x hx => hk x (List.mem_cons_of_mem _ hx)) (by omega)
    rw [wvs]
    split
    · refine ⟨ih.1, by omega, fun h2 => ?_⟩
      have h3 := ih.2.2 h2
      have h4 := h1.2 (by omega)
      rw [h3, wts, h4]
      omega
    · exact ⟨h, Int.le_refl _, fun h2 => by omega⟩
theorem wv_of (e : El) : ∀ D, 0 ≤ wv e D ∧ (wv e D ≤ 20000 → wv e D = wt e) := by
  refine El.ind (P := fun e => ∀ D, 0 ≤ wv e D ∧ (wv e D ≤ 20000 → wv e D = wt e)) (fun sp nm atr tx ks ih => ?_) e
  intro D
  rw [wv, wt]
  split
  · exact ⟨by omega, fun h => by omega⟩
  · have ha := awS_of atr (1 + (sp.size : Int) + nm.size + tx.size + atr.length) (by omega)
    have hk := wvs_of ks D (awS atr (1 + (sp.size : Int) + nm.size + tx.size + atr.length)) ih ha.1
    refine ⟨hk.1, fun h => ?_⟩
    have h1 := hk.2.2 h
    have h2 := ha.2 (by omega)
    omega
theorem smB_wt {e : El} (h : smB e = true) : wt e ≤ 20000 := by
  have h1 : wv e 0 ≤ 20000 := of_decide_eq_true h
  have h2 := (wv_of e 0).2 h1
  omega
/-- What the walk gives, for any two elements in memory. -/
theorem tagApart_walk (e f : El) (w : World) (v v' : Value) (hin : In w.heap.size w e v) (hin' : In w.heap.size w f v') :
    Calls Try.prog 3 #[v, v'] w fun r w' => r = .returned (.bool true) ∧ Below w.heap.size w w' := by
  have L := Lib.hid (fun W => live_any W)
  have up : ∀ {e : El} {v : Value}, In w.heap.size w e v → ∀ W, Below w.heap.size w W → In W.heap.size W e v := fun h W hb => (h.stay hb).mono hb.size
  have S1 : At w 5 #[v] (.bool (smB e)) := fun W hb => (smallD_any e W v (up hin W hb)).mono fun r w' ⟨h1, h2, _⟩ => ⟨h1, h2⟩
  have S2 : At w 5 #[v'] (.bool (smB f)) := fun W hb => (smallD_any f W v' (up hin' W hb)).mono fun r w' ⟨h1, h2, _⟩ => ⟨h1, h2⟩
  have K1 : smB e = true → At w 7 #[v] (.int .i64 (cdt (chkB e))) := fun h W hb => check_any e W v (up hin W hb) (smB_wt h)
  have K2 : smB f = true → At w 7 #[v'] (.int .i64 (cdt (chkB f))) := fun h W hb => check_any f W v' (up hin' W hb) (smB_wt h)
  have P1 : smB e = true → At w 9 #[v, .string ⟨#[]⟩] (.string ⟨(put e ⟨#[]⟩).toArray⟩) := fun h W hb => put_any e W v ⟨#[]⟩ (up hin W hb) (smB_wt h)
  have P2 : smB f = true → At w 9 #[v', .string ⟨#[]⟩] (.string ⟨(put f ⟨#[]⟩).toArray⟩) := fun h W hb => put_any f W v' ⟨#[]⟩ (up hin' W hb) (smB_wt h)
  have SA : At w 10 #[v, v'] (.bool (eqv e f)) := fun W hb => same_any e f W.heap.size W v v' (up hin W hb) (up hin' W hb) (Nat.le_refl _)
  obtain ⟨a1, b1, a2, b2, rfl⟩ := hin.form
  obtain ⟨c1, d1, c2, d2, rfl⟩ := hin'.form
  cases hs1 : smB e with
  | false =>
    rw [hs1] at S1
    exact apart_s1 w _ _ _ _ _ _ _ _ _ _ _ _ _ _ _ _ _ _ L S1
  | true =>
    rw [hs1] at S1
    have K1 := K1 hs1
    have P1 := P1 hs1
    cases hs2 : smB f with
    | false =>
      rw [hs2] at S2
      exact apart_s2 w _ _ _ _ _ _ _ _ _ _ _ _ _ _ _ _ _ _ L S1 S2
    | true =>
      rw [hs2] at S2
      have K2 := K2 hs2
      have P2 := P2 hs2
      cases hc1 : chkB e with
      | false =>
        rw [hc1] at K1
        cases hc2 : chkB f with
        | false =>
          rw [hc2] at K2
          exact apart_c3 w _ _ _ _ _ _ _ _ _ _ _ _ _ _ _ _ _ _ L S1 S2 K1 K2
        | true =>
          rw [hc2] at K2
          exact apart_c1 w _ _ _ _ _ _ _ _ _ _ _ _ _ _ _ _ _ _ L S1 S2 K1 K2
      | true =>
        rw [hc1] at K1
        cases hc2 : chkB f with
        | false =>
          rw [hc2] at K2
          exact apart_c2 w _ _ _ _ _ _ _ _ _ _ _ _ _ _ _ _ _ _ L S1 S2 K1 K2
        | true =>
          rw [hc2] at K2
          by_cases h : e = f
          · rw [eqv_yes h] at SA
            have P2' : At w 9 #[.agg #[.string f.sp, .string f.nm, .slice c1 f.atr.length d1, .string f.tx, .slice c2 f.ks.length d2], .string ⟨#[]⟩] (.string ⟨(put e ⟨#[]⟩).toArray⟩) := by
              rw [h]
              exact P2
            exact apart_same w _ _ _ _ _ _ _ _ _ _ _ _ _ _ _ _ _ _ L _ S1 S2 K1 K2 P1 P2' SA
          · rw [eqv_no h] at SA
            refine apart_unlike w _ _ _ _ _ _ _ _ _ _ _ _ _ _ _ _ _ _ L _ _ (text_neb fun h2 => h ?_) S1 S2 K1 K2 P1 P2 SA
            refine put_apart (s := ⟨#[]⟩) (chk_wf hc1) (chk_wf hc2) ?_
            have h3 := congrArg (fun b : ByteArray => b.data.toList) h2
            simp only at h3
            exact h3
end Go.Proofs.Ytgcjgggnmhcfcaa
