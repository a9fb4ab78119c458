/- Contracts: the order of places; who is asked for. Conditions: those of each theorem's head. -/
import Derived.Test.YtdmbngkkbgmlfaaGreatDoorLa
import Derived.Test.YtdmbngkkbgmlfaaGreatDoorRh
import Derived.Test.YtdmbngkkbgmlfaaGreatDoorAe
namespace Go.Proofs.YtdmbngkkbgmlfaaGreatDoor.T
open Go.RowKit Go.Lib

set_option maxRecDepth 100000 in
set_option maxHeartbeats 8000000 in
theorem compare_any (a b c d : Int) (w : World) : Calls Tryz.prog 20 #[.agg #[.int .i64 a, .int .i64 b], .agg #[.int .i64 c, .int .i64 d]] w (Gives (.int .i64 (if cp a c = 0 then cp b d else cp a c)) w) := by
  have HP : Hid (((w.alloc (.cells #[.int .i64 a, .int .i64 b] 53)).alloc (.cells #[.int .i64 c, .int .i64 d] 53)).heap[w.heap.size]? = some (.cells #[.int .i64 a, .int .i64 b] 53 (0, 0))) := (Below.heap_alloc (w.alloc (.cells #[.int .i64 a, .int .i64 b] 53)) (.cells #[.int .i64 c, .int .i64 d] 53) _ (by simp)).trans (box_new w _ _)
  have HQ := Lib.hid (box_new2 w (.cells #[.int .i64 a, .int .i64 b] 53) #[.int .i64 c, .int .i64 d] 53)
  have HB : Hid (Below w.heap.size w ((w.alloc (.cells #[.int .i64 a, .int .i64 b] 53)).alloc (.cells #[.int .i64 c, .int .i64 d] 53))) := ((Below.refl _ w).alloc (Nat.le_refl _) _).alloc (by simp) _
  have C1 := Lib.hid (fun W => cmp_any a c W)
  have C2 := Lib.hid (fun W => cmp_any b d W)
  generalize cp a c = r at C1 ⊢
  generalize cp b d = s at C2 ⊢
  have CO := Lib.hid (fun B W h => or_any r s B W h)
  have HR : Hid ((if r = 0 then s else r) = (if r = 0 then s else r)) := rfl
  generalize hq : (if r = 0 then s else r) = q at CO HR ⊢
  clear hq HR
  go_enter Tryz.func20, Tryz.ntmps20
  go_wp2_with fail
  generalize hV : (w.alloc (.cells #[.int .i64 a, .int .i64 b] 53)).alloc (.cells #[.int .i64 c, .int .i64 d] 53) = V at HP HQ HB ⊢
  clear hV
  obtain ⟨p0, p1⟩ := bx2 HP.out
  obtain ⟨q0, q1⟩ := bx2 HQ.out
  have x0 : ∀ y : Ext V, y.to.cell? _ = _ := fun y => ext_cell y p0
  have x1 : ∀ y : Ext V, y.to.cell? _ = _ := fun y => ext_cell y p1
  have x2 : ∀ y : Ext V, y.to.cell? _ = _ := fun y => ext_cell y q0
  have x3 : ∀ y : Ext V, y.to.cell? _ = _ := fun y => ext_cell y q1
  have X1 : Hid (Xc V 43 #[.int .i64 a, .int .i64 c] (.int .i64 r)) := xc_pure C1.out
  have X2 : Hid (Xc V 43 #[.int .i64 b, .int .i64 d] (.int .i64 s)) := xc_pure C2.out
  have hsome := extSome V
  clear C1 C2 HP HQ p0 p1 q0 q1
  refine ext_tail 10 (by kernel_rfl) (by kernel_rfl) ?_
  simp only [List.take_succ_cons, List.take_zero, List.drop_succ_cons, List.drop_zero]
  repeat (go_big_quiet_step ((first | (go_at_call 43; with_reducible exact ext_call _ (X1.out _)) | (go_at_call 43; with_reducible exact ext_call _ (X2.out _)))))
  refine wpQuiet_nil ?_
  rintro _ ⟨y, hy⟩
  subst hy
  have HY := Lib.hid (HB.out.trans (y.below.mono HB.out.size))
  clear x0 x1 x2 x3 X1 X2 hsome HB
  obtain ⟨W, hW⟩ : ∃ z, z = y.to := ⟨_, rfl⟩
  rw [← hW] at HY ⊢
  clear hW
  clear y
  have HS := Lib.hid (box_new W #[.int .i64 r, .int .i64 s] 3)
  have HY2 := Lib.hid (HY.out.alloc HY.out.size (.cells #[.int .i64 r, .int .i64 s] 3))
  go_wp2_with fail
  refine (CO.out _ _ HS.out).mono ?_
  rintro e wz ⟨rfl, hw⟩
  have hw := hw.symm
  subst hw
  go_wp2_with fail
  go_ret
  exact ⟨rfl, HY2.out⟩
/-- The value that compares items: it keeps how places compare in block B. -/
def cmV (B : Nat) : Value := .func (.func 40) #[] #[.pointer (some ⟨B, 0, none⟩)]
def fcV : Value := .func (.func 20) #[] #[]
def CmB (w : World) (B : Nat) : Prop := w.heap[B]? = some (.cells #[fcV] 50 (0, 0))
theorem CmB.below {w w' : World} {B : Nat} (h : CmB w B) (hb : Below w.heap.size w w') : CmB w' B := (hb.block _ (heap_lt h)).trans h
theorem compare_it (x y : It) (w : World) : Calls Tryz.prog 20 #[.agg #[.int .i64 x.g, .int .i64 x.i], .agg #[.int .i64 y.g, .int .i64 y.i]] w (Gives (.int .i64 (cI x y)) w) := compare_any x.g x.i y.g y.i w
set_option maxRecDepth 100000 in
set_option maxHeartbeats 8000000 in
theorem by1_any (x y : It) (B : Nat) (w : World) (h : CmB w B) : Calls Tryz.prog 40 #[.agg #[.string x.n, .int .i64 x.g, .int .i64 x.i, .int .i64 x.t, .string x.a, .bool x.w], .agg #[.string y.n, .int .i64 y.g, .int .i64 y.i, .int .i64 y.t, .string y.a, .bool y.w], .pointer (some ⟨B, 0, none⟩)] w (Gives (.int .i64 (cI x y)) w) := by
  have HP : Hid (((w.alloc (.cells #[.string x.n, .int .i64 x.g, .int .i64 x.i, .int .i64 x.t, .string x.a, .bool x.w] 26)).alloc (.cells #[.string y.n, .int .i64 y.g, .int .i64 y.i, .int .i64 y.t, .string y.a, .bool y.w] 26)).heap[w.heap.size]? = some (.cells #[.string x.n, .int .i64 x.g, .int .i64 x.i, .int .i64 x.t, .string x.a, .bool x.w] 26 (0, 0))) := (Below.heap_alloc (w.alloc (.cells #[.string x.n, .int .i64 x.g, .int .i64 x.i, .int .i64 x.t, .string x.a, .bool x.w] 26)) (.cells #[.string y.n, .int .i64 y.g, .int .i64 y.i, .int .i64 y.t, .string y.a, .bool y.w] 26) _ (by simp)).trans (box_new w _ _)
  have HQ := Lib.hid (box_new2 w (.cells #[.string x.n, .int .i64 x.g, .int .i64 x.i, .int .i64 x.t, .string x.a, .bool x.w] 26) #[.string y.n, .int .i64 y.g, .int .i64 y.i, .int .i64 y.t, .string y.a, .bool y.w] 26)
  have HB : Hid (Below w.heap.size w ((w.alloc (.cells #[.string x.n, .int .i64 x.g, .int .i64 x.i, .int .i64 x.t, .string x.a, .bool x.w] 26)).alloc (.cells #[.string y.n, .int .i64 y.g, .int .i64 y.i, .int .i64 y.t, .string y.a, .bool y.w] 26))) := ((Below.refl _ w).alloc (Nat.le_refl _) _).alloc (by simp) _
  have HC := Lib.hid (bx1 (h.below HB.out))
  unfold fcV at HC
  have C0 := Lib.hid (fun W => compare_it x y W)
  have C1 := Lib.hid (fun W => placeOf_any x W)
  have C2 := Lib.hid (fun W => placeOf_any y W)
  clear h
  generalize cI x y = r at C0 ⊢
  go_enter Tryz.func40, Tryz.ntmps40
  go_wp2_with fail
  generalize hV : (w.alloc (.cells #[.string x.n, .int .i64 x.g, .int .i64 x.i, .int .i64 x.t, .string x.a, .bool x.w] 26)).alloc (.cells #[.string y.n, .int .i64 y.g, .int .i64 y.i, .int .i64 y.t, .string y.a, .bool y.w] 26) = V at HP HQ HB HC ⊢
  clear hV
  obtain ⟨p0, p1, p2, p3, p4, p5⟩ := bx6 HP.out
  obtain ⟨q0, q1, q2, q3, q4, q5⟩ := bx6 HQ.out
  have hc := HC.out
  have x9 : ∀ z : Ext V, z.to.cell? _ = _ := fun z => ext_cell z hc
  have x0 : ∀ z : Ext V, z.to.cell? _ = _ := fun z => ext_cell z p0
  have y0 : ∀ z : Ext V, z.to.cell? _ = _ := fun z => ext_cell z q0
  have x1 : ∀ z : Ext V, z.to.cell? _ = _ := fun z => ext_cell z p1
  have y1 : ∀ z : Ext V, z.to.cell? _ = _ := fun z => ext_cell z q1
  have x2 : ∀ z : Ext V, z.to.cell? _ = _ := fun z => ext_cell z p2
  have y2 : ∀ z : Ext V, z.to.cell? _ = _ := fun z => ext_cell z q2
  have x3 : ∀ z : Ext V, z.to.cell? _ = _ := fun z => ext_cell z p3
  have y3 : ∀ z : Ext V, z.to.cell? _ = _ := fun z => ext_cell z q3
  have x4 : ∀ z : Ext V, z.to.cell? _ = _ := fun z => ext_cell z p4
  have y4 : ∀ z : Ext V, z.to.cell? _ = _ := fun z => ext_cell z q4
  have x5 : ∀ z : Ext V, z.to.cell? _ = _ := fun z => ext_cell z p5
  have y5 : ∀ z : Ext V, z.to.cell? _ = _ := fun z => ext_cell z q5
  have X0 : Hid (Xc V 20 #[.agg #[.int .i64 x.g, .int .i64 x.i], .agg #[.int .i64 y.g, .int .i64 y.i]] (.int .i64 r)) := fun z => C0.out z.to
  have X1 : Hid (Xc V 41 #[.agg #[.string x.n, .int .i64 x.g, .int .i64 x.i, .int .i64 x.t, .string x.a, .bool x.w]] (.agg #[.int .i64 x.g, .int .i64 x.i])) := fun z => C1.out z.to
  have X2 : Hid (Xc V 41 #[.agg #[.string y.n, .int .i64 y.g, .int .i64 y.i, .int .i64 y.t, .string y.a, .bool y.w]] (.agg #[.int .i64 y.g, .int .i64 y.i])) := fun z => C2.out z.to
  have hsome := extSome V
  clear C0 C1 C2 HP HQ HC hc p0 p1 p2 p3 p4 p5 q0 q1 q2 q3 q4 q5
  refine ext_region (by kernel_rfl) (by kernel_rfl) ?_
  repeat (go_big_quiet_step ((first | (go_at_call 41; with_reducible exact ext_call _ (X1.out _)) | (go_at_call 41; with_reducible exact ext_call _ (X2.out _)) | (go_at_call 20; with_reducible exact ext_call _ (X0.out _)))))
  refine wpQuiet_nil ?_
  rintro _ ⟨z, hy⟩
  subst hy
  have HY := Lib.hid (HB.out.trans (z.below.mono HB.out.size))
  go_wp2_with fail
  go_ret
  exact ⟨rfl, HY.out⟩
set_option maxRecDepth 100000 in
set_option maxHeartbeats 8000000 in
theorem by_any (w : World) : Calls Tryz.prog 19 #[.func (.func 20) #[] #[]] w fun e w' => e = .returned (cmV w.heap.size) ∧ CmB w' w.heap.size ∧ Below w.heap.size w w' := by
  have HX := Lib.hid (box_new w #[fcV] 50)
  have HB : Hid (Below w.heap.size w (w.alloc (.cells #[fcV] 50))) := (Below.refl _ w).alloc (Nat.le_refl _) _
  unfold fcV at HX HB
  go_enter Tryz.func19, Tryz.ntmps19
  go_wp2_with fail
  go_ret
  exact ⟨rfl, HX.out, HB.out⟩
end Go.Proofs.YtdmbngkkbgmlfaaGreatDoor.T
