/- Contracts: Buddy, Group, Same; the laws' own. Conditions: those of each theorem's head. -/
import Derived.Test.YtdmbngkkbgmlfaaGreatDoorLi
import Derived.Test.YtdmbngkkbgmlfaaGreatDoorZt
namespace Go.Proofs.YtdmbngkkbgmlfaaGreatDoor.T
open Go.RowKit Go.Lib

set_option maxRecDepth 100000 in
set_option maxHeartbeats 8000000 in
theorem buddy_any (l : List It) (a : Option Addr) (c : Nat) (t : Int) (s : ByteArray) (w : World) (hL : ItS w a l) (hn : l.length ≤ 1000000) (hz : ∀ x ∈ l, x.n.size ≤ 1000000 ∧ x.a.size ≤ 1000000) (hs : s.size ≤ 1000000) : Calls Tryz.prog 13 #[.agg #[.slice a l.length c, .int .i64 t], .string s] w (Gives (caV (cal l (0, Go.Proofs.YtdmbngkkbgmlfaaGreatDoor.mk (Hd.nl s.data.toList)))) w) := by
  have CT0 : Hid (∀ W, Calls Tryz.prog 35 #[.agg #[.string s, .int .i64 0, .int .i64 0, .int .i64 0, .string ⟨#[]⟩, .bool false]] W (Gives (.agg #[.int .i64 0, .string (Go.Proofs.YtdmbngkkbgmlfaaGreatDoor.mk (Hd.nl s.data.toList))]) W)) := fun W => titleOf_any ⟨s, 0, 0, 0, ⟨#[]⟩, false⟩ W (Nat.le_trans hs (by decide))
  have CC0 := Lib.hid fun W (hb : Below w.heap.size w W) => called_any l a c t 0 (Go.Proofs.YtdmbngkkbgmlfaaGreatDoor.mk (Hd.nl s.data.toList)) W (hL.below hb) hn hz
  generalize (Go.Proofs.YtdmbngkkbgmlfaaGreatDoor.mk (Hd.nl s.data.toList)) = q at CT0 CC0 ⊢
  generalize cal l (0, q) = r at CC0 ⊢
  clear hL hz
  cases r with
  | none =>
    unfold caV at CC0 ⊢
    dsimp only at CC0 ⊢
    have CT : Hid (∀ W, Calls Tryz.prog 35 #[.agg #[.string s, .int .i64 0, .int .i64 0, .int .i64 0, .string ⟨#[]⟩, .bool false]] W (Gives (.agg #[.int .i64 0, .string q]) W)) := CT0
    have CC : Hid (∀ W, Below w.heap.size w W → Calls Tryz.prog 34 #[.agg #[.slice a l.length c, .int .i64 t], .agg #[.int .i64 0, .string q]] W (Gives (.tuple #[.agg #[.string ⟨#[]⟩, .int .i64 0, .int .i64 0, .int .i64 0, .string ⟨#[]⟩, .bool false], .bool false]) W)) := CC0
    clear CT0 CC0
    have HXL : Hid (((w.alloc (.cells #[.slice a l.length c, .int .i64 t] 24)).alloc (.cells #[.string ⟨#[]⟩, .int .i64 0, .int .i64 0, .int .i64 0, .string ⟨#[]⟩, .bool false] 26)).heap[w.heap.size]? = some (.cells #[.slice a l.length c, .int .i64 t] 24 (0, 0))) := (Below.heap_alloc (w.alloc (.cells #[.slice a l.length c, .int .i64 t] 24)) (.cells #[.string ⟨#[]⟩, .int .i64 0, .int .i64 0, .int .i64 0, .string ⟨#[]⟩, .bool false] 26) _ (by simp)).trans (box_new w _ _)
    have HXR := Lib.hid (box_new2 w (.cells #[.slice a l.length c, .int .i64 t] 24) #[.string ⟨#[]⟩, .int .i64 0, .int .i64 0, .int .i64 0, .string ⟨#[]⟩, .bool false] 26)
    have HB : Hid (Below w.heap.size w ((w.alloc (.cells #[.slice a l.length c, .int .i64 t] 24)).alloc (.cells #[.string ⟨#[]⟩, .int .i64 0, .int .i64 0, .int .i64 0, .string ⟨#[]⟩, .bool false] 26))) := ((Below.refl _ w).alloc (Nat.le_refl _) _).alloc (by simp) _
    go_enter Tryz.func13, Tryz.ntmps13
    go_upto_region 1 with fail
    generalize ((w.alloc (.cells #[.slice a l.length c, .int .i64 t] 24)).alloc (.cells #[.string ⟨#[]⟩, .int .i64 0, .int .i64 0, .int .i64 0, .string ⟨#[]⟩, .bool false] 26)) = V at HXL HXR HB ⊢
    obtain ⟨c0, c1⟩ := bx2 HXL.out
    have x0 : ∀ z : Ext V, z.to.cell? _ = _ := fun z => ext_cell z c0
    have x1 : ∀ z : Ext V, z.to.cell? _ = _ := fun z => ext_cell z c1
    have X0 : Hid (Xc V 35 #[.agg #[.string s, .int .i64 0, .int .i64 0, .int .i64 0, .string ⟨#[]⟩, .bool false]] (.agg #[.int .i64 0, .string q])) := fun z => CT.out z.to
    have X1 : Hid (Xc V 34 #[.agg #[.slice a l.length c, .int .i64 t], .agg #[.int .i64 0, .string q]] (.tuple #[.agg #[.string ⟨#[]⟩, .int .i64 0, .int .i64 0, .int .i64 0, .string ⟨#[]⟩, .bool false], .bool false])) := fun z => CC.out z.to (HB.out.trans (z.below.mono HB.out.size))
    have hsome := extSome V
    clear c0 c1 CT CC
    refine ext_tail 7 (by kernel_rfl) (by kernel_rfl) ?_
    simp only [List.take_succ_cons, List.take_zero, List.drop_succ_cons, List.drop_zero]
    repeat (go_big_quiet_step ((first | (go_at_call 35; with_reducible exact ext_call _ (X0.out _)) | (go_at_call 34; with_reducible exact ext_call _ (X1.out _)))))
    refine wpQuiet_nil ?_
    rintro _ ⟨z, hy⟩
    subst hy
    have HB1 := Lib.hid (HB.out.trans (z.below.mono HB.out.size))
    replace HXR := kpB z.below HXR
    clear x0 x1 X0 X1 HB
    generalize z.to = W at HB1 HXR ⊢
    clear z hsome
    obtain ⟨r0, r1, r2, r3, r4, r5⟩ := bx6 HXR.out
    have z0 := bxf HXR.out 0
    have z1 := bxf HXR.out 1
    have z2 := bxf HXR.out 2
    have z3 := bxf HXR.out 3
    have z4 := bxf HXR.out 4
    have z5 := bxf HXR.out 5
    go_wp2_with fail
    exact bodyPost_ret (Q.results_load_tmp Tryz.results13 _ _ (w.heap.size + 1) _ rfl (load_i (st6 HXR.out _ _ _ _ _ _))) rfl ⟨rfl, st6b HB1.out (Nat.le_succ _) _ _ _ _ _ _⟩
  | some y =>
    unfold caV at CC0 ⊢
    dsimp only at CC0 ⊢
    have CT : Hid (∀ W, Calls Tryz.prog 35 #[.agg #[.string s, .int .i64 0, .int .i64 0, .int .i64 0, .string ⟨#[]⟩, .bool false]] W (Gives (.agg #[.int .i64 0, .string q]) W)) := CT0
    have CC : Hid (∀ W, Below w.heap.size w W → Calls Tryz.prog 34 #[.agg #[.slice a l.length c, .int .i64 t], .agg #[.int .i64 0, .string q]] W (Gives (.tuple #[.agg #[.string y.n, .int .i64 y.g, .int .i64 y.i, .int .i64 y.t, .string y.a, .bool y.w], .bool true]) W)) := CC0
    clear CT0 CC0
    have HXL : Hid (((w.alloc (.cells #[.slice a l.length c, .int .i64 t] 24)).alloc (.cells #[.string ⟨#[]⟩, .int .i64 0, .int .i64 0, .int .i64 0, .string ⟨#[]⟩, .bool false] 26)).heap[w.heap.size]? = some (.cells #[.slice a l.length c, .int .i64 t] 24 (0, 0))) := (Below.heap_alloc (w.alloc (.cells #[.slice a l.length c, .int .i64 t] 24)) (.cells #[.string ⟨#[]⟩, .int .i64 0, .int .i64 0, .int .i64 0, .string ⟨#[]⟩, .bool false] 26) _ (by simp)).trans (box_new w _ _)
    have HXR := Lib.hid (box_new2 w (.cells #[.slice a l.length c, .int .i64 t] 24) #[.string ⟨#[]⟩, .int .i64 0, .int .i64 0, .int .i64 0, .string ⟨#[]⟩, .bool false] 26)
    have HB : Hid (Below w.heap.size w ((w.alloc (.cells #[.slice a l.length c, .int .i64 t] 24)).alloc (.cells #[.string ⟨#[]⟩, .int .i64 0, .int .i64 0, .int .i64 0, .string ⟨#[]⟩, .bool false] 26))) := ((Below.refl _ w).alloc (Nat.le_refl _) _).alloc (by simp) _
    go_enter Tryz.func13, Tryz.ntmps13
    go_upto_region 1 with fail
    generalize ((w.alloc (.cells #[.slice a l.length c, .int .i64 t] 24)).alloc (.cells #[.string ⟨#[]⟩, .int .i64 0, .int .i64 0, .int .i64 0, .string ⟨#[]⟩, .bool false] 26)) = V at HXL HXR HB ⊢
    obtain ⟨c0, c1⟩ := bx2 HXL.out
    have x0 : ∀ z : Ext V, z.to.cell? _ = _ := fun z => ext_cell z c0
    have x1 : ∀ z : Ext V, z.to.cell? _ = _ := fun z => ext_cell z c1
    have X0 : Hid (Xc V 35 #[.agg #[.string s, .int .i64 0, .int .i64 0, .int .i64 0, .string ⟨#[]⟩, .bool false]] (.agg #[.int .i64 0, .string q])) := fun z => CT.out z.to
    have X1 : Hid (Xc V 34 #[.agg #[.slice a l.length c, .int .i64 t], .agg #[.int .i64 0, .string q]] (.tuple #[.agg #[.string y.n, .int .i64 y.g, .int .i64 y.i, .int .i64 y.t, .string y.a, .bool y.w], .bool true])) := fun z => CC.out z.to (HB.out.trans (z.below.mono HB.out.size))
    have hsome := extSome V
    clear c0 c1 CT CC
    refine ext_tail 7 (by kernel_rfl) (by kernel_rfl) ?_
    simp only [List.take_succ_cons, List.take_zero, List.drop_succ_cons, List.drop_zero]
    repeat (go_big_quiet_step ((first | (go_at_call 35; with_reducible exact ext_call _ (X0.out _)) | (go_at_call 34; with_reducible exact ext_call _ (X1.out _)))))
    refine wpQuiet_nil ?_
    rintro _ ⟨z, hy⟩
    subst hy
    have HB1 := Lib.hid (HB.out.trans (z.below.mono HB.out.size))
    replace HXR := kpB z.below HXR
    clear x0 x1 X0 X1 HB
    generalize z.to = W at HB1 HXR ⊢
    clear z hsome
    obtain ⟨r0, r1, r2, r3, r4, r5⟩ := bx6 HXR.out
    have z0 := bxf HXR.out 0
    have z1 := bxf HXR.out 1
    have z2 := bxf HXR.out 2
    have z3 := bxf HXR.out 3
    have z4 := bxf HXR.out 4
    have z5 := bxf HXR.out 5
    go_wp2_with fail
    exact bodyPost_ret (Q.results_load_tmp Tryz.results13 _ _ (w.heap.size + 1) _ rfl (load_i (st6 HXR.out _ _ _ _ _ _))) rfl ⟨rfl, st6b HB1.out (Nat.le_succ _) _ _ _ _ _ _⟩
set_option maxRecDepth 100000 in
set_option maxHeartbeats 8000000 in
theorem group_any (l : List It) (a : Option Addr) (c : Nat) (t : Int) (s : ByteArray) (w : World) (hL : ItS w a l) (hn : l.length ≤ 1000000) (hz : ∀ x ∈ l, x.n.size ≤ 1000000 ∧ x.a.size ≤ 1000000) (hs : s.size ≤ 1000000) : Calls Tryz.prog 16 #[.agg #[.slice a l.length c, .int .i64 t], .string s] w (Gives (caV (cal l (1, s))) w) := by
  have CT0 : Hid (∀ W, Calls Tryz.prog 35 #[.agg #[.string s, .int .i64 0, .int .i64 0, .int .i64 1, .string ⟨#[]⟩, .bool false]] W (Gives (.agg #[.int .i64 1, .string (s)]) W)) := fun W => titleOf_any ⟨s, 0, 0, 1, ⟨#[]⟩, false⟩ W (Nat.le_trans hs (by decide))
  have CC0 := Lib.hid fun W (hb : Below w.heap.size w W) => called_any l a c t 1 (s) W (hL.below hb) hn hz
  generalize cal l (1, s) = r at CC0 ⊢
  clear hL hz
  cases r with
  | none =>
    unfold caV at CC0 ⊢
    dsimp only at CC0 ⊢
    have CT : Hid (∀ W, Calls Tryz.prog 35 #[.agg #[.string s, .int .i64 0, .int .i64 0, .int .i64 1, .string ⟨#[]⟩, .bool false]] W (Gives (.agg #[.int .i64 1, .string s]) W)) := CT0
    have CC : Hid (∀ W, Below w.heap.size w W → Calls Tryz.prog 34 #[.agg #[.slice a l.length c, .int .i64 t], .agg #[.int .i64 1, .string s]] W (Gives (.tuple #[.agg #[.string ⟨#[]⟩, .int .i64 0, .int .i64 0, .int .i64 0, .string ⟨#[]⟩, .bool false], .bool false]) W)) := CC0
    clear CT0 CC0
    have HXL : Hid (((w.alloc (.cells #[.slice a l.length c, .int .i64 t] 24)).alloc (.cells #[.string ⟨#[]⟩, .int .i64 0, .int .i64 0, .int .i64 0, .string ⟨#[]⟩, .bool false] 26)).heap[w.heap.size]? = some (.cells #[.slice a l.length c, .int .i64 t] 24 (0, 0))) := (Below.heap_alloc (w.alloc (.cells #[.slice a l.length c, .int .i64 t] 24)) (.cells #[.string ⟨#[]⟩, .int .i64 0, .int .i64 0, .int .i64 0, .string ⟨#[]⟩, .bool false] 26) _ (by simp)).trans (box_new w _ _)
    have HXR := Lib.hid (box_new2 w (.cells #[.slice a l.length c, .int .i64 t] 24) #[.string ⟨#[]⟩, .int .i64 0, .int .i64 0, .int .i64 0, .string ⟨#[]⟩, .bool false] 26)
    have HB : Hid (Below w.heap.size w ((w.alloc (.cells #[.slice a l.length c, .int .i64 t] 24)).alloc (.cells #[.string ⟨#[]⟩, .int .i64 0, .int .i64 0, .int .i64 0, .string ⟨#[]⟩, .bool false] 26))) := ((Below.refl _ w).alloc (Nat.le_refl _) _).alloc (by simp) _
    go_enter Tryz.func16, Tryz.ntmps16
    go_upto_region 1 with fail
    generalize ((w.alloc (.cells #[.slice a l.length c, .int .i64 t] 24)).alloc (.cells #[.string ⟨#[]⟩, .int .i64 0, .int .i64 0, .int .i64 0, .string ⟨#[]⟩, .bool false] 26)) = V at HXL HXR HB ⊢
    obtain ⟨c0, c1⟩ := bx2 HXL.out
    have x0 : ∀ z : Ext V, z.to.cell? _ = _ := fun z => ext_cell z c0
    have x1 : ∀ z : Ext V, z.to.cell? _ = _ := fun z => ext_cell z c1
    have X0 : Hid (Xc V 35 #[.agg #[.string s, .int .i64 0, .int .i64 0, .int .i64 1, .string ⟨#[]⟩, .bool false]] (.agg #[.int .i64 1, .string s])) := fun z => CT.out z.to
    have X1 : Hid (Xc V 34 #[.agg #[.slice a l.length c, .int .i64 t], .agg #[.int .i64 1, .string s]] (.tuple #[.agg #[.string ⟨#[]⟩, .int .i64 0, .int .i64 0, .int .i64 0, .string ⟨#[]⟩, .bool false], .bool false])) := fun z => CC.out z.to (HB.out.trans (z.below.mono HB.out.size))
    have hsome := extSome V
    clear c0 c1 CT CC
    refine ext_tail 7 (by kernel_rfl) (by kernel_rfl) ?_
    simp only [List.take_succ_cons, List.take_zero, List.drop_succ_cons, List.drop_zero]
    repeat (go_big_quiet_step ((first | (go_at_call 35; with_reducible exact ext_call _ (X0.out _)) | (go_at_call 34; with_reducible exact ext_call _ (X1.out _)))))
    refine wpQuiet_nil ?_
    rintro _ ⟨z, hy⟩
    subst hy
    have HB1 := Lib.hid (HB.out.trans (z.below.mono HB.out.size))
    replace HXR := kpB z.below HXR
    clear x0 x1 X0 X1 HB
    generalize z.to = W at HB1 HXR ⊢
    clear z hsome
    obtain ⟨r0, r1, r2, r3, r4, r5⟩ := bx6 HXR.out
    have z0 := bxf HXR.out 0
    have z1 := bxf HXR.out 1
    have z2 := bxf HXR.out 2
    have z3 := bxf HXR.out 3
    have z4 := bxf HXR.out 4
    have z5 := bxf HXR.out 5
    go_wp2_with fail
    exact bodyPost_ret (Q.results_load_tmp Tryz.results16 _ _ (w.heap.size + 1) _ rfl (load_i (st6 HXR.out _ _ _ _ _ _))) rfl ⟨rfl, st6b HB1.out (Nat.le_succ _) _ _ _ _ _ _⟩
  | some y =>
    unfold caV at CC0 ⊢
    dsimp only at CC0 ⊢
    have CT : Hid (∀ W, Calls Tryz.prog 35 #[.agg #[.string s, .int .i64 0, .int .i64 0, .int .i64 1, .string ⟨#[]⟩, .bool false]] W (Gives (.agg #[.int .i64 1, .string s]) W)) := CT0
    have CC : Hid (∀ W, Below w.heap.size w W → Calls Tryz.prog 34 #[.agg #[.slice a l.length c, .int .i64 t], .agg #[.int .i64 1, .string s]] W (Gives (.tuple #[.agg #[.string y.n, .int .i64 y.g, .int .i64 y.i, .int .i64 y.t, .string y.a, .bool y.w], .bool true]) W)) := CC0
    clear CT0 CC0
    have HXL : Hid (((w.alloc (.cells #[.slice a l.length c, .int .i64 t] 24)).alloc (.cells #[.string ⟨#[]⟩, .int .i64 0, .int .i64 0, .int .i64 0, .string ⟨#[]⟩, .bool false] 26)).heap[w.heap.size]? = some (.cells #[.slice a l.length c, .int .i64 t] 24 (0, 0))) := (Below.heap_alloc (w.alloc (.cells #[.slice a l.length c, .int .i64 t] 24)) (.cells #[.string ⟨#[]⟩, .int .i64 0, .int .i64 0, .int .i64 0, .string ⟨#[]⟩, .bool false] 26) _ (by simp)).trans (box_new w _ _)
    have HXR := Lib.hid (box_new2 w (.cells #[.slice a l.length c, .int .i64 t] 24) #[.string ⟨#[]⟩, .int .i64 0, .int .i64 0, .int .i64 0, .string ⟨#[]⟩, .bool false] 26)
    have HB : Hid (Below w.heap.size w ((w.alloc (.cells #[.slice a l.length c, .int .i64 t] 24)).alloc (.cells #[.string ⟨#[]⟩, .int .i64 0, .int .i64 0, .int .i64 0, .string ⟨#[]⟩, .bool false] 26))) := ((Below.refl _ w).alloc (Nat.le_refl _) _).alloc (by simp) _
    go_enter Tryz.func16, Tryz.ntmps16
    go_upto_region 1 with fail
    generalize ((w.alloc (.cells #[.slice a l.length c, .int .i64 t] 24)).alloc (.cells #[.string ⟨#[]⟩, .int .i64 0, .int .i64 0, .int .i64 0, .string ⟨#[]⟩, .bool false] 26)) = V at HXL HXR HB ⊢
    obtain ⟨c0, c1⟩ := bx2 HXL.out
    have x0 : ∀ z : Ext V, z.to.cell? _ = _ := fun z => ext_cell z c0
    have x1 : ∀ z : Ext V, z.to.cell? _ = _ := fun z => ext_cell z c1
    have X0 : Hid (Xc V 35 #[.agg #[.string s, .int .i64 0, .int .i64 0, .int .i64 1, .string ⟨#[]⟩, .bool false]] (.agg #[.int .i64 1, .string s])) := fun z => CT.out z.to
    have X1 : Hid (Xc V 34 #[.agg #[.slice a l.length c, .int .i64 t], .agg #[.int .i64 1, .string s]] (.tuple #[.agg #[.string y.n, .int .i64 y.g, .int .i64 y.i, .int .i64 y.t, .string y.a, .bool y.w], .bool true])) := fun z => CC.out z.to (HB.out.trans (z.below.mono HB.out.size))
    have hsome := extSome V
    clear c0 c1 CT CC
    refine ext_tail 7 (by kernel_rfl) (by kernel_rfl) ?_
    simp only [List.take_succ_cons, List.take_zero, List.drop_succ_cons, List.drop_zero]
    repeat (go_big_quiet_step ((first | (go_at_call 35; with_reducible exact ext_call _ (X0.out _)) | (go_at_call 34; with_reducible exact ext_call _ (X1.out _)))))
    refine wpQuiet_nil ?_
    rintro _ ⟨z, hy⟩
    subst hy
    have HB1 := Lib.hid (HB.out.trans (z.below.mono HB.out.size))
    replace HXR := kpB z.below HXR
    clear x0 x1 X0 X1 HB
    generalize z.to = W at HB1 HXR ⊢
    clear z hsome
    obtain ⟨r0, r1, r2, r3, r4, r5⟩ := bx6 HXR.out
    have z0 := bxf HXR.out 0
    have z1 := bxf HXR.out 1
    have z2 := bxf HXR.out 2
    have z3 := bxf HXR.out 3
    have z4 := bxf HXR.out 4
    have z5 := bxf HXR.out 5
    go_wp2_with fail
    exact bodyPost_ret (Q.results_load_tmp Tryz.results16 _ _ (w.heap.size + 1) _ rfl (load_i (st6 HXR.out _ _ _ _ _ _))) rfl ⟨rfl, st6b HB1.out (Nat.le_succ _) _ _ _ _ _ _⟩
theorem lbuddy_any (g i : Int) (s : ByteArray) (w : World) : Calls Tryz.prog 24 #[.int .i64 g, .int .i64 i, .string s] w (Gives (.agg #[.string s, .int .i64 g, .int .i64 i, .int .i64 0, .string ⟨#[]⟩, .bool false]) w) := by
  go_enter Tryz.func24, Tryz.ntmps24
  go_wp2_with fail
  exact bodyPost_ret (results_cell_row Tryz.results24 _ _ w.heap.size 26 _ (0, 0) _ rfl (box_new w _ _) Tryz.underlying26 rfl (by kernel_rfl)) rfl ⟨rfl, (Below.refl _ w).alloc (Nat.le_refl _) _⟩
theorem lgroup_any (g : Int) (s : ByteArray) (w : World) : Calls Tryz.prog 25 #[.int .i64 g, .string s] w (Gives (.agg #[.string s, .int .i64 g, .int .i64 0, .int .i64 1, .string ⟨#[]⟩, .bool false]) w) := by
  go_enter Tryz.func25, Tryz.ntmps25
  go_wp2_with fail
  exact bodyPost_ret (results_cell_row Tryz.results25 _ _ w.heap.size 26 _ (0, 0) _ rfl (box_new w _ _) Tryz.underlying26 rfl (by kernel_rfl)) rfl ⟨rfl, (Below.refl _ w).alloc (Nat.le_refl _) _⟩
theorem lnum_any (n : Int) (w : World) : Calls Tryz.prog 7 #[.int .i64 n] w (Pure (.int .i64 n) w) := by
  go_enter Tryz.func7, Tryz.ntmps7
  go_wp2_with fail
  go_ret
  exact ⟨rfl, rfl⟩
set_option maxRecDepth 100000 in
set_option maxHeartbeats 8000000 in
theorem lsame_any (l m : List It) (a b : Option Addr) (c d : Nat) (t u : Int) (w : World) (hA : ItS w a l) (hB : ItS w b m) (hl : l.length ≤ 1000000) (hm : m.length ≤ 1000000) (ht : t = u) : Calls Tryz.prog 26 #[.agg #[.slice a l.length c, .int .i64 t], .agg #[.slice b m.length d, .int .i64 u]] w (Gives (.bool (eqv l m)) w) := by
  subst ht
  have HXL : Hid (((w.alloc (.cells #[.slice a l.length c, .int .i64 t] 24)).alloc (.cells #[.slice b m.length d, .int .i64 t] 24)).heap[w.heap.size]? = some (.cells #[.slice a l.length c, .int .i64 t] 24 (0, 0))) := (Below.heap_alloc (w.alloc (.cells #[.slice a l.length c, .int .i64 t] 24)) (.cells #[.slice b m.length d, .int .i64 t] 24) _ (by simp)).trans (box_new w _ _)
  have HXR := Lib.hid (box_new2 w (.cells #[.slice a l.length c, .int .i64 t] 24) #[.slice b m.length d, .int .i64 t] 24)
  have HB : Hid (Below w.heap.size w ((w.alloc (.cells #[.slice a l.length c, .int .i64 t] 24)).alloc (.cells #[.slice b m.length d, .int .i64 t] 24))) := ((Below.refl _ w).alloc (Nat.le_refl _) _).alloc (by simp) _
  have CE := Lib.hid (eqI_any l m a b c d _ (hA.below HB.out) (hB.below HB.out) (by omega) (by omega))
  generalize eqv l m = R at CE ⊢
  clear hA hB
  obtain ⟨c0, c1⟩ := bx2 HXL.out
  obtain ⟨d0, d1⟩ := bx2 HXR.out
  have q : ((t : Int) == t) = true := by simp
  go_enter Tryz.func26, Tryz.ntmps26
  go_wp2_with fail
  refine CE.out.mono ?_
  rintro e w1 ⟨rfl, hb⟩
  have HB1 := Lib.hid (HB.out.trans (hb.mono HB.out.size))
  clear hb
  go_wp2_with fail
  go_ret
  exact ⟨rfl, HB1.out⟩
set_option maxRecDepth 100000 in
set_option maxHeartbeats 8000000 in
theorem rs_len (l m : List It) (a b : Option Addr) (c d : Nat) (t u : Int) (w : World) (h : ((l.length : Int) != m.length) = true) : Calls Tryz.prog 11 #[.agg #[.slice a l.length c, .int .i64 t], .agg #[.slice b m.length d, .int .i64 u]] w (Gives (.bool false) w) := by
  have HXL : Hid (((w.alloc (.cells #[.slice a l.length c, .int .i64 t] 24)).alloc (.cells #[.slice b m.length d, .int .i64 u] 24)).heap[w.heap.size]? = some (.cells #[.slice a l.length c, .int .i64 t] 24 (0, 0))) := (Below.heap_alloc (w.alloc (.cells #[.slice a l.length c, .int .i64 t] 24)) (.cells #[.slice b m.length d, .int .i64 u] 24) _ (by simp)).trans (box_new w _ _)
  have HXR := Lib.hid (box_new2 w (.cells #[.slice a l.length c, .int .i64 t] 24) #[.slice b m.length d, .int .i64 u] 24)
  have HB0 : Hid (Below w.heap.size w ((w.alloc (.cells #[.slice a l.length c, .int .i64 t] 24)).alloc (.cells #[.slice b m.length d, .int .i64 u] 24))) := ((Below.refl _ w).alloc (Nat.le_refl _) _).alloc (by simp) _
  obtain ⟨c0, c1⟩ := bx2 HXL.out
  obtain ⟨d0, d1⟩ := bx2 HXR.out
  go_enter Tryz.func11, Tryz.ntmps11
  go_wp2_with fail
  go_ret
  exact ⟨rfl, HB0.out⟩
set_option maxRecDepth 100000 in
set_option maxHeartbeats 8000000 in
theorem rs_time (l m : List It) (a b : Option Addr) (c d : Nat) (t u : Int) (w : World) (h : ((l.length : Int) != m.length) = false) (k : ((t : Int) != u) = true) : Calls Tryz.prog 11 #[.agg #[.slice a l.length c, .int .i64 t], .agg #[.slice b m.length d, .int .i64 u]] w (Gives (.bool false) w) := by
  have HXL : Hid (((w.alloc (.cells #[.slice a l.length c, .int .i64 t] 24)).alloc (.cells #[.slice b m.length d, .int .i64 u] 24)).heap[w.heap.size]? = some (.cells #[.slice a l.length c, .int .i64 t] 24 (0, 0))) := (Below.heap_alloc (w.alloc (.cells #[.slice a l.length c, .int .i64 t] 24)) (.cells #[.slice b m.length d, .int .i64 u] 24) _ (by simp)).trans (box_new w _ _)
  have HXR := Lib.hid (box_new2 w (.cells #[.slice a l.length c, .int .i64 t] 24) #[.slice b m.length d, .int .i64 u] 24)
  have HB0 : Hid (Below w.heap.size w ((w.alloc (.cells #[.slice a l.length c, .int .i64 t] 24)).alloc (.cells #[.slice b m.length d, .int .i64 u] 24))) := ((Below.refl _ w).alloc (Nat.le_refl _) _).alloc (by simp) _
  obtain ⟨c0, c1⟩ := bx2 HXL.out
  obtain ⟨d0, d1⟩ := bx2 HXR.out
  go_enter Tryz.func11, Tryz.ntmps11
  go_wp2_with fail
  go_ret
  exact ⟨rfl, HB0.out⟩
end Go.Proofs.YtdmbngkkbgmlfaaGreatDoor.T
