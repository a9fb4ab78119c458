/- Contracts: a sort of one item, of two. Conditions: those of each theorem's head. -/
import Derived.Test.YtdmbngkkbgmlfaaGreatDoorLr
import Derived.LoopN
import Derived.BigRegion
namespace Go.Proofs.YtdmbngkkbgmlfaaGreatDoor.T
open Go.RowKit Go.Lib

set_option maxRecDepth 100000 in
set_option maxHeartbeats 8000000 in
theorem ins1 (v f : Value) (w : World) : Calls Tryz.prog 73 #[v, .int .i64 0, .int .i64 1, f] w fun e w' => e = .returned (.tuple #[]) ∧ w' = w := by
  go_enter Tryz.func73, Tryz.ntmps73
  go_wp2_with fail
  refine wp_loop_rounds 1 ?_
  rw [rounds_succ]
  go_wp2_with fail
  go_end0
  exact ⟨rfl, rfl⟩
theorem own_setO {w : World} {N n c q g : Nat} {l : List It} (x : It) (ho : OwI w N (.slice (some ⟨g, 0, none⟩) n c) l) (hn : n = l.length) (hq : q < l.length) :
    OwI ((((((w.setCell ⟨g, q * 6, none⟩ (.string x.n)).setCell ⟨g, q * 6 + 1, none⟩ (.int .i64 x.g)).setCell ⟨g, q * 6 + 2, none⟩ (.int .i64 x.i)).setCell ⟨g, q * 6 + 3, none⟩ (.int .i64 x.t)).setCell ⟨g, q * 6 + 4, none⟩ (.string x.a)).setCell ⟨g, q * 6 + 5, none⟩ (.bool x.w)) N (.slice (some ⟨g, 0, none⟩) n c) (l.set q x) := by
  rcases ho.2 with ⟨h1, _⟩ | ⟨g', cap, cur, h1, h2, h3, h4, h5, h6, h7⟩
  · simp at h1
  · simp only [Value.slice.injEq, Option.some.injEq, Addr.mk.injEq] at h1
    obtain ⟨⟨rfl, _, _⟩, _, rfl⟩ := h1
    exact own_set6 x h2 hq h3 hn (by rw [hn]; exact h4) h5 h6 (by rw [hn]; exact h7)
theorem grown_set {w w' : World} {g i : Nat} {v : Value} (h : w.grownBy w' (some g)) : w.grownBy (w'.setCell ⟨g, i, none⟩ v) (some g) :=
  ⟨h.os, h.tape, h.output, by simpa [World.setCell] using h.size, fun k hk hne => (set_o (fun e => hne (by rw [e]))).trans (h.block k hk hne)⟩
theorem grown_drew {w w' : World} {r : Option Nat} (h : w.grownBy w' r) : w.grownBy w'.drew r := ⟨h.os, h.tape, h.output, h.size, h.block⟩
theorem own_drew {w : World} {N : Nat} {v : Value} {l : List It} (h : OwI w N v l) : OwI w.drew N v l := own_o h fun _ _ => rfl
theorem swap_own {W : World} {N c g : Nat} {x y : It} (h : OwI W N (.slice (some ⟨g, 0, none⟩) 2 c) [x, y]) : OwI ((((((((((((W.setCell ⟨g, 6, none⟩ (.string x.n)).setCell ⟨g, 7, none⟩ (.int .i64 x.g)).setCell ⟨g, 8, none⟩ (.int .i64 x.i)).setCell ⟨g, 9, none⟩ (.int .i64 x.t)).setCell ⟨g, 10, none⟩ (.string x.a)).setCell ⟨g, 11, none⟩ (.bool x.w)).setCell ⟨g, 0, none⟩ (.string y.n)).setCell ⟨g, 1, none⟩ (.int .i64 y.g)).setCell ⟨g, 2, none⟩ (.int .i64 y.i)).setCell ⟨g, 3, none⟩ (.int .i64 y.t)).setCell ⟨g, 4, none⟩ (.string y.a)).setCell ⟨g, 5, none⟩ (.bool y.w)).drew N (.slice (some ⟨g, 0, none⟩) 2 c) [y, x] := by
  have h1 := own_setO (q := 1) x h rfl (by show 1 < 2; omega)
  have h2 := own_setO (q := 0) y h1 rfl (by show 0 < 2; omega)
  simp only [Nat.zero_mul, Nat.one_mul, Nat.zero_add, Nat.reduceAdd] at h2
  exact own_drew h2
theorem swap_grown {w W : World} {g : Nat} {x y : It} (h : w.grownBy W none) : w.grownBy ((((((((((((W.setCell ⟨g, 6, none⟩ (.string x.n)).setCell ⟨g, 7, none⟩ (.int .i64 x.g)).setCell ⟨g, 8, none⟩ (.int .i64 x.i)).setCell ⟨g, 9, none⟩ (.int .i64 x.t)).setCell ⟨g, 10, none⟩ (.string x.a)).setCell ⟨g, 11, none⟩ (.bool x.w)).setCell ⟨g, 0, none⟩ (.string y.n)).setCell ⟨g, 1, none⟩ (.int .i64 y.g)).setCell ⟨g, 2, none⟩ (.int .i64 y.i)).setCell ⟨g, 3, none⟩ (.int .i64 y.t)).setCell ⟨g, 4, none⟩ (.string y.a)).setCell ⟨g, 5, none⟩ (.bool y.w)).drew (some g) := by
  refine grown_drew ?_
  iterate 12 refine grown_set ?_
  exact grown_any h
set_option maxRecDepth 100000 in
set_option maxHeartbeats 8000000 in
theorem ins2 (x y : It) (g c B N : Nat) (cur : Array Value) (w : World) (hN : N ≤ g) (hg : w.heap[g]? = some (.cells cur 26 (0, 0))) (h2 : 2 ≤ c) (hc : c ≤ maxLen) (hs : cur.size = c * 6) (ht : cur.toList.take 12 = cellsI [x, y]) (hC : CmB w B) (hlt : cI y x < 0) : Calls Tryz.prog 73 #[.slice (some ⟨g, 0, none⟩) 2 c, .int .i64 0, .int .i64 2, cmV B] w fun e w' => e = .returned (.tuple #[]) ∧ OwI w' N (.slice (some ⟨g, 0, none⟩) 2 c) [y, x] ∧ w.grownBy w' (some g) := by
  have hcell : ∀ j v, (cellsI [x, y])[j]? = some v → cur[j]? = some v := fun j v hj => by
    rw [← ht, List.getElem?_take] at hj
    split at hj
    · rw [← Array.getElem?_toList]; exact hj
    · cases hj
  have m0 : w.cell? ⟨g, 0, none⟩ = some (.string x.n) := (Lib.cell_of_heap hg _).trans (hcell 0 _ rfl)
  have m1 : w.cell? ⟨g, 1, none⟩ = some (.int .i64 x.g) := (Lib.cell_of_heap hg _).trans (hcell 1 _ rfl)
  have m2 : w.cell? ⟨g, 2, none⟩ = some (.int .i64 x.i) := (Lib.cell_of_heap hg _).trans (hcell 2 _ rfl)
  have m3 : w.cell? ⟨g, 3, none⟩ = some (.int .i64 x.t) := (Lib.cell_of_heap hg _).trans (hcell 3 _ rfl)
  have m4 : w.cell? ⟨g, 4, none⟩ = some (.string x.a) := (Lib.cell_of_heap hg _).trans (hcell 4 _ rfl)
  have m5 : w.cell? ⟨g, 5, none⟩ = some (.bool x.w) := (Lib.cell_of_heap hg _).trans (hcell 5 _ rfl)
  have m6 : w.cell? ⟨g, 6, none⟩ = some (.string y.n) := (Lib.cell_of_heap hg _).trans (hcell 6 _ rfl)
  have m7 : w.cell? ⟨g, 7, none⟩ = some (.int .i64 y.g) := (Lib.cell_of_heap hg _).trans (hcell 7 _ rfl)
  have m8 : w.cell? ⟨g, 8, none⟩ = some (.int .i64 y.i) := (Lib.cell_of_heap hg _).trans (hcell 8 _ rfl)
  have m9 : w.cell? ⟨g, 9, none⟩ = some (.int .i64 y.t) := (Lib.cell_of_heap hg _).trans (hcell 9 _ rfl)
  have m10 : w.cell? ⟨g, 10, none⟩ = some (.string y.a) := (Lib.cell_of_heap hg _).trans (hcell 10 _ rfl)
  have m11 : w.cell? ⟨g, 11, none⟩ = some (.bool y.w) := (Lib.cell_of_heap hg _).trans (hcell 11 _ rfl)
  have f0 := bxf hg 0
  have f1 := bxf hg 1
  have f2 := bxf hg 2
  have f3 := bxf hg 3
  have f4 := bxf hg 4
  have f5 := bxf hg 5
  have f6 := bxf hg 6
  have f7 := bxf hg 7
  have f8 := bxf hg 8
  have f9 := bxf hg 9
  have f10 := bxf hg 10
  have f11 := bxf hg 11
  have v0 : ∀ z : Ext w, z.to.cell? _ = _ := fun z => ext_cell z m0
  have v1 : ∀ z : Ext w, z.to.cell? _ = _ := fun z => ext_cell z m1
  have v2 : ∀ z : Ext w, z.to.cell? _ = _ := fun z => ext_cell z m2
  have v3 : ∀ z : Ext w, z.to.cell? _ = _ := fun z => ext_cell z m3
  have v4 : ∀ z : Ext w, z.to.cell? _ = _ := fun z => ext_cell z m4
  have v5 : ∀ z : Ext w, z.to.cell? _ = _ := fun z => ext_cell z m5
  have v6 : ∀ z : Ext w, z.to.cell? _ = _ := fun z => ext_cell z m6
  have v7 : ∀ z : Ext w, z.to.cell? _ = _ := fun z => ext_cell z m7
  have v8 : ∀ z : Ext w, z.to.cell? _ = _ := fun z => ext_cell z m8
  have v9 : ∀ z : Ext w, z.to.cell? _ = _ := fun z => ext_cell z m9
  have v10 : ∀ z : Ext w, z.to.cell? _ = _ := fun z => ext_cell z m10
  have v11 : ∀ z : Ext w, z.to.cell? _ = _ := fun z => ext_cell z m11
  have x0 : Hid (Xc w 40 #[.agg #[.string y.n, .int .i64 y.g, .int .i64 y.i, .int .i64 y.t, .string y.a, .bool y.w], .agg #[.string x.n, .int .i64 x.g, .int .i64 x.i, .int .i64 x.t, .string x.a, .bool x.w], .pointer (some ⟨B, 0, none⟩)] (.int .i64 (cI y x))) := fun z => by1_any y x B z.to (hC.below z.below)
  generalize hr : cI y x = r at x0
  rw [hr] at hlt
  clear hr
  unfold cmV
  go_enter Tryz.func73, Tryz.ntmps73
  go_wp2_with fail
  refine wp_loop_rounds 2 ?_
  rw [rounds_succ]
  go_wp2_with fail
  refine wp_loop_rounds 2 ?_
  rw [rounds_succ]
  go_upto_region 4 with fail
  have hsome := extSome w
  clear m0 f0 m1 f1 m2 f2 m3 f3 m4 f4 m5 f5 m6 f6 m7 f7 m8 f8 m9 f9 m10 f10 m11 f11
  have HCL := Lib.hid hcell
  clear hcell
  refine ext_region (by kernel_rfl) (by kernel_rfl) ?_
  repeat (go_big_quiet_step ((go_at_call 40; with_reducible exact ext_call _ (x0.out _))))
  refine wpQuiet_nil ?_
  rintro _ ⟨z, hy⟩
  subst hy
  have HG := kpB z.below (Lib.hid hg)
  have HW := Lib.hid (grownOf z.below)
  clear x0 v0 v1 v2 v3 v4 v5 v6 v7 v8 v9 v10 v11 hg hC
  generalize z.to = W at HG HW ⊢
  clear z hsome
  go_wp2_with fail
  have m0 : W.cell? ⟨g, 0, none⟩ = some (.string x.n) := (Lib.cell_of_heap HG.out _).trans (HCL.out 0 _ rfl)
  have m1 : W.cell? ⟨g, 1, none⟩ = some (.int .i64 x.g) := (Lib.cell_of_heap HG.out _).trans (HCL.out 1 _ rfl)
  have m2 : W.cell? ⟨g, 2, none⟩ = some (.int .i64 x.i) := (Lib.cell_of_heap HG.out _).trans (HCL.out 2 _ rfl)
  have m3 : W.cell? ⟨g, 3, none⟩ = some (.int .i64 x.t) := (Lib.cell_of_heap HG.out _).trans (HCL.out 3 _ rfl)
  have m4 : W.cell? ⟨g, 4, none⟩ = some (.string x.a) := (Lib.cell_of_heap HG.out _).trans (HCL.out 4 _ rfl)
  have m5 : W.cell? ⟨g, 5, none⟩ = some (.bool x.w) := (Lib.cell_of_heap HG.out _).trans (HCL.out 5 _ rfl)
  have m6 : W.cell? ⟨g, 6, none⟩ = some (.string y.n) := (Lib.cell_of_heap HG.out _).trans (HCL.out 6 _ rfl)
  have m7 : W.cell? ⟨g, 7, none⟩ = some (.int .i64 y.g) := (Lib.cell_of_heap HG.out _).trans (HCL.out 7 _ rfl)
  have m8 : W.cell? ⟨g, 8, none⟩ = some (.int .i64 y.i) := (Lib.cell_of_heap HG.out _).trans (HCL.out 8 _ rfl)
  have m9 : W.cell? ⟨g, 9, none⟩ = some (.int .i64 y.t) := (Lib.cell_of_heap HG.out _).trans (HCL.out 9 _ rfl)
  have m10 : W.cell? ⟨g, 10, none⟩ = some (.string y.a) := (Lib.cell_of_heap HG.out _).trans (HCL.out 10 _ rfl)
  have m11 : W.cell? ⟨g, 11, none⟩ = some (.bool y.w) := (Lib.cell_of_heap HG.out _).trans (HCL.out 11 _ rfl)
  have f0 := bxf HG.out 0
  have f1 := bxf HG.out 1
  have f2 := bxf HG.out 2
  have f3 := bxf HG.out 3
  have f4 := bxf HG.out 4
  have f5 := bxf HG.out 5
  have f6 := bxf HG.out 6
  have f7 := bxf HG.out 7
  have f8 := bxf HG.out 8
  have f9 := bxf HG.out 9
  have f10 := bxf HG.out 10
  have f11 := bxf HG.out 11
  go_region
  have HO0 : OwI W N (.slice (some ⟨g, 0, none⟩) 2 c) [x, y] := ⟨by rw [cellsI_len], .inr ⟨g, c, cur, rfl, hN, HG.out, h2, hc, hs, ht⟩⟩
  have HO := Lib.hid (swap_own HO0)
  have HV := Lib.hid (swap_grown (g := g) (x := x) (y := y) HW.out)
  clear HO0 HG HW m0 f0 m1 f1 m2 f2 m3 f3 m4 f4 m5 f5 m6 f6 m7 f7 m8 f8 m9 f9 m10 f10 m11 f11
  generalize ((((((((((((W.setCell ⟨g, 6, none⟩ (.string x.n)).setCell ⟨g, 7, none⟩ (.int .i64 x.g)).setCell ⟨g, 8, none⟩ (.int .i64 x.i)).setCell ⟨g, 9, none⟩ (.int .i64 x.t)).setCell ⟨g, 10, none⟩ (.string x.a)).setCell ⟨g, 11, none⟩ (.bool x.w)).setCell ⟨g, 0, none⟩ (.string y.n)).setCell ⟨g, 1, none⟩ (.int .i64 y.g)).setCell ⟨g, 2, none⟩ (.int .i64 y.i)).setCell ⟨g, 3, none⟩ (.int .i64 y.t)).setCell ⟨g, 4, none⟩ (.string y.a)).setCell ⟨g, 5, none⟩ (.bool y.w)).drew = W2 at HO HV ⊢
  go_wp2_with fail
  rw [rounds_succ]
  go_upto_region 4 with fail
  have hsome := extSome W2
  refine ext_region (by kernel_rfl) (by kernel_rfl) ?_
  repeat (go_big_quiet_step (fail))
  refine wpQuiet_nil ?_
  rintro _ ⟨z, hy⟩
  subst hy
  have HO3 := Lib.hid (HO.out.below z.below)
  have HV3 : Hid (w.grownBy z.to (some g)) := Lib.hid (HV.out.trans (grown_any (grownOf z.below)))
  generalize z.to = W3 at HO3 HV3 ⊢
  clear z hsome HO HV
  go_wp2_with fail
  rw [rounds_succ]
  go_wp2_with fail
  go_end0
  exact ⟨rfl, HO3.out, HV3.out⟩
end Go.Proofs.YtdmbngkkbgmlfaaGreatDoor.T
