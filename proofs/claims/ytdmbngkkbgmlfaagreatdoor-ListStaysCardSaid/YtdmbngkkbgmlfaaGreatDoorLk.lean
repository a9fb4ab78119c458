/- Contract: the document's Same. Conditions: those of each theorem's head. -/
import Derived.Test.YtdmbngkkbgmlfaaGreatDoorLj
namespace Go.Proofs.YtdmbngkkbgmlfaaGreatDoor.T
open Go.RowKit Go.Lib

set_option maxRecDepth 100000 in
set_option maxHeartbeats 8000000 in
theorem rs_all (l m : List It) (a b : Option Addr) (c d : Nat) (t u : Int) (w : World) (hA : ItS w a l) (hB : ItS w b m) (hl : l.length ≤ 1000000) (h : ((l.length : Int) != m.length) = false) (k : ((t : Int) != u) = false) : Calls Tryz.prog 11 #[.agg #[.slice a l.length c, .int .i64 t], .agg #[.slice b m.length d, .int .i64 u]] w (Gives (.bool (eqv l m)) w) := by
  have hlen2 : l.length = m.length := by
    rw [bne_eq_false_iff_eq] at h
    omega
  have HE := Lib.hid hlen2
  have HLA := Lib.hid fun W (hb : Below w.heap.size w W) => hA.below hb
  have HLB := Lib.hid fun W (hb : Below w.heap.size w W) => hB.below hb
  have HN : Hid (∀ i (h : i < l.length) (h2 : i < m.length), l[i] ≠ m[i] → eqv l m = false) := fun i h h2 e => eqv_no fun q => e (by subst q; rfl)
  have HY : Hid (l.take l.length = m.take l.length → eqv l m = true) := fun h => eqv_yes (by rw [List.take_length, hlen2, List.take_length] at h; exact h)
  generalize eqv l m = R at HN HY ⊢
  clear hA hB hlen2
  have HXL : Hid (((w.alloc (.cells #[.slice a l.length c, .int .i64 t] 24)).alloc (.cells #[.slice b m.length d, .int .i64 u] 24)).heap[w.heap.size]? = some (.cells #[.slice a l.length c, .int .i64 t] 24 (0, 0))) := (Below.heap_alloc (w.alloc (.cells #[.slice a l.length c, .int .i64 t] 24)) (.cells #[.slice b m.length d, .int .i64 u] 24) _ (by simp)).trans (box_new w _ _)
  have HXR := Lib.hid (box_new2 w (.cells #[.slice a l.length c, .int .i64 t] 24) #[.slice b m.length d, .int .i64 u] 24)
  have HB0 : Hid (Below w.heap.size w ((w.alloc (.cells #[.slice a l.length c, .int .i64 t] 24)).alloc (.cells #[.slice b m.length d, .int .i64 u] 24))) := ((Below.refl _ w).alloc (Nat.le_refl _) _).alloc (by simp) _
  obtain ⟨c0, c1⟩ := bx2 HXL.out
  obtain ⟨d0, d1⟩ := bx2 HXR.out
  go_enter Tryz.func11, Tryz.ntmps11
  go_wp2_with fail
  go_loopw [5] (fun i wr => ∃ j : Nat, i = .int .i64 j ∧ j ≤ l.length ∧ Hid (l.take j = m.take j) ∧ Hid (Below w.heap.size w wr) ∧ Hid (wr.heap[w.heap.size]? = some (.cells #[.slice a l.length c, .int .i64 t] 24 (0, 0))) ∧ Hid (wr.heap[w.heap.size + 1]? = some (.cells #[.slice b m.length d, .int .i64 u] 24 (0, 0)))) (fun i _ => l.length - (RowKit.intOf i).toNat)
  case atStart => exact ⟨0, rfl, Nat.zero_le _, by exact rfl, HB0, HXL, HXR⟩
  case round =>
    clear HXL HXR HB0 c0 c1 d0 d1
    obtain ⟨j, rfl, hj, HT, HB, HXL, HXR⟩ := hrel
    obtain ⟨c0, c1⟩ := bx2 HXL.out
    by_cases hlt : j < l.length
    · have hlt2 : j < m.length := by have := HE.out; omega
      obtain ⟨b1, o1, rfl, e0, e1, e2, e3, e4, e5⟩ := HLA.out _ HB.out j hlt
      obtain ⟨b2, o2, rfl, g0, g1, g2, g3, g4, g5⟩ := HLB.out _ HB.out j hlt2
      have HNj := Lib.hid (HN.out j hlt hlt2)
      have HTj := Lib.hid fun he => take_eq hlt hlt2 HT.out he
      generalize l[j] = x at e0 e1 e2 e3 e4 e5 HNj HTj
      generalize m[j] = y at g0 g1 g2 g3 g4 g5 HNj HTj
      by_cases he : x = y
      · have HT2 := Lib.hid (HTj.out he)
        subst he
        have s0 : (x.n.toList == x.n.toList) = true := by simp
        have s4 : (x.a.toList == x.a.toList) = true := by simp
        have s1 : (x.g == x.g) = true := by simp
        have s2 : (x.i == x.i) = true := by simp
        have s3 : (x.t == x.t) = true := by simp
        have s5 : (x.w == x.w) = true := by simp
        clear HNj HTj HT HN
        obtain ⟨x0, x1, x2, x3, x4, x5⟩ := x
        dsimp only at e0 e1 e2 e3 e4 e5 g0 g1 g2 g3 g4 g5 s0 s1 s2 s3 s4 s5
        go_upto_region 6 with fail
        obtain ⟨c0, c1⟩ := bx2 HXL.out
        obtain ⟨d0, d1⟩ := bx2 HXR.out
        have p0 : ∀ z : Ext wr, z.to.cell? _ = _ := fun z => ext_cell z c0
        have p1 : ∀ z : Ext wr, z.to.cell? _ = _ := fun z => ext_cell z d0
        have v0 : ∀ z : Ext wr, z.to.cell? _ = _ := fun z => ext_cell z e0
        have w0 : ∀ z : Ext wr, z.to.cell? _ = _ := fun z => ext_cell z g0
        have v1 : ∀ z : Ext wr, z.to.cell? _ = _ := fun z => ext_cell z e1
        have w1 : ∀ z : Ext wr, z.to.cell? _ = _ := fun z => ext_cell z g1
        have v2 : ∀ z : Ext wr, z.to.cell? _ = _ := fun z => ext_cell z e2
        have w2 : ∀ z : Ext wr, z.to.cell? _ = _ := fun z => ext_cell z g2
        have v3 : ∀ z : Ext wr, z.to.cell? _ = _ := fun z => ext_cell z e3
        have w3 : ∀ z : Ext wr, z.to.cell? _ = _ := fun z => ext_cell z g3
        have v4 : ∀ z : Ext wr, z.to.cell? _ = _ := fun z => ext_cell z e4
        have w4 : ∀ z : Ext wr, z.to.cell? _ = _ := fun z => ext_cell z g4
        have v5 : ∀ z : Ext wr, z.to.cell? _ = _ := fun z => ext_cell z e5
        have w5 : ∀ z : Ext wr, z.to.cell? _ = _ := fun z => ext_cell z g5
        have hsome := extSome wr
        clear c0 c1 d0 d1 e0 e1 e2 e3 e4 e5 g0 g1 g2 g3 g4 g5
        refine ext_region (by kernel_rfl) (by kernel_rfl) ?_
        repeat (go_big_quiet_step (fail))
        refine wpQuiet_nil ?_
        rintro _ ⟨z, hy⟩
        subst hy
        have HB1 := Lib.hid (HB.out.trans (z.below.mono HB.out.size))
        replace HXL := kpB z.below HXL
        replace HXR := kpB z.below HXR
        clear p0 p1 v0 w0 v1 w1 v2 w2 v3 w3 v4 w4 v5 w5
        generalize z.to = W at HB1 HXL HXR ⊢
        clear z hsome
        go_wp2_with fail
        exact ⟨⟨j + 1, by go_num, by omega, HT2, HB1, HXL, HXR⟩, by simp [RowKit.intOf]; omega⟩
      · have e9 := HNj.out he
        subst e9
        clear HNj HTj HT HN HY
        rcases it_ne he with k0 | ⟨k0, k1⟩ | ⟨k0, k1, k2⟩ | ⟨k0, k1, k2, k3⟩ | ⟨k0, k1, k2, k3, k4⟩ | ⟨k0, k1, k2, k3, k4, k5⟩
        · have s0 : (x.n.toList == y.n.toList) = false := text_neb k0
          clear he k0
          go_upto_region 6 with fail
          obtain ⟨c0, c1⟩ := bx2 HXL.out
          obtain ⟨d0, d1⟩ := bx2 HXR.out
          have p0 : ∀ z : Ext wr, z.to.cell? _ = _ := fun z => ext_cell z c0
          have p1 : ∀ z : Ext wr, z.to.cell? _ = _ := fun z => ext_cell z d0
          have v0 : ∀ z : Ext wr, z.to.cell? _ = _ := fun z => ext_cell z e0
          have w0 : ∀ z : Ext wr, z.to.cell? _ = _ := fun z => ext_cell z g0
          have v1 : ∀ z : Ext wr, z.to.cell? _ = _ := fun z => ext_cell z e1
          have w1 : ∀ z : Ext wr, z.to.cell? _ = _ := fun z => ext_cell z g1
          have v2 : ∀ z : Ext wr, z.to.cell? _ = _ := fun z => ext_cell z e2
          have w2 : ∀ z : Ext wr, z.to.cell? _ = _ := fun z => ext_cell z g2
          have v3 : ∀ z : Ext wr, z.to.cell? _ = _ := fun z => ext_cell z e3
          have w3 : ∀ z : Ext wr, z.to.cell? _ = _ := fun z => ext_cell z g3
          have v4 : ∀ z : Ext wr, z.to.cell? _ = _ := fun z => ext_cell z e4
          have w4 : ∀ z : Ext wr, z.to.cell? _ = _ := fun z => ext_cell z g4
          have v5 : ∀ z : Ext wr, z.to.cell? _ = _ := fun z => ext_cell z e5
          have w5 : ∀ z : Ext wr, z.to.cell? _ = _ := fun z => ext_cell z g5
          have hsome := extSome wr
          clear c0 c1 d0 d1 e0 e1 e2 e3 e4 e5 g0 g1 g2 g3 g4 g5
          refine ext_region (by kernel_rfl) (by kernel_rfl) ?_
          repeat (go_big_quiet_step (fail))
          refine wpQuiet_nil ?_
          rintro _ ⟨z, hy⟩
          subst hy
          have HB1 := Lib.hid (HB.out.trans (z.below.mono HB.out.size))
          replace HXL := kpB z.below HXL
          replace HXR := kpB z.below HXR
          clear p0 p1 v0 w0 v1 w1 v2 w2 v3 w3 v4 w4 v5 w5
          generalize z.to = W at HB1 HXL HXR ⊢
          clear z hsome
          go_wp2_with fail
          go_ret
          exact ⟨rfl, HB1.out⟩
        · have s0 : (x.n.toList == y.n.toList) = true := (by rw [k0]; simp)
          have s1 : (x.g == y.g) = false := by simpa using k1
          clear he k0 k1
          go_upto_region 6 with fail
          obtain ⟨c0, c1⟩ := bx2 HXL.out
          obtain ⟨d0, d1⟩ := bx2 HXR.out
          have p0 : ∀ z : Ext wr, z.to.cell? _ = _ := fun z => ext_cell z c0
          have p1 : ∀ z : Ext wr, z.to.cell? _ = _ := fun z => ext_cell z d0
          have v0 : ∀ z : Ext wr, z.to.cell? _ = _ := fun z => ext_cell z e0
          have w0 : ∀ z : Ext wr, z.to.cell? _ = _ := fun z => ext_cell z g0
          have v1 : ∀ z : Ext wr, z.to.cell? _ = _ := fun z => ext_cell z e1
          have w1 : ∀ z : Ext wr, z.to.cell? _ = _ := fun z => ext_cell z g1
          have v2 : ∀ z : Ext wr, z.to.cell? _ = _ := fun z => ext_cell z e2
          have w2 : ∀ z : Ext wr, z.to.cell? _ = _ := fun z => ext_cell z g2
          have v3 : ∀ z : Ext wr, z.to.cell? _ = _ := fun z => ext_cell z e3
          have w3 : ∀ z : Ext wr, z.to.cell? _ = _ := fun z => ext_cell z g3
          have v4 : ∀ z : Ext wr, z.to.cell? _ = _ := fun z => ext_cell z e4
          have w4 : ∀ z : Ext wr, z.to.cell? _ = _ := fun z => ext_cell z g4
          have v5 : ∀ z : Ext wr, z.to.cell? _ = _ := fun z => ext_cell z e5
          have w5 : ∀ z : Ext wr, z.to.cell? _ = _ := fun z => ext_cell z g5
          have hsome := extSome wr
          clear c0 c1 d0 d1 e0 e1 e2 e3 e4 e5 g0 g1 g2 g3 g4 g5
          refine ext_region (by kernel_rfl) (by kernel_rfl) ?_
          repeat (go_big_quiet_step (fail))
          refine wpQuiet_nil ?_
          rintro _ ⟨z, hy⟩
          subst hy
          have HB1 := Lib.hid (HB.out.trans (z.below.mono HB.out.size))
          replace HXL := kpB z.below HXL
          replace HXR := kpB z.below HXR
          clear p0 p1 v0 w0 v1 w1 v2 w2 v3 w3 v4 w4 v5 w5
          generalize z.to = W at HB1 HXL HXR ⊢
          clear z hsome
          go_wp2_with fail
          go_ret
          exact ⟨rfl, HB1.out⟩
        · have s0 : (x.n.toList == y.n.toList) = true := (by rw [k0]; simp)
          have s1 : (x.g == y.g) = true := by simpa using k1
          have s2 : (x.i == y.i) = false := by simpa using k2
          clear he k0 k1 k2
          go_upto_region 6 with fail
          obtain ⟨c0, c1⟩ := bx2 HXL.out
          obtain ⟨d0, d1⟩ := bx2 HXR.out
          have p0 : ∀ z : Ext wr, z.to.cell? _ = _ := fun z => ext_cell z c0
          have p1 : ∀ z : Ext wr, z.to.cell? _ = _ := fun z => ext_cell z d0
          have v0 : ∀ z : Ext wr, z.to.cell? _ = _ := fun z => ext_cell z e0
          have w0 : ∀ z : Ext wr, z.to.cell? _ = _ := fun z => ext_cell z g0
          have v1 : ∀ z : Ext wr, z.to.cell? _ = _ := fun z => ext_cell z e1
          have w1 : ∀ z : Ext wr, z.to.cell? _ = _ := fun z => ext_cell z g1
          have v2 : ∀ z : Ext wr, z.to.cell? _ = _ := fun z => ext_cell z e2
          have w2 : ∀ z : Ext wr, z.to.cell? _ = _ := fun z => ext_cell z g2
          have v3 : ∀ z : Ext wr, z.to.cell? _ = _ := fun z => ext_cell z e3
          have w3 : ∀ z : Ext wr, z.to.cell? _ = _ := fun z => ext_cell z g3
          have v4 : ∀ z : Ext wr, z.to.cell? _ = _ := fun z => ext_cell z e4
          have w4 : ∀ z : Ext wr, z.to.cell? _ = _ := fun z => ext_cell z g4
          have v5 : ∀ z : Ext wr, z.to.cell? _ = _ := fun z => ext_cell z e5
          have w5 : ∀ z : Ext wr, z.to.cell? _ = _ := fun z => ext_cell z g5
          have hsome := extSome wr
          clear c0 c1 d0 d1 e0 e1 e2 e3 e4 e5 g0 g1 g2 g3 g4 g5
          refine ext_region (by kernel_rfl) (by kernel_rfl) ?_
          repeat (go_big_quiet_step (fail))
          refine wpQuiet_nil ?_
          rintro _ ⟨z, hy⟩
          subst hy
          have HB1 := Lib.hid (HB.out.trans (z.below.mono HB.out.size))
          replace HXL := kpB z.below HXL
          replace HXR := kpB z.below HXR
          clear p0 p1 v0 w0 v1 w1 v2 w2 v3 w3 v4 w4 v5 w5
          generalize z.to = W at HB1 HXL HXR ⊢
          clear z hsome
          go_wp2_with fail
          go_ret
          exact ⟨rfl, HB1.out⟩
        · have s0 : (x.n.toList == y.n.toList) = true := (by rw [k0]; simp)
          have s1 : (x.g == y.g) = true := by simpa using k1
          have s2 : (x.i == y.i) = true := by simpa using k2
          have s3 : (x.t == y.t) = false := by simpa using k3
          clear he k0 k1 k2 k3
          go_upto_region 6 with fail
          obtain ⟨c0, c1⟩ := bx2 HXL.out
          obtain ⟨d0, d1⟩ := bx2 HXR.out
          have p0 : ∀ z : Ext wr, z.to.cell? _ = _ := fun z => ext_cell z c0
          have p1 : ∀ z : Ext wr, z.to.cell? _ = _ := fun z => ext_cell z d0
          have v0 : ∀ z : Ext wr, z.to.cell? _ = _ := fun z => ext_cell z e0
          have w0 : ∀ z : Ext wr, z.to.cell? _ = _ := fun z => ext_cell z g0
          have v1 : ∀ z : Ext wr, z.to.cell? _ = _ := fun z => ext_cell z e1
          have w1 : ∀ z : Ext wr, z.to.cell? _ = _ := fun z => ext_cell z g1
          have v2 : ∀ z : Ext wr, z.to.cell? _ = _ := fun z => ext_cell z e2
          have w2 : ∀ z : Ext wr, z.to.cell? _ = _ := fun z => ext_cell z g2
          have v3 : ∀ z : Ext wr, z.to.cell? _ = _ := fun z => ext_cell z e3
          have w3 : ∀ z : Ext wr, z.to.cell? _ = _ := fun z => ext_cell z g3
          have v4 : ∀ z : Ext wr, z.to.cell? _ = _ := fun z => ext_cell z e4
          have w4 : ∀ z : Ext wr, z.to.cell? _ = _ := fun z => ext_cell z g4
          have v5 : ∀ z : Ext wr, z.to.cell? _ = _ := fun z => ext_cell z e5
          have w5 : ∀ z : Ext wr, z.to.cell? _ = _ := fun z => ext_cell z g5
          have hsome := extSome wr
          clear c0 c1 d0 d1 e0 e1 e2 e3 e4 e5 g0 g1 g2 g3 g4 g5
          refine ext_region (by kernel_rfl) (by kernel_rfl) ?_
          repeat (go_big_quiet_step (fail))
          refine wpQuiet_nil ?_
          rintro _ ⟨z, hy⟩
          subst hy
          have HB1 := Lib.hid (HB.out.trans (z.below.mono HB.out.size))
          replace HXL := kpB z.below HXL
          replace HXR := kpB z.below HXR
          clear p0 p1 v0 w0 v1 w1 v2 w2 v3 w3 v4 w4 v5 w5
          generalize z.to = W at HB1 HXL HXR ⊢
          clear z hsome
          go_wp2_with fail
          go_ret
          exact ⟨rfl, HB1.out⟩
        · have s0 : (x.n.toList == y.n.toList) = true := (by rw [k0]; simp)
          have s1 : (x.g == y.g) = true := by simpa using k1
          have s2 : (x.i == y.i) = true := by simpa using k2
          have s3 : (x.t == y.t) = true := by simpa using k3
          have s4 : (x.a.toList == y.a.toList) = false := text_neb k4
          clear he k0 k1 k2 k3 k4
          go_upto_region 6 with fail
          obtain ⟨c0, c1⟩ := bx2 HXL.out
          obtain ⟨d0, d1⟩ := bx2 HXR.out
          have p0 : ∀ z : Ext wr, z.to.cell? _ = _ := fun z => ext_cell z c0
          have p1 : ∀ z : Ext wr, z.to.cell? _ = _ := fun z => ext_cell z d0
          have v0 : ∀ z : Ext wr, z.to.cell? _ = _ := fun z => ext_cell z e0
          have w0 : ∀ z : Ext wr, z.to.cell? _ = _ := fun z => ext_cell z g0
          have v1 : ∀ z : Ext wr, z.to.cell? _ = _ := fun z => ext_cell z e1
          have w1 : ∀ z : Ext wr, z.to.cell? _ = _ := fun z => ext_cell z g1
          have v2 : ∀ z : Ext wr, z.to.cell? _ = _ := fun z => ext_cell z e2
          have w2 : ∀ z : Ext wr, z.to.cell? _ = _ := fun z => ext_cell z g2
          have v3 : ∀ z : Ext wr, z.to.cell? _ = _ := fun z => ext_cell z e3
          have w3 : ∀ z : Ext wr, z.to.cell? _ = _ := fun z => ext_cell z g3
          have v4 : ∀ z : Ext wr, z.to.cell? _ = _ := fun z => ext_cell z e4
          have w4 : ∀ z : Ext wr, z.to.cell? _ = _ := fun z => ext_cell z g4
          have v5 : ∀ z : Ext wr, z.to.cell? _ = _ := fun z => ext_cell z e5
          have w5 : ∀ z : Ext wr, z.to.cell? _ = _ := fun z => ext_cell z g5
          have hsome := extSome wr
          clear c0 c1 d0 d1 e0 e1 e2 e3 e4 e5 g0 g1 g2 g3 g4 g5
          refine ext_region (by kernel_rfl) (by kernel_rfl) ?_
          repeat (go_big_quiet_step (fail))
          refine wpQuiet_nil ?_
          rintro _ ⟨z, hy⟩
          subst hy
          have HB1 := Lib.hid (HB.out.trans (z.below.mono HB.out.size))
          replace HXL := kpB z.below HXL
          replace HXR := kpB z.below HXR
          clear p0 p1 v0 w0 v1 w1 v2 w2 v3 w3 v4 w4 v5 w5
          generalize z.to = W at HB1 HXL HXR ⊢
          clear z hsome
          go_wp2_with fail
          go_ret
          exact ⟨rfl, HB1.out⟩
        · have s0 : (x.n.toList == y.n.toList) = true := (by rw [k0]; simp)
          have s1 : (x.g == y.g) = true := by simpa using k1
          have s2 : (x.i == y.i) = true := by simpa using k2
          have s3 : (x.t == y.t) = true := by simpa using k3
          have s4 : (x.a.toList == y.a.toList) = true := (by rw [k4]; simp)
          have s5 : (x.w == y.w) = false := by simpa using k5
          clear he k0 k1 k2 k3 k4 k5
          go_upto_region 6 with fail
          obtain ⟨c0, c1⟩ := bx2 HXL.out
          obtain ⟨d0, d1⟩ := bx2 HXR.out
          have p0 : ∀ z : Ext wr, z.to.cell? _ = _ := fun z => ext_cell z c0
          have p1 : ∀ z : Ext wr, z.to.cell? _ = _ := fun z => ext_cell z d0
          have v0 : ∀ z : Ext wr, z.to.cell? _ = _ := fun z => ext_cell z e0
          have w0 : ∀ z : Ext wr, z.to.cell? _ = _ := fun z => ext_cell z g0
          have v1 : ∀ z : Ext wr, z.to.cell? _ = _ := fun z => ext_cell z e1
          have w1 : ∀ z : Ext wr, z.to.cell? _ = _ := fun z => ext_cell z g1
          have v2 : ∀ z : Ext wr, z.to.cell? _ = _ := fun z => ext_cell z e2
          have w2 : ∀ z : Ext wr, z.to.cell? _ = _ := fun z => ext_cell z g2
          have v3 : ∀ z : Ext wr, z.to.cell? _ = _ := fun z => ext_cell z e3
          have w3 : ∀ z : Ext wr, z.to.cell? _ = _ := fun z => ext_cell z g3
          have v4 : ∀ z : Ext wr, z.to.cell? _ = _ := fun z => ext_cell z e4
          have w4 : ∀ z : Ext wr, z.to.cell? _ = _ := fun z => ext_cell z g4
          have v5 : ∀ z : Ext wr, z.to.cell? _ = _ := fun z => ext_cell z e5
          have w5 : ∀ z : Ext wr, z.to.cell? _ = _ := fun z => ext_cell z g5
          have hsome := extSome wr
          clear c0 c1 d0 d1 e0 e1 e2 e3 e4 e5 g0 g1 g2 g3 g4 g5
          refine ext_region (by kernel_rfl) (by kernel_rfl) ?_
          repeat (go_big_quiet_step (fail))
          refine wpQuiet_nil ?_
          rintro _ ⟨z, hy⟩
          subst hy
          have HB1 := Lib.hid (HB.out.trans (z.below.mono HB.out.size))
          replace HXL := kpB z.below HXL
          replace HXR := kpB z.below HXR
          clear p0 p1 v0 w0 v1 w1 v2 w2 v3 w3 v4 w4 v5 w5
          generalize z.to = W at HB1 HXL HXR ⊢
          clear z hsome
          go_wp2_with fail
          go_ret
          exact ⟨rfl, HB1.out⟩
    · obtain rfl : j = l.length := by omega
      have e9 := HY.out HT.out
      subst e9
      clear HN HY HT
      go_wp2_with fail
      go_ret
      exact ⟨rfl, HB.out⟩
theorem rsame_any (l m : List It) (a b : Option Addr) (c d : Nat) (t u : Int) (w : World) (hA : ItS w a l) (hB : ItS w b m) (hl : l.length ≤ 1000000) : Calls Tryz.prog 11 #[.agg #[.slice a l.length c, .int .i64 t], .agg #[.slice b m.length d, .int .i64 u]] w (Gives (.bool (pb (l = m ∧ t = u))) w) := by
  by_cases h : l.length = m.length
  · by_cases k : t = u
    · have e : pb (l = m ∧ t = u) = eqv l m := by
        by_cases q : l = m
        · rw [eqv_yes q, pb_yes ⟨q, k⟩]
        · rw [eqv_no q, pb_no fun e => q e.1]
      rw [e]
      exact rs_all l m a b c d t u w hA hB hl (by rw [bne_eq_false_iff_eq]; omega) (by simpa using k)
    · rw [pb_no fun e => k e.2]
      exact rs_time l m a b c d t u w (by rw [bne_eq_false_iff_eq]; omega) (by simpa using k)
  · rw [pb_no fun e => h (by rw [e.1])]
    exact rs_len l m a b c d t u w (by simp only [bne_iff_ne]; omega)
end Go.Proofs.YtdmbngkkbgmlfaaGreatDoor.T
