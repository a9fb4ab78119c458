/- Contracts: the document's List of notes, Same of package session, where both are alike. Conditions: those of each theorem's head. -/
import Derived.Test.YthbeempmdpfnmaaGreatDoorSg
import Derived.Test.YthbeempmdpfnmaaGreatDoorNb
namespace Go.Proofs.YthbeempmdpfnmaaGreatDoor.T
open Go.RowKit Go.Lib

set_option maxRecDepth 100000 in
set_option maxHeartbeats 8000000 in
theorem rlist_yes (l : List Nt) (a c : Option Addr) (n m : Nat) (w : World) (hl : l.length ≤ 140737488351232) (hA : NtsS w a l) (hC : NtsS w c l) : Calls Tryz.prog 21 #[.slice a l.length n, .slice c l.length m] w (Gives (.bool true) w) := by
  have HA := Lib.hid hA
  have HC := Lib.hid hC
  have HB0 : Hid (Below w.heap.size w w) := Below.refl _ _
  clear hA hC
  go_enter Tryz.func21, Tryz.ntmps21
  go_wp2_with fail
  go_loopw [5] (fun i wr => ∃ j : Nat, i = .int .i64 j ∧ j ≤ l.length ∧ Hid (Below w.heap.size w wr)) (fun i _ => l.length - (RowKit.intOf i).toNat)
  case atStart => exact ⟨0, rfl, Nat.zero_le _, HB0⟩
  case round =>
    clear HB0
    obtain ⟨j, rfl, hj, HB⟩ := hrel
    by_cases hlt : j < l.length
    rotate_left
    · have d1 : decide ((j : Int) < (l.length : Int)) = false := by rw [decide_eq_false_iff_not]; omega
      have d2 : ¬ (j : Int) < (l.length : Int) := by omega
      go_wp2_with fail
      go_ret
      exact ⟨rfl, HB.out⟩
    have d1 : decide ((j : Int) < (l.length : Int)) = true := by rw [decide_eq_true_iff]; omega
    have d2 : (j : Int) < (l.length : Int) := by omega
    obtain ⟨b, p, rfl, ai, az, ci, cz, c0, c1, c2, c3, c4, c5, c6, c7, c8, c9, c10, hn⟩ := (HA.out.below HB.out) j hlt
    obtain ⟨g, q, rfl, bi, bz, di, dz, k0, k1, k2, k3, k4, k5, k6, k7, k8, k9, k10, hm⟩ := (HC.out.below HB.out) j hlt
    generalize l[j] = x at hn hm c0 k0 c1 k1 c2 k2 c3 k3 c4 k4 c5 k5 c6 k6 c7 k7 c8 k8 c9 k9 c10 k10
    have HX := Lib.hid (fun W (hb : Below wr.heap.size wr W) => rsame_any x x ai az bi bz ci cz di dz W (hn.below hb) (hm.below hb))
    clear hn hm
    go_upto_region 6 with fail
    have r0 : ∀ y : Ext wr, y.to.cell? _ = _ := fun y => ext_cell y c0
    have r1 : ∀ y : Ext wr, y.to.cell? _ = _ := fun y => ext_cell y c1
    have r2 : ∀ y : Ext wr, y.to.cell? _ = _ := fun y => ext_cell y c2
    have r3 : ∀ y : Ext wr, y.to.cell? _ = _ := fun y => ext_cell y c3
    have r4 : ∀ y : Ext wr, y.to.cell? _ = _ := fun y => ext_cell y c4
    have r5 : ∀ y : Ext wr, y.to.cell? _ = _ := fun y => ext_cell y c5
    have r6 : ∀ y : Ext wr, y.to.cell? _ = _ := fun y => ext_cell y c6
    have r7 : ∀ y : Ext wr, y.to.cell? _ = _ := fun y => ext_cell y c7
    have r8 : ∀ y : Ext wr, y.to.cell? _ = _ := fun y => ext_cell y c8
    have r9 : ∀ y : Ext wr, y.to.cell? _ = _ := fun y => ext_cell y c9
    have r10 : ∀ y : Ext wr, y.to.cell? _ = _ := fun y => ext_cell y c10
    have s0 : ∀ y : Ext wr, y.to.cell? _ = _ := fun y => ext_cell y k0
    have s1 : ∀ y : Ext wr, y.to.cell? _ = _ := fun y => ext_cell y k1
    have s2 : ∀ y : Ext wr, y.to.cell? _ = _ := fun y => ext_cell y k2
    have s3 : ∀ y : Ext wr, y.to.cell? _ = _ := fun y => ext_cell y k3
    have s4 : ∀ y : Ext wr, y.to.cell? _ = _ := fun y => ext_cell y k4
    have s5 : ∀ y : Ext wr, y.to.cell? _ = _ := fun y => ext_cell y k5
    have s6 : ∀ y : Ext wr, y.to.cell? _ = _ := fun y => ext_cell y k6
    have s7 : ∀ y : Ext wr, y.to.cell? _ = _ := fun y => ext_cell y k7
    have s8 : ∀ y : Ext wr, y.to.cell? _ = _ := fun y => ext_cell y k8
    have s9 : ∀ y : Ext wr, y.to.cell? _ = _ := fun y => ext_cell y k9
    have s10 : ∀ y : Ext wr, y.to.cell? _ = _ := fun y => ext_cell y k10
    have X0 : Hid (Xc wr 47 #[.agg #[.int .i64 x.k, .string x.n, .string x.x, .string x.d, .int .i64 x.c, .int .i64 x.s, .int .i64 x.e, .int .i64 x.t, .bool x.o, .slice ai x.l.length ci, .slice az x.z.length cz], .agg #[.int .i64 x.k, .string x.n, .string x.x, .string x.d, .int .i64 x.c, .int .i64 x.s, .int .i64 x.e, .int .i64 x.t, .bool x.o, .slice bi x.l.length di, .slice bz x.z.length dz]] (.bool true)) := fun y => by
      have h := HX.out y.to y.below
      rw [eqv_yes rfl] at h
      exact h
    have hsome := extSome wr
    clear HX c0 k0 c1 k1 c2 k2 c3 k3 c4 k4 c5 k5 c6 k6 c7 k7 c8 k8 c9 k9 c10 k10
    refine ext_region (by kernel_rfl) (by kernel_rfl) ?_
    repeat (go_big_quiet_step ((first | (go_at_call 47; with_reducible exact ext_call _ (X0.out _)))))
    refine wpQuiet_nil ?_
    rintro _ ⟨y, hy⟩
    subst hy
    have HB2 := Lib.hid (HB.out.trans (y.below.mono HB.out.size))
    clear X0 hsome HB r0 s0 r1 s1 r2 s2 r3 s3 r4 s4 r5 s5 r6 s6 r7 s7 r8 s8 r9 s9 r10 s10
    generalize y.to = w2 at HB2 ⊢
    clear y
    go_wp2_with fail
    go_roundw
    case rel => exact ⟨j + 1, by go_num, by omega, HB2⟩
    case measure => simp [RowKit.intOf]; omega
set_option maxRecDepth 100000 in
set_option maxHeartbeats 8000000 in
theorem rsaid_yes (o : So) (a b c e : Option Addr) (n m i j : Nat) (w : World) (h1 : o.m.length ≤ 140737488351232) (h2 : o.u.length ≤ 140737488351232) (hA : NtsS w a o.m) (hB : NtsS w b o.u) (hC : NtsS w c o.m) (hE : NtsS w e o.u) : Calls Tryz.prog 9 #[.agg #[.slice a o.m.length n, .bool o.f, .slice b o.u.length m], .agg #[.slice c o.m.length i, .bool o.f, .slice e o.u.length j]] w (Gives (.bool true) w) := by
  have C1 := Lib.hid (fun W (hb : Below w.heap.size w W) => rlist_yes o.m a c n i W h1 (hA.below hb) (hC.below hb))
  have C2 := Lib.hid (fun W (hb : Below w.heap.size w W) => rlist_yes o.u b e m j W h2 (hB.below hb) (hE.below hb))
  clear hA hB hC hE
  obtain ⟨HB, HX, HY⟩ := bxTwo w #[.slice a o.m.length n, .bool o.f, .slice b o.u.length m] 31 #[.slice c o.m.length i, .bool o.f, .slice e o.u.length j] 31
  obtain ⟨x0, x1, x2⟩ := bx3 HX.out
  obtain ⟨y0, y1, y2⟩ := bx3 HY.out
  have hf : (o.f == o.f) = true := beq_self_eq_true _
  go_enter Tryz.func9, Tryz.ntmps9
  go_wp2_with fail
  refine (C1.out _ HB.out).mono ?_
  rintro e1 w1 ⟨rfl, hb⟩
  clear x0 x1 x2 y0 y1 y2
  replace HX := kpB hb HX
  replace HY := kpB hb HY
  replace HB := Lib.hid (HB.out.trans (hb.mono HB.out.size))
  clear hb C1
  obtain ⟨x0, x1, x2⟩ := bx3 HX.out
  obtain ⟨y0, y1, y2⟩ := bx3 HY.out
  go_wp2_with fail
  refine (C2.out _ HB.out).mono ?_
  rintro e1 w2 ⟨rfl, hb⟩
  replace HB := Lib.hid (HB.out.trans (hb.mono HB.out.size))
  clear hb C2
  go_wp2_with fail
  go_ret
  exact ⟨rfl, HB.out⟩
end Go.Proofs.YthbeempmdpfnmaaGreatDoor.T
