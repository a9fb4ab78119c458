/- Acts in memory; small. Conditions: those of each theorem's head. -/
import Derived.Test.YthbeempmdpfnmaaGreatDoorL2
import Derived.Test.YthbeempmdpfnmaaGreatDoorNc
namespace Go.Proofs.YthbeempmdpfnmaaGreatDoor.T
open Go.RowKit Go.Lib

/-- An act at a place. -/
def AcAt (w : World) (b p : Nat) (a : Ac) : Prop := ∃ (ai az : Option Addr) (ci cz : Nat),
    w.cell? ⟨b, p, none⟩ = some (.int .i64 a.k) ∧
    w.cell? ⟨b, p + 1, none⟩ = some (.int .i64 a.n.k) ∧
    w.cell? ⟨b, p + 2, none⟩ = some (.string a.n.n) ∧
    w.cell? ⟨b, p + 3, none⟩ = some (.string a.n.x) ∧
    w.cell? ⟨b, p + 4, none⟩ = some (.string a.n.d) ∧
    w.cell? ⟨b, p + 5, none⟩ = some (.int .i64 a.n.c) ∧
    w.cell? ⟨b, p + 6, none⟩ = some (.int .i64 a.n.s) ∧
    w.cell? ⟨b, p + 7, none⟩ = some (.int .i64 a.n.e) ∧
    w.cell? ⟨b, p + 8, none⟩ = some (.int .i64 a.n.t) ∧
    w.cell? ⟨b, p + 9, none⟩ = some (.bool a.n.o) ∧
    w.cell? ⟨b, p + 10, none⟩ = some (.slice ai a.n.l.length ci) ∧
    w.cell? ⟨b, p + 11, none⟩ = some (.slice az a.n.z.length cz) ∧
    w.cell? ⟨b, p + 12, none⟩ = some (.int .i64 a.c) ∧ NtR w ai az a.n
theorem AcAt.below {w w' : World} {b p : Nat} {a : Ac} (h : AcAt w b p a) (hb : Below w.heap.size w w') : AcAt w' b p a := by
  obtain ⟨ai, az, ci, cz, c0, c1, c2, c3, c4, c5, c6, c7, c8, c9, c10, c11, c12, hn⟩ := h
  have hlt := World.block_lt_of_cell? _ _ c0
  exact ⟨ai, az, ci, cz, keep_cell hb c0 hlt, keep_cell hb c1 hlt, keep_cell hb c2 hlt, keep_cell hb c3 hlt, keep_cell hb c4 hlt, keep_cell hb c5 hlt, keep_cell hb c6 hlt, keep_cell hb c7 hlt, keep_cell hb c8 hlt, keep_cell hb c9 hlt, keep_cell hb c10 hlt, keep_cell hb c11 hlt, keep_cell hb c12 hlt, hn.below hb⟩
def AcS (w : World) (a : Option Addr) (l : List Ac) : Prop := ∀ i (h : i < l.length), ∃ b p, a = some ⟨b, p, none⟩ ∧ AcAt w b (p + i * 13) l[i]
theorem AcS.below {w w' : World} {a : Option Addr} {l : List Ac} (h : AcS w a l) (hb : Below w.heap.size w w') : AcS w' a l := fun i hi => by
  obtain ⟨b, p, e, hn⟩ := h i hi
  exact ⟨b, p, e, hn.below hb⟩
def SmlP (l : List Ac) (w : World) (e : Ending) (w' : World) : Prop := ∃ b : Bool, e = .returned (.bool b) ∧ Below w.heap.size w w' ∧ (b = true → l.length ≤ 150 ∧ ∀ k (h : k < l.length), Sm 12000 l[k].n)
set_option maxRecDepth 100000 in
set_option maxHeartbeats 8000000 in
theorem small_any (l : List Ac) (aa : Option Addr) (ca : Nat) (w : World) (hl : l.length ≤ 140737488351232) (hA : AcS w aa l) : Calls Tryz.prog 5 #[.slice aa l.length ca] w (SmlP l w) := by
  have HA := Lib.hid hA
  have HB0 : Hid (Below w.heap.size w w) := Below.refl _ _
  clear hA
  go_enter Tryz.func5, Tryz.ntmps5
  go_wp2_with fail
  go_loopw [3, 4] (fun n i wr => ∃ (N j : Nat), n = .int .i64 N ∧ i = .int .i64 j ∧ j ≤ l.length ∧ j ≤ 151 ∧ N ≤ 1000000000012000 ∧ Hid (N ≤ 12000 → ∀ k (h : k < j) (h' : k < l.length), Sm 12000 l[k].n) ∧ Hid (Below w.heap.size w wr)) (fun _ i _ => l.length - (RowKit.intOf i).toNat)
  case atStart => exact ⟨0, 0, rfl, rfl, Nat.zero_le _, Nat.zero_le _, Nat.zero_le _, Lib.hid (fun _ k h => absurd h (Nat.not_lt_zero k)), HB0⟩
  case round =>
    clear HB0
    obtain ⟨N, j, rfl, rfl, hj, hj1, hN, HM, HB⟩ := hrel
    by_cases hlt : j < l.length
    rotate_left
    · have hje : j = l.length := by omega
      subst hje
      have d1 : decide ((l.length : Int) < (l.length : Int)) = false := by rw [decide_eq_false_iff_not]; omega
      have d1' : ¬ ((l.length : Int) < (l.length : Int)) := by omega
      by_cases h5 : l.length ≤ 150
      rotate_left
      · have d2 : decide ((l.length : Int) ≤ 150) = false := by rw [decide_eq_false_iff_not]; omega
        have d2' : ¬ ((l.length : Int) ≤ 150) := by omega
        go_wp2_with fail
        go_ret
        exact ⟨false, rfl, HB.out, fun h => by cases h⟩
      have d2 : decide ((l.length : Int) ≤ 150) = true := by rw [decide_eq_true_iff]; omega
      have d2' : ((l.length : Int) ≤ 150) := by omega
      by_cases h6 : N ≤ 12000
      rotate_left
      · have d3 : decide ((N : Int) ≤ 12000) = false := by rw [decide_eq_false_iff_not]; omega
        have d3' : ¬ ((N : Int) ≤ 12000) := by omega
        go_wp2_with fail
        go_ret
        exact ⟨false, rfl, HB.out, fun h => by cases h⟩
      have HM2 := Lib.hid (HM.out h6)
      have d3 : decide ((N : Int) ≤ 12000) = true := by rw [decide_eq_true_iff]; omega
      have d3' : ((N : Int) ≤ 12000) := by omega
      go_wp2_with fail
      go_ret
      exact ⟨true, rfl, HB.out, fun _ => ⟨h5, fun k h => HM2.out k h h⟩⟩
    have d1 : decide ((j : Int) < (l.length : Int)) = true := by rw [decide_eq_true_iff]; omega
    have d1' : ((j : Int) < (l.length : Int)) := by omega
    by_cases h5 : j ≤ 150
    rotate_left
    · have d2 : decide ((j : Int) ≤ 150) = false := by rw [decide_eq_false_iff_not]; omega
      have d2' : ¬ ((j : Int) ≤ 150) := by omega
      have d4 : decide ((l.length : Int) ≤ 150) = false := by rw [decide_eq_false_iff_not]; omega
      have d4' : ¬ ((l.length : Int) ≤ 150) := by omega
      go_wp2_with fail
      go_ret
      exact ⟨false, rfl, HB.out, fun h => by cases h⟩
    have d2 : decide ((j : Int) ≤ 150) = true := by rw [decide_eq_true_iff]; omega
    have d2' : ((j : Int) ≤ 150) := by omega
    by_cases h6 : N ≤ 12000
    rotate_left
    · have d3 : decide ((N : Int) ≤ 12000) = false := by rw [decide_eq_false_iff_not]; omega
      have d3' : ¬ ((N : Int) ≤ 12000) := by omega
      by_cases h7 : l.length ≤ 150
      rotate_left
      · have d4 : decide ((l.length : Int) ≤ 150) = false := by rw [decide_eq_false_iff_not]; omega
        have d4' : ¬ ((l.length : Int) ≤ 150) := by omega
        go_wp2_with fail
        go_ret
        exact ⟨false, rfl, HB.out, fun h => by cases h⟩
      have d4 : decide ((l.length : Int) ≤ 150) = true := by rw [decide_eq_true_iff]; omega
      have d4' : ((l.length : Int) ≤ 150) := by omega
      go_wp2_with fail
      go_ret
      exact ⟨false, rfl, HB.out, fun h => by cases h⟩
    have d3 : decide ((N : Int) ≤ 12000) = true := by rw [decide_eq_true_iff]; omega
    have d3' : ((N : Int) ≤ 12000) := by omega
    obtain ⟨b, p, rfl, ai, az, ci, cz, c0, c1, c2, c3, c4, c5, c6, c7, c8, c9, c10, c11, c12, hR⟩ := (HA.out.below HB.out) j hlt
    have HL : Hid (l[j] = l[j]) := rfl
    have m0 : wr.cell? ⟨b, p + j * 13 + 1, none⟩ = some (.int .i64 l[j].n.k) := c1
    have m1 : wr.cell? ⟨b, p + j * 13 + 1 + 1, none⟩ = some (.string l[j].n.n) := c2
    have m2 : wr.cell? ⟨b, p + j * 13 + 1 + 2, none⟩ = some (.string l[j].n.x) := c3
    have m3 : wr.cell? ⟨b, p + j * 13 + 1 + 3, none⟩ = some (.string l[j].n.d) := c4
    have m4 : wr.cell? ⟨b, p + j * 13 + 1 + 4, none⟩ = some (.int .i64 l[j].n.c) := c5
    have m5 : wr.cell? ⟨b, p + j * 13 + 1 + 5, none⟩ = some (.int .i64 l[j].n.s) := c6
    have m6 : wr.cell? ⟨b, p + j * 13 + 1 + 6, none⟩ = some (.int .i64 l[j].n.e) := c7
    have m7 : wr.cell? ⟨b, p + j * 13 + 1 + 7, none⟩ = some (.int .i64 l[j].n.t) := c8
    have m8 : wr.cell? ⟨b, p + j * 13 + 1 + 8, none⟩ = some (.bool l[j].n.o) := c9
    have m9 : wr.cell? ⟨b, p + j * 13 + 1 + 9, none⟩ = some (.slice ai l[j].n.l.length ci) := c10
    have m10 : wr.cell? ⟨b, p + j * 13 + 1 + 10, none⟩ = some (.slice az l[j].n.z.length cz) := c11
    clear c0 c1 c2 c3 c4 c5 c6 c7 c8 c9 c10 c11 c12
    have HM2 := Lib.hid (HM.out h6)
    generalize hx : l[j] = x at hR HL m0 m1 m2 m3 m4 m5 m6 m7 m8 m9 m10
    have HX := Lib.hid hx
    clear hx HL HM
    have CW := Lib.hid (weight_any x.n ai az ci cz wr hR)
    clear hR
    go_wp2_with fail
    refine CW.out.mono ?_
    rintro e w2 ⟨m, rfl, hb, hs, hm⟩
    have HB2 := Lib.hid (HB.out.trans (hb.mono HB.out.size))
    have HS := Lib.hid hs
    clear hb hs HB CW m0 m1 m2 m3 m4 m5 m6 m7 m8 m9 m10
    go_wp2_with fail
    go_roundw
    case rel =>
      refine ⟨N + m, j + 1, by go_num, by go_num, by omega, by omega, by omega, Lib.hid (fun h k hk h' => ?_), HB2⟩
      by_cases hkj : k < j
      · exact HM2.out k hkj h'
      · obtain rfl : k = j := by omega
        rw [HX.out]
        exact HS.out (by omega)
    case measure => simp [RowKit.intOf]; omega
end Go.Proofs.YthbeempmdpfnmaaGreatDoor.T
