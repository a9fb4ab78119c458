/- Values with types in memory; contracts: the document's Find, Same and Put; small; Put. Conditions: those of each theorem's head. -/
import Derived.Test.YtplflomnbglflaaBld
namespace Go.Proofs.Ytplflomnbglflaa
open Go.RowKit Go.Lib Go.Shelf

/-- Behind an address the values l. -/
def TvS (w : World) (a : Option Addr) (l : List Tv) : Prop :=
  ∀ i (h : i < l.length), ∃ b o, a = some ⟨b, o, none⟩ ∧ w.cell? ⟨b, o + i * 2, none⟩ = some (.int .i64 l[i].k) ∧ w.cell? ⟨b, o + i * 2 + 1, none⟩ = some (.string l[i].v)
theorem TvS.below {w w' : World} {a : Option Addr} {l : List Tv} (h : TvS w a l) (hb : Below w.heap.size w w') : TvS w' a l := fun i hi => by
  obtain ⟨b, o, e, c0, c1⟩ := h i hi
  exact ⟨b, o, e, (hb.cell (p := ⟨b, _, none⟩) (World.block_lt_of_cell? _ _ c0)).trans c0, (hb.cell (p := ⟨b, _, none⟩) (World.block_lt_of_cell? _ _ c1)).trans c1⟩
theorem TvS.nil (w : World) (a : Option Addr) : TvS w a [] := fun i h => by cases h
theorem fnd_none {l : List Tv} {k : Int} (h : ∀ i (hi : i < l.length), ¬ l[i].k = k) : fnd l k = none := by
  unfold fnd
  rw [List.find?_eq_none]
  intro t ht
  obtain ⟨i, hi, rfl⟩ := List.getElem_of_mem ht
  simpa using h i hi
theorem fnd_some : ∀ {l : List Tv} {k : Int} (j : Nat) (hj : j < l.length), (∀ i (hi : i < j), ¬ (l[i]'(Nat.lt_trans hi hj)).k = k) → l[j].k = k → fnd l k = some l[j]
  | t :: l, k, 0, hj, _, h2 => by unfold fnd; rw [List.find?_cons]; simp only [List.getElem_cons_zero] at h2; simp [h2]
  | t :: l, k, j + 1, hj, h1, h2 => by
    have h0 := h1 0 (by omega)
    simp only [List.getElem_cons_zero] at h0
    have ih := fnd_some (l := l) (k := k) j (by simpa using hj) (fun i hi => by have := h1 (i + 1) (by omega); simpa using this) (by simpa using h2)
    unfold fnd at ih ⊢
    rw [List.find?_cons]
    have : (t.k == k) = false := by simpa using h0
    rw [this]
    simpa using ih
set_option maxRecDepth 100000 in
set_option maxHeartbeats 4000000 in
theorem rfind_any (l : List Tv) (k : Int) (a : Option Addr) (c : Nat) (w : World) (hL : TvS w a l) (hn : l.length ≤ 140737488351232) :
    Calls Try.prog 21 #[.slice a l.length c, .int .i64 k] w (Pure (.tuple #[.string (fndS l k), .bool (fndB l k)]) w) := by
  have HL := Lib.hid hL
  clear hL
  go_enter Try.func21, Try.ntmps21
  go_wp2_with fail
  go_loopw [6] (fun i wr => ∃ j : Nat, i = .int .i64 j ∧ j ≤ l.length ∧ wr = w ∧ Hid (∀ i (hi : i < l.length), i < j → ¬ l[i].k = k)) (fun i _ => l.length - (RowKit.intOf i).toNat)
  case atStart => exact ⟨0, rfl, Nat.zero_le _, rfl, fun i _ h => absurd h (Nat.not_lt_zero _)⟩
  case round =>
    obtain ⟨j, rfl, hj, rfl, HN⟩ := hrel
    by_cases hlt : j < l.length
    · obtain ⟨b, p, rfl, c0, c1⟩ := HL.out j hlt
      by_cases hk : l[j].k = k
      · have HF := Lib.hid (fnd_some j hlt (fun i hi => HN.out i (Nat.lt_trans hi hlt) hi) hk)
        have hk2 : (l[j].k == k) = true := by simpa using hk
        generalize l[j] = t at c0 c1 hk hk2 HF
        go_wp2_with fail
        go_ret2
        exact ⟨by unfold fndS fndB; rw [HF.out]; rfl, rfl⟩
      · have HN2 : Hid (∀ i (hi : i < l.length), i < j + 1 → ¬ l[i].k = k) := fun i hi h => by
          by_cases h2 : i < j
          · exact HN.out i hi h2
          · obtain rfl : i = j := by omega
            exact hk
        have hk2 : (l[j].k == k) = false := by simpa using hk
        generalize l[j] = t at c0 c1 hk hk2
        go_wp2_with fail
        exact ⟨⟨j + 1, by go_num, by omega, trivial, HN2.out⟩, by simp [RowKit.intOf]; omega⟩
    · obtain rfl : j = l.length := by omega
      have HF := Lib.hid (fnd_none (l := l) (k := k) fun i hi => HN.out i hi hi)
      go_wp2_with fail
      go_ret2
      exact ⟨by unfold fndS fndB; rw [HF.out]; rfl, rfl⟩
set_option maxRecDepth 100000 in
set_option maxHeartbeats 4000000 in
/-- Two lists of values, the same ones. -/
theorem same_yes (l : List Tv) (a b : Option Addr) (c d : Nat) (w : World) (hA : TvS w a l) (hB : TvS w b l) (hn : l.length ≤ 140737488351232) :
    Calls Try.prog 22 #[.slice a l.length c, .slice b l.length d] w (Gives (.bool true) w) := by
  have HA := Lib.hid fun W (hb : Below w.heap.size w W) => hA.below hb
  have HB := Lib.hid fun W (hb : Below w.heap.size w W) => hB.below hb
  have H0 : Hid (Below w.heap.size w w) := Below.refl _ _
  clear hA hB
  go_enter Try.func22, Try.ntmps22
  go_wp2_with fail
  go_loopw [5] (fun i wr => ∃ j : Nat, i = .int .i64 j ∧ j ≤ l.length ∧ Hid (Below w.heap.size w wr)) (fun i _ => l.length - (RowKit.intOf i).toNat)
  case atStart => exact ⟨0, rfl, Nat.zero_le _, H0.out⟩
  case round =>
    clear H0
    obtain ⟨j, rfl, hj, H⟩ := hrel
    by_cases hlt : j < l.length
    · obtain ⟨b1, p1, rfl, c0, c1⟩ := HA.out _ H.out j hlt
      obtain ⟨b2, p2, rfl, d0, d1⟩ := HB.out _ H.out j hlt
      generalize l[j] = t at c0 c1 d0 d1
      have et : (t.v.toList == t.v.toList) = true := by simp
      go_wp2_with fail
      go_region
      go_wp2_with fail
      exact ⟨⟨j + 1, by go_num, by omega, H.out.drew⟩, by simp [RowKit.intOf]; omega⟩
    · obtain rfl : j = l.length := by omega
      go_wp2_with fail
      go_ret
      exact ⟨rfl, H.out⟩
/-- What small answers: where it says yes there are at most 65. -/
def SmP (l : List Tv) (w : World) (e : Ending) (w' : World) : Prop := ∃ b, e = .returned (.bool b) ∧ w' = w ∧ (b = true → l.length ≤ 65)
set_option maxRecDepth 100000 in
set_option maxHeartbeats 4000000 in
theorem small_any (l : List Tv) (a : Option Addr) (c : Nat) (w : World) (hA : TvS w a l) (hn : l.length ≤ 140737488351232) (hz : ∀ t ∈ l, t.v.size ≤ 140737488351232) :
    Calls Try.prog 23 #[.slice a l.length c] w (SmP l w) := by
  have HL := Lib.hid hA
  have HZ := Lib.hid hz
  clear hA hz
  go_enter Try.func23, Try.ntmps23
  go_wp2_with fail
  go_loopw [3, 4] (fun n i wr => ∃ (j m : Nat), i = .int .i64 j ∧ n = .int .i64 m ∧ j ≤ l.length ∧ m ≤ 140737488361232 ∧ wr = w) (fun _ i _ => l.length - (RowKit.intOf i).toNat)
  case atStart => exact ⟨0, 0, rfl, rfl, Nat.zero_le _, Nat.zero_le _, rfl⟩
  case round =>
    obtain ⟨j, m, rfl, rfl, hj, hm, rfl⟩ := hrel
    by_cases h1 : j < l.length
    · by_cases h2 : j ≤ 65
      · by_cases h3 : m ≤ 5000
        · obtain ⟨b, p, rfl, c0, c1⟩ := HL.out j h1
          have hv := HZ.out _ (List.getElem_mem h1)
          generalize l[j] = t at c0 c1 hv
          have q1 : ((j : Int) < l.length) := by omega
          have q2 : ((j : Int) ≤ 65) := by omega
          have q3 : ((m : Int) ≤ 5000) := by omega
          go_wp2_with fail
          exact ⟨⟨j + 1, m + t.v.size, by go_num, by go_num, by omega, by omega, trivial⟩, by simp [RowKit.intOf]; omega⟩
        · have q1 : ((j : Int) < l.length) := by omega
          have q2 : ((j : Int) ≤ 65) := by omega
          have q3 : ¬ ((m : Int) ≤ 5000) := by omega
          by_cases h65 : l.length ≤ 65
          · have q65 : ((l.length : Int) ≤ 65) := by omega
            go_wp2_with fail
            go_ret
            exact ⟨_, rfl, rfl, fun _ => h65⟩
          · have q65 : ¬ ((l.length : Int) ≤ 65) := by omega
            go_wp2_with fail
            go_ret
            exact ⟨_, rfl, rfl, fun h => by simp at h⟩
      · have q1 : ((j : Int) < l.length) := by omega
        have q2 : ¬ ((j : Int) ≤ 65) := by omega
        by_cases h65 : l.length ≤ 65
        · have q65 : ((l.length : Int) ≤ 65) := by omega
          go_wp2_with fail
          go_ret
          exact ⟨_, rfl, rfl, fun _ => h65⟩
        · have q65 : ¬ ((l.length : Int) ≤ 65) := by omega
          go_wp2_with fail
          go_ret
          exact ⟨_, rfl, rfl, fun h => by simp at h⟩
    · have q1 : ¬ ((j : Int) < l.length) := by omega
      by_cases h65 : l.length ≤ 65
      · have q65 : ((l.length : Int) ≤ 65) := by omega
        go_wp2_with fail
        go_ret
        exact ⟨_, rfl, rfl, fun _ => h65⟩
      · have q65 : ¬ ((l.length : Int) ≤ 65) := by omega
        go_wp2_with fail
        go_ret
        exact ⟨_, rfl, rfl, fun h => by simp at h⟩
end Go.Proofs.Ytplflomnbglflaa
