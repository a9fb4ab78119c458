/- What Read tells of what Put made. No condition beyond the contracts'. -/
import Derived.Test.YtlklmoohoobjjaaGreatDoorPi
import Derived.Test.YtlklmoohoobjjaaGreatDoorPs
namespace Go.Proofs.YtlklmoohoobjjaaGreatDoor
open Go.RowKit Go.Lib Go.Shelf Tg

theorem lb {a b : ByteArray} : (a.toList == b.toList) = (a.data.toList == b.data.toList) := by rw [ByteArray.toList_eq, ByteArray.toList_eq]
/-- The first line that fits is told. -/
theorem readP_at {kind sp nm : ByteArray} {l : List El} {w w' : World} {r : Ending} {i : Nat} (h : ReadP kind sp nm l w r w') (hi : i < 8) (hf : fits kind sp nm l i) (hn : ∀ j, j < i → ¬ fits kind sp nm l j) : r = .returned (.tuple #[askV (lnA i) sp l, .int .i64 0]) ∧ Below w.heap.size w w' := by
  refine ⟨?_, h.2⟩
  rcases h.1 with ⟨k, hk, h1, h2, h3⟩ | ⟨h1, _⟩
  · have : k = i := by
      rcases Nat.lt_trichotomy k i with q | q | q
      · exact absurd h1 (hn k q)
      · exact q
      · exact absurd hf (h2 i q)
    rw [h3, this]
  · exact absurd hf (h1 i hi)
theorem readP_no {kind sp nm : ByteArray} {l : List El} {w w' : World} {r : Ending} (h : ReadP kind sp nm l w r w') (hn : ∀ j, j < 8 → ¬ fits kind sp nm l j) : r = .returned (.tuple #[.agg #[.int .i64 0, .string ⟨#[]⟩, .string ⟨#[]⟩, .string ⟨#[]⟩], .int .i64 100]) ∧ Below w.heap.size w w' := by
  refine ⟨?_, h.2⟩
  rcases h.1 with ⟨k, hk, h1, _, _⟩ | ⟨_, h3⟩
  · exact absurd h1 (hn k hk)
  · exact h3
abbrev askL (k : Int) (us pw tx : ByteArray) : List El := (askQ k us pw tx).map (reS (askS k))
theorem no_kind {kind sp nm : ByteArray} {l : List El} {j : Nat} (h : kind ≠ lnK j) : ¬ fits kind sp nm l j := fun q => h q.1
theorem no_sp {kind sp nm : ByteArray} {l : List El} {j : Nat} (h : sp.data.toList ≠ (lnS j).data.toList) : ¬ fits kind sp nm l j := fun q => by
  have q2 := q.2.1
  rw [lb] at q2
  have q3 : (sp.data.toList == (lnS j).data.toList) = true := by
    revert q2
    cases (sp.data.toList == (lnS j).data.toList) <;> simp
  exact h (by simpa using q3)
theorem no_kid {kind sp nm : ByteArray} {l : List El} {j : Nat} (h1 : lnN j ≠ ⟨#[]⟩) (h2 : kidF l sp (lnN j) = none) : ¬ fits kind sp nm l j := fun q => by
  rcases q.2.2 with h | h
  · exact h1 h
  · rw [h2] at h; cases h
theorem yes_at {kind sp : ByteArray} {l : List El} {j : Nat} (h1 : kind = lnK j) (h2 : sp = lnS j) (h3 : lnN j = ⟨#[]⟩ ∨ (kidF l sp (lnN j)).isSome = true) : fits kind sp ⟨#[113, 117, 101, 114, 121]⟩ l j := ⟨h1, by rw [h2]; simp, h3⟩
/-- What Put made is read again. -/
theorem read_ask {k : Int} {us pw tx : ByteArray} {w w' : World} {r : Ending} (hk : 1 ≤ k ∧ k ≤ 8) (h : ReadP (askK k) (askS k) ⟨#[113, 117, 101, 114, 121]⟩ (askL k us pw tx) w r w') : r = .returned (.tuple #[askV k (askS k) (askL k us pw tx), .int .i64 0]) ∧ Below w.heap.size w w' := by
  have hc : k = 1 ∨ k = 2 ∨ k = 3 ∨ k = 4 ∨ k = 5 ∨ k = 6 ∨ k = 7 ∨ k = 8 := by omega
  rcases hc with rfl | rfl | rfl | rfl | rfl | rfl | rfl | rfl
  · refine readP_at (i := 0) h (by decide) (yes_at (by decide) (by decide) (.inl (by decide))) fun j hj => ?_
    exact absurd hj (Nat.not_lt_zero _)
  · refine readP_at (i := 2) h (by decide) (yes_at (by decide) (by decide) (.inl (by decide))) fun j hj => ?_
    have hc : j = 0 ∨ j = 1 := by omega
    rcases hc with rfl | rfl
    · first | exact no_kind (by decide) | exact no_sp (by decide)
    · exact no_kid (by decide) (by simp [askL, askQ, kidF, reS, askS, sReg, lnN, El.sp, El.nm])
  · refine readP_at (i := 1) h (by decide) (yes_at (by decide) (by decide) (.inr (by simp [askL, askQ, kidF, reS, askS, sReg, lnN, El.sp, El.nm]))) fun j hj => ?_
    have hc : j = 0 := by omega
    rcases hc with rfl
    · first | exact no_kind (by decide) | exact no_sp (by decide)
  · refine readP_at (i := 3) h (by decide) (yes_at (by decide) (by decide) (.inl (by decide))) fun j hj => ?_
    have hc : j = 0 ∨ j = 1 ∨ j = 2 := by omega
    rcases hc with rfl | rfl | rfl
    · first | exact no_kind (by decide) | exact no_sp (by decide)
    · first | exact no_kind (by decide) | exact no_sp (by decide)
    · first | exact no_kind (by decide) | exact no_sp (by decide)
  · refine readP_at (i := 4) h (by decide) (yes_at (by decide) (by decide) (.inr (by simp [askL, askQ, kidF, reS, askS, sGat, lnN, El.sp, El.nm]))) fun j hj => ?_
    have hc : j = 0 ∨ j = 1 ∨ j = 2 ∨ j = 3 := by omega
    rcases hc with rfl | rfl | rfl | rfl
    · first | exact no_kind (by decide) | exact no_sp (by decide)
    · first | exact no_kind (by decide) | exact no_sp (by decide)
    · first | exact no_kind (by decide) | exact no_sp (by decide)
    · first | exact no_kind (by decide) | exact no_sp (by decide)
  · refine readP_at (i := 5) h (by decide) (yes_at (by decide) (by decide) (.inl (by decide))) fun j hj => ?_
    have hc : j = 0 ∨ j = 1 ∨ j = 2 ∨ j = 3 ∨ j = 4 := by omega
    rcases hc with rfl | rfl | rfl | rfl | rfl
    · first | exact no_kind (by decide) | exact no_sp (by decide)
    · first | exact no_kind (by decide) | exact no_sp (by decide)
    · first | exact no_kind (by decide) | exact no_sp (by decide)
    · first | exact no_kind (by decide) | exact no_sp (by decide)
    · first | exact no_kind (by decide) | exact no_sp (by decide)
  · refine readP_at (i := 6) h (by decide) (yes_at (by decide) (by decide) (.inl (by decide))) fun j hj => ?_
    have hc : j = 0 ∨ j = 1 ∨ j = 2 ∨ j = 3 ∨ j = 4 ∨ j = 5 := by omega
    rcases hc with rfl | rfl | rfl | rfl | rfl | rfl
    · first | exact no_kind (by decide) | exact no_sp (by decide)
    · first | exact no_kind (by decide) | exact no_sp (by decide)
    · first | exact no_kind (by decide) | exact no_sp (by decide)
    · first | exact no_kind (by decide) | exact no_sp (by decide)
    · first | exact no_kind (by decide) | exact no_sp (by decide)
    · first | exact no_kind (by decide) | exact no_sp (by decide)
  · refine readP_at (i := 7) h (by decide) (yes_at (by decide) (by decide) (.inl (by decide))) fun j hj => ?_
    have hc : j = 0 ∨ j = 1 ∨ j = 2 ∨ j = 3 ∨ j = 4 ∨ j = 5 ∨ j = 6 := by omega
    rcases hc with rfl | rfl | rfl | rfl | rfl | rfl | rfl
    · first | exact no_kind (by decide) | exact no_sp (by decide)
    · first | exact no_kind (by decide) | exact no_sp (by decide)
    · first | exact no_kind (by decide) | exact no_sp (by decide)
    · first | exact no_kind (by decide) | exact no_sp (by decide)
    · first | exact no_kind (by decide) | exact no_sp (by decide)
    · first | exact no_kind (by decide) | exact no_sp (by decide)
    · first | exact no_kind (by decide) | exact no_sp (by decide)
/-- The texts that an ask is told of. -/
theorem askL_tx (k : Int) (us pw tx n : ByteArray) (h : us.size ≤ 1048576 ∧ pw.size ≤ 1048576 ∧ tx.size ≤ 1048576) : (kidTx (askL k us pw tx) (askS k) n).size ≤ 1048576 := by
  have hz : (⟨#[]⟩ : ByteArray).size ≤ 1048576 := by decide
  unfold askL askQ
  split
  · simp only [kidTx, List.map_cons, List.map_nil, kidF, reS]
    split <;> rename_i h1 <;> (try split at h1) <;> (try cases h1) <;> first | exact hz | exact h.1
  · split
    · simp only [kidTx, List.map_cons, List.map_nil, kidF, reS]
      split <;> rename_i h1 <;> (try split at h1) <;> (try split at h1) <;> (try cases h1) <;> first | exact hz | exact h.1 | exact h.2.1
    · split
      · simp only [kidTx, List.map_cons, List.map_nil, kidF, reS]
        split <;> rename_i h1 <;> (try split at h1) <;> (try cases h1) <;> first | exact hz | exact h.2.2
      · exact hz
theorem askV_of (k : Int) (us pw tx : ByteArray) : askV k (askS k) (askL k us pw tx) = .agg #[.int .i64 k, .string (if k = 2 then trB us else ⟨#[]⟩), .string (if k = 2 then pw else ⟨#[]⟩), .string (if k = 5 then trB tx else ⟨#[]⟩)] := by
  unfold askV
  by_cases h2 : k = 2
  · subst h2
    have e1 : kidTx (askL 2 us pw tx) (askS 2) ⟨#[117, 115, 101, 114, 110, 97, 109, 101]⟩ = us := by simp [kidTx, askL, askQ, kidF, reS, askS, sReg, El.sp, El.nm, El.tx]
    have e2 : kidTx (askL 2 us pw tx) (askS 2) ⟨#[112, 97, 115, 115, 119, 111, 114, 100]⟩ = pw := by simp [kidTx, askL, askQ, kidF, reS, askS, sReg, El.sp, El.nm, El.tx]
    rw [e1, e2]; rfl
  · by_cases h5 : k = 5
    · subst h5
      have e1 : kidTx (askL 5 us pw tx) (askS 5) ⟨#[112, 114, 111, 109, 112, 116]⟩ = tx := by simp [kidTx, askL, askQ, kidF, reS, askS, sGat, El.sp, El.nm, El.tx]
      rw [e1]; rfl
    · rw [if_neg h2, if_neg h2, if_neg h5, if_neg h2, if_neg h2, if_neg h5]
end Go.Proofs.YtlklmoohoobjjaaGreatDoor
