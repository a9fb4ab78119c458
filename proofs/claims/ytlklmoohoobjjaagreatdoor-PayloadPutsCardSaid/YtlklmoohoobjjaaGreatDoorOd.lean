/- The digits of a number, place for place. No condition. -/
import Derived.Test.YtlklmoohoobjjaaGreatDoorPu
namespace Go.Proofs.YtlklmoohoobjjaaGreatDoor
open Go.RowKit Go.Lib Go.Shelf Tg

theorem nd_le : ∀ (k u : Nat), u < 10 ^ (k + 1) → Lib.nDigits u ≤ k + 1
  | 0, u, h => by rw [Lib.nDigits_small (by simpa using h)]; omega
  | k + 1, u, h => by
    by_cases h9 : u < 10
    · rw [Lib.nDigits_small h9]; omega
    · rw [Lib.nDigits_big h9]
      have := nd_le k (u / 10) (by rw [Nat.pow_succ] at h; omega)
      omega
theorem nd_low (u : Nat) (h : 1 ≤ u) : 10 ^ (Lib.nDigits u - 1) ≤ u := by
  induction u using Nat.strongRecOn with
  | _ u ih =>
    by_cases h9 : u < 10
    · rw [Lib.nDigits_small h9]; simpa using h
    · rw [Lib.nDigits_big h9]
      have h2 := ih (u / 10) (by omega) (by omega)
      have h3 := Lib.nDigits_pos (u / 10)
      obtain ⟨j, hj⟩ : ∃ j, Lib.nDigits (u / 10) = j + 1 := ⟨Lib.nDigits (u / 10) - 1, by omega⟩
      rw [hj] at h2 ⊢
      simp only [Nat.add_sub_cancel] at h2 ⊢
      rw [Nat.pow_succ]; omega
/-- The number that the first k digits of u write, where u has L of them. -/
def upTo (u L k : Nat) : Nat := u / 10 ^ (L - k)
theorem upTo_zero (u : Nat) : upTo u (Lib.nDigits u) 0 = 0 := by
  unfold upTo; rw [Nat.sub_zero]; exact Nat.div_eq_of_lt (Lib.lt_pow_nDigits u)
theorem upTo_all (u L : Nat) : upTo u L L = u := by
  unfold upTo; rw [Nat.sub_self]; simp
theorem upTo_le (u L k : Nat) : upTo u L k ≤ u := Nat.div_le_self _ _
theorem upTo_succ (u L k : Nat) (h : k < L) : upTo u L (k + 1) = 10 * upTo u L k + u / 10 ^ (L - 1 - k) % 10 := by
  unfold upTo
  obtain ⟨j, hj⟩ : ∃ j, L - k = j + 1 := ⟨L - k - 1, by omega⟩
  rw [show L - (k + 1) = j by omega, show L - 1 - k = j by omega, hj, Nat.pow_succ, ← Nat.div_div_eq_div_mul]
  omega
theorem digits_neg {n : Int} (h : n < 0) : digits n = ⟨#[48]⟩ := by
  unfold digits
  rw [show max n 0 = 0 by omega]
  decide +kernel
theorem digits_nat (u : Nat) : digits (u : Int) = ⟨(Lib.decDigits u).toArray⟩ := by
  unfold digits
  rw [show max (u : Int) 0 = (u : Int) by omega, Lib.itoa_nonneg]
theorem digits_sz (u : Nat) : (digits (u : Int)).size = Lib.nDigits u := by
  rw [digits_nat, Lib.size_eq]
  exact Lib.decDigits_length u
theorem digits_at (u k : Nat) (h : k < (digits (u : Int)).size) : ((digits (u : Int))[k]'h).toNat = 48 + u / 10 ^ (Lib.nDigits u - 1 - k) % 10 := by
  have key : ∀ (S : ByteArray) (_ : S = ⟨(Lib.decDigits u).toArray⟩) (h : k < S.size), (S[k]'h).toNat = 48 + u / 10 ^ (Lib.nDigits u - 1 - k) % 10 := by
    rintro S rfl h
    have h2 : k < (Lib.decDigits u).length := by rw [Lib.size_eq] at h; exact h
    have e : ((⟨(Lib.decDigits u).toArray⟩ : ByteArray)[k]'h) = (Lib.decDigits u)[k]'h2 := rfl
    rw [e]
    have e2 : (Lib.decDigits u)[k]'h2 = Lib.dg u (Lib.nDigits u - 1 - k) := by
      simp only [Lib.decDigits_eq, List.getElem_map, List.getElem_range]
    rw [e2]
    unfold Lib.dg
    have := Nat.mod_lt (u / 10 ^ (Lib.nDigits u - 1 - k)) (by decide : 0 < 10)
    rw [UInt8.toNat_ofNat']
    omega
  exact key _ (digits_nat u) h
theorem digits_head (u : Nat) (h : 0 < (digits (u : Int)).size) (h1 : ¬ (digits (u : Int)).size = 1) : ¬ ((digits (u : Int))[0]'h).toNat = 48 := by
  rw [digits_at, Nat.sub_zero]
  rw [digits_sz] at h1
  have hb : ¬ u < 10 := fun h9 => h1 (Lib.nDigits_small h9)
  have hl := nd_low u (by omega)
  have hu := Lib.lt_pow_nDigits u
  obtain ⟨j, hj⟩ : ∃ j, Lib.nDigits u = j + 1 := ⟨Lib.nDigits u - 1, by have := Lib.nDigits_pos u; omega⟩
  rw [hj] at hl hu ⊢
  simp only [Nat.add_sub_cancel] at hl ⊢
  have p : 0 < 10 ^ j := Nat.pow_pos (by decide)
  have a1 : 1 ≤ u / 10 ^ j := (Nat.le_div_iff_mul_le p).2 (by omega)
  have a2 : u / 10 ^ j < 10 := (Nat.div_lt_iff_lt_mul p).2 (by rw [Nat.pow_succ] at hu; omega)
  omega
theorem digits_len (u : Nat) (h : u ≤ 9223372036854775807) : (digits (u : Int)).size ≤ 19 := by
  rw [digits_sz]
  exact nd_le 18 u (by omega)
theorem digits_pos (u : Nat) : 1 ≤ (digits (u : Int)).size := by rw [digits_sz]; exact Lib.nDigits_pos u
theorem digits_full (n : Int) : (digits n).toList.isEmpty = false := by
  refine By.nonempty ?_
  by_cases h : n < 0
  · rw [digits_neg h]; decide
  · obtain ⟨u, rfl⟩ : ∃ u : Nat, n = u := ⟨n.toNat, by omega⟩
    have := digits_pos u
    omega
/-- What the law asks of the digits, in one. -/
theorem digits_is (u : Nat) (hu : u ≤ 9223372036854775807) : ∃ S : ByteArray, digits (u : Int) = S ∧ 1 ≤ S.size ∧ S.size ≤ 19 ∧ (∀ k (h : k < S.size), (S[k]'h).toNat = 48 + u / 10 ^ (S.size - 1 - k) % 10) ∧ (∀ (h : 0 < S.size), ¬ S.size = 1 → ¬ (S[0]'h).toNat = 48) ∧ upTo u S.size 0 = 0 := by
  refine ⟨_, rfl, digits_pos u, digits_len u hu, fun k h => ?_, fun h => digits_head u h, ?_⟩
  · rw [digits_at, digits_sz]
  · rw [digits_sz]; exact upTo_zero u
end Go.Proofs.YtlklmoohoobjjaaGreatDoor
