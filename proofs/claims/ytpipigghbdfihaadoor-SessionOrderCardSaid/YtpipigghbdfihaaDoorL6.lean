/- What SessionOrder asks of a step: plain mathematics. Condition: a phase from 1 to 6, a password that is not empty. -/
import Derived.Test.YtpipigghbdfihaaDoorL5
namespace Go.Proofs.YtpipigghbdfihaaDoor.T
open Go Go.Lib

structure Ordr (s : Ss) (nd : ByteArray) (x : Ss × So) : Prop where
  up : s.p ≤ x.1.p
  six : x.1.p ≤ 6
  hn : x.1.n = s.n
  hd : x.1.d = s.d
  past : s.p = 6 → x = (s, zO)
  know : x.2.u ≠ [] → s.p = 5 ∨ x.1.p = 5 ∨ x.1.p = 6
  says : ∀ m ∈ x.2.m, (m.k ≠ 7 → m.d = s.d → nd = s.d) ∧ m.x = ⟨#[]⟩ ∧ (m.k = 7 → m.d.size = 16)
theorem undr_six {p : Int} (h : undr p = false) (h1 : 1 ≤ p) (h6 : p ≤ 6) : p = 6 := by
  unfold undr at h
  simp only [Bool.and_eq_false_iff, decide_eq_false_iff_not] at h
  omega
theorem undr_five {p : Int} (h : ¬ undr p = false) : 1 ≤ p ∧ p ≤ 5 := by
  unfold undr at h
  simp only [Bool.not_eq_false, Bool.and_eq_true, decide_eq_true_eq] at h
  exact h
theorem ordr_stay (s : Ss) (nd : ByteArray) (h6 : s.p ≤ 6) : Ordr s nd (s, zO) := ⟨Int.le_refl _, h6, rfl, rfl, fun _ => rfl, fun h => absurd rfl h, fun m hm => by cases hm⟩
theorem says_nil (s : Ss) (nd : ByteArray) : ∀ m ∈ ([] : List Nt), (m.k ≠ 7 → m.d = s.d → nd = s.d) ∧ m.x = ⟨#[]⟩ ∧ (m.k = 7 → m.d.size = 16) := fun m hm => by cases hm
theorem says_k {s : Ss} (nd : ByteArray) (hs : ¬ s.d.size = 0) {m : Nt} (hk : m.k ≠ 7) (hd : m.d = ⟨#[]⟩) (hx : m.x = ⟨#[]⟩) : (m.k ≠ 7 → m.d = s.d → nd = s.d) ∧ m.x = ⟨#[]⟩ ∧ (m.k = 7 → m.d.size = 16) :=
  ⟨fun _ h => absurd (by rw [← h, hd]; rfl) hs, hx, fun h => absurd h hk⟩
theorem ordr_tk (s : Ss) (n : Nt) (h1 : 1 ≤ s.p) (h6 : s.p ≤ 6) (hs : ¬ s.d.size = 0) : Ordr s n.d (tk s n) := by
  unfold tk
  split
  · exact ordr_stay s _ h6
  rename_i hu
  have h5 := undr_five hu
  split
  · exact ⟨by show s.p ≤ 6; omega, Int.le_refl 6, rfl, rfl, fun h => by omega, fun _ => .inr (.inr rfl), says_nil s _⟩
  split
  · rename_i hk
    refine ⟨by show s.p ≤ 2; omega, by show (2 : Int) ≤ 6; omega, rfl, rfl, fun h => by omega, fun h => absurd rfl h, fun m hm => ?_⟩
    rw [List.mem_singleton.1 hm]
    exact ⟨fun h => absurd rfl h, rfl, fun _ => salt_size _ _⟩
  split
  · rename_i hk
    split
    · refine ⟨by show s.p ≤ 3; omega, by show (3 : Int) ≤ 6; omega, rfl, rfl, fun h => by omega, fun h => absurd rfl h, fun m hm => ?_⟩
      rw [List.mem_singleton.1 hm]
      exact ⟨fun _ h => h, rfl, fun h => absurd h (show ¬ (2 : Int) = 7 by decide)⟩
    · exact ⟨by show s.p ≤ 6; omega, Int.le_refl 6, rfl, rfl, fun h => by omega, fun _ => .inr (.inr rfl), says_nil s _⟩
  split
  · rename_i hk
    refine ⟨by show s.p ≤ 4; omega, by show (4 : Int) ≤ 6; omega, rfl, rfl, fun h => by omega, fun h => absurd rfl h, fun m hm => ?_⟩
    rw [List.mem_singleton.1 hm]
    exact says_k _ hs (show ¬ (17 : Int) = 7 by decide) rfl rfl
  split
  · rename_i hk
    refine ⟨by show s.p ≤ 5; omega, by show (5 : Int) ≤ 6; omega, rfl, rfl, fun h => by omega, fun _ => .inr (.inl rfl), fun m hm => ?_⟩
    rcases List.mem_cons.1 hm with rfl | hm
    · exact says_k _ hs (show ¬ (10 : Int) = 7 by decide) rfl rfl
    · rw [List.mem_singleton.1 hm]
      exact says_k _ hs (show ¬ (11 : Int) = 7 by decide) rfl rfl
  split
  · rename_i hk
    exact ⟨Int.le_refl _, h6, rfl, rfl, fun h => by omega, fun _ => .inl hk.1, says_nil s _⟩
  · exact ⟨Int.le_refl _, h6, rfl, rfl, fun h => by omega, fun h => absurd rfl h, says_nil s _⟩
theorem ordr_tc (s : Ss) (nd : ByteArray) (h1 : 1 ≤ s.p) (h6 : s.p ≤ 6) (hs : ¬ s.d.size = 0) : Ordr s nd (tc s) := by
  unfold tc
  split
  · exact ordr_stay s _ h6
  rename_i hu
  have h5 := undr_five hu
  split
  · refine ⟨by show s.p ≤ 6; omega, Int.le_refl 6, rfl, rfl, fun h => by omega, fun _ => .inr (.inr rfl), fun m hm => ?_⟩
    rw [List.mem_singleton.1 hm]
    exact says_k _ hs (show ¬ (3 : Int) = 7 by decide) rfl rfl
  split
  · refine ⟨Int.le_refl _, h6, rfl, rfl, fun h => by omega, fun h => absurd rfl h, fun m hm => ?_⟩
    rw [List.mem_singleton.1 hm]
    exact says_k _ hs (show ¬ (4 : Int) = 7 by decide) rfl rfl
  · exact ⟨Int.le_refl _, h6, rfl, rfl, fun h => by omega, fun h => absurd rfl h, says_nil s _⟩
theorem ordr_sp (s : Ss) (nd : ByteArray) (c : Int) (h1 : 1 ≤ s.p) (h6 : s.p ≤ 6) (hs : ¬ s.d.size = 0) : Ordr s nd (sp s c) := by
  unfold sp
  split
  · exact ordr_stay s _ h6
  rename_i hu
  have h5 := undr_five hu
  refine ⟨by show s.p ≤ 6; omega, Int.le_refl 6, rfl, rfl, fun h => by omega, fun h => absurd rfl h, fun m hm => ?_⟩
  rw [List.mem_singleton.1 hm]
  exact says_k _ hs (show ¬ (3 : Int) = 7 by decide) rfl rfl
theorem ordr_sn (s : Ss) (nd : ByteArray) (h1 : 1 ≤ s.p) (h6 : s.p ≤ 6) : Ordr s nd (sn s, zO) := by
  unfold sn
  split
  · exact ordr_stay s _ h6
  rename_i hu
  have h5 := undr_five hu
  exact ⟨Int.le_refl _, h6, rfl, rfl, fun h => by omega, fun h => absurd rfl h, fun m hm => by cases hm⟩
/-- What SessionOrder asks of each step. -/
theorem ordr_dos (s : Ss) (a : Ac) (h1 : 1 ≤ s.p) (h6 : s.p ≤ 6) (hs : ¬ s.d.size = 0) : Ordr s a.n.d (dos s a) := by
  unfold dos
  split
  · exact ordr_tk s _ h1 h6 hs
  split
  · exact ordr_tc s _ h1 h6 hs
  split
  · exact ordr_sp s _ _ h1 h6 hs
  · exact ordr_sn s _ h1 h6
end Go.Proofs.YtpipigghbdfihaaDoor.T
