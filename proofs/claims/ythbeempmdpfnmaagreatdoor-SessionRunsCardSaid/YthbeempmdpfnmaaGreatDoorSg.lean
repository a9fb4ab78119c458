/- Contracts of package session, joined: Take, Tick, Stop, Start. Conditions: those of each theorem's head. -/
import Derived.Test.YthbeempmdpfnmaaGreatDoorSf
import Derived.Test.YthbeempmdpfnmaaGreatDoorSc
import Derived.Test.YthbeempmdpfnmaaGreatDoorSa
namespace Go.Proofs.YthbeempmdpfnmaaGreatDoor.T
open Go.RowKit Go.Lib

theorem beqf {x y : Int} (h : ¬ x = y) : (x == y) = false := beq_eq_false_iff_ne.2 h
theorem take_any (s : Ss) (n : Nt) (ai az : Option Addr) (ci cz : Nat) (w : World) (hn : NtL w ai az n) (h1 : s.n.size ≤ 1000000) (h2 : s.d.size ≤ 20000) (h3 : n.d.size ≤ 20000) (hG : Gl w) : Calls Tryz.prog 17 #[sA s, nA n ai az ci cz] w (StQ (tk s n) w) := by
  unfold sA nA tk
  by_cases hu : undr s.p = false
  · rw [if_pos hu]
    exact take_off s n ai az ci cz w hu
  rw [if_neg hu]
  have hu : undr s.p = true := by simpa using hu
  by_cases k3 : n.k = 3
  · rw [if_pos k3]
    exact take_bye s n ai az ci cz w hn hu k3
  rw [if_neg k3]
  have k3 := beqf k3
  have hp : s.p = 1 ∨ s.p = 2 ∨ s.p = 3 ∨ s.p = 4 ∨ s.p = 5 := by
    unfold undr at hu
    simp only [Bool.and_eq_true, decide_eq_true_eq] at hu
    omega
  rcases hp with hp | hp | hp | hp | hp
  · by_cases k6 : n.k = 6
    · rw [if_pos ⟨hp, k6⟩, hp, k6]
      exact take_key s n ai az ci cz w h1 h2 h3 hG
    · rw [if_neg (by omega), if_neg (fun h => by have := h.1; omega), if_neg (by omega), if_neg (by omega), if_neg (fun h => by have := h.1; omega), hp]
      exact take_n1 s n ai az ci cz w hG k3 (beqf k6)
  · rw [if_neg (by omega)]
    by_cases k8 : n.k = 8
    · cases hm : smN n.n s.n
      · rw [if_neg (fun h => by cases h.2.2), if_neg (by omega), if_neg (by omega), if_neg (fun h => by have := h.1; omega), hp, k8]
        exact take_n2m s n ai az ci cz w hG (Nat.le_trans hn.hn (by decide)) (Nat.le_trans h1 (by decide)) hm
      · rw [if_pos ⟨hp, k8, rfl⟩]
        by_cases hc : n.c = 0
        · rw [if_pos hc, hp, k8]
          exact take_let0 s n ai az ci cz w (Nat.le_trans hn.hn (by decide)) (Nat.le_trans h1 (by decide)) hm hc hn.hd
        · rw [if_neg hc, hp, k8]
          exact take_letc s n ai az ci cz w (Nat.le_trans hn.hn (by decide)) (Nat.le_trans h1 (by decide)) hm hc
    · rw [if_neg (fun h => k8 h.2.1), if_neg (by omega), if_neg (by omega), if_neg (fun h => by have := h.1; omega), hp]
      exact take_n2 s n ai az ci cz w hG k3 (beqf k8)
  · rw [if_neg (by omega), if_neg (fun h => by have := h.1; omega)]
    by_cases k9 : n.k = 9
    · rw [if_pos ⟨hp, k9⟩, hp, k9]
      exact take_host s n ai az ci cz w
    · rw [if_neg (by omega), if_neg (by omega), if_neg (fun h => by have := h.1; omega), hp]
      exact take_n3 s n ai az ci cz w hG k3 (beqf k9)
  · rw [if_neg (by omega), if_neg (fun h => by have := h.1; omega), if_neg (by omega)]
    by_cases k18 : n.k = 18
    · rw [if_pos ⟨hp, .inl k18⟩]
      obtain ⟨k, a, x, d, c, e, f, g, b, l, z⟩ := n
      have k18 : k = 18 := k18
      subst k18
      rw [hp]
      exact take_l18 s _ ai az ci cz w hn
    · by_cases k19 : n.k = 19
      · rw [if_pos ⟨hp, .inr k19⟩]
        obtain ⟨k, a, x, d, c, e, f, g, b, l, z⟩ := n
        have k19 : k = 19 := k19
        subst k19
        rw [hp]
        exact take_l19 s _ ai az ci cz w hn
      · rw [if_neg (by omega), if_neg (fun h => by have := h.1; omega), hp]
        exact take_n4 s n ai az ci cz w hG k3 (beqf k18) (beqf k19)
  · rw [if_neg (by omega), if_neg (fun h => by have := h.1; omega), if_neg (by omega), if_neg (by omega)]
    cases hup : upK n.k
    · rw [if_neg (fun h => by cases h.2), hp]
      exact take_n5 s n ai az ci cz w hG k3 hup
    · rw [if_pos ⟨hp, rfl⟩, hp]
      exact take_up s n ai az ci cz w hn hG k3 hup
theorem tick_any (s : Ss) (w : World) (hh : 0 ≤ s.h ∧ s.h ≤ 1000000000) (ha : 0 ≤ s.a ∧ s.a ≤ 1000000000) : Calls Tryz.prog 22 #[sA s] w (StQ (tc s) w) := by
  unfold sA tc
  by_cases hu : undr s.p = false
  · rw [if_pos hu]
    exact (tick_off s w hu).mono fun e W ⟨he, hb⟩ => ⟨none, none, 0, 0, he, hb, fr_nil _ _ _, fr_nil _ _ _⟩
  rw [if_neg hu]
  have hu : undr s.p = true := by simpa using hu
  by_cases h1 : 90 ≤ s.h + 1
  · rw [if_pos h1]
    exact (tick_s s w hu hh ha h1).mono fun e W ⟨g, k, he, hb, hr, hq, hg1, hg2⟩ => ⟨some ⟨g, 0, none⟩, some ⟨k, 0, none⟩, 1, 1, he, hb, fr_one (nK 3) (by omega) hr (fun _ _ => ntl_plain _ rfl rfl (Nat.zero_le _) (Nat.zero_le _) (Nat.zero_le _)), fr_one { nK 3 with c := 200 } (by omega) hq (fun _ _ => ntl_plain _ rfl rfl (Nat.zero_le _) (Nat.zero_le _) (Nat.zero_le _))⟩
  rw [if_neg h1]
  by_cases h2 : 30 ≤ s.a + 1
  · by_cases h3 : s.p = 5
    · rw [if_pos ⟨h2, h3⟩]
      exact (tick_b s w hu hh ha h1 h2 (by rw [h3]; rfl)).mono fun e W ⟨g, he, hb, hr, hg1⟩ => ⟨some ⟨g, 0, none⟩, none, 1, 0, he, hb, fr_one (nK 4) (by omega) hr (fun _ _ => ntl_plain _ rfl rfl (Nat.zero_le _) (Nat.zero_le _) (Nat.zero_le _)), fr_nil _ _ _⟩
    · rw [if_neg (fun h => h3 h.2)]
      exact (tick_n2 s w hu hh ha h1 h2 (beqf h3)).mono fun e W ⟨he, hb⟩ => ⟨none, none, 0, 0, he, hb, fr_nil _ _ _, fr_nil _ _ _⟩
  · rw [if_neg (fun h => h2 h.1)]
    exact (tick_n1 s w hu hh ha h1 h2).mono fun e W ⟨he, hb⟩ => ⟨none, none, 0, 0, he, hb, fr_nil _ _ _, fr_nil _ _ _⟩
theorem stop_any (s : Ss) (code : Int) (w : World) : Calls Tryz.prog 23 #[sA s, .int .i64 code] w (StQ (sp s code) w) := by
  unfold sA sp
  by_cases hu : undr s.p = false
  · rw [if_pos hu]
    exact (stop_off s code w hu).mono fun e W ⟨he, hb⟩ => ⟨none, none, 0, 0, he, hb, fr_nil _ _ _, fr_nil _ _ _⟩
  rw [if_neg hu]
  have hu : undr s.p = true := by simpa using hu
  exact (stop_on s code w hu).mono fun e W ⟨g, he, hb, hr, hg1⟩ => ⟨some ⟨g, 0, none⟩, none, 1, 0, he, hb, fr_one (nK 3) (by omega) hr (fun _ _ => ntl_plain _ rfl rfl (Nat.zero_le _) (Nat.zero_le _) (Nat.zero_le _)), fr_nil _ _ _⟩
/-- What Start gives. -/
def BgP (n d : ByteArray) (s t c : Int) (w : World) (e : Ending) (w' : World) : Prop := ∃ (a b : Option Addr) (k m : Nat), e = .returned (.tuple #[sA (stS n d s t c), oA (stO n d s t c) a b k m, .int .i64 (stE n d s t c)]) ∧ Below w.heap.size w w' ∧ Fr w.heap.size w' a (stO n d s t c).m ∧ Fr w.heap.size w' b (stO n d s t c).u
theorem start_any (n d : ByteArray) (s t c : Int) (w : World) (hn : n.size ≤ 1000000) (hd : d.size ≤ 1000000) : Calls Tryz.prog 15 #[.string n, .string d, .int .i64 s, .int .i64 t, .int .i64 c] w (BgP n d s t c w) := by
  have hn' : n.size ≤ 1048576 := Nat.le_trans hn (by decide)
  have key : stOk n d s t c = false → ∀ {Q : Ending → World → Prop}, (Q = Gives (.tuple #[.agg #[.int .i64 0, .string ⟨#[]⟩, .string ⟨#[]⟩, .int .i64 0, .int .i64 0, .int .i64 0, .int .i64 0, .int .i64 0, .int .i64 0], .agg #[.slice none 0 0, .bool false, .slice none 0 0], .int .i64 2]) w) → Calls Tryz.prog 15 #[.string n, .string d, .int .i64 s, .int .i64 t, .int .i64 c] w Q → Calls Tryz.prog 15 #[.string n, .string d, .int .i64 s, .int .i64 t, .int .i64 c] w (BgP n d s t c w) := fun ho Q hQ hC => by
    subst hQ
    have ho : ¬ stOk n d s t c = true := by rw [ho]; decide
    refine hC.mono fun e W ⟨he, hb⟩ => ?_
    unfold BgP stS stO stE
    rw [if_neg ho, if_neg ho, if_neg ho]
    exact ⟨none, none, 0, 0, he, hb, fr_nil _ _ _, fr_nil _ _ _⟩
  cases h0 : isN n
  · exact key (by unfold stOk; rw [h0]; rfl) rfl (start_0 n d s t c w hn' h0)
  cases h1 : pwB d
  · exact key (by unfold stOk; rw [h0, h1]; rfl) rfl (start_1 n d s t c w hn' h0 h1)
  cases h2 : inB s 0 65535
  · exact key (by unfold stOk; rw [h0, h1, h2]; rfl) rfl (start_2 n d s t c w hn' h0 h1 h2)
  cases h3 : inB t 0 4294967295
  · exact key (by unfold stOk; rw [h0, h1, h2, h3]; rfl) rfl (start_3 n d s t c w hn' h0 h1 h2 h3)
  cases h4 : inB c 0 65535
  · exact key (by unfold stOk; rw [h0, h1, h2, h3, h4]; rfl) rfl (start_4 n d s t c w hn' h0 h1 h2 h3 h4)
  have ho : stOk n d s t c = true := by unfold stOk; rw [h0, h1, h2, h3, h4]; rfl
  refine (start_y n d s t c w hn' hd h0 h1 h2 h3 h4).mono fun e W ⟨g, he, hb, hr, hg1⟩ => ?_
  unfold BgP stS stO stE
  rw [if_pos ho, if_pos ho, if_pos ho]
  exact ⟨some ⟨g, 0, none⟩, none, 2, 0, he, hb, fr_two (nK 1) { nK 5 with n := n } (by omega) hr (fun _ _ => ntl_plain _ rfl rfl (Nat.zero_le _) (Nat.zero_le _) (Nat.zero_le _)) (fun _ _ => ntl_plain _ rfl rfl hn (Nat.zero_le _) (Nat.zero_le _)), fr_nil _ _ _⟩
end Go.Proofs.YthbeempmdpfnmaaGreatDoor.T
