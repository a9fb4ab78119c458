/- What the laws ask of the numbers: plain mathematics. No condition. -/
import Derived.Test.YtclkehfnakhljaaDoorZu
namespace Go.Proofs.YtclkehfnakhljaaDoor.T
open Go Go.Lib By

def lcl (k : Int) : Int := if (plc k).1 = 2 then Q.cls (plc k).2.1 else 0
theorem cls_cases (f : Int) : Q.cls f = 1 ∨ Q.cls f = 2 ∨ Q.cls f = 3 := by
  unfold Q.cls
  split
  · exact .inr (.inl rfl)
  · split
    · exact .inr (.inr rfl)
    · exact .inl rfl
theorem lcl_cases (k : Int) : lcl k = 0 ∨ lcl k = 1 ∨ lcl k = 2 ∨ lcl k = 3 := by
  unfold lcl
  split
  · exact .inr (cls_cases _)
  · exact .inl rfl
theorem plcN_flat : ∀ K, K < 30 → 1 ≤ K → (plcN K).1 ≠ 2 → ((plcN K).1 = 1 ∨ (plcN K).1 = 4 ∨ (plcN K).1 = 5) := by decide
theorem getD_right {l m : List UInt8} {i : Nat} (h : l.length ≤ i) : (l ++ m).getD i 0 = m.getD (i - l.length) 0 := by
  rw [List.getD_eq_getElem?_getD, List.getD_eq_getElem?_getD, List.getElem?_append_right h]
theorem last_seven : (intS 7 4).data.toList = [0, 0, 0, 7] := by decide +kernel
/-- Where what is put goes. -/
theorem put_cases {n : Nt} {r : Int} (h : lputOk n r = true) : (lcl n.k = 0 ∧ (lputC n r = 1 ∨ lputC n r = 4 ∨ lputC n r = 5)) ∨ ((lcl n.k = 1 ∨ lcl n.k = 2 ∨ lcl n.k = 3) ∧ lputC n r = 2 ∧ 10 ≤ (lputB n r).size ∧ (r = 7 → By.nb (lputB n r).data.toList 9 = 7)) := by
  have hm := putOk_may h
  obtain ⟨K, hK, h1, h2⟩ := k_lit (may_iff.1 hm).1
  have hp : plc n.k = plcN K := by rw [hK]; exact plc_nat K (by omega)
  unfold lcl lputC lputB
  rw [if_pos h, if_pos h, hp]
  unfold lputOk at h
  rw [Bool.and_eq_true, hp] at h
  by_cases c2 : (plcN K).1 = 2
  · right
    rw [if_pos c2, if_pos c2]
    have hc := h.2
    rw [decide_eq_true c2, Bool.not_true, Bool.false_or, decide_eq_true_eq] at hc
    obtain ⟨hf, hs⟩ := Q.chk_zero.1 hc
    have hz := Q.hdS_size hf
    refine ⟨cls_cases _, by omega, by rw [ByteArray.size_append]; omega, ?_⟩
    rintro rfl
    have ff := hf
    rw [Q.fit_iff] at ff
    have s1 := Q.intS_size2 (Q.two_iff.2 ff.1)
    have s2 := Q.intS_size2 (Q.two_iff.2 ff.2.1)
    have s3 := Q.intS_size2 (Q.two_iff.2 ff.2.2.1)
    unfold Q.hdS By.nb
    simp only [ByteArray.data_append, Array.toList_append, List.append_assoc]
    rw [← By.len_size] at s1 s2 s3
    rw [getD_right (by omega), getD_right (by omega), getD_right (by omega), s1, s2, s3, last_seven]
    rfl
  · left
    rw [if_neg c2]
    have := plcN_flat K (by omega) h1 c2
    exact ⟨rfl, by omega⟩
set_option maxRecDepth 100000 in
/-- What is put is not long. -/
theorem put_size {n : Nt} {r : Int} (h : lputOk n r = true) : (lputB n r).size ≤ 10000 := by
  have hm := putOk_may h
  obtain ⟨K, hK, h1, h2⟩ := k_lit (may_iff.1 hm).1
  have hp : plc n.k = plcN K := by rw [hK]; exact plc_nat K (by omega)
  unfold lputB
  rw [if_pos h, hp]
  unfold lputOk at h
  rw [Bool.and_eq_true, hp] at h
  by_cases c2 : (plcN K).1 = 2
  · rw [if_pos c2]
    have hc := h.2
    rw [decide_eq_true c2, Bool.not_true, Bool.false_or, decide_eq_true_eq] at hc
    obtain ⟨hf, hs⟩ := Q.chk_zero.1 hc
    rw [ByteArray.size_append, Q.hdS_size hf]; omega
  · rw [if_neg c2, mk_size]
    have hq := hold_iff.1 (may_k hm K hK h1 h2)
    have hC : K = 1 ∨ K = 2 ∨ K = 3 ∨ K = 4 := by
      have : ∀ K, K < 30 → 1 ≤ K → (plcN K).1 ≠ 2 → (K = 1 ∨ K = 2 ∨ K = 3 ∨ K = 4) := by decide
      exact this K (by omega) h1 c2
    rcases hC with rfl | rfl | rfl | rfl
    · rw [bodyL_of n 1 hK (by decide) (by decide)]
      have := l_num 1 4
      show (numL' 1 4).length ≤ _
      omega
    · rw [bodyL_of n 2 hK (by decide) (by decide)]
      have a := l_num 1 4
      have b := l_val 6 n.d
      have d : (n.d.size : Int) ≤ 256 := hq.2.2.1.2
      show (numL' 1 4 ++ valL 6 n.d).length ≤ _
      rw [List.length_append]
      omega
    · rw [bodyL_of n 3 hK (by decide) (by decide)]
      show (if n.c = 0 then [] else valL 9 (intS n.c 2)).length ≤ _
      have b := l_val 9 (intS n.c 2)
      have c := intS_len n.c 2
      split
      · exact Nat.zero_le _
      · omega
    · rw [bodyL_of n 4 hK (by decide) (by decide)]
      exact Nat.zero_le _
theorem put_no {n : Nt} {r : Int} (h : lputOk n r = false) : lputC n r = 0 ∧ lputB n r = ⟨#[]⟩ ∧ lputX n r = 140 := by
  have h : ¬ lputOk n r = true := by rw [h]; decide
  unfold lputC lputB lputX
  rw [if_neg h, if_neg h, if_neg h]
  exact ⟨rfl, rfl, rfl⟩
theorem put_yes {n : Nt} {r : Int} (h : lputOk n r = true) : lputX n r = 0 := by unfold lputX; rw [if_pos h]
theorem parse_yes {ch : Int} {b : ByteArray} (h : lprsOk ch b = true) : lprs ch b = lrd ch b ∧ lprsE ch b = 0 := by
  unfold lprs lprsE
  rw [if_pos h, if_pos h]
  exact ⟨rfl, rfl⟩
theorem parse_no {ch : Int} {b : ByteArray} (h : lprsOk ch b = false) : lprs ch b = zN ∧ lprsE ch b = 140 := by
  have h : ¬ lprsOk ch b = true := by rw [h]; decide
  unfold lprs lprsE
  rw [if_neg h, if_neg h]
  exact ⟨rfl, rfl⟩
end Go.Proofs.YtclkehfnakhljaaDoor.T
