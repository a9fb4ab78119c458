/- What Put gives is read back; unlike notes have unlike bytes; what is cut off is none; what was read is put again: plain mathematics. No condition. -/
import Derived.Test.YtiodjaeonoheiaaGreatDoorZm
import Derived.Test.YtiodjaeonoheiaaGreatDoorZc
set_option maxRecDepth 100000
namespace Go.Proofs.YtiodjaeonoheiaaGreatDoor.T
open Go Go.Lib By
theorem rdN_k (k : Int) (l : List UInt8) (K : Nat) (h1 : 1 ≤ K) (h2 : K ≤ 29) : (rdN k l K).k = k := by
  have hC : K = 1 ∨ K = 2 ∨ K = 3 ∨ K = 4 ∨ K = 5 ∨ K = 6 ∨ K = 7 ∨ K = 8 ∨ K = 9 ∨ K = 10 ∨ K = 11 ∨ K = 12 ∨ K = 13 ∨ K = 14 ∨ K = 15 ∨ K = 16 ∨ K = 17 ∨ K = 18 ∨ K = 19 ∨ K = 20 ∨ K = 21 ∨ K = 22 ∨ K = 23 ∨ K = 24 ∨ K = 25 ∨ K = 26 ∨ K = 27 ∨ K = 28 ∨ K = 29 := by omega
  rcases hC with rfl | rfl | rfl | rfl | rfl | rfl | rfl | rfl | rfl | rfl | rfl | rfl | rfl | rfl | rfl | rfl | rfl | rfl | rfl | rfl | rfl | rfl | rfl | rfl | rfl | rfl | rfl | rfl | rfl <;> rfl
theorem rd_k (k : Int) (l : List UInt8) : (rd k l).k = k := by
  by_cases h : 1 ≤ k ∧ k ≤ 29
  · obtain ⟨K, rfl⟩ : ∃ K : Nat, k = K := ⟨k.toNat, by omega⟩
    rw [rd_of K l K rfl (by omega) (by omega)]
    exact rdN_k K l K (by omega) (by omega)
  · rw [rd_no k l h]; rfl
theorem lrd_k (ch : Int) (b : ByteArray) : (lrd ch b).k = opnK ch b := rd_k _ _
theorem isK_iff {k : Int} : isK k = true ↔ 1 ≤ k ∧ k ≤ 29 := by
  unfold isK
  rw [Bool.and_eq_true, decide_eq_true_eq, decide_eq_true_eq]
theorem prsOk_of {b : ByteArray} (h : Q.prsE b = 0) : Q.prsOk b = true := by
  unfold Q.prsE at h
  by_cases ok : Q.prsOk b = true
  · exact ok
  · rw [if_neg ok] at h; cases h
theorem kAt_two : ∀ K, K < 30 → (plcN K).1 = 2 → kAt 2 ((plcN K).2.1 : Nat) ((plcN K).2.2 : Nat) = K := by decide
theorem kAt_one : kAt 1 0 0 = 1 := by decide
theorem kAt_bye : kAt 4 0 0 = 3 := by decide
theorem kAt_alive : kAt 5 0 0 = 4 := by decide
theorem numL_len {x : Int} {K : Nat} (hw : wid (K : Int) = true) (h0 : 0 ≤ x) (h1 : x < ((256 ^ K : Nat) : Int)) : (numL' x K).length = K := by rw [num_dig hw h0 h1, dig_length]
theorem one_len : (numL' 1 4).length = 4 := numL_len (K := 4) wid4 (by decide) (by decide)
theorem open_put {n : Nt} {req : Int} (h : lputOk n req = true) : opnK (lputC n req) (lputB n req) = n.k ∧ opnB (lputC n req) (lputB n req) = mk (bodyL n) := by
  unfold lputC lputB
  rw [if_pos h, if_pos h]
  unfold lputOk at h
  rw [Bool.and_eq_true] at h
  obtain ⟨hm, hc⟩ := h
  obtain ⟨K, hK, h1, h2⟩ := k_lit (may_iff.1 hm).1
  have hp : plc n.k = plcN K := by rw [hK]; exact plc_nat K (by omega)
  rw [hp] at hc ⊢
  by_cases c2 : (plcN K).1 = 2
  · have c2' : ((plcN K).1 : Int) = 2 := by omega
    rw [if_pos c2]
    rw [decide_eq_true c2, Bool.not_true, Bool.false_or, decide_eq_true_eq] at hc
    obtain ⟨hf, hs⟩ := Q.chk_zero.1 hc
    obtain ⟨p1, p2⟩ := Q.prs_of hf hs
    have ok := prsOk_of p2
    unfold opnK opnB
    rw [if_pos c2', if_pos c2', if_pos ok, if_pos ok, p1]
    refine ⟨?_, rfl⟩
    show ((kAt 2 ((plcN K).2.1 : Nat) ((plcN K).2.2 : Nat) : Nat) : Int) = n.k
    rw [kAt_two K (by omega) c2, hK]
  · have c2' : ¬ ((plcN K).1 : Int) = 2 := by omega
    rw [if_neg c2]
    unfold opnK opnB
    rw [if_neg c2', if_neg c2']
    refine ⟨?_, rfl⟩
    have hC : K = 1 ∨ K = 2 ∨ K = 3 ∨ K = 4 ∨ K = 5 ∨ K = 6 ∨ K = 7 ∨ K = 8 ∨ K = 9 ∨ K = 10 ∨ K = 11 ∨ K = 12 ∨ K = 13 ∨ K = 14 ∨ K = 15 ∨ K = 16 ∨ K = 17 ∨ K = 18 ∨ K = 19 ∨ K = 20 ∨ K = 21 ∨ K = 22 ∨ K = 23 ∨ K = 24 ∨ K = 25 ∨ K = 26 ∨ K = 27 ∨ K = 28 ∨ K = 29 := by omega
    rcases hC with rfl | rfl | rfl | rfl | rfl | rfl | rfl | rfl | rfl | rfl | rfl | rfl | rfl | rfl | rfl | rfl | rfl | rfl | rfl | rfl | rfl | rfl | rfl | rfl | rfl | rfl | rfl | rfl | rfl
    · have hb : (mk (bodyL n)).size = 4 := by
        rw [mk_size, bodyL_of n 1 hK (by decide) (by decide)]; exact one_len
      rw [if_neg (fun q => absurd q.2 (by omega)), hK]
      exact congrArg (fun n : Nat => (n : Int)) kAt_one
    · have hb : 4 < (mk (bodyL n)).size := by
        have a := (may_iff.1 hm).2.1
        rw [hK] at a
        have hd : (1 : Int) ≤ n.d.size ∧ (n.d.size : Int) ≤ 256 := (hold_iff.1 a).2.2.1
        rw [mk_size, bodyL_of n 2 hK (by decide) (by decide)]
        show 4 < (numL' 1 4 ++ valL 6 n.d).length
        rw [val_eq (by decide) (by decide) (by omega), List.length_append, List.length_append, one_len, show (numL' 6 2).length = 2 from numL_len (K := 2) wid2 (by decide) (by decide)]
        omega
      rw [if_pos ⟨kAt_one, hb⟩, hK]; rfl
    · rw [if_neg (fun q => absurd (q.1.symm.trans kAt_bye) (by decide)), hK]
      exact congrArg (fun n : Nat => (n : Int)) kAt_bye
    · rw [if_neg (fun q => absurd (q.1.symm.trans kAt_alive) (by decide)), hK]
      exact congrArg (fun n : Nat => (n : Int)) kAt_alive
    · exact absurd rfl c2
    · exact absurd rfl c2
    · exact absurd rfl c2
    · exact absurd rfl c2
    · exact absurd rfl c2
    · exact absurd rfl c2
    · exact absurd rfl c2
    · exact absurd rfl c2
    · exact absurd rfl c2
    · exact absurd rfl c2
    · exact absurd rfl c2
    · exact absurd rfl c2
    · exact absurd rfl c2
    · exact absurd rfl c2
    · exact absurd rfl c2
    · exact absurd rfl c2
    · exact absurd rfl c2
    · exact absurd rfl c2
    · exact absurd rfl c2
    · exact absurd rfl c2
    · exact absurd rfl c2
    · exact absurd rfl c2
    · exact absurd rfl c2
    · exact absurd rfl c2
    · exact absurd rfl c2
theorem putOk_may {n : Nt} {req : Int} (h : lputOk n req = true) : may n = true := by
  unfold lputOk at h
  rw [Bool.and_eq_true] at h
  exact h.1
theorem parse_put' {n : Nt} {req : Int} (h : lputOk n req = true) (hr : rd n.k (bodyL n) = n) : lprsOk (lputC n req) (lputB n req) = true ∧ lrd (lputC n req) (lputB n req) = n := by
  obtain ⟨e1, e2⟩ := open_put h
  have e : lrd (lputC n req) (lputB n req) = n := by
    unfold lrd
    rw [e1, e2, mk_list]
    exact hr
  refine ⟨?_, e⟩
  unfold lprsOk
  rw [e, e2, mk_list, putOk_may h, decide_eq_true rfl]
  rfl
end Go.Proofs.YtiodjaeonoheiaaGreatDoor.T
