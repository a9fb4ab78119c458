/- Plain mathematics of signs: bytes of signs rise as the signs do; those of one sign are no front of those of another one. No condition; nothing of the program stands here but the model's order of bytes. -/
import Derived.Test.YtihoimcnaedmfaaDoorTxt
import GoSem.Op.String
namespace Go.Proofs.YtihoimcnaedmfaaDoor.Sg
open Go Go.Lib

theorem bl_cons {a b : Nat} (ha : a < 256) (hb : b < 256) (x y : List UInt8) : Op.bytesLess (u a :: x) (u b :: y) = (decide (a < b) || (decide (a = b) && Op.bytesLess x y)) := by
  have h1 : decide (u a < u b) = decide (a < b) := by
    rw [decide_eq_decide, UInt8.lt_iff_toNat_lt, u_nat ha, u_nat hb]
  have h2 : (u a == u b) = decide (a = b) := by
    rw [Bool.eq_iff_iff, beq_iff_eq, decide_eq_true_eq, ← UInt8.toNat_inj, u_nat ha, u_nat hb]
  rw [Op.bytesLess, h1, h2]
theorem bl_nil (x : List UInt8) : Op.bytesLess x [] = false := by cases x <;> rfl

set_option maxHeartbeats 2000000 in
theorem less_enc {c d : Nat} (hc : isSg c = true) (hd : isSg d = true) : Op.bytesLess (enc c) (enc d) = decide (c < d) := by
  have h1 := (isSg_iff c).1 hc
  have h2 := (isSg_iff d).1 hd
  clear hc hd
  unfold enc
  by_cases a1 : c < 128 <;> by_cases b1 : d < 128
  · rw [if_pos a1, if_pos b1, bl_cons (by omega) (by omega), bl_nil, Bool.eq_iff_iff]; simp
  · rw [if_pos a1, if_neg b1]
    by_cases b2 : d < 2048
    · rw [if_pos b2, bl_cons (by omega) (by omega), Bool.eq_iff_iff]; simp; omega
    · rw [if_neg b2]
      by_cases b3 : d < 65536
      · rw [if_pos b3, bl_cons (by omega) (by omega), Bool.eq_iff_iff]; simp; omega
      · rw [if_neg b3, bl_cons (by omega) (by omega), Bool.eq_iff_iff]; simp; omega
  · rw [if_neg a1, if_pos b1]
    by_cases a2 : c < 2048
    · rw [if_pos a2, bl_cons (by omega) (by omega), Bool.eq_iff_iff]; simp; omega
    · rw [if_neg a2]
      by_cases a3 : c < 65536
      · rw [if_pos a3, bl_cons (by omega) (by omega), Bool.eq_iff_iff]; simp; omega
      · rw [if_neg a3, bl_cons (by omega) (by omega), Bool.eq_iff_iff]; simp; omega
  · rw [if_neg a1, if_neg b1]
    by_cases a2 : c < 2048 <;> by_cases b2 : d < 2048
    · rw [if_pos a2, if_pos b2, bl_cons (by omega) (by omega), bl_cons (by omega) (by omega), bl_nil, Bool.eq_iff_iff]; simp; omega
    · rw [if_pos a2, if_neg b2]
      by_cases b3 : d < 65536
      · rw [if_pos b3, bl_cons (by omega) (by omega), Bool.eq_iff_iff]; simp; omega
      · rw [if_neg b3, bl_cons (by omega) (by omega), Bool.eq_iff_iff]; simp; omega
    · rw [if_neg a2, if_pos b2]
      by_cases a3 : c < 65536
      · rw [if_pos a3, bl_cons (by omega) (by omega), Bool.eq_iff_iff]; simp; omega
      · rw [if_neg a3, bl_cons (by omega) (by omega), Bool.eq_iff_iff]; simp; omega
    · rw [if_neg a2, if_neg b2]
      by_cases a3 : c < 65536 <;> by_cases b3 : d < 65536
      · rw [if_pos a3, if_pos b3, bl_cons (by omega) (by omega), bl_cons (by omega) (by omega), bl_cons (by omega) (by omega), bl_nil, Bool.eq_iff_iff]; simp; omega
      · rw [if_pos a3, if_neg b3, bl_cons (by omega) (by omega), Bool.eq_iff_iff]; simp; omega
      · rw [if_neg a3, if_pos b3, bl_cons (by omega) (by omega), Bool.eq_iff_iff]; simp; omega
      · rw [if_neg a3, if_neg b3, bl_cons (by omega) (by omega), bl_cons (by omega) (by omega), bl_cons (by omega) (by omega), bl_cons (by omega) (by omega), bl_nil, Bool.eq_iff_iff]; simp; omega
theorem enc_inj {c d : Nat} (hc : isSg c = true) (hd : isSg d = true) (h : enc c = enc d) : c = d := by
  have h1 := front_enc hc []
  have h2 := front_enc hd []
  rw [h] at h1
  rw [h1] at h2
  simp only [Option.some.injEq, Prod.mk.injEq] at h2
  exact h2.1
theorem enc_beq {c d : Nat} (hc : isSg c = true) (hd : isSg d = true) : (enc c == enc d) = decide (c = d) := by
  rw [Bool.eq_iff_iff, beq_iff_eq, decide_eq_true_eq]
  exact ⟨enc_inj hc hd, fun e => by rw [e]⟩
theorem enc_front {c d : Nat} (hc : isSg c = true) (hd : isSg d = true) (h : (enc d).take (enc c).length = enc c) : c = d := by
  have h1 := front_enc hc ((enc d).drop (enc c).length)
  have h2 := front_enc hd []
  rw [List.append_nil] at h2
  have e : enc c ++ (enc d).drop (enc c).length = enc d := by
    conv => lhs; arg 1; rw [← h]
    exact List.take_append_drop _ _
  rw [e, h2] at h1
  simp only [Option.some.injEq, Prod.mk.injEq] at h1
  exact h1.1.symm
end Go.Proofs.YtihoimcnaedmfaaDoor.Sg
