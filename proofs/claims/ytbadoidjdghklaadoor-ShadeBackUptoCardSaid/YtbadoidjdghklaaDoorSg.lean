/- Plain mathematics of signs (UTF-8) on lists of bytes: what a decoder finds at a text's front is a sign just if the text begins with that sign's bytes. No condition; nothing of the program stands here. -/
import Derived.Lib.DecodeN
import Derived.Lib.Strings
import Derived.Laws.Strings
namespace Go.Proofs.YtbadoidjdghklaaDoor.Sg
open Go Go.Lib

def isSg (c : Nat) : Bool := decide (c < 55296) || (decide (57344 ≤ c) && decide (c ≤ 1114111))
theorem isSg_iff (c : Nat) : isSg c = true ↔ (c < 55296 ∨ (57344 ≤ c ∧ c ≤ 1114111)) := by simp [isSg]

def u (n : Nat) : UInt8 := UInt8.ofNat n
theorem u_of {n : Nat} {a : UInt8} (h : a.toNat = n) : u n = a := by subst h; simp [u]
theorem u_nat {n : Nat} (h : n < 256) : (u n).toNat = n := by
  simp only [u, UInt8.toNat_ofNat']; omega

def enc (c : Nat) : List UInt8 :=
  if c < 128 then [u c]
  else if c < 2048 then [u (192 + c / 64), u (128 + c % 64)]
  else if c < 65536 then [u (224 + c / 4096), u (128 + c / 64 % 64), u (128 + c % 64)]
  else [u (240 + c / 262144), u (128 + c / 4096 % 64), u (128 + c / 64 % 64), u (128 + c % 64)]

theorem enc_len (c : Nat) : (enc c).length = if c < 128 then 1 else if c < 2048 then 2 else if c < 65536 then 3 else 4 := by
  unfold enc; repeat' split
  all_goals rfl
theorem enc_len_le (c : Nat) : 1 ≤ (enc c).length ∧ (enc c).length ≤ 4 := by
  rw [enc_len]; repeat' split
  all_goals omega

theorem encode_eq {c : Nat} (h : isSg c = true) : Utf8.encode (c : Int) = ⟨(enc c).toArray⟩ := by
  have h' := (isSg_iff c).1 h
  have hv : Utf8.valid (c : Int) = true := by simp [Utf8.valid]; omega
  simp only [Utf8.encode, hv, if_true, Int.toNat_natCast, enc]
  repeat' split
  all_goals rfl

/-- The four numbers by which a decoder goes. -/
def nb (l : List UInt8) (i : Nat) : Nat := (l.getD i 0).toNat
theorem nb_lt (l : List UInt8) (i : Nat) : nb l i < 256 := UInt8.toNat_lt _
def dec (l : List UInt8) : Nat × Nat := if l.length = 0 then (65533, 0) else decodeN l.length (nb l 0) (nb l 1) (nb l 2) (nb l 3)

theorem get_nb (s : ByteArray) (i : Nat) : (s.get! i).toNat = nb s.data.toList i := by
  unfold nb
  congr 1
  simp [ByteArray.get!, List.getD_eq_getElem?_getD, getElem!_def]
  cases h : s.data[i]?
  · simp; rfl
  · simp

theorem decode_drop (s : ByteArray) (i : Nat) (h : i < s.size) : Utf8.decode s i = dec (s.data.toList.drop i) := by
  have hl : (s.data.toList.drop i).length = s.size - i := by simp
  have hn : ¬ (s.data.toList.drop i).length = 0 := by omega
  have e : ∀ k, nb (s.data.toList.drop i) k = (s.get! (i + k)).toNat := fun k => by
    rw [get_nb]; unfold nb; simp [List.getD_eq_getElem?_getD, List.getElem?_drop]
  unfold dec
  rw [if_neg hn, decode_at, hl, e 0, e 1, e 2, e 3]
  simp only [Nat.add_zero]

/-- What is found at the front: a sign and how many bytes it has; or nothing. -/
def front (l : List UInt8) : Option (Nat × Nat) := if (dec l).2 = 0 ∨ ((dec l).1 = 65533 ∧ (dec l).2 = 1) then none else some (dec l)

set_option maxHeartbeats 4000000 in
theorem decN_split (n b0 b1 b2 b3 c k : Nat) (h1 : b1 < 256) (h2 : b2 < 256) (h3 : b3 < 256) (h : decodeN n b0 b1 b2 b3 = (c, k)) :
    (c = 65533 ∧ k = 1) ∨ (k = 1 ∧ c = b0 ∧ b0 < 128) ∨ (k = 2 ∧ 2 ≤ n ∧ 128 ≤ c ∧ c < 2048 ∧ b0 = 192 + c / 64 ∧ b1 = 128 + c % 64) ∨
    (k = 3 ∧ 3 ≤ n ∧ 2048 ≤ c ∧ c < 65536 ∧ (c < 55296 ∨ 57344 ≤ c) ∧ b0 = 224 + c / 4096 ∧ b1 = 128 + c / 64 % 64 ∧ b2 = 128 + c % 64) ∨
    (k = 4 ∧ 4 ≤ n ∧ 65536 ≤ c ∧ c ≤ 1114111 ∧ b0 = 240 + c / 262144 ∧ b1 = 128 + c / 4096 % 64 ∧ b2 = 128 + c / 64 % 64 ∧ b3 = 128 + c % 64) := by
  unfold decodeN at h
  repeat' split at h
  all_goals (simp only [Prod.mk.injEq] at h; obtain ⟨rfl, rfl⟩ := h; omega)

theorem decN_one (n b0 b1 b2 b3 : Nat) (h : b0 < 128) : decodeN n b0 b1 b2 b3 = (b0, 1) := by
  unfold decodeN; rw [if_pos h]
theorem decN_two (n b0 b1 b2 b3 c : Nat) (hn : 2 ≤ n) (ha : 128 ≤ c) (hb : c < 2048) (e0 : b0 = 192 + c / 64) (e1 : b1 = 128 + c % 64) : decodeN n b0 b1 b2 b3 = (c, 2) := by
  unfold decodeN
  rw [if_neg (by omega), if_pos (by omega), if_pos (by omega)]
  congr 1; omega
theorem decN_three (n b0 b1 b2 b3 c : Nat) (hn : 3 ≤ n) (ha : 2048 ≤ c) (hb : c < 65536) (hs : c < 55296 ∨ 57344 ≤ c) (e0 : b0 = 224 + c / 4096) (e1 : b1 = 128 + c / 64 % 64) (e2 : b2 = 128 + c % 64) :
    decodeN n b0 b1 b2 b3 = (c, 3) := by
  unfold decodeN
  rw [if_neg (by omega), if_neg (by omega), if_pos (by omega), if_pos (by omega)]
  congr 1; omega
theorem decN_four (n b0 b1 b2 b3 c : Nat) (hn : 4 ≤ n) (ha : 65536 ≤ c) (hb : c ≤ 1114111) (e0 : b0 = 240 + c / 262144) (e1 : b1 = 128 + c / 4096 % 64) (e2 : b2 = 128 + c / 64 % 64) (e3 : b3 = 128 + c % 64) :
    decodeN n b0 b1 b2 b3 = (c, 4) := by
  unfold decodeN
  rw [if_neg (by omega), if_neg (by omega), if_neg (by omega), if_pos (by omega), if_pos (by omega)]
  congr 1; omega

/-- A text that begins with a sign's bytes: that sign is found. -/
theorem dec_enc {c : Nat} (h : isSg c = true) (r : List UInt8) : dec (enc c ++ r) = (c, (enc c).length) := by
  have h' := (isSg_iff c).1 h
  have hne : ¬ (enc c ++ r).length = 0 := by have := (enc_len_le c).1; rw [List.length_append]; omega
  unfold dec
  rw [if_neg hne, enc_len]
  unfold enc at hne ⊢
  by_cases a : c < 128
  · simp only [a, if_true]
    exact (decN_one _ _ _ _ _ (by simp [nb]; rw [u_nat (by omega)]; exact a)).trans (by simp [nb]; rw [u_nat (by omega)])
  · by_cases b : c < 2048
    · simp only [a, b, if_true, if_false]
      exact decN_two _ _ _ _ _ c (by simp) (by omega) b (by simp [nb]; rw [u_nat (by omega)]) (by simp [nb]; rw [u_nat (by omega)])
    · by_cases d : c < 65536
      · simp only [a, b, d, if_true, if_false]
        exact decN_three _ _ _ _ _ c (by simp) (by omega) d (by omega) (by simp [nb]; rw [u_nat (by omega)]) (by simp [nb]; rw [u_nat (by omega)]) (by simp [nb]; rw [u_nat (by omega)])
      · simp only [a, b, d, if_false]
        exact decN_four _ _ _ _ _ c (by simp) (by omega) (by omega) (by simp [nb]; rw [u_nat (by omega)]) (by simp [nb]; rw [u_nat (by omega)]) (by simp [nb]; rw [u_nat (by omega)]) (by simp [nb]; rw [u_nat (by omega)])
theorem front_enc {c : Nat} (h : isSg c = true) (r : List UInt8) : front (enc c ++ r) = some (c, (enc c).length) := by
  unfold front
  rw [dec_enc h, if_neg]
  have h1 := enc_len_le c
  have h2 : c = 65533 → (enc c).length = 3 := fun e => by subst e; rfl
  show ¬ ((enc c).length = 0 ∨ (c = 65533 ∧ (enc c).length = 1))
  rintro (h3 | ⟨h3, h4⟩)
  · omega
  · have := h2 h3; omega

/-- What is found is a sign, and the text begins with its bytes. -/
theorem front_some {l : List UInt8} {c n : Nat} (h : front l = some (c, n)) : isSg c = true ∧ n = (enc c).length ∧ ∃ r, l = enc c ++ r := by
  unfold front at h
  split at h
  · cases h
  rename_i hno
  simp only [Option.some.injEq] at h
  rw [h] at hno
  have hl : ¬ l.length = 0 := fun e => by simp [dec, e] at h; omega
  unfold dec at h
  rw [if_neg hl] at h
  have hs := decN_split _ _ _ _ _ _ _ (nb_lt l 1) (nb_lt l 2) (nb_lt l 3) h
  rw [isSg_iff, enc_len]
  unfold enc
  rcases hs with hs | ⟨hk, hc, hb⟩ | ⟨hk, hn, ha, hb, e0, e1⟩ | ⟨hk, hn, ha, hb, hv, e0, e1, e2⟩ | ⟨hk, hn, ha, hb, e0, e1, e2, e3⟩
  · simp only at hno; omega
  · match l, hl with
    | x0 :: r, _ =>
      have hc' : x0.toNat = c := by simp [nb] at hc; exact hc.symm
      rw [if_pos (by omega), if_pos (by omega), u_of hc']
      exact ⟨by omega, hk, r, rfl⟩
  · match l, hn with
    | x0 :: x1 :: r, _ =>
      simp [nb] at e0 e1
      rw [if_neg (by omega), if_pos (by omega), if_neg (by omega), if_pos (by omega), u_of e0, u_of e1]
      exact ⟨by omega, hk, r, rfl⟩
  · match l, hn with
    | x0 :: x1 :: x2 :: r, _ =>
      simp [nb] at e0 e1 e2
      rw [if_neg (by omega), if_neg (by omega), if_pos (by omega), if_neg (by omega), if_neg (by omega), if_pos (by omega), u_of e0, u_of e1, u_of e2]
      exact ⟨by omega, hk, r, rfl⟩
  · match l, hn with
    | x0 :: x1 :: x2 :: x3 :: r, _ =>
      simp [nb] at e0 e1 e2 e3
      rw [if_neg (by omega), if_neg (by omega), if_neg (by omega), if_neg (by omega), if_neg (by omega), if_neg (by omega), u_of e0, u_of e1, u_of e2, u_of e3]
      exact ⟨by omega, hk, r, rfl⟩

theorem front_none_of {l : List UInt8} (h : ∀ c r, isSg c = true → l ≠ enc c ++ r) : front l = none := by
  cases e : front l with
  | none => rfl
  | some p =>
    obtain ⟨hs, _, r, hr⟩ := front_some (c := p.1) (n := p.2) e
    exact absurd hr (h _ _ hs)
end Go.Proofs.YtbadoidjdghklaaDoor.Sg
