/- Plain mathematics of signs and bytes. Conditions: those of each theorem's head. -/
import Derived.Lib.DecodeN
import Derived.Lib.Strings
import Derived.Laws.Strings

set_option maxHeartbeats 4000000
namespace Go.Proofs.YthbeempmdpfnmaaGreatDoor.Sg
open Go Go.Lib
def isSg (c : Nat) : Bool := decide (c < 55296) || (decide (57344 ≤ c) && decide (c ≤ 1114111))
theorem isSg_iff (c : Nat) : isSg c = true ↔ (c < 55296 ∨ (57344 ≤ c ∧ c ≤ 1114111)) := by simp [isSg]
def u (n : Nat) : UInt8 := UInt8.ofNat n
theorem u_of {n : Nat} {a : UInt8} (h : a.toNat = n) : u n = a := by subst h; simp [u]
theorem u_nat {n : Nat} (h : n < 256) : (u n).toNat = n := by
  simp only [u, UInt8.toNat_ofNat']; omega
def enc (c : Nat) : List UInt8 :=
  if c < 128 then [u c]
  else if c < 2048 then [u (192 + c / 64), u (128 + c % 64)]
  else if c < 65536 then [u (224 + c / 4096), u (128 + c / 64 % 64), u (128 + c % 64)]
  else [u (240 + c / 262144), u (128 + c / 4096 % 64), u (128 + c / 64 % 64), u (128 + c % 64)]
theorem enc_len (c : Nat) : (enc c).length = if c < 128 then 1 else if c < 2048 then 2 else if c < 65536 then 3 else 4 := by
  unfold enc; repeat' split
  all_goals rfl
theorem enc_len_le (c : Nat) : 1 ≤ (enc c).length ∧ (enc c).length ≤ 4 := by
  rw [enc_len]; repeat' split
  all_goals omega
/-- The four numbers by which a decoder goes. -/
def nb (l : List UInt8) (i : Nat) : Nat := (l.getD i 0).toNat
theorem nb_lt (l : List UInt8) (i : Nat) : nb l i < 256 := UInt8.toNat_lt _
def dec (l : List UInt8) : Nat × Nat := if l.length = 0 then (65533, 0) else decodeN l.length (nb l 0) (nb l 1) (nb l 2) (nb l 3)
theorem get_nb (s : ByteArray) (i : Nat) : (s.get! i).toNat = nb s.data.toList i := by
  unfold nb
  congr 1
  simp [ByteArray.get!, List.getD_eq_getElem?_getD, getElem!_def]
  cases h : s.data[i]?
  · simp; rfl
  · simp
theorem decode_drop (s : ByteArray) (i : Nat) (h : i < s.size) : Utf8.decode s i = dec (s.data.toList.drop i) := by
  have hl : (s.data.toList.drop i).length = s.size - i := by simp
  have hn : ¬ (s.data.toList.drop i).length = 0 := by omega
  have e : ∀ k, nb (s.data.toList.drop i) k = (s.get! (i + k)).toNat := fun k => by
    rw [get_nb]; unfold nb; simp [List.getD_eq_getElem?_getD, List.getElem?_drop]
  unfold dec
  rw [if_neg hn, decode_at, hl, e 0, e 1, e 2, e 3]
  simp only [Nat.add_zero]
/-- What is found at the front: a sign and how many bytes it has; or nothing. -/
def front (l : List UInt8) : Option (Nat × Nat) := if (dec l).2 = 0 ∨ ((dec l).1 = 65533 ∧ (dec l).2 = 1) then none else some (dec l)
theorem decN_split (n b0 b1 b2 b3 c k : Nat) (h1 : b1 < 256) (h2 : b2 < 256) (h3 : b3 < 256) (h : decodeN n b0 b1 b2 b3 = (c, k)) :
    (c = 65533 ∧ k = 1) ∨ (k = 1 ∧ c = b0 ∧ b0 < 128) ∨ (k = 2 ∧ 2 ≤ n ∧ 128 ≤ c ∧ c < 2048 ∧ b0 = 192 + c / 64 ∧ b1 = 128 + c % 64) ∨
    (k = 3 ∧ 3 ≤ n ∧ 2048 ≤ c ∧ c < 65536 ∧ (c < 55296 ∨ 57344 ≤ c) ∧ b0 = 224 + c / 4096 ∧ b1 = 128 + c / 64 % 64 ∧ b2 = 128 + c % 64) ∨
    (k = 4 ∧ 4 ≤ n ∧ 65536 ≤ c ∧ c ≤ 1114111 ∧ b0 = 240 + c / 262144 ∧ b1 = 128 + c / 4096 % 64 ∧ b2 = 128 + c / 64 % 64 ∧ b3 = 128 + c % 64) := by
  unfold decodeN at h
  repeat' split at h
  all_goals (simp only [Prod.mk.injEq] at h; obtain ⟨rfl, rfl⟩ := h; omega)
theorem decN_one (n b0 b1 b2 b3 : Nat) (h : b0 < 128) : decodeN n b0 b1 b2 b3 = (b0, 1) := by
  unfold decodeN; rw [if_pos h]
theorem decN_two (n b0 b1 b2 b3 c : Nat) (hn : 2 ≤ n) (ha : 128 ≤ c) (hb : c < 2048) (e0 : b0 = 192 + c / 64) (e1 : b1 = 128 + c % 64) : decodeN n b0 b1 b2 b3 = (c, 2) := by
  unfold decodeN
  rw [if_neg (by omega), if_pos (by omega), if_pos (by omega)]
  congr 1; omega
theorem decN_three (n b0 b1 b2 b3 c : Nat) (hn : 3 ≤ n) (ha : 2048 ≤ c) (hb : c < 65536) (hs : c < 55296 ∨ 57344 ≤ c) (e0 : b0 = 224 + c / 4096) (e1 : b1 = 128 + c / 64 % 64) (e2 : b2 = 128 + c % 64) :
    decodeN n b0 b1 b2 b3 = (c, 3) := by
  unfold decodeN
  rw [if_neg (by omega), if_neg (by omega), if_pos (by omega), if_pos (by omega)]
  congr 1; omega
theorem decN_four (n b0 b1 b2 b3 c : Nat) (hn : 4 ≤ n) (ha : 65536 ≤ c) (hb : c ≤ 1114111) (e0 : b0 = 240 + c / 262144) (e1 : b1 = 128 + c / 4096 % 64) (e2 : b2 = 128 + c / 64 % 64) (e3 : b3 = 128 + c % 64) :
    decodeN n b0 b1 b2 b3 = (c, 4) := by
  unfold decodeN
  rw [if_neg (by omega), if_neg (by omega), if_neg (by omega), if_pos (by omega), if_pos (by omega)]
  congr 1; omega
/-- A text that begins with a sign's bytes: that sign is found. -/
theorem dec_enc {c : Nat} (h : isSg c = true) (r : List UInt8) : dec (enc c ++ r) = (c, (enc c).length) := by
  have h' := (isSg_iff c).1 h
  have hne : ¬ (enc c ++ r).length = 0 := by have := (enc_len_le c).1; rw [List.length_append]; omega
  unfold dec
  rw [if_neg hne, enc_len]
  unfold enc at hne ⊢
  by_cases a : c < 128
  · simp only [a, if_true]
    exact (decN_one _ _ _ _ _ (by simp [nb]; rw [u_nat (by omega)]; exact a)).trans (by simp [nb]; rw [u_nat (by omega)])
  · by_cases b : c < 2048
    · simp only [a, b, if_true, if_false]
      exact decN_two _ _ _ _ _ c (by simp) (by omega) b (by simp [nb]; rw [u_nat (by omega)]) (by simp [nb]; rw [u_nat (by omega)])
    · by_cases d : c < 65536
      · simp only [a, b, d, if_true, if_false]
        exact decN_three _ _ _ _ _ c (by simp) (by omega) d (by omega) (by simp [nb]; rw [u_nat (by omega)]) (by simp [nb]; rw [u_nat (by omega)]) (by simp [nb]; rw [u_nat (by omega)])
      · simp only [a, b, d, if_false]
        exact decN_four _ _ _ _ _ c (by simp) (by omega) (by omega) (by simp [nb]; rw [u_nat (by omega)]) (by simp [nb]; rw [u_nat (by omega)]) (by simp [nb]; rw [u_nat (by omega)]) (by simp [nb]; rw [u_nat (by omega)])
theorem front_enc {c : Nat} (h : isSg c = true) (r : List UInt8) : front (enc c ++ r) = some (c, (enc c).length) := by
  unfold front
  rw [dec_enc h, if_neg]
  have h1 := enc_len_le c
  have h2 : c = 65533 → (enc c).length = 3 := fun e => by subst e; rfl
  show ¬ ((enc c).length = 0 ∨ (c = 65533 ∧ (enc c).length = 1))
  rintro (h3 | ⟨h3, h4⟩)
  · omega
  · have := h2 h3; omega
/-- What is found is a sign, and the text begins with its bytes. -/
theorem front_some {l : List UInt8} {c n : Nat} (h : front l = some (c, n)) : isSg c = true ∧ n = (enc c).length ∧ ∃ r, l = enc c ++ r := by
  unfold front at h
  split at h
  · cases h
  rename_i hno
  simp only [Option.some.injEq] at h
  rw [h] at hno
  have hl : ¬ l.length = 0 := fun e => by simp [dec, e] at h; omega
  unfold dec at h
  rw [if_neg hl] at h
  have hs := decN_split _ _ _ _ _ _ _ (nb_lt l 1) (nb_lt l 2) (nb_lt l 3) h
  rw [isSg_iff, enc_len]
  unfold enc
  rcases hs with hs | ⟨hk, hc, hb⟩ | ⟨hk, hn, ha, hb, e0, e1⟩ | ⟨hk, hn, ha, hb, hv, e0, e1, e2⟩ | ⟨hk, hn, ha, hb, e0, e1, e2, e3⟩
  · simp only at hno; omega
  · match l, hl with
    | x0 :: r, _ =>
      have hc' : x0.toNat = c := by simp [nb] at hc; exact hc.symm
      rw [if_pos (by omega), if_pos (by omega), u_of hc']
      exact ⟨by omega, hk, r, rfl⟩
  · match l, hn with
    | x0 :: x1 :: r, _ =>
      simp [nb] at e0 e1
      rw [if_neg (by omega), if_pos (by omega), if_neg (by omega), if_pos (by omega), u_of e0, u_of e1]
      exact ⟨by omega, hk, r, rfl⟩
  · match l, hn with
    | x0 :: x1 :: x2 :: r, _ =>
      simp [nb] at e0 e1 e2
      rw [if_neg (by omega), if_neg (by omega), if_pos (by omega), if_neg (by omega), if_neg (by omega), if_pos (by omega), u_of e0, u_of e1, u_of e2]
      exact ⟨by omega, hk, r, rfl⟩
  · match l, hn with
    | x0 :: x1 :: x2 :: x3 :: r, _ =>
      simp [nb] at e0 e1 e2 e3
      rw [if_neg (by omega), if_neg (by omega), if_neg (by omega), if_neg (by omega), if_neg (by omega), if_neg (by omega), u_of e0, u_of e1, u_of e2, u_of e3]
      exact ⟨by omega, hk, r, rfl⟩
end Go.Proofs.YthbeempmdpfnmaaGreatDoor.Sg

namespace Go.Proofs.YthbeempmdpfnmaaGreatDoor.Sg
open Go Go.Lib
def plain (c : Nat) : Bool := (c == 9 || c == 10 || c == 13) || (decide (32 ≤ c) && !(c == 65534) && !(c == 65535))
theorem plain_iff (c : Nat) : plain c = true ↔ ((c = 9 ∨ c = 10 ∨ c = 13) ∨ (32 ≤ c ∧ c ≠ 65534 ∧ c ≠ 65535)) := by
  simp [plain, and_assoc, or_assoc]
def ok (c : Nat) : Bool := isSg c && plain c
theorem ok_sg {c : Nat} (h : ok c = true) : isSg c = true := by unfold ok at h; simp at h; exact h.1
theorem ok_plain {c : Nat} (h : ok c = true) : plain c = true := by unfold ok at h; simp at h; exact h.2
theorem ok_mk {c : Nat} (h : isSg c = true) (k : plain c = true) : ok c = true := by unfold ok; rw [h, k]; rfl
def cat (cs : List Nat) : List UInt8 := cs.flatMap enc
theorem cat_cons (c : Nat) (cs : List Nat) : cat (c :: cs) = enc c ++ cat cs := by simp [cat]
theorem cat_append (a b : List Nat) : cat (a ++ b) = cat a ++ cat b := by simp [cat]
/-- l is the bytes of the plain signs cs. -/
def IsT (l : List UInt8) (cs : List Nat) : Prop := (∀ c ∈ cs, ok c = true) ∧ l = cat cs
theorem IsT.cons {l : List UInt8} {c : Nat} {cs : List Nat} (h : IsT l (c :: cs)) : ok c = true ∧ ∃ r, l = enc c ++ r ∧ IsT r cs :=
  ⟨h.1 c (List.mem_cons_self ..), cat cs, by rw [h.2, cat_cons], fun d hd => h.1 d (List.mem_cons_of_mem _ hd), rfl⟩
theorem front_cons {c : Nat} (h : ok c = true) (r : List UInt8) : front (enc c ++ r) = some (c, (enc c).length) := front_enc (ok_sg h) r
theorem front_nil : front [] = none := by unfold front dec; simp
/-- Behind signs that were read: what stands there decides whether the whole is a text. -/
theorem IsT.tail {done cs : List Nat} {r : List UInt8} (hd : ∀ c ∈ done, ok c = true) (h : IsT (cat done ++ r) cs) : ∃ rest, cs = done ++ rest ∧ IsT r rest := by
  induction done generalizing cs with
  | nil => exact ⟨cs, rfl, by simpa [cat] using h⟩
  | cons d ds ih =>
    have hok := hd d (List.mem_cons_self ..)
    have hf : front (cat (d :: ds) ++ r) = some (d, (enc d).length) := by
      rw [cat_cons, List.append_assoc]; exact front_cons hok _
    cases cs with
    | nil =>
      have : cat (d :: ds) ++ r = [] := h.2
      rw [this, front_nil] at hf
      cases hf
    | cons c cs =>
      obtain ⟨hc, r', hr, ht⟩ := h.cons
      rw [hr, front_cons hc] at hf
      simp only [Option.some.injEq, Prod.mk.injEq] at hf
      obtain ⟨rfl, _⟩ := hf
      rw [cat_cons, List.append_assoc] at hr
      have := List.append_cancel_left hr
      rw [← this] at ht
      obtain ⟨rest, rfl, hrest⟩ := ih (fun x hx => hd x (List.mem_cons_of_mem _ hx)) ht
      exact ⟨rest, rfl, hrest⟩
theorem IsT.unique {l : List UInt8} {a b : List Nat} (h : IsT l a) (k : IsT l b) : a = b := by
  rw [h.2, ← List.append_nil (cat a)] at k
  obtain ⟨rest, rfl, hr⟩ := IsT.tail h.1 k
  cases rest with
  | nil => simp
  | cons c cs =>
    obtain ⟨_, r, hr', _⟩ := hr.cons
    have := congrArg List.length hr'
    have h1 := (enc_len_le c).1
    simp at this
    omega
/-- Where a text can't go on. -/
theorem not_text {done : List Nat} {l r : List UInt8} (hd : ∀ c ∈ done, ok c = true) (hl : l = cat done ++ r) (hne : r ≠ [])
    (hs : front r = none ∨ ∃ c n, front r = some (c, n) ∧ plain c = false) : ∀ cs, ¬ IsT l cs := by
  intro cs h
  rw [hl] at h
  obtain ⟨rest, _, hr⟩ := IsT.tail hd h
  cases rest with
  | nil => exact hne hr.2
  | cons c cs =>
    obtain ⟨hc, r', hr', _⟩ := hr.cons
    rw [hr', front_cons hc] at hs
    rcases hs with hs | ⟨c', n, hs, hp⟩
    · cases hs
    · simp only [Option.some.injEq, Prod.mk.injEq] at hs
      obtain ⟨rfl, _⟩ := hs
      rw [ok_plain hc] at hp
      cases hp
/-- One sign further. -/
theorem more_text {done : List Nat} {l r : List UInt8} {c n : Nat} (hd : ∀ c ∈ done, ok c = true) (hl : l = cat done ++ r) (hf : front r = some (c, n)) (hp : plain c = true) :
    (∀ d ∈ done ++ [c], ok d = true) ∧ l = cat (done ++ [c]) ++ r.drop n ∧ 1 ≤ n ∧ n ≤ r.length := by
  obtain ⟨hs, hn, r', hr⟩ := front_some hf
  have h1 := (enc_len_le c).1
  subst hn
  refine ⟨fun d hd' => ?_, ?_, h1, by rw [hr, List.length_append]; omega⟩
  · rcases List.mem_append.1 hd' with h | h
    · exact hd d h
    · rw [List.mem_singleton.1 h]; exact ok_mk hs hp
  · rw [hl, cat_append, List.append_assoc, hr]
    simp [cat]
/-- 65533 itself stands as three bytes. -/
theorem enc_65533 : enc 65533 = [239, 191, 189] := by decide
theorem front_65533 {l : List UInt8} {n : Nat} (h : front l = some (65533, n)) : ([239, 191, 189] : List UInt8).isPrefixOf l = true := by
  obtain ⟨_, _, r, hr⟩ := front_some h
  rw [hr, enc_65533]
  simp
theorem front_none_65533 {l : List UInt8} (h : front l = none) : ([239, 191, 189] : List UInt8).isPrefixOf l = false := by
  cases hp : ([239, 191, 189] : List UInt8).isPrefixOf l with
  | false => rfl
  | true =>
    obtain ⟨r, hr⟩ := List.isPrefixOf_iff_prefix.1 hp
    have := front_enc (c := 65533) (by decide) r
    rw [enc_65533, hr, h] at this
    cases this
end Go.Proofs.YthbeempmdpfnmaaGreatDoor.Sg

namespace Go.Proofs.YthbeempmdpfnmaaGreatDoor.By
open Go Go.Lib
def nb (l : List UInt8) (i : Nat) : Nat := (l.getD i 0).toNat
theorem nb_lt (l : List UInt8) (i : Nat) : nb l i < 256 := UInt8.toNat_lt _
theorem byte_nb (s : ByteArray) (k : Nat) (h : k < s.size) : (s[k]'h).toNat = nb s.data.toList k := by
  unfold nb
  have h' : k < s.data.size := h
  simp [List.getD_eq_getElem?_getD, Array.getElem?_eq_getElem h']
  rfl
theorem len_size (s : ByteArray) : s.data.toList.length = s.size := (Lib.size_eq s).symm
theorem extract_drop (s : ByteArray) (k : Nat) : (s.extract k s.size).data.toList = s.data.toList.drop k := by
  rw [Lib.extract_data, List.take_of_length_le (by rw [List.length_drop, ← Lib.size_eq]; exact Nat.le_refl _)]
theorem extract_cut (s : ByteArray) (i j : Nat) : (s.extract i j).data.toList = (s.data.toList.take j).drop i := by
  rw [Lib.extract_data, List.drop_take]
theorem bytes_ext {a b : ByteArray} (h : a.data.toList = b.data.toList) : a = b := ByteArray.ext (Array.toList_inj.1 h)
theorem append_list (a b : ByteArray) : (a ++ b).data.toList = a.data.toList ++ b.data.toList := by simp
theorem nonempty {R : ByteArray} (h : ¬ R.size = 0) : R.toList.isEmpty = false := by
  rw [ByteArray.toList_eq]
  cases e : R.data.toList with
  | nil => exact absurd (by rw [Lib.size_eq, e]; rfl) h
  | cons _ _ => rfl
theorem empty_of {R : ByteArray} (h : R.size = 0) : R = ⟨#[]⟩ := ByteArray.ext (Array.eq_empty_of_size_eq_zero h)
theorem drop_cons (l : List UInt8) (k : Nat) (h : k < l.length) : ∃ b, l.drop k = b :: l.drop (k + 1) ∧ nb l k = b.toNat := by
  refine ⟨l[k], List.drop_eq_getElem_cons h, ?_⟩
  unfold nb
  rw [List.getD_eq_getElem?_getD, List.getElem?_eq_getElem h]
  rfl
theorem nb_drop (l : List UInt8) (k j : Nat) : nb (l.drop k) j = nb l (k + j) := by
  unfold nb
  rw [List.getD_eq_getElem?_getD, List.getElem?_drop, ← List.getD_eq_getElem?_getD]
def u (n : Nat) : UInt8 := UInt8.ofNat n
theorem u_nat {n : Nat} (h : n < 256) : (u n).toNat = n := by
  unfold u
  simp
  exact h
theorem nat_u (b : UInt8) : u b.toNat = b := by unfold u; simp
theorem eq_of_nat {a b : UInt8} (h : a.toNat = b.toNat) : a = b := UInt8.toNat_inj.1 h
theorem nat_lt (b : UInt8) : b.toNat < 256 := UInt8.toNat_lt b


end Go.Proofs.YthbeempmdpfnmaaGreatDoor.By

namespace Go.Proofs.YthbeempmdpfnmaaGreatDoor.Esc
open Go Go.Lib By
/-- The nine bytes that never stand for themselves. -/
def bar (c : Nat) : Bool := c == 32 || c == 34 || c == 38 || c == 39 || c == 47 || c == 58 || c == 60 || c == 62 || c == 64
/-- A digit's worth. -/
def hx (c : Nat) : Option Nat := if 48 ≤ c ∧ c ≤ 57 then some (c - 48) else if 97 ≤ c ∧ c ≤ 102 then some (c - 87) else none
def dg (k : Nat) : Nat := if k < 10 then 48 + k else 87 + k
/-- The byte that two digits stand for behind a backslash. -/
def two (a b : Nat) : Option Nat :=
  match hx a, hx b with
  | some h, some l => if h * 16 + l = 92 ∨ bar (h * 16 + l) = true then some (h * 16 + l) else none
  | _, _ => none
/-- The byte for which the escape at the front stands. -/
def esc : List UInt8 → Option Nat
  | x :: a :: b :: _ => if x.toNat = 92 then two a.toNat b.toNat else none
  | _ => none
/-- What stands in place of a text's first byte. -/
def pc (b : UInt8) (r : List UInt8) : List UInt8 := if bar b.toNat || (esc (b :: r)).isSome then [92, u (dg (b.toNat / 16)), u (dg (b.toNat % 16))] else [b]
def E : List UInt8 → List UInt8
  | [] => []
  | b :: r => pc b r ++ E r
def U (f : Bool) : List UInt8 → List UInt8
  | x :: a :: b :: r => match esc (x :: a :: b :: r) with
    | some c => if c = 32 ∧ (f = true ∨ r = []) then x :: U false (a :: b :: r) else u c :: U false r
    | none => x :: U false (a :: b :: r)
  | l => l
/-- May it be refused: nothing, or a blank at an end. -/
def bad (l : List UInt8) : Bool := l.isEmpty || nb l 0 == 32 || nb l (l.length - 1) == 32
def is (l : List UInt8) : Bool := !l.isEmpty && l.all (fun b => !bar b.toNat) && esc l != some 32 && esc (l.drop (l.length - 3)) != some 32
theorem bar_lt {c : Nat} (h : bar c = true) : c < 65 := by unfold bar at h; simp at h; omega
theorem dg_hx {k : Nat} (h : k < 16) : hx (dg k) = some k := by
  unfold hx dg
  by_cases h1 : k < 10
  · rw [if_pos h1, if_pos (by omega)]; congr 1; omega
  · rw [if_neg h1, if_neg (by omega), if_pos (by omega)]; congr 1; omega
theorem dg_range {k : Nat} (h : k < 16) : (48 ≤ dg k ∧ dg k ≤ 57) ∨ (97 ≤ dg k ∧ dg k ≤ 102) := by unfold dg; split <;> omega
theorem two_dg {c : Nat} (h : c = 92 ∨ bar c = true) : two (dg (c / 16)) (dg (c % 16)) = some c := by
  have hc : c < 256 := by rcases h with h | h; · omega
                          · have := bar_lt h; omega
  unfold two
  rw [dg_hx (by omega), dg_hx (by omega)]
  have e : c / 16 * 16 + c % 16 = c := by omega
  simp only [e]
  rw [if_pos h]
theorem two_some {a b c : Nat} (h : two a b = some c) : (∃ x y, hx a = some x ∧ hx b = some y ∧ c = x * 16 + y) ∧ (c = 92 ∨ bar c = true) := by
  unfold two at h
  split at h
  · rename_i x y hx hy
    split at h
    · rename_i hc
      simp only [Option.some.injEq] at h
      subst h
      exact ⟨⟨x, y, hx, hy, rfl⟩, hc⟩
    · cases h
  · cases h
theorem esc_some {l : List UInt8} {c : Nat} (h : esc l = some c) : ∃ a b r, l = 92 :: a :: b :: r ∧ two a.toNat b.toNat = some c := by
  match l, h with
  | x :: a :: b :: r, h =>
    rw [esc] at h
    by_cases hx : x.toNat = 92
    · rw [if_pos hx] at h
      obtain rfl : x = 92 := eq_of_nat hx
      exact ⟨a, b, r, rfl, h⟩
    · rw [if_neg hx] at h
      cases h
/-! ### Unescaping, step by step -/
theorem U_none {f : Bool} {b : UInt8} {r : List UInt8} (h : esc (b :: r) = none) : U f (b :: r) = b :: U false r := by
  match r with
  | [] => rfl
  | [y] => rfl
  | y :: z :: q =>
    rw [U]
    rw [h]
theorem U_some {b : UInt8} {r : List UInt8} {f : Bool} {c : Nat} (h : esc (b :: r) = some c) (hf : ¬ (c = 32 ∧ (f = true ∨ r.length = 2))) : U f (b :: r) = u c :: U false (r.drop 2) := by
  match r, h, hf with
  | y :: z :: q, h, hf =>
    rw [U]
    rw [h]
    simp only
    rw [if_neg (fun x => hf ⟨x.1, x.2.imp id (fun h => by rw [h]; rfl)⟩)]
    rfl
/-! ### There and back -/
theorem pc_len (b : UInt8) (r : List UInt8) : 1 ≤ (pc b r).length ∧ (pc b r).length ≤ 3 := by unfold pc; split <;> simp
theorem E_len (l : List UInt8) : l.length ≤ (E l).length ∧ (E l).length ≤ 3 * l.length := by
  induction l with
  | nil => simp [E]
  | cons b r ih =>
    have := pc_len b r
    rw [E, List.length_append, List.length_cons]
    omega
theorem E_head {x : UInt8} {r : List UInt8} : (∃ q, E (x :: r) = 92 :: q) ∨ (E (x :: r) = x :: E r) := by
  rw [E, pc]
  split
  · exact .inl ⟨_, rfl⟩
  · exact .inr rfl
theorem not_digit_92 {k : Nat} (h : hx (UInt8.toNat 92) = some k) : False := by
  have : hx 92 = none := by decide
  rw [show UInt8.toNat 92 = 92 from rfl, this] at h
  cases h
/-- Digits that stand at the front of an escaped text stood there before. -/
theorem E_digit {a : UInt8} {q r : List UInt8} (h : E r = a :: q) {k : Nat} (ha : hx a.toNat = some k) : ∃ r', r = a :: r' ∧ q = E r' := by
  cases r with
  | nil => cases h
  | cons x r' =>
    rcases @E_head x r' with ⟨q', e⟩ | e
    · rw [e] at h
      injection h with h1 h2
      subst h1
      exact (not_digit_92 ha).elim
    · rw [e] at h
      injection h with h1 h2
      subst h1
      exact ⟨r', rfl, h2.symm⟩
/-- What begins no escape begins none when what is behind it is escaped. -/
theorem esc_E {b : UInt8} {r : List UInt8} (h : esc (b :: r) = none) : esc (b :: E r) = none := by
  match h2 : esc (b :: E r) with
  | none => rfl
  | some c =>
    obtain ⟨x, y, q, e, ht⟩ := esc_some h2
    injection e with e1 e2
    subst e1
    obtain ⟨⟨i, j, hi, hj, _⟩, _⟩ := two_some ht
    obtain ⟨r1, rfl, e3⟩ := E_digit e2 hi
    obtain ⟨r2, rfl, e4⟩ := E_digit e3.symm hj
    rw [esc, if_pos (show UInt8.toNat 92 = 92 from rfl), ht] at h
    cases h
theorem escaped_byte {b : UInt8} {r : List UInt8} (h : (bar b.toNat || (esc (b :: r)).isSome) = true) : b.toNat = 92 ∨ bar b.toNat = true := by
  simp only [Bool.or_eq_true] at h
  rcases h with h | h
  · exact .inr h
  · left
    obtain ⟨c, hc⟩ := Option.isSome_iff_exists.1 h
    obtain ⟨_, _, _, e, _⟩ := esc_some hc
    injection e with e1 _
    rw [e1]; rfl
theorem esc_pc {b : UInt8} (h : b.toNat = 92 ∨ bar b.toNat = true) (q : List UInt8) : esc (92 :: u (dg (b.toNat / 16)) :: u (dg (b.toNat % 16)) :: q) = some b.toNat := by
  have h1 := nat_lt b
  have d1 := dg_range (k := b.toNat / 16) (by omega)
  have d2 := dg_range (k := b.toNat % 16) (by omega)
  rw [esc, if_pos (show UInt8.toNat 92 = 92 from rfl), u_nat (by omega), u_nat (by omega)]
  exact two_dg h
theorem U_E (l : List UInt8) (f : Bool) (hf : f = true → nb l 0 ≠ 32) (hl : nb l (l.length - 1) ≠ 32) : U f (E l) = l := by
  induction l generalizing f with
  | nil => rfl
  | cons b r ih =>
    have hr : nb r (r.length - 1) ≠ 32 := by
      cases r with
      | nil => simp [nb]
      | cons x q => simpa [nb] using hl
    have ih' := ih false (by intro h; cases h) hr
    rw [E, pc]
    split
    · rename_i hb
      have hb2 := escaped_byte hb
      have he := esc_pc hb2 (E r)
      show U f (92 :: _ :: _ :: E r) = _
      rw [U_some he]
      · rw [nat_u]
        show b :: U false (E r) = _
        rw [ih']
      · rintro ⟨h32, h | h⟩
        · exact hf h (by simpa [nb] using h32)
        · have hz : (E r).length = 0 := by simpa using h
          have h0 := E_len r
          have : r = [] := List.length_eq_zero_iff.1 (by omega)
          subst this
          exact hl (by simpa [nb] using h32)
    · rename_i hb
      simp only [Bool.or_eq_true, not_or, Bool.not_eq_true, Option.isSome_eq_false_iff, Option.isNone_iff_eq_none] at hb
      show U f (b :: E r) = _
      rw [U_none (esc_E hb.2), ih']
theorem bad_false {l : List UInt8} (h : bad l = false) : l ≠ [] ∧ nb l 0 ≠ 32 ∧ nb l (l.length - 1) ≠ 32 := by
  unfold bad at h
  simp at h
  exact ⟨h.1.1, h.1.2, h.2⟩
theorem back {l : List UInt8} (h : bad l = false) : U true (E l) = l := by
  obtain ⟨_, h1, h2⟩ := bad_false h
  exact U_E l true (fun _ => h1) h2
/-! ### What was escaped is one -/
/-! ### As few as can be -/
def plain (b : UInt8) : Bool := (decide (97 ≤ b.toNat) && decide (b.toNat ≤ 122)) || (decide (48 ≤ b.toNat) && decide (b.toNat ≤ 57))
end Go.Proofs.YthbeempmdpfnmaaGreatDoor.Esc
