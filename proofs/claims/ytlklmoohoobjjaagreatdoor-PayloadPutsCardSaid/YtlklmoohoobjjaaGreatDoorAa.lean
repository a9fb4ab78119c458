/- Plain mathematics of signs, bytes and elements. Conditions: those of each theorem's head. -/
import Derived.Lib.DecodeN
import Derived.Lib.Strings
import Derived.Laws.Strings

namespace Go.Proofs.YtlklmoohoobjjaaGreatDoor.Sg
open Go Go.Lib

def isSg (c : Nat) : Bool := decide (c < 55296) || (decide (57344 ≤ c) && decide (c ≤ 1114111))
theorem isSg_iff (c : Nat) : isSg c = true ↔ (c < 55296 ∨ (57344 ≤ c ∧ c ≤ 1114111)) := by simp [isSg]

def u (n : Nat) : UInt8 := UInt8.ofNat n
theorem u_of {n : Nat} {a : UInt8} (h : a.toNat = n) : u n = a := by subst h; simp [u]
theorem u_nat {n : Nat} (h : n < 256) : (u n).toNat = n := by
  simp only [u, UInt8.toNat_ofNat']; omega

def enc (c : Nat) : List UInt8 :=
  if c < 128 then [u c]
  else if c < 2048 then [u (192 + c / 64), u (128 + c % 64)]
  else if c < 65536 then [u (224 + c / 4096), u (128 + c / 64 % 64), u (128 + c % 64)]
  else [u (240 + c / 262144), u (128 + c / 4096 % 64), u (128 + c / 64 % 64), u (128 + c % 64)]

theorem enc_len (c : Nat) : (enc c).length = if c < 128 then 1 else if c < 2048 then 2 else if c < 65536 then 3 else 4 := by
  unfold enc; repeat' split
  all_goals rfl
theorem enc_len_le (c : Nat) : 1 ≤ (enc c).length ∧ (enc c).length ≤ 4 := by
  rw [enc_len]; repeat' split
  all_goals omega

theorem encode_eq {c : Nat} (h : isSg c = true) : Utf8.encode (c : Int) = ⟨(enc c).toArray⟩ := by
  have h' := (isSg_iff c).1 h
  have hv : Utf8.valid (c : Int) = true := by simp [Utf8.valid]; omega
  simp only [Utf8.encode, hv, if_true, Int.toNat_natCast, enc]
  repeat' split
  all_goals rfl

/-- The four numbers by which a decoder goes. -/
def nb (l : List UInt8) (i : Nat) : Nat := (l.getD i 0).toNat
theorem nb_lt (l : List UInt8) (i : Nat) : nb l i < 256 := UInt8.toNat_lt _
def dec (l : List UInt8) : Nat × Nat := if l.length = 0 then (65533, 0) else decodeN l.length (nb l 0) (nb l 1) (nb l 2) (nb l 3)

theorem get_nb (s : ByteArray) (i : Nat) : (s.get! i).toNat = nb s.data.toList i := by
  unfold nb
  congr 1
  simp [ByteArray.get!, List.getD_eq_getElem?_getD, getElem!_def]
  cases h : s.data[i]?
  · simp; rfl
  · simp

theorem decode_drop (s : ByteArray) (i : Nat) (h : i < s.size) : Utf8.decode s i = dec (s.data.toList.drop i) := by
  have hl : (s.data.toList.drop i).length = s.size - i := by simp
  have hn : ¬ (s.data.toList.drop i).length = 0 := by omega
  have e : ∀ k, nb (s.data.toList.drop i) k = (s.get! (i + k)).toNat := fun k => by
    rw [get_nb]; unfold nb; simp [List.getD_eq_getElem?_getD, List.getElem?_drop]
  unfold dec
  rw [if_neg hn, decode_at, hl, e 0, e 1, e 2, e 3]
  simp only [Nat.add_zero]

/-- What is found at the front: a sign and how many bytes it has; or nothing. -/
def front (l : List UInt8) : Option (Nat × Nat) := if (dec l).2 = 0 ∨ ((dec l).1 = 65533 ∧ (dec l).2 = 1) then none else some (dec l)

set_option maxHeartbeats 4000000 in
theorem decN_split (n b0 b1 b2 b3 c k : Nat) (h1 : b1 < 256) (h2 : b2 < 256) (h3 : b3 < 256) (h : decodeN n b0 b1 b2 b3 = (c, k)) :
    (c = 65533 ∧ k = 1) ∨ (k = 1 ∧ c = b0 ∧ b0 < 128) ∨ (k = 2 ∧ 2 ≤ n ∧ 128 ≤ c ∧ c < 2048 ∧ b0 = 192 + c / 64 ∧ b1 = 128 + c % 64) ∨
    (k = 3 ∧ 3 ≤ n ∧ 2048 ≤ c ∧ c < 65536 ∧ (c < 55296 ∨ 57344 ≤ c) ∧ b0 = 224 + c / 4096 ∧ b1 = 128 + c / 64 % 64 ∧ b2 = 128 + c % 64) ∨
    (k = 4 ∧ 4 ≤ n ∧ 65536 ≤ c ∧ c ≤ 1114111 ∧ b0 = 240 + c / 262144 ∧ b1 = 128 + c / 4096 % 64 ∧ b2 = 128 + c / 64 % 64 ∧ b3 = 128 + c % 64) := by
  unfold decodeN at h
  repeat' split at h
  all_goals (simp only [Prod.mk.injEq] at h; obtain ⟨rfl, rfl⟩ := h; omega)

theorem decN_one (n b0 b1 b2 b3 : Nat) (h : b0 < 128) : decodeN n b0 b1 b2 b3 = (b0, 1) := by
  unfold decodeN; rw [if_pos h]
theorem decN_two (n b0 b1 b2 b3 c : Nat) (hn : 2 ≤ n) (ha : 128 ≤ c) (hb : c < 2048) (e0 : b0 = 192 + c / 64) (e1 : b1 = 128 + c % 64) : decodeN n b0 b1 b2 b3 = (c, 2) := by
  unfold decodeN
  rw [if_neg (by omega), if_pos (by omega), if_pos (by omega)]
  congr 1; omega
theorem decN_three (n b0 b1 b2 b3 c : Nat) (hn : 3 ≤ n) (ha : 2048 ≤ c) (hb : c < 65536) (hs : c < 55296 ∨ 57344 ≤ c) (e0 : b0 = 224 + c / 4096) (e1 : b1 = 128 + c / 64 % 64) (e2 : b2 = 128 + c % 64) :
    decodeN n b0 b1 b2 b3 = (c, 3) := by
  unfold decodeN
  rw [if_neg (by omega), if_neg (by omega), if_pos (by omega), if_pos (by omega)]
  congr 1; omega
theorem decN_four (n b0 b1 b2 b3 c : Nat) (hn : 4 ≤ n) (ha : 65536 ≤ c) (hb : c ≤ 1114111) (e0 : b0 = 240 + c / 262144) (e1 : b1 = 128 + c / 4096 % 64) (e2 : b2 = 128 + c / 64 % 64) (e3 : b3 = 128 + c % 64) :
    decodeN n b0 b1 b2 b3 = (c, 4) := by
  unfold decodeN
  rw [if_neg (by omega), if_neg (by omega), if_neg (by omega), if_pos (by omega), if_pos (by omega)]
  congr 1; omega

/-- A text that begins with a sign's bytes: that sign is found. -/
theorem dec_enc {c : Nat} (h : isSg c = true) (r : List UInt8) : dec (enc c ++ r) = (c, (enc c).length) := by
  have h' := (isSg_iff c).1 h
  have hne : ¬ (enc c ++ r).length = 0 := by have := (enc_len_le c).1; rw [List.length_append]; omega
  unfold dec
  rw [if_neg hne, enc_len]
  unfold enc at hne ⊢
  by_cases a : c < 128
  · simp only [a, if_true]
    exact (decN_one _ _ _ _ _ (by simp [nb]; rw [u_nat (by omega)]; exact a)).trans (by simp [nb]; rw [u_nat (by omega)])
  · by_cases b : c < 2048
    · simp only [a, b, if_true, if_false]
      exact decN_two _ _ _ _ _ c (by simp) (by omega) b (by simp [nb]; rw [u_nat (by omega)]) (by simp [nb]; rw [u_nat (by omega)])
    · by_cases d : c < 65536
      · simp only [a, b, d, if_true, if_false]
        exact decN_three _ _ _ _ _ c (by simp) (by omega) d (by omega) (by simp [nb]; rw [u_nat (by omega)]) (by simp [nb]; rw [u_nat (by omega)]) (by simp [nb]; rw [u_nat (by omega)])
      · simp only [a, b, d, if_false]
        exact decN_four _ _ _ _ _ c (by simp) (by omega) (by omega) (by simp [nb]; rw [u_nat (by omega)]) (by simp [nb]; rw [u_nat (by omega)]) (by simp [nb]; rw [u_nat (by omega)]) (by simp [nb]; rw [u_nat (by omega)])
theorem front_enc {c : Nat} (h : isSg c = true) (r : List UInt8) : front (enc c ++ r) = some (c, (enc c).length) := by
  unfold front
  rw [dec_enc h, if_neg]
  have h1 := enc_len_le c
  have h2 : c = 65533 → (enc c).length = 3 := fun e => by subst e; rfl
  show ¬ ((enc c).length = 0 ∨ (c = 65533 ∧ (enc c).length = 1))
  rintro (h3 | ⟨h3, h4⟩)
  · omega
  · have := h2 h3; omega

/-- What is found is a sign, and the text begins with its bytes. -/
theorem front_some {l : List UInt8} {c n : Nat} (h : front l = some (c, n)) : isSg c = true ∧ n = (enc c).length ∧ ∃ r, l = enc c ++ r := by
  unfold front at h
  split at h
  · cases h
  rename_i hno
  simp only [Option.some.injEq] at h
  rw [h] at hno
  have hl : ¬ l.length = 0 := fun e => by simp [dec, e] at h; omega
  unfold dec at h
  rw [if_neg hl] at h
  have hs := decN_split _ _ _ _ _ _ _ (nb_lt l 1) (nb_lt l 2) (nb_lt l 3) h
  rw [isSg_iff, enc_len]
  unfold enc
  rcases hs with hs | ⟨hk, hc, hb⟩ | ⟨hk, hn, ha, hb, e0, e1⟩ | ⟨hk, hn, ha, hb, hv, e0, e1, e2⟩ | ⟨hk, hn, ha, hb, e0, e1, e2, e3⟩
  · simp only at hno; omega
  · match l, hl with
    | x0 :: r, _ =>
      have hc' : x0.toNat = c := by simp [nb] at hc; exact hc.symm
      rw [if_pos (by omega), if_pos (by omega), u_of hc']
      exact ⟨by omega, hk, r, rfl⟩
  · match l, hn with
    | x0 :: x1 :: r, _ =>
      simp [nb] at e0 e1
      rw [if_neg (by omega), if_pos (by omega), if_neg (by omega), if_pos (by omega), u_of e0, u_of e1]
      exact ⟨by omega, hk, r, rfl⟩
  · match l, hn with
    | x0 :: x1 :: x2 :: r, _ =>
      simp [nb] at e0 e1 e2
      rw [if_neg (by omega), if_neg (by omega), if_pos (by omega), if_neg (by omega), if_neg (by omega), if_pos (by omega), u_of e0, u_of e1, u_of e2]
      exact ⟨by omega, hk, r, rfl⟩
  · match l, hn with
    | x0 :: x1 :: x2 :: x3 :: r, _ =>
      simp [nb] at e0 e1 e2 e3
      rw [if_neg (by omega), if_neg (by omega), if_neg (by omega), if_neg (by omega), if_neg (by omega), if_neg (by omega), u_of e0, u_of e1, u_of e2, u_of e3]
      exact ⟨by omega, hk, r, rfl⟩

theorem front_none_of {l : List UInt8} (h : ∀ c r, isSg c = true → l ≠ enc c ++ r) : front l = none := by
  cases e : front l with
  | none => rfl
  | some p =>
    obtain ⟨hs, _, r, hr⟩ := front_some (c := p.1) (n := p.2) e
    exact absurd hr (h _ _ hs)


end Go.Proofs.YtlklmoohoobjjaaGreatDoor.Sg

namespace Go.Proofs.YtlklmoohoobjjaaGreatDoor.Sg
open Go Go.Lib

def plain (c : Nat) : Bool := (c == 9 || c == 10 || c == 13) || (decide (32 ≤ c) && !(c == 65534) && !(c == 65535))
theorem plain_iff (c : Nat) : plain c = true ↔ ((c = 9 ∨ c = 10 ∨ c = 13) ∨ (32 ≤ c ∧ c ≠ 65534 ∧ c ≠ 65535)) := by
  simp [plain, and_assoc, or_assoc]
def ok (c : Nat) : Bool := isSg c && plain c
theorem ok_sg {c : Nat} (h : ok c = true) : isSg c = true := by unfold ok at h; simp at h; exact h.1
theorem ok_plain {c : Nat} (h : ok c = true) : plain c = true := by unfold ok at h; simp at h; exact h.2
theorem ok_mk {c : Nat} (h : isSg c = true) (k : plain c = true) : ok c = true := by unfold ok; rw [h, k]; rfl

def cat (cs : List Nat) : List UInt8 := cs.flatMap enc
theorem cat_nil : cat [] = [] := rfl
theorem cat_cons (c : Nat) (cs : List Nat) : cat (c :: cs) = enc c ++ cat cs := by simp [cat]
theorem cat_append (a b : List Nat) : cat (a ++ b) = cat a ++ cat b := by simp [cat]
theorem enc_ne (c : Nat) : enc c ≠ [] := fun e => by have := (enc_len_le c).1; rw [e] at this; simp at this
theorem cat_len (cs : List Nat) : cs.length ≤ (cat cs).length := by
  induction cs with
  | nil => simp
  | cons c r ih =>
    have := (enc_len_le c).1
    rw [cat_cons, List.length_append, List.length_cons]
    omega

/-- l is the bytes of the plain signs cs. -/
def IsT (l : List UInt8) (cs : List Nat) : Prop := (∀ c ∈ cs, ok c = true) ∧ l = cat cs

theorem IsT.nil : IsT [] [] := ⟨(fun _ h => by cases h), rfl⟩
theorem IsT.append {l m : List UInt8} {a b : List Nat} (h : IsT l a) (k : IsT m b) : IsT (l ++ m) (a ++ b) :=
  ⟨fun c hc => (List.mem_append.1 hc).elim (h.1 c) (k.1 c), by rw [h.2, k.2, cat_append]⟩
theorem IsT.one {c : Nat} (h : ok c = true) : IsT (enc c) [c] :=
  ⟨fun d hd => by rw [List.mem_singleton.1 hd]; exact h, by simp [cat]⟩
theorem IsT.cons {l : List UInt8} {c : Nat} {cs : List Nat} (h : IsT l (c :: cs)) : ok c = true ∧ ∃ r, l = enc c ++ r ∧ IsT r cs :=
  ⟨h.1 c (List.mem_cons_self ..), cat cs, by rw [h.2, cat_cons], fun d hd => h.1 d (List.mem_cons_of_mem _ hd), rfl⟩

theorem front_cons {c : Nat} (h : ok c = true) (r : List UInt8) : front (enc c ++ r) = some (c, (enc c).length) := front_enc (ok_sg h) r
theorem front_nil : front [] = none := by unfold front dec; simp

/-- Behind signs that were read: what stands there decides whether the whole is a text. -/
theorem IsT.tail {done cs : List Nat} {r : List UInt8} (hd : ∀ c ∈ done, ok c = true) (h : IsT (cat done ++ r) cs) : ∃ rest, cs = done ++ rest ∧ IsT r rest := by
  induction done generalizing cs with
  | nil => exact ⟨cs, rfl, by simpa [cat] using h⟩
  | cons d ds ih =>
    have hok := hd d (List.mem_cons_self ..)
    have hf : front (cat (d :: ds) ++ r) = some (d, (enc d).length) := by
      rw [cat_cons, List.append_assoc]; exact front_cons hok _
    cases cs with
    | nil =>
      have : cat (d :: ds) ++ r = [] := h.2
      rw [this, front_nil] at hf
      cases hf
    | cons c cs =>
      obtain ⟨hc, r', hr, ht⟩ := h.cons
      rw [hr, front_cons hc] at hf
      simp only [Option.some.injEq, Prod.mk.injEq] at hf
      obtain ⟨rfl, _⟩ := hf
      rw [cat_cons, List.append_assoc] at hr
      have := List.append_cancel_left hr
      rw [← this] at ht
      obtain ⟨rest, rfl, hrest⟩ := ih (fun x hx => hd x (List.mem_cons_of_mem _ hx)) ht
      exact ⟨rest, rfl, hrest⟩
theorem IsT.unique {l : List UInt8} {a b : List Nat} (h : IsT l a) (k : IsT l b) : a = b := by
  rw [h.2, ← List.append_nil (cat a)] at k
  obtain ⟨rest, rfl, hr⟩ := IsT.tail h.1 k
  cases rest with
  | nil => simp
  | cons c cs =>
    obtain ⟨_, r, hr', _⟩ := hr.cons
    have := congrArg List.length hr'
    have h1 := (enc_len_le c).1
    simp at this
    omega
/-- Where a text can't go on. -/
theorem not_text {done : List Nat} {l r : List UInt8} (hd : ∀ c ∈ done, ok c = true) (hl : l = cat done ++ r) (hne : r ≠ [])
    (hs : front r = none ∨ ∃ c n, front r = some (c, n) ∧ plain c = false) : ∀ cs, ¬ IsT l cs := by
  intro cs h
  rw [hl] at h
  obtain ⟨rest, _, hr⟩ := IsT.tail hd h
  cases rest with
  | nil => exact hne hr.2
  | cons c cs =>
    obtain ⟨hc, r', hr', _⟩ := hr.cons
    rw [hr', front_cons hc] at hs
    rcases hs with hs | ⟨c', n, hs, hp⟩
    · cases hs
    · simp only [Option.some.injEq, Prod.mk.injEq] at hs
      obtain ⟨rfl, _⟩ := hs
      rw [ok_plain hc] at hp
      cases hp
/-- One sign further. -/
theorem more_text {done : List Nat} {l r : List UInt8} {c n : Nat} (hd : ∀ c ∈ done, ok c = true) (hl : l = cat done ++ r) (hf : front r = some (c, n)) (hp : plain c = true) :
    (∀ d ∈ done ++ [c], ok d = true) ∧ l = cat (done ++ [c]) ++ r.drop n ∧ 1 ≤ n ∧ n ≤ r.length := by
  obtain ⟨hs, hn, r', hr⟩ := front_some hf
  have h1 := (enc_len_le c).1
  subst hn
  refine ⟨fun d hd' => ?_, ?_, h1, by rw [hr, List.length_append]; omega⟩
  · rcases List.mem_append.1 hd' with h | h
    · exact hd d h
    · rw [List.mem_singleton.1 h]; exact ok_mk hs hp
  · rw [hl, cat_append, List.append_assoc, hr]
    simp [cat]
/-- 65533 itself stands as three bytes. -/
theorem enc_65533 : enc 65533 = [239, 191, 189] := by decide
theorem front_65533 {l : List UInt8} {n : Nat} (h : front l = some (65533, n)) : ([239, 191, 189] : List UInt8).isPrefixOf l = true := by
  obtain ⟨_, _, r, hr⟩ := front_some h
  rw [hr, enc_65533]
  simp
theorem front_none_65533 {l : List UInt8} (h : front l = none) : ([239, 191, 189] : List UInt8).isPrefixOf l = false := by
  cases hp : ([239, 191, 189] : List UInt8).isPrefixOf l with
  | false => rfl
  | true =>
    obtain ⟨r, hr⟩ := List.isPrefixOf_iff_prefix.1 hp
    have := front_enc (c := 65533) (by decide) r
    rw [enc_65533, hr, h] at this
    cases this


end Go.Proofs.YtlklmoohoobjjaaGreatDoor.Sg

namespace Go.Proofs.YtlklmoohoobjjaaGreatDoor.By
open Go Go.Lib
def nb (l : List UInt8) (i : Nat) : Nat := (l.getD i 0).toNat
theorem nb_lt (l : List UInt8) (i : Nat) : nb l i < 256 := UInt8.toNat_lt _
theorem byte_nb (s : ByteArray) (k : Nat) (h : k < s.size) : (s[k]'h).toNat = nb s.data.toList k := by
  unfold nb
  have h' : k < s.data.size := h
  simp [List.getD_eq_getElem?_getD, Array.getElem?_eq_getElem h']
  rfl
theorem len_size (s : ByteArray) : s.data.toList.length = s.size := (Lib.size_eq s).symm
theorem extract_drop (s : ByteArray) (k : Nat) : (s.extract k s.size).data.toList = s.data.toList.drop k := by
  rw [Lib.extract_data, List.take_of_length_le (by rw [List.length_drop, ← Lib.size_eq]; exact Nat.le_refl _)]
theorem extract_cut (s : ByteArray) (i j : Nat) : (s.extract i j).data.toList = (s.data.toList.take j).drop i := by
  rw [Lib.extract_data, List.drop_take]
theorem bytes_ext {a b : ByteArray} (h : a.data.toList = b.data.toList) : a = b := ByteArray.ext (Array.toList_inj.1 h)
theorem append_list (a b : ByteArray) : (a ++ b).data.toList = a.data.toList ++ b.data.toList := by simp
theorem nonempty {R : ByteArray} (h : ¬ R.size = 0) : R.toList.isEmpty = false := by
  rw [ByteArray.toList_eq]
  cases e : R.data.toList with
  | nil => exact absurd (by rw [Lib.size_eq, e]; rfl) h
  | cons _ _ => rfl
theorem empty_of {R : ByteArray} (h : R.size = 0) : R = ⟨#[]⟩ := ByteArray.ext (Array.eq_empty_of_size_eq_zero h)
theorem drop_cons (l : List UInt8) (k : Nat) (h : k < l.length) : ∃ b, l.drop k = b :: l.drop (k + 1) ∧ nb l k = b.toNat := by
  refine ⟨l[k], List.drop_eq_getElem_cons h, ?_⟩
  unfold nb
  rw [List.getD_eq_getElem?_getD, List.getElem?_eq_getElem h]
  rfl
theorem nb_drop (l : List UInt8) (k j : Nat) : nb (l.drop k) j = nb l (k + j) := by
  unfold nb
  rw [List.getD_eq_getElem?_getD, List.getElem?_drop, ← List.getD_eq_getElem?_getD]
def u (n : Nat) : UInt8 := UInt8.ofNat n
theorem u_nat {n : Nat} (h : n < 256) : (u n).toNat = n := by
  unfold u
  simp
  exact h
theorem nat_u (b : UInt8) : u b.toNat = b := by unfold u; simp
theorem eq_of_nat {a b : UInt8} (h : a.toNat = b.toNat) : a = b := UInt8.toNat_inj.1 h
theorem nat_lt (b : UInt8) : b.toNat < 256 := UInt8.toNat_lt b


end Go.Proofs.YtlklmoohoobjjaaGreatDoor.By

namespace Go.Proofs.YtlklmoohoobjjaaGreatDoor.Tg

/-- An element: its space, its name, its attributes, its text, its kids. -/
inductive El where
  | mk (sp nm : ByteArray) (atr : List (ByteArray × ByteArray)) (tx : ByteArray) (ks : List El)

def El.sp : El → ByteArray | .mk s _ _ _ _ => s
def El.nm : El → ByteArray | .mk _ n _ _ _ => n
def El.atr : El → List (ByteArray × ByteArray) | .mk _ _ a _ _ => a
def El.tx : El → ByteArray | .mk _ _ _ t _ => t
def El.ks : El → List El | .mk _ _ _ _ k => k
theorem El.eta (e : El) : e = .mk e.sp e.nm e.atr e.tx e.ks := by cases e; rfl

/-- What holds of an element if it holds of its kids holds of all. -/
theorem El.ind {P : El → Prop} (h : ∀ sp nm atr tx ks, (∀ k ∈ ks, P k) → P (.mk sp nm atr tx ks)) (e : El) : P e :=
  El.rec (motive_1 := P) (motive_2 := fun l => ∀ k ∈ l, P k) (fun sp nm atr tx ks ih => h sp nm atr tx ks ih) (fun _ hk => by cases hk)
    (fun _ _ h1 h2 k hk => by
      cases hk with
      | head => exact h1
      | tail _ hk => exact h2 k hk) e

/-- A byte as it stands in a text. -/
def qb (c : UInt8) : List UInt8 :=
  if c = 38 then [38, 97, 109, 112, 59] else if c = 60 then [38, 108, 116, 59] else if c = 62 then [38, 103, 116, 59] else if c = 39 then [38, 97, 112, 111, 115, 59]
  else if c = 34 then [38, 113, 117, 111, 116, 59] else if c = 9 then [38, 35, 120, 57, 59] else if c = 10 then [38, 35, 120, 65, 59] else if c = 13 then [38, 35, 120, 68, 59] else [c]
def q (l : List UInt8) : List UInt8 := l.flatMap qb
def xmlns : List UInt8 := [120, 109, 108, 110, 115]
def mark (n v : List UInt8) : List UInt8 := [32] ++ n ++ [61, 39] ++ q v ++ [39]
def marks (l : List (ByteArray × ByteArray)) : List UInt8 := l.flatMap fun a => mark a.1.data.toList a.2.data.toList
def emp (tx : ByteArray) (ks : List El) : Bool := tx.data.toList.isEmpty && ks.isEmpty
/-- What stands ahead of the kids. -/
def beg (e : El) (s : ByteArray) : List UInt8 :=
  [60] ++ e.nm.data.toList ++ (if e.sp = s then [] else mark xmlns e.sp.data.toList) ++ marks e.atr ++ (if emp e.tx e.ks then [47, 62] else [62] ++ q e.tx.data.toList)
/-- What stands behind them. -/
def fin (e : El) : List UInt8 := if emp e.tx e.ks then [] else [60, 47] ++ e.nm.data.toList ++ [62]
mutual
/-- An element's text, in an element of that space. -/
def put : El → ByteArray → List UInt8
  | .mk sp nm atr tx ks, s => beg (.mk sp nm atr tx ks) s ++ puts ks sp ++ fin (.mk sp nm atr tx ks)
/-- The texts of some, one behind the other. -/
def puts : List El → ByteArray → List UInt8
  | [], _ => []
  | k :: r, s => put k s ++ puts r s
end
theorem put_eq (e : El) (s : ByteArray) : put e s = beg e s ++ puts e.ks e.sp ++ fin e := by cases e; rw [put]; rfl
theorem puts_nil (s : ByteArray) : puts [] s = [] := by rw [puts]
theorem puts_cons (k : El) (r : List El) (s : ByteArray) : puts (k :: r) s = put k s ++ puts r s := by rw [puts]
theorem puts_append (a b : List El) (s : ByteArray) : puts (a ++ b) s = puts a s ++ puts b s := by
  induction a with
  | nil => simp [puts_nil]
  | cons k r ih => simp [puts_cons, ih]

/-! ### Quotes -/
theorem q_nil : q [] = [] := rfl
theorem q_cons (c : UInt8) (l : List UInt8) : q (c :: l) = qb c ++ q l := by simp [q]
theorem q_append (a b : List UInt8) : q (a ++ b) = q a ++ q b := by simp [q]
/-- Bytes that have a mark in place of them. -/
def sp8 (c : UInt8) : Bool := c == 38 || c == 60 || c == 62 || c == 39 || c == 34 || c == 9 || c == 10 || c == 13
theorem all_bytes {P : UInt8 → Prop} (h : ∀ n : Fin 256, P (UInt8.ofNat n.val)) (c : UInt8) : P c := by
  have := h ⟨c.toNat, c.toNat_lt⟩
  rwa [UInt8.ofNat_toNat] at this
theorem qb_plain : ∀ c, sp8 c = false → qb c = [c] := by
  intro c h
  simp only [sp8, Bool.or_eq_false_iff, beq_eq_false_iff_ne] at h
  obtain ⟨⟨⟨⟨⟨⟨⟨h1, h2⟩, h3⟩, h4⟩, h5⟩, h6⟩, h7⟩, h8⟩ := h
  simp [qb, h1, h2, h3, h4, h5, h6, h7, h8]
theorem qb_mark {c : UInt8} (h : sp8 c = true) : ∃ r, qb c = 38 :: r ∧ 3 ≤ r.length := by
  simp only [sp8, Bool.or_eq_true, beq_iff_eq] at h
  rcases h with ((((((rfl | rfl) | rfl) | rfl) | rfl) | rfl) | rfl) | rfl <;> exact ⟨_, rfl, by decide⟩
theorem qb_len (c : UInt8) : 1 ≤ (qb c).length ∧ (qb c).length ≤ 6 := by
  cases h : sp8 c with
  | false => rw [qb_plain c h]; simp
  | true =>
    simp only [sp8, Bool.or_eq_true, beq_iff_eq] at h
    rcases h with ((((((rfl | rfl) | rfl) | rfl) | rfl) | rfl) | rfl) | rfl <;> decide
theorem q_len (l : List UInt8) : l.length ≤ (q l).length ∧ (q l).length ≤ 6 * l.length := by
  induction l with
  | nil => simp [q]
  | cons c r ih => have := qb_len c; rw [q_cons]; simp; omega
/-- No mark of an element's own stands in a quote. -/
theorem qb_no (c d : UInt8) (h : d ∈ qb c) : d ≠ 60 ∧ d ≠ 62 ∧ d ≠ 39 ∧ d ≠ 34 ∧ d ≠ 9 ∧ d ≠ 10 ∧ d ≠ 13 := by
  cases hs : sp8 c with
  | false =>
    rw [qb_plain c hs] at h
    simp only [List.mem_singleton] at h
    subst h
    simp only [sp8, Bool.or_eq_false_iff, beq_eq_false_iff_ne] at hs
    exact ⟨hs.1.1.1.1.1.1.2, hs.1.1.1.1.1.2, hs.1.1.1.1.2, hs.1.1.1.2, hs.1.1.2, hs.1.2, hs.2⟩
  | true =>
    simp only [sp8, Bool.or_eq_true, beq_iff_eq] at hs
    rcases hs with ((((((rfl | rfl) | rfl) | rfl) | rfl) | rfl) | rfl) | rfl <;>
      (simp [qb] at h; rcases h with rfl | rfl | h <;> first | decide | (rcases h with rfl | rfl | h <;> first | decide | (rcases h with rfl | rfl | h <;> first | decide | (subst h; decide)) | (rcases h with rfl | h <;> first | decide | (subst h; decide)) | (subst h; decide)) | (rcases h with rfl | h <;> first | decide | (subst h; decide)) | (subst h; decide))
theorem q_no {l : List UInt8} {d : UInt8} (h : d ∈ q l) : d ≠ 60 ∧ d ≠ 62 ∧ d ≠ 39 ∧ d ≠ 34 ∧ d ≠ 9 ∧ d ≠ 10 ∧ d ≠ 13 := by
  obtain ⟨c, _, hc⟩ := List.mem_flatMap.1 h
  exact qb_no c d hc
/-- A text stays as it is just if it has no such byte. -/
theorem q_same (l : List UInt8) : q l = l ↔ l.any sp8 = false := by
  constructor
  · intro h
    have hlen : ∀ m : List UInt8, m.any sp8 = true → m.length < (q m).length := by
      intro m
      induction m with
      | nil => intro h; cases h
      | cons c r ih =>
        intro h
        rw [q_cons, List.length_append, List.length_cons]
        have := q_len r
        simp only [List.any_cons, Bool.or_eq_true] at h
        rcases h with h | h
        · obtain ⟨x, hx, hl⟩ := qb_mark h
          rw [hx]; simp; omega
        · have := ih h
          have := qb_len c
          omega
    cases ha : l.any sp8 with
    | false => rfl
    | true => have := hlen l ha; rw [h] at this; omega
  · intro h
    induction l with
    | nil => rfl
    | cons c r ih =>
      simp only [List.any_cons, Bool.or_eq_false_iff] at h
      rw [q_cons, qb_plain c h.1, ih h.2]; rfl


end Go.Proofs.YtlklmoohoobjjaaGreatDoor.Tg

namespace Go.Proofs.YtlklmoohoobjjaaGreatDoor.Tg

/-- Two rows, each up to its first byte of another kind. -/
theorem span_eq {p : UInt8 → Prop} : ∀ {a b : List UInt8} {c d : UInt8} {x y : List UInt8}, (∀ z ∈ a, p z) → (∀ z ∈ b, p z) → ¬ p c → ¬ p d → a ++ c :: x = b ++ d :: y → a = b ∧ c :: x = d :: y
  | [], [], _, _, _, _, _, _, _, _, h => ⟨rfl, h⟩
  | [], u :: b, _, _, _, _, _, hb, hc, _, h => by
    simp only [List.nil_append, List.cons_append, List.cons.injEq] at h
    exact absurd (h.1 ▸ hb u (List.mem_cons_self ..)) hc
  | u :: a, [], _, _, _, _, ha, _, _, hd, h => by
    simp only [List.nil_append, List.cons_append, List.cons.injEq] at h
    exact absurd (h.1 ▸ ha u (List.mem_cons_self ..)) hd
  | u :: a, v :: b, _, _, _, _, ha, hb, hc, hd, h => by
    simp only [List.cons_append, List.cons.injEq] at h
    obtain ⟨rfl, h⟩ := h
    obtain ⟨h1, h2⟩ := span_eq (fun z hz => ha z (List.mem_cons_of_mem _ hz)) (fun z hz => hb z (List.mem_cons_of_mem _ hz)) hc hd h
    exact ⟨by rw [h1], h2⟩

/-- The bytes' marks are no front of one another. -/
theorem qb_cancel {c d : UInt8} {x y : List UInt8} (h : qb c ++ x = qb d ++ y) : c = d ∧ x = y := by
  cases hc : sp8 c with
  | false =>
    cases hd : sp8 d with
    | false =>
      rw [qb_plain c hc, qb_plain d hd] at h
      simp only [List.cons_append, List.nil_append, List.cons.injEq] at h
      exact h
    | true =>
      obtain ⟨r, hr, _⟩ := qb_mark hd
      rw [qb_plain c hc, hr] at h
      simp only [List.cons_append, List.nil_append, List.cons.injEq] at h
      obtain ⟨rfl, _⟩ := h
      simp [sp8] at hc
  | true =>
    cases hd : sp8 d with
    | false =>
      obtain ⟨r, hr, _⟩ := qb_mark hc
      rw [qb_plain d hd, hr] at h
      simp only [List.cons_append, List.nil_append, List.cons.injEq] at h
      obtain ⟨rfl, _⟩ := h
      simp [sp8] at hd
    | true =>
      simp only [sp8, Bool.or_eq_true, beq_iff_eq] at hc hd
      rcases hc with ((((((rfl | rfl) | rfl) | rfl) | rfl) | rfl) | rfl) | rfl <;>
        rcases hd with ((((((rfl | rfl) | rfl) | rfl) | rfl) | rfl) | rfl) | rfl <;>
          first | (simp [qb] at h; done) | (exact ⟨rfl, List.append_cancel_left h⟩)
/-- A quote tells its text. -/
theorem q_inj : ∀ {a b : List UInt8}, q a = q b → a = b
  | [], [], _ => rfl
  | [], c :: b, h => by
    have h1 := congrArg List.length h
    have h2 := qb_len c
    rw [q_cons, q_nil, List.length_append, List.length_nil] at h1
    omega
  | c :: a, [], h => by
    have h1 := congrArg List.length h
    have h2 := qb_len c
    rw [q_cons, q_nil, List.length_append, List.length_nil] at h1
    omega
  | c :: a, d :: b, h => by
    rw [q_cons, q_cons] at h
    obtain ⟨h1, h2⟩ := qb_cancel h
    rw [h1, q_inj h2]
theorem bytes_eq {a b : ByteArray} (h : a.data.toList = b.data.toList) : a = b := ByteArray.ext (Array.toList_inj.1 h)
/-- A quote, up to what ends it. -/
theorem q_cut {a b : List UInt8} {c : UInt8} {x y : List UInt8} (hc : c = 60 ∨ c = 39) (h : q a ++ c :: x = q b ++ c :: y) : a = b ∧ x = y := by
  have hn : ¬ (fun z : UInt8 => z ≠ 60 ∧ z ≠ 39) c := by rcases hc with rfl | rfl <;> simp
  obtain ⟨h1, h2⟩ := span_eq (p := fun z => z ≠ 60 ∧ z ≠ 39) (fun z hz => ⟨(q_no hz).1, (q_no hz).2.2.1⟩) (fun z hz => ⟨(q_no hz).1, (q_no hz).2.2.1⟩) hn hn h
  simp only [List.cons.injEq, true_and] at h2
  exact ⟨q_inj h1, h2⟩

/-! ### Marks -/
abbrev Mk := List (List UInt8 × List UInt8)
def mks (l : Mk) : List UInt8 := l.flatMap fun a => mark a.1 a.2
theorem mks_nil : mks [] = [] := rfl
theorem mks_cons (a : List UInt8 × List UInt8) (l : Mk) : mks (a :: l) = 32 :: (a.1 ++ 61 :: 39 :: (q a.2 ++ 39 :: mks l)) := by simp [mks, mark]
/-- Marks, up to what is behind them, if no name has a byte '='. -/
theorem mks_cut : ∀ {l m : Mk} {c d : UInt8} {x y : List UInt8}, (∀ a ∈ l, ∀ z ∈ a.1, z ≠ 61) → (∀ a ∈ m, ∀ z ∈ a.1, z ≠ 61) → c ≠ 32 → d ≠ 32 → mks l ++ c :: x = mks m ++ d :: y → l = m ∧ c :: x = d :: y
  | [], [], _, _, _, _, _, _, _, _, h => ⟨rfl, h⟩
  | [], a :: m, c, _, _, _, _, _, hc, _, h => by
    rw [mks_cons] at h
    simp only [mks_nil, List.nil_append, List.cons_append, List.cons.injEq] at h
    exact absurd h.1 hc
  | a :: l, [], _, d, _, _, _, _, _, hd, h => by
    rw [mks_cons] at h
    simp only [mks_nil, List.nil_append, List.cons_append, List.cons.injEq] at h
    exact absurd h.1.symm hd
  | a :: l, b :: m, c, d, x, y, hl, hm, hc, hd, h => by
    rw [mks_cons, mks_cons] at h
    simp only [List.cons_append, List.append_assoc, List.cons.injEq, true_and] at h
    obtain ⟨h1, h2⟩ := span_eq (p := fun z => z ≠ 61) (hl a (List.mem_cons_self ..)) (hm b (List.mem_cons_self ..)) (by simp) (by simp) h
    simp only [List.cons.injEq, true_and] at h2
    obtain ⟨h3, h4⟩ := q_cut (.inr rfl) h2
    obtain ⟨h5, h6⟩ := mks_cut (fun a ha => hl a (List.mem_cons_of_mem _ ha)) (fun a ha => hm a (List.mem_cons_of_mem _ ha)) hc hd h4
    obtain ⟨a1, a2⟩ := a
    obtain ⟨b1, b2⟩ := b
    simp only at h1 h3
    subst h1; subst h3; subst h5
    exact ⟨rfl, h6⟩

/-! ### Elements whose names are of the bytes of names -/
def nb1 (c : UInt8) : Prop := c ≠ 32 ∧ c ≠ 47 ∧ c ≠ 62 ∧ c ≠ 61
/-- A name: its first byte is none of '/', and no byte ends it. -/
def Nm (l : List UInt8) : Prop := ∀ z ∈ l, nb1 z
mutual
/-- What of an element its text needs. -/
def Wf : El → Prop
  | .mk sp nm atr _ ks => sp.size ≠ 0 ∧ nm.size ≠ 0 ∧ Nm nm.data.toList ∧ (∀ a ∈ atr, Nm a.1.data.toList ∧ a.1.data.toList ≠ xmlns) ∧ Wfs ks
def Wfs : List El → Prop
  | [] => True
  | k :: r => Wf k ∧ Wfs r
end
theorem Wf_eq (e : El) : Wf e ↔ (e.sp.size ≠ 0 ∧ e.nm.size ≠ 0 ∧ Nm e.nm.data.toList ∧ (∀ a ∈ e.atr, Nm a.1.data.toList ∧ a.1.data.toList ≠ xmlns) ∧ Wfs e.ks) := by cases e; rw [Wf]; rfl
theorem Wfs_mem : ∀ {l : List El}, Wfs l ↔ ∀ k ∈ l, Wf k
  | [] => by simp [Wfs]
  | k :: r => by rw [Wfs, Wfs_mem (l := r)]; simp

/-- All that looks like an attribute. -/
def look (e : El) (s : ByteArray) : Mk := (if e.sp = s then [] else [(xmlns, e.sp.data.toList)]) ++ e.atr.map fun a => (a.1.data.toList, a.2.data.toList)
theorem look_eq (e : El) (s : ByteArray) : mks (look e s) = (if e.sp = s then [] else mark xmlns e.sp.data.toList) ++ marks e.atr := by
  unfold look mks marks
  rw [List.flatMap_append]
  congr 1
  · split <;> simp
  · induction e.atr with
    | nil => rfl
    | cons a r ih => simp [ih]
theorem look_ok {e : El} (h : Wf e) (s : ByteArray) : ∀ a ∈ look e s, ∀ z ∈ a.1, z ≠ 61 := by
  obtain ⟨_, _, _, h4, _⟩ := (Wf_eq e).1 h
  intro a ha z hz
  rcases List.mem_append.1 ha with ha | ha
  · split at ha
    · cases ha
    · simp only [List.mem_singleton] at ha
      subst ha
      simp [xmlns] at hz
      rcases hz with rfl | rfl | rfl | rfl | rfl <;> decide
  · obtain ⟨b, hb, rfl⟩ := List.mem_map.1 ha
    exact ((h4 b hb).1 z hz).2.2.2
theorem atr_eq : ∀ {a b : List (ByteArray × ByteArray)}, (a.map fun a => (a.1.data.toList, a.2.data.toList)) = (b.map fun a => (a.1.data.toList, a.2.data.toList)) → a = b
  | [], [], _ => rfl
  | [], _ :: _, h => by simp at h
  | _ :: _, [], h => by simp at h
  | (a1, a2) :: l, (b1, b2) :: m, h => by
    simp only [List.map_cons, List.cons.injEq, Prod.mk.injEq] at h
    rw [bytes_eq h.1.1, bytes_eq h.1.2, atr_eq h.2]
/-- The looks of two tell their spaces and attributes. -/
theorem look_inj {e f : El} (he : Wf e) (hf : Wf f) {s : ByteArray} (h : look e s = look f s) : e.sp = f.sp ∧ e.atr = f.atr := by
  have hx : ∀ {g : El}, Wf g → ∀ a ∈ g.atr.map (fun a => (a.1.data.toList, a.2.data.toList)), a.1 ≠ xmlns := by
    intro g hg a ha
    obtain ⟨b, hb, rfl⟩ := List.mem_map.1 ha
    exact (((Wf_eq g).1 hg).2.2.2.1 b hb).2
  unfold look at h
  by_cases h1 : e.sp = s
  · by_cases h2 : f.sp = s
    · simp only [h1, h2, if_true, List.nil_append] at h
      exact ⟨h1.trans h2.symm, atr_eq h⟩
    · simp only [h1, h2, if_true, if_false, List.nil_append, List.cons_append] at h
      have := hx he (xmlns, f.sp.data.toList) (by rw [h]; exact List.mem_cons_self ..)
      exact absurd rfl this
  · by_cases h2 : f.sp = s
    · simp only [h1, h2, if_true, if_false, List.nil_append, List.cons_append] at h
      have := hx hf (xmlns, e.sp.data.toList) (by rw [← h]; exact List.mem_cons_self ..)
      exact absurd rfl this
    · simp only [h1, h2, if_false, List.nil_append, List.cons_append, List.cons.injEq, Prod.mk.injEq, true_and] at h
      exact ⟨bytes_eq h.1, atr_eq h.2⟩

/-- An element's text, part by part. -/
theorem put_parts (e : El) (s : ByteArray) (x : List UInt8) : put e s ++ x = 60 :: (e.nm.data.toList ++ (mks (look e s) ++
    (if emp e.tx e.ks then 47 :: 62 :: x else 62 :: (q e.tx.data.toList ++ (puts e.ks e.sp ++ 60 :: 47 :: (e.nm.data.toList ++ 62 :: x)))))) := by
  rw [put_eq, look_eq]
  unfold beg fin
  cases h : emp e.tx e.ks with
  | true =>
    have : e.ks = [] := by simp [emp] at h; exact h.2
    rw [this, puts_nil]
    simp
  | false => simp
theorem tail_eq (e : El) (x : List UInt8) : ∃ c y, (if emp e.tx e.ks then 47 :: 62 :: x else 62 :: (q e.tx.data.toList ++ (puts e.ks e.sp ++ 60 :: 47 :: (e.nm.data.toList ++ 62 :: x)))) = c :: y ∧ (c = 47 ∨ c = 62) := by
  split
  · exact ⟨_, _, rfl, .inl rfl⟩
  · exact ⟨_, _, rfl, .inr rfl⟩
theorem head_eq (l : Mk) (c : UInt8) (y : List UInt8) : ∃ d z, mks l ++ c :: y = d :: z ∧ (d = 32 ∨ d = c) := by
  cases l with
  | nil => exact ⟨_, _, rfl, .inr rfl⟩
  | cons a r => rw [mks_cons]; exact ⟨_, _, rfl, .inl rfl⟩
/-- A text of kids begins with '<' and a name's byte, or it is none. -/
theorem puts_head {k : El} (hk : Wf k) (r : List El) (s : ByteArray) (x : List UInt8) : ∃ c z, puts (k :: r) s ++ x = 60 :: c :: z ∧ c ≠ 47 := by
  rw [puts_cons, List.append_assoc, put_parts]
  obtain ⟨_, h2, h3, _⟩ := (Wf_eq k).1 hk
  have : k.nm.data.toList ≠ [] := fun e => h2 (by have := congrArg List.length e; simpa using this)
  cases hn : k.nm.data.toList with
  | nil => exact absurd hn this
  | cons c l => exact ⟨c, _, rfl, (h3 c (by rw [hn]; exact List.mem_cons_self ..)).2.1⟩
theorem puts_inj : ∀ {l m : List El}, (∀ k ∈ l, ∀ f, Wf k → Wf f → ∀ s x y, put k s ++ x = put f s ++ y → k = f ∧ x = y) → Wfs l → Wfs m → ∀ {s : ByteArray} {x y : List UInt8}, puts l s ++ 60 :: 47 :: x = puts m s ++ 60 :: 47 :: y → l = m ∧ x = y
  | [], [], _, _, _, _, _, _, h => by
    simp only [puts_nil, List.nil_append, List.cons.injEq, true_and] at h
    exact ⟨rfl, h⟩
  | [], k :: m, _, _, hm, s, x, y, h => by
    obtain ⟨c, z, hc, hn⟩ := puts_head (Wfs_mem.1 hm k (List.mem_cons_self ..)) m s (60 :: 47 :: y)
    rw [hc] at h
    simp only [puts_nil, List.nil_append, List.cons.injEq, true_and] at h
    exact absurd h.1.symm hn
  | k :: l, [], _, hl, _, s, x, y, h => by
    obtain ⟨c, z, hc, hn⟩ := puts_head (Wfs_mem.1 hl k (List.mem_cons_self ..)) l s (60 :: 47 :: x)
    rw [hc] at h
    simp only [puts_nil, List.nil_append, List.cons.injEq, true_and] at h
    exact absurd h.1 hn
  | k :: l, f :: m, ih, hl, hm, s, x, y, h => by
    rw [puts_cons, puts_cons, List.append_assoc, List.append_assoc] at h
    rw [Wfs] at hl hm
    obtain ⟨h1, h2⟩ := ih k (List.mem_cons_self ..) f hl.1 hm.1 s _ _ h
    obtain ⟨h3, h4⟩ := puts_inj (fun k hk => ih k (List.mem_cons_of_mem _ hk)) hl.2 hm.2 h2
    exact ⟨by rw [h1, h3], h4⟩
/-- Unlike elements have unlike texts, and none is a front of another's. -/
theorem put_inj (e : El) : ∀ f, Wf e → Wf f → ∀ s x y, put e s ++ x = put f s ++ y → e = f ∧ x = y := by
  refine El.ind (P := fun e => ∀ f, Wf e → Wf f → ∀ s x y, put e s ++ x = put f s ++ y → e = f ∧ x = y) (fun sp nm atr tx ks ih => ?_) e
  intro f he hf s x y h
  generalize hE : El.mk sp nm atr tx ks = E at he h
  have hks : E.ks = ks := by rw [← hE]; rfl
  rw [← hks] at ih
  clear hE hks
  have he' := (Wf_eq E).1 he
  have hf' := (Wf_eq f).1 hf
  rw [put_parts, put_parts] at h
  simp only [List.cons.injEq, true_and] at h
  obtain ⟨c1, y1, e1, hc1⟩ := tail_eq E x
  obtain ⟨c2, y2, e2, hc2⟩ := tail_eq f y
  rw [e1, e2] at h
  obtain ⟨d1, z1, g1, hd1⟩ := head_eq (look E s) c1 y1
  obtain ⟨d2, z2, g2, hd2⟩ := head_eq (look f s) c2 y2
  have n1 : ¬ nb1 d1 := by
    rintro ⟨a, b, c, _⟩
    rcases hd1 with rfl | rfl
    · exact a rfl
    · rcases hc1 with rfl | rfl
      · exact b rfl
      · exact c rfl
  have n2 : ¬ nb1 d2 := by
    rintro ⟨a, b, c, _⟩
    rcases hd2 with rfl | rfl
    · exact a rfl
    · rcases hc2 with rfl | rfl
      · exact b rfl
      · exact c rfl
  rw [g1, g2] at h
  obtain ⟨hnm, h⟩ := span_eq (p := nb1) he'.2.2.1 hf'.2.2.1 n1 n2 h
  rw [← g1, ← g2] at h
  obtain ⟨hlk, h⟩ := mks_cut (look_ok he s) (look_ok hf s) (by rcases hc1 with rfl | rfl <;> decide) (by rcases hc2 with rfl | rfl <;> decide) h
  obtain ⟨hsp, hat⟩ := look_inj he hf hlk
  rw [← e1, ← e2] at h
  have hn := bytes_eq hnm
  cases hm1 : emp E.tx E.ks with
  | true =>
    cases hm2 : emp f.tx f.ks with
    | true =>
      rw [hm1, hm2] at h
      simp only [if_true, List.cons.injEq, true_and] at h
      simp only [emp, Bool.and_eq_true, List.isEmpty_iff] at hm1 hm2
      refine ⟨?_, h⟩
      rw [El.eta E, El.eta f, hsp, hn, hat, bytes_eq (hm1.1.trans hm2.1.symm), hm1.2, hm2.2]
    | false =>
      rw [hm1, hm2] at h
      simp at h
  | false =>
    cases hm2 : emp f.tx f.ks with
    | true =>
      rw [hm1, hm2] at h
      simp at h
    | false =>
      rw [hm1, hm2] at h
      simp only [Bool.false_eq_true, if_false, List.cons.injEq, true_and] at h
      obtain ⟨p1, q1, r1⟩ : ∃ p r, puts E.ks E.sp ++ 60 :: 47 :: (E.nm.data.toList ++ 62 :: x) = 60 :: p ∧ p = r := by
        cases hk : E.ks with
        | nil => exact ⟨_, _, by rw [puts_nil]; rfl, rfl⟩
        | cons k r =>
          obtain ⟨c, z, hc, _⟩ := puts_head (Wfs_mem.1 he'.2.2.2.2 k (by rw [hk]; exact List.mem_cons_self ..)) r E.sp (60 :: 47 :: (E.nm.data.toList ++ 62 :: x))
          exact ⟨_, _, hc, rfl⟩
      obtain ⟨p2, q2, r2⟩ : ∃ p r, puts f.ks f.sp ++ 60 :: 47 :: (f.nm.data.toList ++ 62 :: y) = 60 :: p ∧ p = r := by
        cases hk : f.ks with
        | nil => exact ⟨_, _, by rw [puts_nil]; rfl, rfl⟩
        | cons k r =>
          obtain ⟨c, z, hc, _⟩ := puts_head (Wfs_mem.1 hf'.2.2.2.2 k (by rw [hk]; exact List.mem_cons_self ..)) r f.sp (60 :: 47 :: (f.nm.data.toList ++ 62 :: y))
          exact ⟨_, _, hc, rfl⟩
      rw [r1.1, r2.1] at h
      obtain ⟨htx, h⟩ := q_cut (.inl rfl) h
      have h2 : puts E.ks E.sp ++ 60 :: 47 :: (E.nm.data.toList ++ 62 :: x) = puts f.ks E.sp ++ 60 :: 47 :: (f.nm.data.toList ++ 62 :: y) := by rw [r1.1, hsp, r2.1, h]
      obtain ⟨hks, h3⟩ := puts_inj ih he'.2.2.2.2 hf'.2.2.2.2 h2
      rw [hnm] at h3
      have h4 := List.append_cancel_left h3
      simp only [List.cons.injEq, true_and] at h4
      refine ⟨?_, h4⟩
      rw [El.eta E, El.eta f, hsp, hn, hat, bytes_eq htx, hks]
/-- Unlike elements have unlike texts. -/
theorem put_apart {e f : El} (he : Wf e) (hf : Wf f) {s : ByteArray} (h : put e s = put f s) : e = f :=
  (put_inj e f he hf s [] [] (by rw [h])).1


end Go.Proofs.YtlklmoohoobjjaaGreatDoor.Tg

namespace Go.Proofs.YtlklmoohoobjjaaGreatDoor.Tg
open Go.Proofs.YtlklmoohoobjjaaGreatDoor.Sg

/-! ### Names -/
def bgn (n : Nat) : Bool := (decide (97 ≤ n) && decide (n ≤ 122)) || (decide (65 ≤ n) && decide (n ≤ 90)) || n == 95
def fol (n : Nat) : Bool := (decide (48 ≤ n) && decide (n ≤ 57)) || n == 45 || n == 46
def nameB (l : List UInt8) : Bool := !l.isEmpty && decide (l.length ≤ 64) && bgn (nb l 0) && l.all fun c => bgn c.toNat || fol c.toNat
def xlang : List UInt8 := [120, 109, 108, 58, 108, 97, 110, 103]
def attrNameB (l : List UInt8) : Bool := l == xlang || (!(l == xmlns) && nameB l)
noncomputable def isTx (l : List UInt8) : Bool := @decide (∃ cs, IsT l cs) (Classical.propDecidable _)
theorem isTx_iff (l : List UInt8) : isTx l = true ↔ ∃ cs, IsT l cs := by unfold isTx; exact @decide_eq_true_iff _ (Classical.propDecidable _)
noncomputable def spaceB (l : List UInt8) : Bool := !l.isEmpty && decide (l.length ≤ 256) && isTx l
/-- Whether some of these have that name. -/
def hasB (l : List (ByteArray × ByteArray)) (n : ByteArray) : Bool := l.any fun a => a.1.data.toList == n.data.toList
noncomputable def attrB (pre : List (ByteArray × ByteArray)) (a : ByteArray × ByteArray) : Bool := attrNameB a.1.data.toList && !hasB pre a.1 && isTx a.2.data.toList
noncomputable def attrsFrom (pre : List (ByteArray × ByteArray)) : List (ByteArray × ByteArray) → Bool
  | [] => true
  | a :: r => attrB pre a && attrsFrom (pre ++ [a]) r
noncomputable def attrsB (l : List (ByteArray × ByteArray)) : Bool := attrsFrom [] l
noncomputable def mayB (e : El) : Bool := nameB e.nm.data.toList && spaceB e.sp.data.toList && decide (e.atr.length ≤ 16) && isTx e.tx.data.toList && attrsB e.atr

/-- The k-th of the attributes fails, and those ahead of it don't: some fail. -/
theorem attrs_fail {l : List (ByteArray × ByteArray)} {k : Nat} (hk : k < l.length) (h : attrB (l.take k) l[k] = false) : attrsB l = false := by
  have : ∀ (r pre : List (ByteArray × ByteArray)) (j : Nat) (hj : j < r.length), attrB (pre ++ r.take j) r[j] = false → attrsFrom pre r = false := by
    intro r
    induction r with
    | nil => intro pre j hj; cases hj
    | cons a r ih =>
      intro pre j hj hf
      rw [attrsFrom]
      cases j with
      | zero => simp at hf; rw [hf]; rfl
      | succ j =>
        have := ih (pre ++ [a]) j (by simpa using hj) (by simpa using hf)
        rw [this]; simp
  exact this l [] k hk (by simpa using h)
theorem attrs_good {l : List (ByteArray × ByteArray)} (h : ∀ k (hk : k < l.length), attrB (l.take k) l[k] = true) : attrsB l = true := by
  have : ∀ (r pre : List (ByteArray × ByteArray)), (∀ j (hj : j < r.length), attrB (pre ++ r.take j) r[j] = true) → attrsFrom pre r = true := by
    intro r
    induction r with
    | nil => intro pre _; rfl
    | cons a r ih =>
      intro pre hf
      rw [attrsFrom]
      have h0 := hf 0 (by simp)
      simp at h0
      rw [h0, ih (pre ++ [a]) (fun j hj => by have := hf (j + 1) (by simpa using hj); simpa using this)]
      rfl
  exact this l [] (fun j hj => by simpa using h j hj)
theorem attrs_all {l : List (ByteArray × ByteArray)} (h : attrsB l = true) : ∀ a ∈ l, attrNameB a.1.data.toList = true := by
  have : ∀ (r pre : List (ByteArray × ByteArray)), attrsFrom pre r = true → ∀ a ∈ r, attrNameB a.1.data.toList = true := by
    intro r
    induction r with
    | nil => intro _ _ a ha; cases ha
    | cons b r ih =>
      intro pre hf a ha
      rw [attrsFrom] at hf
      simp only [Bool.and_eq_true] at hf
      rcases List.mem_cons.1 ha with rfl | ha
      · have := hf.1
        unfold attrB at this
        simp only [Bool.and_eq_true] at this
        exact this.1.1
      · exact ih _ hf.2 a ha
  exact this l [] h

/-! ### Check -/
mutual
/-- What Check finds of an element, and how many bytes are left behind it. -/
noncomputable def lk : El → ByteArray → Nat → Int → Bool × Int
  | .mk sp nm atr tx ks, s, d, left =>
    if 16 < d ∨ mayB (.mk sp nm atr tx ks) = false then (false, left)
    else if left - (((beg (.mk sp nm atr tx ks) s).length : Int) + ((fin (.mk sp nm atr tx ks)).length : Int)) < 0 then (false, left - (((beg (.mk sp nm atr tx ks) s).length : Int) + ((fin (.mk sp nm atr tx ks)).length : Int)))
    else lks ks sp (d + 1) (left - (((beg (.mk sp nm atr tx ks) s).length : Int) + ((fin (.mk sp nm atr tx ks)).length : Int)))
noncomputable def lks : List El → ByteArray → Nat → Int → Bool × Int
  | [], _, _, left => (true, left)
  | k :: r, s, d, left => if (lk k s d left).1 = true then lks r s d (lk k s d left).2 else (false, (lk k s d left).2)
end
theorem lk_eq (e : El) (s : ByteArray) (d : Nat) (left : Int) : lk e s d left =
    if 16 < d ∨ mayB e = false then (false, left)
    else if left - (((beg e s).length : Int) + ((fin e).length : Int)) < 0 then (false, left - (((beg e s).length : Int) + ((fin e).length : Int)))
    else lks e.ks e.sp (d + 1) (left - (((beg e s).length : Int) + ((fin e).length : Int))) := by cases e; rw [lk]; rfl
noncomputable def chkB (e : El) : Bool := (lk e ByteArray.empty 1 16384).1

theorem nameB_ok {l : List UInt8} (h : nameB l = true) : l ≠ [] ∧ Nm l := by
  unfold nameB at h
  simp only [Bool.and_eq_true, Bool.not_eq_true', List.isEmpty_eq_false_iff, List.all_eq_true] at h
  refine ⟨h.1.1.1, fun z hz => ?_⟩
  have := h.2 z hz
  refine ⟨?_, ?_, ?_, ?_⟩ <;> (rintro rfl; revert this; decide)
theorem attrNameB_ok {l : List UInt8} (h : attrNameB l = true) : Nm l ∧ l ≠ xmlns := by
  unfold attrNameB at h
  simp only [Bool.or_eq_true, beq_iff_eq, Bool.and_eq_true, Bool.not_eq_true', beq_eq_false_iff_ne] at h
  rcases h with rfl | ⟨h1, h2⟩
  · exact ⟨fun z hz => by simp [xlang] at hz; rcases hz with rfl | rfl | rfl | rfl | rfl | rfl | rfl | rfl <;> (refine ⟨?_, ?_, ?_, ?_⟩ <;> decide), by decide⟩
  · exact ⟨(nameB_ok h2).2, h1⟩
theorem size_ne {s : ByteArray} (h : s.data.toList ≠ []) : s.size ≠ 0 := fun e => h (List.length_eq_zero_iff.1 (by simpa using e))
/-- What Check lets by has names of the bytes of names. -/
theorem lk_wf (e : El) : ∀ s d left, (lk e s d left).1 = true → Wf e := by
  refine El.ind (P := fun e => ∀ s d left, (lk e s d left).1 = true → Wf e) (fun sp nm atr tx ks ih => ?_) e
  intro s d left h
  rw [lk] at h
  split at h
  · cases h
  rename_i hm
  split at h
  · cases h
  have hk : Wfs ks := by
    clear hm
    revert h
    generalize left - _ = l
    have : ∀ (m : List El) (l : Int), (∀ k ∈ m, ∀ s d left, (lk k s d left).1 = true → Wf k) → (lks m sp (d + 1) l).1 = true → Wfs m := by
      intro m
      induction m with
      | nil => intro _ _ _; simp [Wfs]
      | cons k r ihm =>
        intro l hi hr
        rw [lks] at hr
        split at hr
        · rename_i h1
          rw [Wfs]
          exact ⟨hi k (List.mem_cons_self ..) _ _ _ h1, ihm _ (fun k hk => hi k (List.mem_cons_of_mem _ hk)) hr⟩
        · cases hr
    exact this ks l ih
  have hm : mayB (.mk sp nm atr tx ks) = true := by
    cases hb : mayB (.mk sp nm atr tx ks) with
    | true => rfl
    | false => exact absurd (.inr hb) hm
  unfold mayB at hm
  simp only [Bool.and_eq_true, El.nm, El.sp, El.atr, El.tx] at hm
  obtain ⟨⟨⟨⟨h1, h2⟩, _⟩, _⟩, h5⟩ := hm
  rw [Wf]
  refine ⟨size_ne ?_, size_ne (nameB_ok h1).1, (nameB_ok h1).2, fun a ha => attrNameB_ok (attrs_all h5 a ha), hk⟩
  unfold spaceB at h2
  simp only [Bool.and_eq_true, Bool.not_eq_true', List.isEmpty_eq_false_iff] at h2
  exact h2.1.1
theorem chk_wf {e : El} (h : chkB e = true) : Wf e := lk_wf e _ _ _ h

/-! ### Same -/
def sameA : List (ByteArray × ByteArray) → List (ByteArray × ByteArray) → Bool
  | [], [] => true
  | a :: l, b :: m => (a.1.data.toList == b.1.data.toList && a.2.data.toList == b.2.data.toList) && sameA l m
  | _, _ => false
/-- Whether two are the same. -/
noncomputable def same (e f : El) : Bool := @decide (e = f) (Classical.propDecidable _)
theorem same_iff (e f : El) : same e f = true ↔ e = f := by unfold same; exact @decide_eq_true_iff _ (Classical.propDecidable _)
theorem same_no {e f : El} (h : e ≠ f) : same e f = false := by rw [Bool.eq_false_iff, ne_eq, same_iff]; exact h

/-! ### How much an element is -/
def wtA (l : List (ByteArray × ByteArray)) : Nat := (l.map fun a => a.1.size + a.2.size).sum
mutual
def wt : El → Nat
  | .mk sp nm atr tx ks => 1 + sp.size + nm.size + tx.size + atr.length + wtA atr + wts ks
def wts : List El → Nat
  | [] => 0
  | k :: r => wt k + wts r
end
theorem wt_eq (e : El) : wt e = 1 + e.sp.size + e.nm.size + e.tx.size + e.atr.length + wtA e.atr + wts e.ks := by cases e; rw [wt]; rfl
theorem wt_pos (e : El) : 1 ≤ wt e := by rw [wt_eq]; omega
theorem wtA_cons (a : ByteArray × ByteArray) (l : List (ByteArray × ByteArray)) : wtA (a :: l) = a.1.size + a.2.size + wtA l := by simp [wtA]
theorem wtA_append (l m : List (ByteArray × ByteArray)) : wtA (l ++ m) = wtA l + wtA m := by simp [wtA]
theorem wtA_take {l : List (ByteArray × ByteArray)} {k : Nat} (h : k < l.length) : wtA (l.take (k + 1)) = wtA (l.take k) + l[k].1.size + l[k].2.size := by
  rw [List.take_succ_eq_append_getElem h, wtA_append]; simp [wtA]; omega
theorem wts_append (l m : List El) : wts (l ++ m) = wts l + wts m := by
  induction l with
  | nil => simp [wts]
  | cons k r ih => simp only [List.cons_append, wts, ih]; omega
theorem wts_take {l : List El} {k : Nat} (h : k < l.length) : wts (l.take (k + 1)) = wts (l.take k) + wt l[k] := by
  rw [List.take_succ_eq_append_getElem h, wts_append]; simp [wts]
theorem wts_mem {l : List El} {k : El} (h : k ∈ l) : wt k ≤ wts l := by
  induction l with
  | nil => cases h
  | cons a r ih =>
    rw [wts]
    cases h with
    | head => omega
    | tail _ h => have := ih h; omega
theorem wts_len (l : List El) : l.length ≤ wts l := by
  induction l with
  | nil => simp
  | cons a r ih => rw [wts, List.length_cons]; have := wt_pos a; omega
theorem wtA_mem {l : List (ByteArray × ByteArray)} {a : ByteArray × ByteArray} (h : a ∈ l) : a.1.size + a.2.size ≤ wtA l := by
  induction l with
  | nil => cases h
  | cons b r ih =>
    rw [wtA_cons]
    cases h with
    | head => omega
    | tail _ h => have := ih h; omega
theorem len_size (s : ByteArray) : s.data.toList.length = s.size := by simp
theorem mark_len (n v : List UInt8) : (mark n v).length ≤ 4 + n.length + 6 * v.length := by have := q_len v; simp [mark]; omega
theorem marks_len (l : List (ByteArray × ByteArray)) : (marks l).length ≤ 4 * l.length + 6 * wtA l := by
  induction l with
  | nil => simp [marks]
  | cons a r ih =>
    have h1 : marks (a :: r) = mark a.1.data.toList a.2.data.toList ++ marks r := by simp [marks]
    have h2 := mark_len a.1.data.toList a.2.data.toList
    rw [len_size, len_size] at h2
    rw [h1, List.length_append, wtA_cons, List.length_cons]
    omega
/-- An element's text is not much longer than the element. -/
theorem beg_len (e : El) (s : ByteArray) : (beg e s).length ≤ 12 + 6 * e.sp.size + e.nm.size + 6 * e.tx.size + 4 * e.atr.length + 6 * wtA e.atr := by
  unfold beg
  have h1 := marks_len e.atr
  have h2 := q_len e.tx.data.toList
  have h3 := mark_len xmlns e.sp.data.toList
  rw [len_size] at h2 h3
  simp only [List.length_append, List.length_cons, List.length_nil, len_size]
  have h4 : (if e.sp = s then ([] : List UInt8) else mark xmlns e.sp.data.toList).length ≤ 9 + 6 * e.sp.size := by
    split
    · simp
    · have : xmlns.length = 5 := rfl
      omega
  have h5 : (if emp e.tx e.ks = true then ([47, 62] : List UInt8) else [62] ++ q e.tx.data.toList).length ≤ 2 + 6 * e.tx.size := by
    split
    · simp
    · simp; omega
  omega
theorem fin_len (e : El) : (fin e).length ≤ 3 + e.nm.size := by
  unfold fin
  split
  · simp
  · simp; omega
theorem put_len (e : El) : ∀ s, (put e s).length ≤ 20 * wt e := by
  refine El.ind (P := fun e => ∀ s, (put e s).length ≤ 20 * wt e) (fun sp nm atr tx ks ih => ?_) e
  intro s
  have hk : (puts ks sp).length ≤ 20 * wts ks := by
    have : ∀ m : List El, (∀ k ∈ m, ∀ s, (put k s).length ≤ 20 * wt k) → (puts m sp).length ≤ 20 * wts m := by
      intro m
      induction m with
      | nil => intro _; simp [puts, wts]
      | cons k r ihm =>
        intro hi
        rw [puts, wts, List.length_append]
        have := hi k (List.mem_cons_self ..) sp
        have := ihm (fun k hk => hi k (List.mem_cons_of_mem _ hk))
        omega
    exact this ks ih
  have h1 := beg_len (.mk sp nm atr tx ks) s
  have h2 := fin_len (.mk sp nm atr tx ks)
  simp only [El.sp, El.nm, El.tx, El.atr] at h1 h2
  rw [put, wt, List.length_append, List.length_append]
  omega


end Go.Proofs.YtlklmoohoobjjaaGreatDoor.Tg
