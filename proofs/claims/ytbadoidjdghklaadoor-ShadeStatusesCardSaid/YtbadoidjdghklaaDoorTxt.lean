/- Plain mathematics of texts: a list of bytes is a text just if it is the bytes of plain signs, one behind the other; these signs are unlike for unlike texts. No condition; nothing of the program stands here. -/
import Derived.Test.YtbadoidjdghklaaDoorSg
namespace Go.Proofs.YtbadoidjdghklaaDoor.Sg
open Go Go.Lib

def plain (c : Nat) : Bool := (c == 9 || c == 10 || c == 13) || (decide (32 ≤ c) && !(c == 65534) && !(c == 65535))
theorem plain_iff (c : Nat) : plain c = true ↔ ((c = 9 ∨ c = 10 ∨ c = 13) ∨ (32 ≤ c ∧ c ≠ 65534 ∧ c ≠ 65535)) := by
  simp [plain, and_assoc, or_assoc]
def ok (c : Nat) : Bool := isSg c && plain c
theorem ok_sg {c : Nat} (h : ok c = true) : isSg c = true := by unfold ok at h; simp at h; exact h.1
theorem ok_plain {c : Nat} (h : ok c = true) : plain c = true := by unfold ok at h; simp at h; exact h.2
theorem ok_mk {c : Nat} (h : isSg c = true) (k : plain c = true) : ok c = true := by unfold ok; rw [h, k]; rfl

def cat (cs : List Nat) : List UInt8 := cs.flatMap enc
theorem cat_nil : cat [] = [] := rfl
theorem cat_cons (c : Nat) (cs : List Nat) : cat (c :: cs) = enc c ++ cat cs := by simp [cat]
theorem cat_append (a b : List Nat) : cat (a ++ b) = cat a ++ cat b := by simp [cat]
theorem enc_ne (c : Nat) : enc c ≠ [] := fun e => by have := (enc_len_le c).1; rw [e] at this; simp at this
theorem cat_len (cs : List Nat) : cs.length ≤ (cat cs).length := by
  induction cs with
  | nil => simp
  | cons c r ih =>
    have := (enc_len_le c).1
    rw [cat_cons, List.length_append, List.length_cons]
    omega

/-- l is the bytes of the plain signs cs. -/
def IsT (l : List UInt8) (cs : List Nat) : Prop := (∀ c ∈ cs, ok c = true) ∧ l = cat cs

theorem IsT.nil : IsT [] [] := ⟨(fun _ h => by cases h), rfl⟩
theorem IsT.append {l m : List UInt8} {a b : List Nat} (h : IsT l a) (k : IsT m b) : IsT (l ++ m) (a ++ b) :=
  ⟨fun c hc => (List.mem_append.1 hc).elim (h.1 c) (k.1 c), by rw [h.2, k.2, cat_append]⟩
theorem IsT.one {c : Nat} (h : ok c = true) : IsT (enc c) [c] :=
  ⟨fun d hd => by rw [List.mem_singleton.1 hd]; exact h, by simp [cat]⟩
theorem IsT.cons {l : List UInt8} {c : Nat} {cs : List Nat} (h : IsT l (c :: cs)) : ok c = true ∧ ∃ r, l = enc c ++ r ∧ IsT r cs :=
  ⟨h.1 c (List.mem_cons_self ..), cat cs, by rw [h.2, cat_cons], fun d hd => h.1 d (List.mem_cons_of_mem _ hd), rfl⟩

theorem front_cons {c : Nat} (h : ok c = true) (r : List UInt8) : front (enc c ++ r) = some (c, (enc c).length) := front_enc (ok_sg h) r
theorem front_nil : front [] = none := by unfold front dec; simp

/-- Behind signs that were read: what stands there decides whether the whole is a text. -/
theorem IsT.tail {done cs : List Nat} {r : List UInt8} (hd : ∀ c ∈ done, ok c = true) (h : IsT (cat done ++ r) cs) : ∃ rest, cs = done ++ rest ∧ IsT r rest := by
  induction done generalizing cs with
  | nil => exact ⟨cs, rfl, by simpa [cat] using h⟩
  | cons d ds ih =>
    have hok := hd d (List.mem_cons_self ..)
    have hf : front (cat (d :: ds) ++ r) = some (d, (enc d).length) := by
      rw [cat_cons, List.append_assoc]; exact front_cons hok _
    cases cs with
    | nil =>
      have : cat (d :: ds) ++ r = [] := h.2
      rw [this, front_nil] at hf
      cases hf
    | cons c cs =>
      obtain ⟨hc, r', hr, ht⟩ := h.cons
      rw [hr, front_cons hc] at hf
      simp only [Option.some.injEq, Prod.mk.injEq] at hf
      obtain ⟨rfl, _⟩ := hf
      rw [cat_cons, List.append_assoc] at hr
      have := List.append_cancel_left hr
      rw [← this] at ht
      obtain ⟨rest, rfl, hrest⟩ := ih (fun x hx => hd x (List.mem_cons_of_mem _ hx)) ht
      exact ⟨rest, rfl, hrest⟩
theorem IsT.unique {l : List UInt8} {a b : List Nat} (h : IsT l a) (k : IsT l b) : a = b := by
  rw [h.2, ← List.append_nil (cat a)] at k
  obtain ⟨rest, rfl, hr⟩ := IsT.tail h.1 k
  cases rest with
  | nil => simp
  | cons c cs =>
    obtain ⟨_, r, hr', _⟩ := hr.cons
    have := congrArg List.length hr'
    have h1 := (enc_len_le c).1
    simp at this
    omega
/-- Where a text can't go on. -/
theorem not_text {done : List Nat} {l r : List UInt8} (hd : ∀ c ∈ done, ok c = true) (hl : l = cat done ++ r) (hne : r ≠ [])
    (hs : front r = none ∨ ∃ c n, front r = some (c, n) ∧ plain c = false) : ∀ cs, ¬ IsT l cs := by
  intro cs h
  rw [hl] at h
  obtain ⟨rest, _, hr⟩ := IsT.tail hd h
  cases rest with
  | nil => exact hne hr.2
  | cons c cs =>
    obtain ⟨hc, r', hr', _⟩ := hr.cons
    rw [hr', front_cons hc] at hs
    rcases hs with hs | ⟨c', n, hs, hp⟩
    · cases hs
    · simp only [Option.some.injEq, Prod.mk.injEq] at hs
      obtain ⟨rfl, _⟩ := hs
      rw [ok_plain hc] at hp
      cases hp
/-- One sign further. -/
theorem more_text {done : List Nat} {l r : List UInt8} {c n : Nat} (hd : ∀ c ∈ done, ok c = true) (hl : l = cat done ++ r) (hf : front r = some (c, n)) (hp : plain c = true) :
    (∀ d ∈ done ++ [c], ok d = true) ∧ l = cat (done ++ [c]) ++ r.drop n ∧ 1 ≤ n ∧ n ≤ r.length := by
  obtain ⟨hs, hn, r', hr⟩ := front_some hf
  have h1 := (enc_len_le c).1
  subst hn
  refine ⟨fun d hd' => ?_, ?_, h1, by rw [hr, List.length_append]; omega⟩
  · rcases List.mem_append.1 hd' with h | h
    · exact hd d h
    · rw [List.mem_singleton.1 h]; exact ok_mk hs hp
  · rw [hl, cat_append, List.append_assoc, hr]
    simp [cat]
/-- 65533 itself stands as three bytes. -/
theorem enc_65533 : enc 65533 = [239, 191, 189] := by decide
theorem front_65533 {l : List UInt8} {n : Nat} (h : front l = some (65533, n)) : ([239, 191, 189] : List UInt8).isPrefixOf l = true := by
  obtain ⟨_, _, r, hr⟩ := front_some h
  rw [hr, enc_65533]
  simp
theorem front_none_65533 {l : List UInt8} (h : front l = none) : ([239, 191, 189] : List UInt8).isPrefixOf l = false := by
  cases hp : ([239, 191, 189] : List UInt8).isPrefixOf l with
  | false => rfl
  | true =>
    obtain ⟨r, hr⟩ := List.isPrefixOf_iff_prefix.1 hp
    have := front_enc (c := 65533) (by decide) r
    rw [enc_65533, hr, h] at this
    cases this
end Go.Proofs.YtbadoidjdghklaaDoor.Sg
