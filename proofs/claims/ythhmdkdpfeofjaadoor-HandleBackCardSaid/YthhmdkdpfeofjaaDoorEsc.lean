/- The escapes of layer 2, plainly, over lists of bytes: what an escape is; a text escaped, unescaped; whether it is one; what follows. No condition. -/
import Derived.Test.YthhmdkdpfeofjaaDoorBy
namespace Go.Proofs.YthhmdkdpfeofjaaDoor.Esc
open Go Go.Lib By

/-- The nine bytes that never stand for themselves. -/
def bar (c : Nat) : Bool := c == 32 || c == 34 || c == 38 || c == 39 || c == 47 || c == 58 || c == 60 || c == 62 || c == 64
/-- A digit's worth. -/
def hx (c : Nat) : Option Nat := if 48 ≤ c ∧ c ≤ 57 then some (c - 48) else if 97 ≤ c ∧ c ≤ 102 then some (c - 87) else none
def dg (k : Nat) : Nat := if k < 10 then 48 + k else 87 + k
/-- The byte that two digits stand for behind a backslash. -/
def two (a b : Nat) : Option Nat :=
  match hx a, hx b with
  | some h, some l => if h * 16 + l = 92 ∨ bar (h * 16 + l) = true then some (h * 16 + l) else none
  | _, _ => none
/-- The byte for which the escape at the front stands. -/
def esc : List UInt8 → Option Nat
  | x :: a :: b :: _ => if x.toNat = 92 then two a.toNat b.toNat else none
  | _ => none
/-- What stands in place of a text's first byte. -/
def pc (b : UInt8) (r : List UInt8) : List UInt8 := if bar b.toNat || (esc (b :: r)).isSome then [92, u (dg (b.toNat / 16)), u (dg (b.toNat % 16))] else [b]
def E : List UInt8 → List UInt8
  | [] => []
  | b :: r => pc b r ++ E r
def U (f : Bool) : List UInt8 → List UInt8
  | x :: a :: b :: r => match esc (x :: a :: b :: r) with
    | some c => if c = 32 ∧ (f = true ∨ r = []) then x :: U false (a :: b :: r) else u c :: U false r
    | none => x :: U false (a :: b :: r)
  | l => l
/-- May it be refused: nothing, or a blank at an end. -/
def bad (l : List UInt8) : Bool := l.isEmpty || nb l 0 == 32 || nb l (l.length - 1) == 32
def is (l : List UInt8) : Bool := !l.isEmpty && l.all (fun b => !bar b.toNat) && esc l != some 32 && esc (l.drop (l.length - 3)) != some 32

theorem bar_lt {c : Nat} (h : bar c = true) : c < 65 := by unfold bar at h; simp at h; omega
theorem hx_cases {c k : Nat} (h : hx c = some k) : (48 ≤ c ∧ c ≤ 57 ∧ k = c - 48) ∨ (97 ≤ c ∧ c ≤ 102 ∧ k = c - 87) := by
  unfold hx at h
  split at h
  · simp at h; omega
  · split at h
    · simp at h; omega
    · cases h
theorem hx_lt {c k : Nat} (h : hx c = some k) : k < 16 := by have := hx_cases h; omega
theorem hx_dg {c k : Nat} (h : hx c = some k) : c = dg k := by
  have := hx_cases h
  unfold dg
  split <;> omega
theorem dg_hx {k : Nat} (h : k < 16) : hx (dg k) = some k := by
  unfold hx dg
  by_cases h1 : k < 10
  · rw [if_pos h1, if_pos (by omega)]; congr 1; omega
  · rw [if_neg h1, if_neg (by omega), if_pos (by omega)]; congr 1; omega
theorem dg_range {k : Nat} (h : k < 16) : (48 ≤ dg k ∧ dg k ≤ 57) ∨ (97 ≤ dg k ∧ dg k ≤ 102) := by unfold dg; split <;> omega
theorem hx_range {c k : Nat} (h : hx c = some k) : (48 ≤ c ∧ c ≤ 57) ∨ (97 ≤ c ∧ c ≤ 102) := by rw [hx_dg h]; exact dg_range (hx_lt h)
theorem two_dg {c : Nat} (h : c = 92 ∨ bar c = true) : two (dg (c / 16)) (dg (c % 16)) = some c := by
  have hc : c < 256 := by rcases h with h | h; · omega
                          · have := bar_lt h; omega
  unfold two
  rw [dg_hx (by omega), dg_hx (by omega)]
  have e : c / 16 * 16 + c % 16 = c := by omega
  simp only [e]
  rw [if_pos h]
theorem two_some {a b c : Nat} (h : two a b = some c) : (∃ x y, hx a = some x ∧ hx b = some y ∧ c = x * 16 + y) ∧ (c = 92 ∨ bar c = true) := by
  unfold two at h
  split at h
  · rename_i x y hx hy
    split at h
    · rename_i hc
      simp only [Option.some.injEq] at h
      subst h
      exact ⟨⟨x, y, hx, hy, rfl⟩, hc⟩
    · cases h
  · cases h
theorem esc_some {l : List UInt8} {c : Nat} (h : esc l = some c) : ∃ a b r, l = 92 :: a :: b :: r ∧ two a.toNat b.toNat = some c := by
  match l, h with
  | x :: a :: b :: r, h =>
    rw [esc] at h
    by_cases hx : x.toNat = 92
    · rw [if_pos hx] at h
      obtain rfl : x = 92 := eq_of_nat hx
      exact ⟨a, b, r, rfl, h⟩
    · rw [if_neg hx] at h
      cases h
theorem esc_byte {l : List UInt8} {c : Nat} (h : esc l = some c) : c = 92 ∨ bar c = true := by
  obtain ⟨a, b, r, _, h2⟩ := esc_some h
  exact (two_some h2).2
theorem esc_lt {l : List UInt8} {c : Nat} (h : esc l = some c) : c < 256 := by
  rcases esc_byte h with h | h
  · omega
  · have := bar_lt h; omega
theorem esc_len {l : List UInt8} {c : Nat} (h : esc l = some c) : 3 ≤ l.length := by
  obtain ⟨a, b, r, rfl, _⟩ := esc_some h
  simp
theorem esc_not92 {b : UInt8} {r : List UInt8} (h : b ≠ 92) : esc (b :: r) = none := by
  match h2 : esc (b :: r) with
  | none => rfl
  | some c =>
    obtain ⟨_, _, _, e, _⟩ := esc_some h2
    injection e with e1 _
    exact absurd e1 h

/-! ### Unescaping, step by step -/
theorem U_nil (f : Bool) : U f [] = [] := rfl
theorem U_none {f : Bool} {b : UInt8} {r : List UInt8} (h : esc (b :: r) = none) : U f (b :: r) = b :: U false r := by
  match r with
  | [] => rfl
  | [y] => rfl
  | y :: z :: q =>
    rw [U]
    rw [h]
theorem U_keep {b : UInt8} {r : List UInt8} {f : Bool} (h : esc (b :: r) = some 32) (hf : f = true ∨ r.length = 2) : U f (b :: r) = b :: U false r := by
  match r, h, hf with
  | y :: z :: q, h, hf =>
    rw [U]
    rw [h]
    simp only
    rw [if_pos ⟨trivial, hf.imp id (fun h => by cases q with | nil => rfl | cons => simp at h)⟩]
theorem U_some {b : UInt8} {r : List UInt8} {f : Bool} {c : Nat} (h : esc (b :: r) = some c) (hf : ¬ (c = 32 ∧ (f = true ∨ r.length = 2))) : U f (b :: r) = u c :: U false (r.drop 2) := by
  match r, h, hf with
  | y :: z :: q, h, hf =>
    rw [U]
    rw [h]
    simp only
    rw [if_neg (fun x => hf ⟨x.1, x.2.imp id (fun h => by rw [h]; rfl)⟩)]
    rfl

/-! ### There and back -/
theorem pc_len (b : UInt8) (r : List UInt8) : 1 ≤ (pc b r).length ∧ (pc b r).length ≤ 3 := by unfold pc; split <;> simp
theorem E_len (l : List UInt8) : l.length ≤ (E l).length ∧ (E l).length ≤ 3 * l.length := by
  induction l with
  | nil => simp [E]
  | cons b r ih =>
    have := pc_len b r
    rw [E, List.length_append, List.length_cons]
    omega
theorem E_head {x : UInt8} {r : List UInt8} : (∃ q, E (x :: r) = 92 :: q) ∨ (E (x :: r) = x :: E r) := by
  rw [E, pc]
  split
  · exact .inl ⟨_, rfl⟩
  · exact .inr rfl
theorem not_digit_92 {k : Nat} (h : hx (UInt8.toNat 92) = some k) : False := by
  have : hx 92 = none := by decide
  rw [show UInt8.toNat 92 = 92 from rfl, this] at h
  cases h
/-- Digits that stand at the front of an escaped text stood there before. -/
theorem E_digit {a : UInt8} {q r : List UInt8} (h : E r = a :: q) {k : Nat} (ha : hx a.toNat = some k) : ∃ r', r = a :: r' ∧ q = E r' := by
  cases r with
  | nil => cases h
  | cons x r' =>
    rcases @E_head x r' with ⟨q', e⟩ | e
    · rw [e] at h
      injection h with h1 h2
      subst h1
      exact (not_digit_92 ha).elim
    · rw [e] at h
      injection h with h1 h2
      subst h1
      exact ⟨r', rfl, h2.symm⟩
/-- What begins no escape begins none when what is behind it is escaped. -/
theorem esc_E {b : UInt8} {r : List UInt8} (h : esc (b :: r) = none) : esc (b :: E r) = none := by
  match h2 : esc (b :: E r) with
  | none => rfl
  | some c =>
    obtain ⟨x, y, q, e, ht⟩ := esc_some h2
    injection e with e1 e2
    subst e1
    obtain ⟨⟨i, j, hi, hj, _⟩, _⟩ := two_some ht
    obtain ⟨r1, rfl, e3⟩ := E_digit e2 hi
    obtain ⟨r2, rfl, e4⟩ := E_digit e3.symm hj
    rw [esc, if_pos (show UInt8.toNat 92 = 92 from rfl), ht] at h
    cases h
theorem escaped_byte {b : UInt8} {r : List UInt8} (h : (bar b.toNat || (esc (b :: r)).isSome) = true) : b.toNat = 92 ∨ bar b.toNat = true := by
  simp only [Bool.or_eq_true] at h
  rcases h with h | h
  · exact .inr h
  · left
    obtain ⟨c, hc⟩ := Option.isSome_iff_exists.1 h
    obtain ⟨_, _, _, e, _⟩ := esc_some hc
    injection e with e1 _
    rw [e1]; rfl
theorem esc_pc {b : UInt8} (h : b.toNat = 92 ∨ bar b.toNat = true) (q : List UInt8) : esc (92 :: u (dg (b.toNat / 16)) :: u (dg (b.toNat % 16)) :: q) = some b.toNat := by
  have h1 := nat_lt b
  have d1 := dg_range (k := b.toNat / 16) (by omega)
  have d2 := dg_range (k := b.toNat % 16) (by omega)
  rw [esc, if_pos (show UInt8.toNat 92 = 92 from rfl), u_nat (by omega), u_nat (by omega)]
  exact two_dg h
theorem U_E (l : List UInt8) (f : Bool) (hf : f = true → nb l 0 ≠ 32) (hl : nb l (l.length - 1) ≠ 32) : U f (E l) = l := by
  induction l generalizing f with
  | nil => rfl
  | cons b r ih =>
    have hr : nb r (r.length - 1) ≠ 32 := by
      cases r with
      | nil => simp [nb]
      | cons x q => simpa [nb] using hl
    have ih' := ih false (by intro h; cases h) hr
    rw [E, pc]
    split
    · rename_i hb
      have hb2 := escaped_byte hb
      have he := esc_pc hb2 (E r)
      show U f (92 :: _ :: _ :: E r) = _
      rw [U_some he]
      · rw [nat_u]
        show b :: U false (E r) = _
        rw [ih']
      · rintro ⟨h32, h | h⟩
        · exact hf h (by simpa [nb] using h32)
        · have hz : (E r).length = 0 := by simpa using h
          have h0 := E_len r
          have : r = [] := List.length_eq_zero_iff.1 (by omega)
          subst this
          exact hl (by simpa [nb] using h32)
    · rename_i hb
      simp only [Bool.or_eq_true, not_or, Bool.not_eq_true, Option.isSome_eq_false_iff, Option.isNone_iff_eq_none] at hb
      show U f (b :: E r) = _
      rw [U_none (esc_E hb.2), ih']
theorem bad_false {l : List UInt8} (h : bad l = false) : l ≠ [] ∧ nb l 0 ≠ 32 ∧ nb l (l.length - 1) ≠ 32 := by
  unfold bad at h
  simp at h
  exact ⟨h.1.1, h.1.2, h.2⟩
theorem back {l : List UInt8} (h : bad l = false) : U true (E l) = l := by
  obtain ⟨_, h1, h2⟩ := bad_false h
  exact U_E l true (fun _ => h1) h2

/-! ### What was escaped is one -/
theorem bar_digit {k : Nat} (h : k < 16) : bar (dg k) = false := by
  have := dg_range h
  rw [Bool.eq_false_iff]; unfold bar; simp; omega
theorem pc_clean (b : UInt8) (r : List UInt8) : ∀ x ∈ pc b r, bar x.toNat = false := by
  intro x hx
  have h1 := nat_lt b
  unfold pc at hx
  split at hx
  · have d1 := dg_range (k := b.toNat / 16) (by omega)
    have d2 := dg_range (k := b.toNat % 16) (by omega)
    simp only [List.mem_cons, List.not_mem_nil, or_false] at hx
    rcases hx with rfl | rfl | rfl
    · rfl
    · rw [u_nat (by omega)]; exact bar_digit (by omega)
    · rw [u_nat (by omega)]; exact bar_digit (by omega)
  · rename_i hb
    simp only [List.mem_cons, List.not_mem_nil, or_false] at hx
    subst hx
    simp at hb
    exact hb.1
theorem E_clean (l : List UInt8) : ∀ x ∈ E l, bar x.toNat = false := by
  induction l with
  | nil => intro x hx; cases hx
  | cons b r ih =>
    intro x hx
    rw [E, List.mem_append] at hx
    exact hx.elim (pc_clean b r x) (ih x)
theorem E_front {l : List UInt8} (h : nb l 0 ≠ 32) : esc (E l) ≠ some 32 := by
  cases l with
  | nil => intro h; cases h
  | cons b r =>
    rw [E, pc]
    split
    · rename_i hb
      show esc (92 :: _ :: _ :: E r) ≠ _
      rw [esc_pc (escaped_byte hb)]
      intro e
      exact h (by simpa [nb] using e)
    · rename_i hb
      simp only [Bool.or_eq_true, not_or, Bool.not_eq_true, Option.isSome_eq_false_iff, Option.isNone_iff_eq_none] at hb
      show esc (b :: E r) ≠ _
      rw [esc_E hb.2]
      intro e; cases e
theorem esc_short {l : List UInt8} (h : l.length < 3) : esc l = none := by
  match h2 : esc l with
  | none => rfl
  | some c => have := esc_len h2; omega
theorem dg_92 {k : Nat} (h : k < 16) : u (dg k) ≠ 92 := by
  have d := dg_range h
  intro e
  have := congrArg UInt8.toNat e
  rw [u_nat (by omega), show UInt8.toNat 92 = 92 from rfl] at this
  omega
theorem E_end (l : List UInt8) (hl : nb l (l.length - 1) ≠ 32) : esc ((E l).drop ((E l).length - 3)) ≠ some 32 := by
  induction l with
  | nil => intro h; cases h
  | cons b r ih =>
    have hr : nb r (r.length - 1) ≠ 32 := by
      cases r with
      | nil => simp [nb]
      | cons x q => simpa [nb] using hl
    have ih' := ih hr
    have h1 := nat_lt b
    rw [E]
    by_cases h3 : 3 ≤ (E r).length
    · rw [List.length_append, List.drop_append, show (pc b r).length + (E r).length - 3 - (pc b r).length = (E r).length - 3 by omega]
      rw [List.drop_eq_nil_of_le (by omega), List.nil_append]
      exact ih'
    · unfold pc
      split
      · rename_i hb
        have d1 := dg_92 (k := b.toNat / 16) (by omega)
        have d2 := dg_92 (k := b.toNat % 16) (by omega)
        match hE : E r, h3 with
        | [], _ =>
          have h0 := (E_len r).1
          have hz : (E r).length = 0 := by rw [hE]; rfl
          obtain rfl : r = [] := List.length_eq_zero_iff.1 (by omega)
          show esc [92, _, _] ≠ _
          rw [esc_pc (escaped_byte hb)]
          intro e
          exact hl (by simpa [nb] using e)
        | [x], _ => show esc [_, _, x] ≠ _; rw [esc_not92 d1]; intro e; cases e
        | [x, y], _ => show esc [_, x, y] ≠ _; rw [esc_not92 d2]; intro e; cases e
        | _ :: _ :: _ :: _, h => simp at h
      · rename_i hb
        simp only [Bool.or_eq_true, not_or, Bool.not_eq_true, Option.isSome_eq_false_iff, Option.isNone_iff_eq_none] at hb
        have := esc_E hb.2
        match hE : E r, h3 with
        | [], _ => rw [esc_short (by simp)]; intro e; cases e
        | [x], _ => rw [esc_short (by simp)]; intro e; cases e
        | [x, y], _ => rw [hE] at this; show esc [b, x, y] ≠ _; rw [this]; intro e; cases e
        | _ :: _ :: _ :: _, h => simp at h
theorem E_ne {l : List UInt8} (h : l ≠ []) : E l ≠ [] := by
  intro e
  have := E_len l
  rw [e] at this
  exact h (List.length_eq_zero_iff.1 (by simpa using this.1))
theorem is_E {l : List UInt8} (h : bad l = false) : is (E l) = true := by
  obtain ⟨h0, h1, h2⟩ := bad_false h
  unfold is
  simp only [Bool.and_eq_true, Bool.not_eq_true', List.all_eq_true, bne_iff_ne, ne_eq]
  refine ⟨⟨⟨?_, ?_⟩, E_front h1⟩, E_end l h2⟩
  · cases e : E l with
    | nil => exact absurd e (E_ne h0)
    | cons => rfl
  · intro x hx; rw [E_clean l x hx]
/-- What is one is not refused. -/
theorem nb_mem {l : List UInt8} {i : Nat} (h : i < l.length) : ∃ b ∈ l, nb l i = b.toNat := by
  refine ⟨l[i], List.getElem_mem h, ?_⟩
  unfold nb
  rw [List.getD_eq_getElem?_getD, List.getElem?_eq_getElem h]
  rfl
theorem bad_clean {l : List UInt8} (h0 : l ≠ []) (h : ∀ x ∈ l, bar x.toNat = false) : bad l = false := by
  have hp : 0 < l.length := List.length_pos_iff.2 h0
  have key : ∀ i, i < l.length → nb l i ≠ 32 := by
    intro i hi e
    obtain ⟨b, hb, e2⟩ := nb_mem hi
    have := h b hb
    rw [← e2, e] at this
    cases this
  have h1 := key 0 hp
  have h2 := key (l.length - 1) (by omega)
  unfold bad
  cases l with
  | nil => exact absurd rfl h0
  | cons => simp at h1 h2 ⊢; exact ⟨h1, h2⟩
theorem bad_E {l : List UInt8} (h : bad l = false) : bad (E l) = false :=
  bad_clean (E_ne (bad_false h).1) (E_clean l)

/-! ### As few as can be -/
def plain (b : UInt8) : Bool := (decide (97 ≤ b.toNat) && decide (b.toNat ≤ 122)) || (decide (48 ≤ b.toNat) && decide (b.toNat ≤ 57))
theorem plain_bar {b : UInt8} (h : plain b = true) : bar b.toNat = false ∧ b ≠ 92 := by
  unfold plain at h
  simp at h
  constructor
  · rw [Bool.eq_false_iff]; unfold bar; simp; omega
  · intro e; subst e; simp at h
theorem E_plain {l : List UInt8} (h : ∀ b ∈ l, plain b = true) : E l = l := by
  induction l with
  | nil => rfl
  | cons b r ih =>
    obtain ⟨h1, h2⟩ := plain_bar (h b List.mem_cons_self)
    rw [E, pc, h1, esc_not92 h2]
    simp
    exact ih fun x hx => h x (List.mem_cons_of_mem _ hx)
theorem U_plain {l : List UInt8} (f : Bool) (h : ∀ b ∈ l, plain b = true) : U f l = l := by
  induction l generalizing f with
  | nil => rfl
  | cons b r ih =>
    obtain ⟨h1, h2⟩ := plain_bar (h b List.mem_cons_self)
    rw [U_none (esc_not92 h2), ih false fun x hx => h x (List.mem_cons_of_mem _ hx)]
theorem plain_bad {l : List UInt8} (h0 : l ≠ []) (h : ∀ b ∈ l, plain b = true) : bad l = false := bad_clean h0 fun x hx => (plain_bar (h x hx)).1
theorem plain_is {l : List UInt8} (h0 : l ≠ []) (h : ∀ b ∈ l, plain b = true) : is l = true := by
  have := is_E (plain_bad h0 h)
  rwa [E_plain h] at this
theorem U_len (n : Nat) : ∀ (l : List UInt8) (f : Bool), l.length ≤ n → (U f l).length ≤ l.length := by
  induction n with
  | zero => intro l f h; obtain rfl : l = [] := List.length_eq_zero_iff.1 (by omega); simp [U]
  | succ n ih =>
    intro l f h
    cases l with
    | nil => simp [U]
    | cons b r =>
      rw [List.length_cons] at h
      have i1 := ih r false (by omega)
      have i2 := ih (r.drop 2) false (by rw [List.length_drop]; omega)
      rw [List.length_drop] at i2
      match he : esc (b :: r) with
      | none => rw [U_none he]; simp; exact i1
      | some c =>
        by_cases hc : c = 32 ∧ (f = true ∨ r.length = 2)
        · obtain ⟨rfl, hf⟩ := hc
          rw [U_keep he hf]; simp; exact i1
        · rw [U_some he hc]; simp; omega

end Go.Proofs.YthhmdkdpfeofjaaDoor.Esc
