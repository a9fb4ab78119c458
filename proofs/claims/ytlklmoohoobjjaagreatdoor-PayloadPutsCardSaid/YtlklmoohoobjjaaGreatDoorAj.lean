/- Addresses: plain mathematics; library calls of package jid. Conditions: those of each theorem's head. -/
import Derived.Test.YtlklmoohoobjjaaGreatDoorAb
import Derived.Lib.SplitLaws
import Derived.Lib.SlTrimSet
import Derived.Laws.RangeString
import Derived.Deep.QuietTactic
import Derived.WalkMore
import Derived.Deep.LoopGhost
import Derived.Lib.OthersKept

namespace Go.Proofs.YtlklmoohoobjjaaGreatDoor.Jd
open Go Go.Lib Sg
open Go.RowKit
theorem lowN_low {b : Nat} : lowN (lowN b) = lowN b := by
  by_cases h : 65 ≤ b ∧ b ≤ 90
  · have e : lowN b = b + 32 := by unfold lowN; rw [if_pos h]
    rw [e]; unfold lowN; rw [if_neg (by omega)]
  · have e : lowN b = b := by unfold lowN; rw [if_neg h]
    rw [e, e]
theorem foldL_foldL (l : List UInt8) : foldL (foldL l) = foldL l := by
  unfold foldL
  rw [List.map_map]
  apply List.map_congr_left
  intro a _
  show low (low a) = low a
  have : (low (low a)).toNat = (low a).toNat := by rw [low_nat, low_nat, lowN_low]
  exact UInt8.toNat_inj.1 this

theorem eqU {a b : UInt8} (h : a.toNat = b.toNat) : a = b := UInt8.toNat_inj.1 h
theorem lt256 (a : UInt8) : a.toNat < 256 := UInt8.toNat_lt a

/-! ### Texts, and a byte that stands alone -/
def Tx (l : List UInt8) : Prop := ∃ cs, IsT l cs
theorem Tx.nil : Tx [] := ⟨[], IsT.nil⟩
theorem enc_high {c : Nat} (h : isSg c = true) (hc : ¬ c < 128) : ∀ a ∈ enc c, 128 ≤ a.toNat := by
  intro a ha
  obtain ⟨i, hi, rfl⟩ := List.getElem_of_mem ha
  have hn : nb (enc c) i = (enc c)[i].toNat := by unfold nb; rw [List.getD_eq_getElem?_getD, List.getElem?_eq_getElem hi]; rfl
  rw [← hn]
  rcases Nat.eq_zero_or_pos i with h0 | h0
  · subst h0; have := (enc_big h hc).1; omega
  · have := (inner_iff _).1 (enc_rest h i h0 hi); omega
/-- A byte below 128 in a text is a sign of its own. -/
theorem split_at {b : UInt8} (hb : b.toNat < 128) {r : List UInt8} : ∀ (cs : List Nat) (a : List UInt8), IsT (a ++ b :: r) cs → ∃ c1 c2, cs = c1 ++ b.toNat :: c2 ∧ IsT a c1 ∧ IsT r c2 := by
  intro cs
  induction cs with
  | nil =>
    intro a h
    have := h.2
    rw [cat_nil] at this
    simp at this
  | cons c cs ih =>
    intro a h
    obtain ⟨hc, q, hq, ht⟩ := h.cons
    by_cases hs : c < 128
    · rw [enc_small hs] at hq
      cases a with
      | nil =>
        injection hq with h1 h2
        subst h2
        have hcn : c = b.toNat := by rw [h1, u_nat (by omega)]
        exact ⟨[], cs, by rw [hcn]; rfl, IsT.nil, ht⟩
      | cons x a =>
        injection hq with h1 h2
        have h2' : a ++ b :: r = q := h2
        obtain ⟨c1, c2, rfl, h3, h4⟩ := ih a (by rw [h2']; exact ht)
        refine ⟨c :: c1, c2, rfl, ?_, h4⟩
        have := (IsT.one hc).append h3
        rw [enc_small hs, ← h1] at this
        exact this
    · have hh := enc_high (ok_sg hc) hs
      have hle : (enc c).length ≤ a.length := by
        rcases Nat.lt_or_ge a.length (enc c).length with hlt | hge
        · exfalso
          have h1 : (a ++ b :: r)[a.length]? = some b := by simp
          rw [hq, List.getElem?_append_left hlt, List.getElem?_eq_getElem hlt] at h1
          have h2 := hh _ (List.getElem_mem hlt)
          simp only [Option.some.injEq] at h1
          rw [h1] at h2
          omega
        · exact hge
      have ha : a = enc c ++ a.drop (enc c).length := by
        have h1 := congrArg (List.take (enc c).length) hq
        rw [List.take_append_of_le_length hle, List.take_left'  rfl] at h1
        conv => lhs; rw [← List.take_append_drop (enc c).length a, h1]
      generalize a.drop (enc c).length = a2 at ha
      subst ha
      rw [List.append_assoc] at hq
      have h2 := List.append_cancel_left hq
      obtain ⟨c1, c2, rfl, h3, h4⟩ := ih a2 (by rw [h2]; exact ht)
      exact ⟨c :: c1, c2, rfl, (IsT.one hc).append h3, h4⟩
theorem Tx.put {a r : List UInt8} {b b' : UInt8} (h : Tx (a ++ b :: r)) (hb : b.toNat < 128) (hb' : 32 ≤ b'.toNat ∧ b'.toNat < 128) : Tx (a ++ b' :: r) := by
  obtain ⟨cs, h⟩ := h
  obtain ⟨c1, c2, _, h1, h2⟩ := split_at hb cs a h
  refine ⟨c1 ++ (b'.toNat :: c2), ?_⟩
  have hok : ok b'.toNat = true := ok_mk ((isSg_iff _).2 (by omega)) ((plain_iff _).2 (by omega))
  have h3 := IsT.one hok
  rw [enc_small hb'.2] at h3
  have e : u b'.toNat = b' := u_of rfl
  rw [e] at h3
  exact h1.append (h3.append h2)

/-! ### The parts -/
def bar4 (b : UInt8) : Bool := ([9, 10, 13, 127] : List UInt8).contains b
def barN (b : UInt8) : Bool := ([32, 34, 38, 39, 47, 58, 60, 62, 64] : List UInt8).contains b
def up (b : UInt8) : Bool := decide (65 ≤ b.toNat) && decide (b.toNat ≤ 90)
def letters : List UInt8 := [97, 98, 99, 100, 101, 102, 103, 104, 105, 106, 107, 108, 109, 110, 111, 112, 113, 114, 115, 116, 117, 118, 119, 120, 121, 122, 48, 49, 50, 51, 52, 53, 54, 55, 56, 57, 45]
def ld (b : UInt8) : Bool := letters.contains b
def dm : Bool → List UInt8 → Bool
  | p, [] => !p
  | p, b :: r => if b = 46 then !p && dm true r else ld b && dm false r
def part (l : List UInt8) : Prop := l.length ≤ 1023 ∧ Tx l ∧ l.any bar4 = false
structure J where
  n : List UInt8
  d : List UInt8
  r : List UInt8
deriving DecidableEq
def norm (j : J) : J := ⟨foldL j.n, Lib.trimSuffix (foldL j.d) [46], j.r⟩
def Ok (j : J) : Prop := part j.n ∧ part j.d ∧ part j.r ∧ j.n.any up = false ∧ j.n.any barN = false ∧ dm true j.d = true
open Classical in
noncomputable def okp (l : List UInt8) : Bool := decide (part l)
open Classical in
noncomputable def ok (j : J) : Bool := decide (Ok j)
theorem ok_iff (j : J) : ok j = true ↔ Ok j := by simp [ok]
theorem okp_iff (l : List UInt8) : okp l = true ↔ part l := by simp [okp]
theorem part_nil : part [] := ⟨by simp, Tx.nil, rfl⟩

/-! ### A text's front ahead of a byte, and what is behind it -/
def cut1 (c : UInt8) : List UInt8 → Option (List UInt8 × List UInt8)
  | [] => none
  | b :: r => if b = c then some ([], r) else (cut1 c r).map fun p => (b :: p.1, p.2)
theorem cut1_none {c : UInt8} : ∀ {l : List UInt8}, cut1 c l = none → c ∉ l
  | [], _ => by simp
  | b :: r, h => by
    rw [cut1] at h
    by_cases e : b = c
    · rw [if_pos e] at h; cases h
    · rw [if_neg e] at h
      simp only [Option.map_eq_none_iff] at h
      have := cut1_none h
      simp only [List.mem_cons, not_or]
      exact ⟨fun x => e x.symm, this⟩
theorem cut1_some {c : UInt8} : ∀ {l x y : List UInt8}, cut1 c l = some (x, y) → l = x ++ c :: y ∧ c ∉ x
  | [], _, _, h => by cases h
  | b :: r, x, y, h => by
    rw [cut1] at h
    by_cases e : b = c
    · rw [if_pos e] at h
      simp only [Option.some.injEq, Prod.mk.injEq] at h
      obtain ⟨rfl, rfl⟩ := h
      exact ⟨by rw [e]; rfl, by simp⟩
    · rw [if_neg e] at h
      simp only [Option.map_eq_some_iff] at h
      obtain ⟨⟨x', y'⟩, h1, h2⟩ := h
      simp only [Prod.mk.injEq] at h2
      obtain ⟨rfl, rfl⟩ := h2
      obtain ⟨h3, h4⟩ := cut1_some h1
      refine ⟨by rw [h3]; rfl, ?_⟩
      simp only [List.mem_cons, not_or]
      exact ⟨fun x => e x.symm, h4⟩
theorem cut1_out {c : UInt8} : ∀ {l : List UInt8}, c ∉ l → cut1 c l = none
  | [], _ => rfl
  | b :: r, h => by
    simp only [List.mem_cons, not_or] at h
    rw [cut1, if_neg (fun e => h.1 e.symm), cut1_out h.2]; rfl
theorem cut1_at {c : UInt8} (y : List UInt8) : ∀ {x : List UInt8}, c ∉ x → cut1 c (x ++ c :: y) = some (x, y)
  | [], _ => by rw [List.nil_append, cut1, if_pos rfl]
  | b :: r, h => by
    simp only [List.mem_cons, not_or] at h
    rw [List.cons_append, cut1, if_neg (fun e => h.1 e.symm), cut1_at y h.2]; rfl
theorem indexByte_cut {c : UInt8} : ∀ l : List UInt8, indexByte l c = match cut1 c l with | none => -1 | some p => (p.1.length : Int)
  | [] => rfl
  | b :: r => by
    rw [indexByte, cut1, indexByte_cut r]
    by_cases e : b = c
    · rw [if_pos e, if_pos (by simpa using e)]; rfl
    · rw [if_neg e, if_neg (by simpa using e)]
      cases h : cut1 c r with
      | none => rfl
      | some p =>
        simp only [Option.map_some, List.length_cons]
        rw [if_neg (by simp)]
        push_cast
        rfl
theorem index_byte (c : UInt8) : ∀ l : List UInt8, index l [c] = indexByte l c
  | [] => rfl
  | b :: r => by
    rw [index, indexByte, index_byte c r]
    by_cases e : b = c
    · subst e; simp
    · have h1 : ([c] : List UInt8).isPrefixOf (b :: r) = false := by simp [List.isPrefixOf]; exact fun x => e x.symm
      have h2 : (b == c) = false := by simpa using e
      rw [h1, h2]

/-! ### What a text tells -/
noncomputable def fin (j : J) : Option J := if ok (norm j) = true then some (norm j) else none
noncomputable def ps2 (l r : List UInt8) : Option J :=
  match cut1 64 l with
  | none => fin ⟨[], l, r⟩
  | some (x, y) => if x = [] then none else fin ⟨x, y, r⟩
noncomputable def ps (l : List UInt8) : Option J :=
  match cut1 47 l with
  | none => ps2 l []
  | some (x, y) => if y = [] then none else ps2 x y
def put (j : J) : List UInt8 := (if j.n = [] then [] else j.n ++ [64]) ++ (j.d ++ if j.r = [] then [] else 47 :: j.r)

theorem fin_some {j k : J} (h : fin j = some k) : Ok k := by
  unfold fin at h
  split at h
  · rename_i h1; simp only [Option.some.injEq] at h; subst h; exact (ok_iff _).1 h1
  · cases h
theorem ps2_some {l r : List UInt8} {k : J} (h : ps2 l r = some k) : Ok k := by
  unfold ps2 at h
  split at h
  · exact fin_some h
  · split at h
    · cases h
    · exact fin_some h
theorem ps_some {l : List UInt8} {k : J} (h : ps l = some k) : Ok k := by
  unfold ps at h
  split at h
  · exact ps2_some h
  · split at h
    · cases h
    · exact ps2_some h

/-! ### What may be is plain -/
theorem low_id {b : UInt8} (h : up b = false) : low b = b := by
  apply eqU
  rw [low_nat]
  unfold lowN
  unfold up at h
  rw [if_neg]
  rintro ⟨h1, h2⟩
  simp [h1, h2] at h
theorem fold_id {l : List UInt8} (h : l.any up = false) : foldL l = l := by
  unfold foldL
  conv => rhs; rw [← List.map_id l]
  apply List.map_congr_left
  intro a ha
  have := List.any_eq_false.1 h a ha
  exact low_id (by simpa using this)
theorem ld_range {b : UInt8} (h : ld b = true) : (97 ≤ b.toNat ∧ b.toNat ≤ 122) ∨ (48 ≤ b.toNat ∧ b.toNat ≤ 57) ∨ b.toNat = 45 := by
  unfold ld letters at h
  simp only [List.contains_eq_mem, List.mem_cons, List.not_mem_nil, or_false, decide_eq_true_eq] at h
  rcases h with h | h | h | h | h | h | h | h | h | h | h | h | h | h | h | h | h | h | h | h | h | h | h | h | h | h | h | h | h | h | h | h | h | h | h | h | h <;> subst h <;> decide
theorem ld_all : ∀ x : Fin 256, ld (u x.val) = ((decide (97 ≤ x.val) && decide (x.val ≤ 122)) || (decide (48 ≤ x.val) && decide (x.val ≤ 57)) || decide (x.val = 45)) := by decide +kernel
theorem dm_up : ∀ {p : Bool} {l : List UInt8}, dm p l = true → l.any up = false ∧ 47 ∉ l ∧ 64 ∉ l
  | _, [], _ => ⟨rfl, by simp, by simp⟩
  | p, b :: r, h => by
    rw [dm] at h
    by_cases e : b = 46
    · rw [if_pos e] at h
      simp only [Bool.and_eq_true] at h
      obtain ⟨h1, h2, h3⟩ := dm_up h.2
      subst e
      exact ⟨by rw [List.any_cons, h1]; rfl, by simp [h2], by simp [h3]⟩
    · rw [if_neg e] at h
      simp only [Bool.and_eq_true] at h
      obtain ⟨h1, h2, h3⟩ := dm_up h.2
      have hr := ld_range h.1
      refine ⟨?_, ?_, ?_⟩
      · rw [List.any_cons, h1, Bool.or_false]
        unfold up
        rw [Bool.eq_false_iff]; simp; omega
      · simp only [List.mem_cons, not_or]
        exact ⟨fun x => (by rw [← x] at hr; revert hr; decide), h2⟩
      · simp only [List.mem_cons, not_or]
        exact ⟨fun x => (by rw [← x] at hr; revert hr; decide), h3⟩
theorem dm_last : ∀ {p : Bool} {l : List UInt8}, dm p l = true → l.getLast? ≠ some 46
  | _, [], _ => by simp
  | p, [b], h => by
    rw [dm] at h
    intro e
    simp at e
    subst e
    simp [dm] at h
  | p, b :: x :: r, h => by
    rw [List.getLast?_cons_cons]
    rw [dm] at h
    split at h
    · simp only [Bool.and_eq_true] at h; exact dm_last h.2
    · simp only [Bool.and_eq_true] at h; exact dm_last h.2
theorem trim_dot (l : List UInt8) : Lib.trimSuffix l [46] = if l.getLast? = some 46 then l.dropLast else l := by
  unfold Lib.trimSuffix Lib.hasSuffix
  by_cases h : l.getLast? = some 46
  · have h1 : ([46] : List UInt8).isSuffixOf l = true := by
      rw [List.isSuffixOf_iff_suffix]
      refine ⟨l.dropLast, ?_⟩
      have hne : l ≠ [] := fun e => by rw [e] at h; simp at h
      rw [List.getLast?_eq_some_getLast hne, Option.some.injEq] at h
      conv => rhs; rw [← List.dropLast_concat_getLast hne, h]
    rw [h1, if_pos rfl, if_pos h, List.dropLast_eq_take]
    rfl
  · have h1 : ([46] : List UInt8).isSuffixOf l = false := by
      rw [Bool.eq_false_iff]
      intro e
      rw [List.isSuffixOf_iff_suffix] at e
      obtain ⟨t, rfl⟩ := e
      exact h (by simp)
    rw [h1, if_neg h]
    rfl
theorem norm_ok {j : J} (h : Ok j) : norm j = j := by
  obtain ⟨_, _, _, h4, _, h6⟩ := h
  have h7 := dm_up h6
  unfold norm
  rw [fold_id h4, fold_id h7.1, trim_dot, if_neg (dm_last h6)]
theorem barN_at : barN 47 = true ∧ barN 64 = true := by decide
theorem not_any {p : UInt8 → Bool} {l : List UInt8} {c : UInt8} (h : l.any p = false) (hc : p c = true) : c ∉ l := fun e => by
  have := List.any_eq_false.1 h c e
  exact this hc
theorem ps_put {j : J} (h : Ok j) : ps (put j) = some j := by
  have hn := norm_ok h
  obtain ⟨h1, h2, h3, h4, h5, h6⟩ := id h
  have n47 := not_any h5 barN_at.1
  have n64 := not_any h5 barN_at.2
  obtain ⟨_, d47, d64⟩ := dm_up h6
  have hf : fin j = some j := by unfold fin; rw [hn, if_pos ((ok_iff j).2 h)]
  obtain ⟨n, d, r⟩ := j
  have two : ps2 ((if n = [] then [] else n ++ [64]) ++ d) r = some ⟨n, d, r⟩ := by
    unfold ps2
    by_cases e : n = []
    · subst e
      rw [if_pos rfl, List.nil_append, cut1_out d64]
      exact hf
    · rw [if_neg e, List.append_assoc, List.singleton_append, cut1_at d n64]
      simp only
      rw [if_neg e]
      exact hf
  have m47 : (47 : UInt8) ∉ (if n = [] then [] else n ++ [64]) ++ d := by
    intro x
    rcases List.mem_append.1 x with x | x
    · split at x
      · cases x
      · rcases List.mem_append.1 x with x | x
        · exact n47 x
        · simp at x
    · exact d47 x
  unfold ps put
  by_cases e : r = []
  · subst e
    simp only [if_true, List.append_nil]
    rw [cut1_out m47]
    exact two
  · simp only [if_neg e]
    rw [← List.append_assoc, cut1_at r m47]
    simp only
    rw [if_neg e]
    exact two
theorem put_inj {j k : J} (h1 : Ok j) (h2 : Ok k) : put j = put k ↔ j = k :=
  ⟨fun e => by have := ps_put h1; rw [e, ps_put h2] at this; exact (Option.some.inj this).symm, fun e => by rw [e]⟩
theorem ok_bare {j : J} (h : Ok j) : Ok ⟨j.n, j.d, []⟩ := ⟨h.1, h.2.1, part_nil, h.2.2.2⟩
theorem ok_empty : ¬ Ok ⟨[], [], []⟩ := fun h => by have := h.2.2.2.2.2; simp [dm] at this

/-! ### Lengths -/
theorem trim_le (l : List UInt8) : (Lib.trimSuffix l [46]).length ≤ l.length := Lib.trimSuffix_le l [46]
theorem norm_len (j : J) : (norm j).n.length = j.n.length ∧ (norm j).d.length ≤ j.d.length ∧ (norm j).r = j.r := by
  refine ⟨foldL_len _, ?_, rfl⟩
  have := trim_le (foldL j.d)
  rw [foldL_len] at this
  exact this
theorem put_len (j : J) : (put j).length ≤ j.n.length + j.d.length + j.r.length + 2 := by
  unfold put
  rw [List.length_append, List.length_append]
  split <;> split <;> simp <;> omega


end Go.Proofs.YtlklmoohoobjjaaGreatDoor.Jd

namespace Go.Proofs.YtlklmoohoobjjaaGreatDoor.Jd
open Go Go.Lib Sg

theorem enc_any {p : UInt8 → Bool} (hp : ∀ b : UInt8, 128 ≤ b.toNat → p b = false) {c : Nat} (hc : Sg.ok c = true) : (enc c).any p = (decide (c < 128) && p (u c)) := by
  by_cases h : c < 128
  · rw [enc_small h]; simp [h]
  · have hh := enc_high (ok_sg hc) h
    simp only [h, decide_false, Bool.false_and]
    rw [List.any_eq_false]
    intro b hb
    rw [hp b (hh b hb)]
    exact Bool.false_ne_true
theorem bar4_high (b : UInt8) (h : 128 ≤ b.toNat) : bar4 b = false := by
  rw [Bool.eq_false_iff]; unfold bar4
  intro e
  simp only [List.contains_eq_mem, List.mem_cons, List.not_mem_nil, or_false, decide_eq_true_eq] at e
  rcases e with rfl | rfl | rfl | rfl <;> revert h <;> decide
theorem barN_high (b : UInt8) (h : 128 ≤ b.toNat) : barN b = false := by
  rw [Bool.eq_false_iff]; unfold barN
  intro e
  simp only [List.contains_eq_mem, List.mem_cons, List.not_mem_nil, or_false, decide_eq_true_eq] at e
  rcases e with rfl | rfl | rfl | rfl | rfl | rfl | rfl | rfl | rfl <;> revert h <;> decide
theorem bar4_all : ∀ x : Fin 128, (plain x.val = true) → bar4 (u x.val) = (decide (x.val < 32) || decide (x.val = 127)) := by decide +kernel
def low31 (c : Nat) : Bool := decide (c < 32) || decide (c = 127)
theorem enc_bar {c : Nat} (hc : Sg.ok c = true) : (enc c).any bar4 = low31 c := by
  rw [enc_any bar4_high hc]
  unfold low31
  by_cases h : c < 128
  · rw [bar4_all ⟨c, h⟩ (ok_plain hc)]; simp [h]
  · have h1 : ¬ c < 32 := by omega
    have h2 : ¬ c = 127 := by omega
    simp [h, h1, h2]
theorem cat_bar : ∀ {cs : List Nat}, (∀ c ∈ cs, Sg.ok c = true) → (cat cs).any bar4 = cs.any low31
  | [], _ => rfl
  | c :: cs, h => by
    rw [cat_cons, List.any_append, List.any_cons, enc_bar (h c (List.mem_cons_self ..)), cat_bar fun d hd => h d (List.mem_cons_of_mem _ hd)]
theorem okp_text {l : List UInt8} {cs : List Nat} (h : IsT l cs) : okp l = (decide (l.length ≤ 1023) && !cs.any low31) := by
  rw [Bool.eq_iff_iff, okp_iff, Bool.and_eq_true, decide_eq_true_eq, Bool.not_eq_true']
  have e : l.any bar4 = cs.any low31 := by rw [h.2, cat_bar h.1]
  unfold part
  rw [e]
  exact ⟨fun ⟨a, _, c⟩ => ⟨a, c⟩, fun ⟨a, c⟩ => ⟨a, ⟨cs, h⟩, c⟩⟩
theorem okp_none {l : List UInt8} (h : ∀ cs, ¬ IsT l cs) : okp l = false := by
  rw [Bool.eq_false_iff, ne_eq, okp_iff]
  rintro ⟨_, ⟨cs, hc⟩, _⟩
  exact h cs hc

/-! ### A domain's pieces -/
def okPiece (p : List UInt8) : Bool := !p.isEmpty && p.all ld
theorem dm_none : ∀ {p : Bool} {l : List UInt8}, (46 : UInt8) ∉ l → dm p l = ((!l.isEmpty || !p) && l.all ld)
  | p, [], _ => by simp [dm]
  | p, b :: r, h => by
    simp only [List.mem_cons, not_or] at h
    rw [dm, if_neg (fun e => h.1 e.symm), dm_none h.2]
    simp
theorem dm_cut : ∀ {p : Bool} {x : List UInt8} (y : List UInt8), (46 : UInt8) ∉ x → dm p (x ++ 46 :: y) = ((!x.isEmpty || !p) && x.all ld && dm true y)
  | p, [], y, _ => by simp [dm]
  | p, b :: r, y, h => by
    simp only [List.mem_cons, not_or] at h
    rw [List.cons_append, dm, if_neg (fun e => h.1 e.symm), dm_cut y h.2]
    simp [Bool.and_assoc]
theorem split_dm : ∀ (k : Nat) (l : List UInt8), l.count 46 ≤ k → (splitK [46] 0 k l).all okPiece = dm true l
  | 0, l, h => by
    have h0 : (46 : UInt8) ∉ l := List.count_eq_zero.1 (by omega)
    rw [dm_none h0]
    simp [splitK, okPiece]
  | k + 1, l, h => by
    rw [splitK, index_byte, indexByte_cut]
    cases hc : cut1 46 l with
    | none =>
      rw [dm_none (cut1_none hc)]
      simp [okPiece]
    | some p =>
      obtain ⟨x, y⟩ := p
      obtain ⟨rfl, hx⟩ := cut1_some hc
      simp only
      rw [if_neg (by simp), dm_cut y hx, List.all_cons]
      have e1 : (x ++ 46 :: y).take (((x.length : Int)).toNat + 0) = x := by simp
      have e2 : (x ++ 46 :: y).drop (((x.length : Int)).toNat + ([46] : List UInt8).length) = y := by simp [List.drop_append]
      have hy : y.count 46 ≤ k := by
        rw [List.count_append, List.count_cons_self] at h; omega
      rw [e1, e2, split_dm k y hy]
      simp [okPiece]
theorem all_map {α β : Type} (f : α → β) (p : β → Bool) : ∀ l : List α, (l.map f).all p = l.all fun x => p (f x)
  | [] => rfl
  | a :: l => by rw [List.map_cons, List.all_cons, List.all_cons, all_map f p l]
theorem pieces (s : ByteArray) : ((splitB ⟨#[46]⟩ 0 (countB s ⟨#[46]⟩) s).all fun p => okPiece p.data.toList) = dm true s.data.toList := by
  have h := splitB_data ⟨#[46]⟩ 0 (countB s ⟨#[46]⟩) s
  rw [← all_map (fun p : ByteArray => p.data.toList) okPiece, h]
  refine split_dm _ _ ?_
  show _ ≤ count s.data.toList [46]
  rw [count_one]
  exact Nat.le_refl _
theorem trim_empty (l : List UInt8) : Lib.trimS l letters = [] ↔ l.all ld = true := by
  have hp : ∀ m : List UInt8, m.dropWhile (letters.contains ·) = [] ↔ m.all ld = true := by
    intro m
    constructor
    · intro h
      obtain ⟨t, ht, ha⟩ := dropWhile_split (p := (letters.contains ·)) m
      rw [h, List.append_nil] at ht
      subst ht
      exact List.all_eq_true.2 ha
    · intro h
      exact dropWhile_all (List.all_eq_true.1 h)
  unfold Lib.trimS Lib.trimLeftS Lib.trimRightS
  rw [hp, List.all_reverse]
  obtain ⟨t, ht, ha⟩ := dropWhile_split (p := (letters.contains ·)) l.reverse
  have hl : l.all ld = l.reverse.all ld := List.all_reverse.symm
  rw [hl]
  constructor
  · intro h
    rw [ht, List.all_append, h, Bool.and_true]
    exact List.all_eq_true.2 ha
  · intro h
    rw [ht, List.all_append, Bool.and_eq_true] at h
    exact h.2

/-! ### The case of letters -/
theorem low_c : ∀ x : Fin 256, ((low (u x.val) == 47) = (u x.val == 47)) ∧ ((low (u x.val) == 64) = (u x.val == 64)) := by decide +kernel
theorem low47 (a : UInt8) : low a = 47 ↔ a = 47 := by
  have h := (low_c ⟨a.toNat, lt256 a⟩).1
  rw [show u a.toNat = a from u_of rfl] at h
  constructor
  · intro e; rw [e] at h; simpa using h.symm
  · intro e; rw [e]; decide
theorem low64 (a : UInt8) : low a = 64 ↔ a = 64 := by
  have h := (low_c ⟨a.toNat, lt256 a⟩).2
  rw [show u a.toNat = a from u_of rfl] at h
  constructor
  · intro e; rw [e] at h; simpa using h.symm
  · intro e; rw [e]; decide
theorem fold_cons (b : UInt8) (r : List UInt8) : foldL (b :: r) = low b :: foldL r := rfl
theorem fold_append (a b : List UInt8) : foldL (a ++ b) = foldL a ++ foldL b := by simp [foldL]
theorem cut1_fold {c : UInt8} (hc : ∀ a, low a = c ↔ a = c) : ∀ l : List UInt8, cut1 c (foldL l) = (cut1 c l).map fun p => (foldL p.1, foldL p.2)
  | [] => rfl
  | b :: r => by
    rw [fold_cons, cut1, cut1, cut1_fold hc r]
    by_cases e : b = c
    · rw [if_pos e, if_pos ((hc b).2 e)]; rfl
    · rw [if_neg e, if_neg (fun x => e ((hc b).1 x))]
      cases cut1 c r <;> rfl
theorem fold_empty {l : List UInt8} : foldL l = [] ↔ l = [] := by simp [foldL]
theorem norm_fold (n d r : List UInt8) : norm ⟨foldL n, foldL d, r⟩ = norm ⟨n, d, r⟩ := by
  unfold norm; simp only [foldL_foldL]
theorem fin_fold (n d r : List UInt8) : fin ⟨foldL n, foldL d, r⟩ = fin ⟨n, d, r⟩ := by unfold fin; rw [norm_fold]
theorem ps2_low (l r : List UInt8) : ps2 (foldL l) r = ps2 l r := by
  unfold ps2
  rw [cut1_fold low64]
  cases cut1 64 l with
  | none => exact fin_fold [] l r
  | some p =>
    simp only [Option.map_some]
    by_cases e : p.1 = []
    · rw [if_pos e, if_pos (fold_empty.2 e)]
    · rw [if_neg e, if_neg (fun x => e (fold_empty.1 x))]
      exact fin_fold _ _ _
theorem ps2_same {l m : List UInt8} (h : foldL l = foldL m) (r : List UInt8) : ps2 l r = ps2 m r := by
  rw [← ps2_low l, h, ps2_low]
theorem cut1_append {c : UInt8} (y : List UInt8) : ∀ {x : List UInt8}, c ∉ x → cut1 c (x ++ y) = (cut1 c y).map fun p => (x ++ p.1, p.2)
  | [], _ => by simp
  | b :: r, h => by
    simp only [List.mem_cons, not_or] at h
    rw [List.cons_append, cut1, if_neg (fun e => h.1 e.symm), cut1_append y h.2]
    cases cut1 c y <;> rfl
/-- Ahead of the first 47 the case of a letter has no part. -/
theorem case_ahead {a r : List UInt8} {b b' : UInt8} (ha : (47 : UInt8) ∉ a) (h1 : b ≠ 47) (h2 : b' ≠ 47) (hl : low b = low b') : ps (a ++ b :: r) = ps (a ++ b' :: r) := by
  have e : ∀ x, foldL (a ++ b :: x) = foldL (a ++ b' :: x) := fun x => by rw [fold_append, fold_append, fold_cons, fold_cons, hl]
  have m1 : (47 : UInt8) ∉ a ++ [b] := by simp only [List.mem_append, List.mem_singleton, not_or]; exact ⟨ha, fun x => h1 x.symm⟩
  have m2 : (47 : UInt8) ∉ a ++ [b'] := by simp only [List.mem_append, List.mem_singleton, not_or]; exact ⟨ha, fun x => h2 x.symm⟩
  have c1 := cut1_append r m1
  have c2 := cut1_append r m2
  rw [List.append_assoc, List.singleton_append] at c1 c2
  unfold ps
  rw [c1, c2]
  cases cut1 47 r with
  | none => exact ps2_same (e r) []
  | some p =>
    simp only [Option.map_some, List.append_assoc, List.singleton_append]
    split
    · rfl
    · exact ps2_same (e p.1) p.2
theorem fin_res {n d r r' : List UInt8} (h : part r ↔ part r') (hne : r ≠ r') : (fin ⟨n, d, r⟩ = none ∧ fin ⟨n, d, r'⟩ = none) ∨ ∃ j k, fin ⟨n, d, r⟩ = some j ∧ fin ⟨n, d, r'⟩ = some k ∧ j.n = k.n ∧ j.d = k.d ∧ j.r ≠ k.r := by
  have e : ok (norm ⟨n, d, r⟩) = ok (norm ⟨n, d, r'⟩) := by
    rw [Bool.eq_iff_iff, ok_iff, ok_iff]
    unfold Ok norm
    simp only [h]
  unfold fin
  rw [e]
  cases ok (norm ⟨n, d, r'⟩) with
  | false => exact .inl ⟨rfl, rfl⟩
  | true => exact .inr ⟨_, _, rfl, rfl, rfl, rfl, hne⟩
theorem ps2_res {l r r' : List UInt8} (h : part r ↔ part r') (hne : r ≠ r') : (ps2 l r = none ∧ ps2 l r' = none) ∨ ∃ j k, ps2 l r = some j ∧ ps2 l r' = some k ∧ j.n = k.n ∧ j.d = k.d ∧ j.r ≠ k.r := by
  unfold ps2
  cases cut1 64 l with
  | none => exact fin_res h hne
  | some p =>
    simp only
    split
    · exact .inl ⟨rfl, rfl⟩
    · exact fin_res h hne
/-- Behind it the case has a part. -/
theorem case_behind {a r : List UInt8} {b b' : UInt8} (ha : (47 : UInt8) ∈ a) (hne : b ≠ b') (h1 : 65 ≤ b.toNat ∧ b.toNat ≤ 122) (h2 : 65 ≤ b'.toNat ∧ b'.toNat ≤ 122) :
    (ps (a ++ b :: r) = none ∧ ps (a ++ b' :: r) = none) ∨ ∃ j k, ps (a ++ b :: r) = some j ∧ ps (a ++ b' :: r) = some k ∧ j.n = k.n ∧ j.d = k.d ∧ j.r ≠ k.r := by
  cases hc : cut1 47 a with
  | none => exact absurd ha (cut1_none hc)
  | some p =>
    obtain ⟨x, y⟩ := p
    obtain ⟨rfl, hx⟩ := cut1_some hc
    have e : ∀ b : UInt8, x ++ 47 :: y ++ b :: r = x ++ 47 :: (y ++ b :: r) := fun b => by simp
    unfold ps
    rw [e, e, cut1_at _ hx, cut1_at _ hx]
    simp only
    rw [if_neg (by simp), if_neg (by simp)]
    refine ps2_res ?_ (fun x => hne (by have := List.append_cancel_left x; injection this))
    have hb : ∀ c : UInt8, 65 ≤ c.toNat ∧ c.toNat ≤ 122 → bar4 c = false := by
      intro c hc
      rw [Bool.eq_false_iff]; unfold bar4
      intro e
      simp only [List.contains_eq_mem, List.mem_cons, List.not_mem_nil, or_false, decide_eq_true_eq] at e
      rcases e with rfl | rfl | rfl | rfl <;> revert hc <;> decide
    unfold part
    rw [List.length_append, List.length_append, List.length_cons, List.length_cons, List.any_append, List.any_append, List.any_cons, List.any_cons, hb b h1, hb b' h2]
    exact and_congr Iff.rfl (and_congr ⟨fun h => h.put (by omega) (by omega), fun h => h.put (by omega) (by omega)⟩ Iff.rfl)


end Go.Proofs.YtlklmoohoobjjaaGreatDoor.Jd

namespace Go.Proofs.YtlklmoohoobjjaaGreatDoor.Jn
open Go.RowKit Go.Lib Go.Shelf Sg Jd

theorem last_high {c : Nat} (h : isSg c = true) (hc : ¬ c < 128) : ∃ m, (enc c).length = m + 1 ∧ 1 ≤ m ∧ m ≤ 3 ∧ 128 ≤ nb (enc c) m := by
  have h1 := (enc_big h hc).2
  have h2 := enc_len_le c
  refine ⟨(enc c).length - 1, by omega, by omega, by omega, ?_⟩
  have h3 := (inner_iff _).1 (enc_rest h ((enc c).length - 1) (by omega) (by omega))
  omega
theorem index_high {l : List UInt8} (h : ∀ b ∈ l, b.toNat < 128) {y : Nat} (hy : 128 ≤ y) (hy2 : y < 256) : Lib.indexByte l (u y) = -1 := by
  rw [indexByte_cut, cut1_out]
  intro e
  have := h _ e
  rw [u_nat hy2] at this
  omega
theorem nb_ascii {l : List UInt8} (h : ∀ b ∈ l, b.toNat < 128) (i : Nat) : nb l i < 128 := by
  unfold nb
  rw [List.getD_eq_getElem?_getD]
  cases e : l[i]? with
  | none => simp
  | some b => exact h b (List.mem_of_getElem? e)

theorem bel_drew (w : World) (n : Nat) : Below w.heap.size w (w.drewN n) := below_drewN (Below.refl _ _) n

set_option maxRecDepth 100000 in
set_option maxHeartbeats 4000000 in
theorem ix_hi (s : ByteArray) (c : Nat) (w : World) (h4 : 4 ≤ s.size) (hs : s.size ≤ 1000) (ha : ∀ b ∈ s.data.toList, b.toNat < 128) (hc : isSg c = true) (h128 : ¬ c < 128) (hF : c ≠ 65533) :
    Calls Tryz.prog 107 #[.string s, .int .i32 c] w fun e w' => e = .returned (.int .i64 (-1)) ∧ Below w.heap.size w w' := by
  obtain ⟨m, hm, h1, h3, hy⟩ := last_high hc h128
  have hb := (isSg_iff c).1 hc
  obtain ⟨R, he, hRs, hRl⟩ : ∃ R : ByteArray, Utf8.encode (c : Int) = R ∧ R.size = m + 1 ∧ R.data.toList = enc c := ⟨_, encode_eq hc, by rw [Lib.size_eq]; exact hm, rfl⟩
  have hval : Lib.validRune (c : Int) = true := by simp only [Lib.validRune, decide_eq_true_eq]; omega
  have V := Lib.hid (fun W => (Any.utf8_ValidRune Tryz.lays119 (c : Int) W))
  have HV := Lib.hid hval
  have hmR : m < R.size := by omega
  have hyb := byte_nb R m hmR
  have hy256 := nb_lt (enc c) m
  rw [hRl] at hyb
  generalize nb (enc c) m = y at hy hyb hy256
  have hms : m < s.size := by omega
  have hxb := byte_nb s m hms
  have hx := nb_ascii ha m
  generalize nb s.data.toList m = x at hx hxb
  have IX := Lib.hid (fun W => (Any.strings_IndexByte Tryz.lays137 (s.extract (m + 1) s.size) (y : Int) W))
  have HI : Hid (Lib.indexByte (s.extract (m + 1) s.size).data.toList ((y : Int).toNat.toUInt8) = -1) := by
    have h0 : ∀ b ∈ (s.extract (m + 1) s.size).data.toList, b.toNat < 128 := by
      intro b hb
      rw [extract_drop] at hb
      exact ha b (List.mem_of_mem_drop hb)
    exact index_high h0 hy hy256
  have HW := Lib.hid (fun n => bel_drew w n)
  have f1 : decide ((c : Int) < 128) = false := by simp; omega
  have f2 : ((c : Int) == 65533) = false := by rw [beq_eq_false_iff_ne]; omega
  have f3 : bne (x : Int) (y : Int) = true := by simp; omega
  have hci : (c : Int) ≤ 1114111 := by omega
  have hRi : (R.size : Int) = (m : Int) + 1 := by omega
  clear hc h128 hF hb hval hm hRs hRl ha
  go_enter Tryz.func107, Tryz.ntmps107
  go_wp2_with fail
  refine (V.out _).mono ?_
  rintro r w' ⟨rfl, rfl⟩
  rw [HV.out]
  go_wp2_with fail
  go_step3
  go_wp2_with fail
  go_loop [9, 10] (fun i f => i = .int .i64 (m : Int) ∧ f = .int .i64 0) (fun _ _ => 0)
  case atStart => exact ⟨rfl, rfl⟩
  case round =>
    obtain ⟨rfl, rfl⟩ := hrel
    go_wp2_with fail
    go_step3
    go_wp2_with fail
    go_quiet (fail)
    go_wp2_with fail
    have HB1 := Lib.hid (HW.out nq)
    generalize w'.drewN nq = w2 at HB1 ⊢
    have g1 : IntKind.i64.wrap ((m : Int) + 1) = (m : Int) + 1 := IntWalk.i64_in _ (by omega)
    have g2 : ((m : Int) + 1).toNat = m + 1 := by omega
    have g3 : (0 : Int) ≤ (m : Int) + 1 := by omega
    have g4 : (m : Int) + 1 ≤ (s.size : Int) := by omega
    go_quiet ((go_at_call 117; exact Calls.quiet_of_same (IX.out _)))
    rw [HI.out]
    go_wp2_with fail
    dsimp (zetaDelta := true) only [Exit.noGoto, Exit.inBlock, Exit.then]
    go_ret
    exact ⟨rfl, below_drewN HB1.out _⟩
set_option maxRecDepth 100000 in
set_option maxHeartbeats 4000000 in
theorem ix_err (s : ByteArray) (w : World) (ha : ∀ b ∈ s.data.toList, b.toNat < 128) :
    Calls Tryz.prog 107 #[.string s, .int .i32 65533] w fun e w' => e = .returned (.int .i64 (-1)) ∧ Below w.heap.size w w' := by
  have HA := Lib.hid ha
  clear ha
  go_enter Tryz.func107, Tryz.ntmps107
  go_wp2_with fail
  go_loopg [5, 6] s.size (fun g _ _ wx => ∃ i : Nat, i + g = s.size ∧ wx = w.iter s i)
  case atStart => exact ⟨0, by omega, rfl⟩
  case round =>
    obtain ⟨i, hig, rfl⟩ := hrel
    cases gk with
    | zero =>
      obtain rfl : i = s.size := by omega
      have hnx := run_next_end (P := Tryz.prog) w s s.size
      go_wp2_with fail
      go_ret
      exact ⟨rfl, (Below.refl _ _).alloc (Nat.le_refl _) _⟩
    | succ g =>
      have hi : i < s.size := by omega
      have hb := byte_nb s i hi
      have hx := nb_ascii HA.out i
      have hnx := fun ty => run_next_ascii (P := Tryz.prog) w s i ty hi (by rw [hb]; exact hx)
      rw [hb] at hnx
      generalize nb s.data.toList i = x at hx hnx
      have f : ((x : Int) == 65533) = false := by rw [beq_eq_false_iff_ne]; omega
      clear hb
      go_wp2_with fail
      go_roundg g
      case measure => omega
      case rel => exact ⟨i + 1, by omega, rfl⟩


end Go.Proofs.YtlklmoohoobjjaaGreatDoor.Jn

namespace Go.Proofs.YtlklmoohoobjjaaGreatDoor.Jn
open Go.RowKit Go.Lib Go.Shelf Sg Jd

def hitI (l : List UInt8) (c : Nat) : Int := if c < 128 then Lib.indexByte l (u c) else -1
theorem hit_any {l : List UInt8} (ha : ∀ b ∈ l, b.toNat < 128) {c : Nat} (hc : Sg.ok c = true) : decide (0 ≤ hitI l c) = (enc c).any (l.contains ·) := by
  have hp : ∀ b : UInt8, 128 ≤ b.toNat → l.contains b = false := by
    intro b hb
    rw [Bool.eq_false_iff]
    intro e
    have := ha b (by simpa using e)
    omega
  rw [enc_any hp hc]
  unfold hitI
  by_cases h : c < 128
  · rw [if_pos h, ← Lib.contains_iff_indexByte]; simp [h]
  · rw [if_neg h]; simp [h]
theorem ix_sign (ch : ByteArray) (c : Nat) (w : World) (h4 : 4 ≤ ch.size) (hs : ch.size ≤ 1000) (ha : ∀ b ∈ ch.data.toList, b.toNat < 128) (hc : Sg.ok c = true) :
    Calls Tryz.prog 107 #[.string ch, .int .i32 c] w fun e w' => e = .returned (.int .i64 (hitI ch.data.toList c)) ∧ Below w.heap.size w w' := by
  unfold hitI
  by_cases h : c < 128
  · rw [if_pos h]
    exact (Any.strings_IndexRune_ascii Tryz.lays152 ch (c : Int) w (by omega) (by omega)).mono fun e w' ⟨he, hw⟩ => by
      subst hw
      exact ⟨he, Below.refl _ _⟩
  · rw [if_neg h]
    by_cases hF : c = 65533
    · subst hF; exact ix_err ch w ha
    · exact ix_hi ch c w h4 hs ha (ok_sg hc) h hF
theorem indexAny_any (ch : List UInt8) : ∀ l : List UInt8, decide (0 ≤ Lib.indexAny l ch) = l.any (ch.contains ·)
  | [] => rfl
  | b :: l => by
    have ih := indexAny_any ch l
    have hge := Lib.indexAny_ge ch l
    rw [Lib.indexAny, List.any_cons]
    cases h : ch.contains b with
    | true => simp
    | false =>
      rw [Bool.false_or, ← ih]
      simp only [Bool.false_eq_true, if_false]
      by_cases hm : Lib.indexAny l ch = -1
      · rw [hm]; simp
      · rw [if_neg (by simpa using hm)]
        exact decide_eq_decide.2 (by omega)
/-- What IndexAny answers: a number that is not below 0 just if one is found. -/
def AnyP (b : Bool) (w : World) (e : Ending) (w' : World) : Prop := ∃ i : Int, e = .returned (.int .i64 i) ∧ decide (0 ≤ i) = b ∧ Below w.heap.size w w'
theorem AnyP.mk {b : Bool} {w w' : World} {e : Ending} (i : Int) (he : e = .returned (.int .i64 i)) (hi : decide (0 ≤ i) = b) (hb : Below w.heap.size w w') : AnyP b w e w' := ⟨i, he, hi, hb⟩
theorem dec_at {s : ByteArray} {done rest : List Nat} {c : Nat} (h : s.data.toList = cat done ++ cat (c :: rest)) (hc : Sg.ok c = true) :
    (cat done).length < s.size ∧ Utf8.decode s (cat done).length = (c, (enc c).length) := by
  have hl := congrArg List.length h
  rw [cat_cons, List.length_append, List.length_append, ← Lib.size_eq] at hl
  have h1 := (enc_len_le c).1
  have hlt : (cat done).length < s.size := by omega
  refine ⟨hlt, ?_⟩
  have hd : s.data.toList.drop (cat done).length = enc c ++ cat rest := by rw [h, List.drop_left' rfl, cat_cons]
  rw [decode_drop s _ hlt, hd, dec_enc (ok_sg hc)]

set_option maxRecDepth 100000 in
set_option maxHeartbeats 4000000 in
theorem any_short (s ch : ByteArray) (w : World) (h4 : 4 ≤ ch.size) (hs : ch.size ≤ 1000) (ha : ∀ b ∈ ch.data.toList, b.toNat < 128) (h8 : s.size ≤ 8) {cs : List Nat} (ht : IsT s.data.toList cs) :
    Calls Tryz.prog 104 #[.string s, .string ch] w (AnyP (s.data.toList.any (ch.data.toList.contains ·)) w) := by
  have R := Lib.hid (fun c W (hc : Sg.ok c = true) => ix_sign ch c W h4 hs ha hc)
  have HA := Lib.hid ha
  have HT := Lib.hid ht
  have SU := Lib.hid (fun W => Any.strings_shouldUseASCIISet Tryz.lays226 (s.size : Int) W)
  have e8 : decide ((8 : Int) < s.size) = false := by simp; omega
  have hemp : ch.toList.isEmpty = false := by
    rw [ByteArray.toList_eq]
    cases h : ch.data.toList with
    | nil => have := Lib.size_eq ch; rw [h, List.length_nil] at this; omega
    | cons _ _ => rfl
  have hn1 : ((ch.size : Int) == 1) = false := beq_eq_false_iff_ne.2 (by omega)
  clear ha ht
  go_enter Tryz.func104, Tryz.ntmps104
  go_wp2_with fail
  refine (SU.out _).mono ?_
  rintro r w1 ⟨rfl, hw⟩
  subst hw
  rw [e8]
  go_wp2_with fail
  go_loopg [9, 10] cs.length (fun g _ _ wr => ∃ done rest, cs = done ++ rest ∧ rest.length = g ∧ wr.heap[w1.heap.size]? = some (.stringIter s (cat done).length) ∧ Hid (Below w1.heap.size w1 wr) ∧ Hid ((cat done).any (ch.data.toList.contains ·) = false))
  case atStart => exact ⟨[], cs, rfl, rfl, World.iter_heap _ _ _, (Below.refl _ _).alloc (Nat.le_refl _) _, rfl⟩
  case round =>
    obtain ⟨done, rest, hcs, hg, hit, HB, HN⟩ := hrel
    have HC := Lib.hid hcs
    have HG := Lib.hid hg
    clear hcs hg
    cases gk with
    | zero =>
      have hend : Hid (rest = []) := List.length_eq_zero_iff.1 HG.out
      have hsz : ¬ (cat done).length < s.size := by
        have h1 := congrArg List.length HT.out.2
        rw [HC.out, hend.out, List.append_nil, ← Lib.size_eq] at h1
        omega
      have hnx := fun ty => run_next_end_at (P := Tryz.prog) wr _ s _ ty hit hsz
      have HF : Hid (s.data.toList.any (ch.data.toList.contains ·) = false) := by
        show _ = _
        rw [HT.out.2, HC.out, hend.out, List.append_nil]; exact HN.out
      clear hsz hit
      go_wp2_with fail
      go_ret
      exact AnyP.mk _ rfl HF.out.symm HB.out
    | succ g =>
      obtain ⟨c, rest2, hr⟩ : ∃ c rest2, rest = c :: rest2 := by
        cases rest with
        | nil => have := HG.out; simp at this
        | cons c r => exact ⟨c, r, rfl⟩
      subst hr
      have hok : Sg.ok c = true := HT.out.1 c (by rw [HC.out]; simp)
      have hall : s.data.toList = cat done ++ cat (c :: rest2) := by rw [HT.out.2, HC.out, cat_append]
      obtain ⟨hlt, hd⟩ := dec_at hall hok
      have hnx := fun ty => run_next_any_at (P := Tryz.prog) wr _ s _ ty hit hlt
      rw [hd] at hnx
      have hit2 := Lib.iterAt_heap wr _ s _ ((cat done).length + (enc c).length) hit
      have hh := hit_any HA.out hok
      have hcc : Hid ((cat (done ++ [c])).any (ch.data.toList.contains ·) = (enc c).any (ch.data.toList.contains ·)) := by
        show _ = _
        rw [cat_append, List.any_append, HN.out, Bool.false_or]; simp [cat]
      have hlen : (cat (done ++ [c])).length = (cat done).length + (enc c).length := by rw [cat_append, List.length_append]; simp [cat]
      have HB2 := Lib.hid (Lib.below_iterAt HB.out (Nat.le_refl _) s ((cat done).length + (enc c).length))
      have HL := Lib.hid hlen
      have HH := Lib.hid hit2
      have Rc := Lib.hid (fun W => R.out c W hok)
      have HAll : Hid ((enc c).any (ch.data.toList.contains ·) = true → s.data.toList.any (ch.data.toList.contains ·) = true) := by
        intro h
        rw [hall, cat_cons, List.any_append, List.any_append, h]; simp
      generalize wr.iterAt w1.heap.size s ((cat done).length + (enc c).length) = w2 at hnx hit2 HB2 HH
      cases hv : (enc c).any (ch.data.toList.contains ·) with
      | true =>
        have HT2 := Lib.hid (HAll.out hv)
        rw [hv] at hh
        clear hv hd hlt hit hit2 hlen hall hok
        go_wp2_with fail
        refine (Rc.out _).mono ?_
        rintro r w3 ⟨rfl, hb⟩
        have HB3 := Lib.hid (HB2.out.trans (hb.mono HB2.out.size))
        clear hb
        go_wp2_with fail
        go_ret
        exact AnyP.mk _ rfl (by rw [HT2.out]; simp) HB3.out
      | false =>
        have HV : Hid ((cat (done ++ [c])).any (ch.data.toList.contains ·) = false) := hcc.out.trans hv
        rw [hv] at hh
        clear hv hd hlt hit hit2 hlen hall hok
        go_wp2_with fail
        refine (Rc.out _).mono ?_
        rintro r w3 ⟨rfl, hb⟩
        have hlt2 : w1.heap.size < w2.heap.size := (Array.getElem?_eq_some_iff.1 HH.out).1
        have HI : Hid (w3.heap[w1.heap.size]? = some (.stringIter s (cat (done ++ [c])).length)) := by
          show _ = _
          rw [hb.block _ hlt2, HL.out]; exact HH.out
        have HB3 := Lib.hid (HB2.out.trans (hb.mono HB2.out.size))
        clear hb
        go_wp2_with fail
        go_roundg g
        case measure => omega
        case rel => exact ⟨done ++ [c], rest2, by rw [HC.out]; simp, by have := HG.out; simpa using this, HI.out, HB3.out, HV.out⟩

theorem set256 : (Tryz.prog.info? 126).map (fun i => (i.zero, i.size)) = some (some (.agg (Array.replicate 256 (.bool false))), 256) := by kernel_rfl
set_option maxRecDepth 100000 in
theorem any_text (s ch : ByteArray) (w : World) (hs : s.size ≤ 1048576) (h4 : 4 ≤ ch.size) (hc : ch.size ≤ 1000) (ha : ∀ b ∈ ch.data.toList, b.toNat < 128) {cs : List Nat} (ht : IsT s.data.toList cs) :
    Calls Tryz.prog 104 #[.string s, .string ch] w (AnyP (s.data.toList.any (ch.data.toList.contains ·)) w) := by
  by_cases h8 : s.size ≤ 8
  · exact any_short s ch w h4 hc ha h8 ht
  · have L := Any.strings_IndexAny_long Tryz.lays153 (zero_of_info set256).1 (zero_of_info set256).2 s ch w (by omega) (by omega) (by omega) (by omega) (fun j b hb => ha b (List.mem_of_getElem? hb))
    exact L.mono fun e w' ⟨he, hw⟩ => by
      subst hw
      exact AnyP.mk _ he (indexAny_any _ _) (((Below.refl _ _).alloc (Nat.le_refl _) _).alloc (by simp) _)
theorem contains_text (s ch : ByteArray) (w : World) (hs : s.size ≤ 1048576) (h4 : 4 ≤ ch.size) (hc : ch.size ≤ 1000) (ha : ∀ b ∈ ch.data.toList, b.toNat < 128) {cs : List Nat} (ht : IsT s.data.toList cs) :
    Calls Tryz.prog 92 #[.string s, .string ch] w fun e w' => e = .returned (.bool (s.data.toList.any (ch.data.toList.contains ·))) ∧ Below w.heap.size w w' := by
  have H := Lib.hid (any_text s ch w hs h4 hc ha ht)
  generalize s.data.toList.any (ch.data.toList.contains ·) = b at H ⊢
  clear ht ha
  go_enter Tryz.func92, Tryz.ntmps92
  go_wp2_with fail
  refine H.out.mono ?_
  rintro r w1 ⟨i, rfl, hi, hb⟩
  have HB := Lib.hid hb
  have HI := Lib.hid hi
  clear hb hi
  go_wp2_with fail
  go_ret
  exact ⟨by rw [← HI.out]; rfl, HB.out⟩



end Go.Proofs.YtlklmoohoobjjaaGreatDoor.Jn

namespace Go.Proofs.YtlklmoohoobjjaaGreatDoor.Jn
open Go.RowKit Go.Lib Go.Shelf Sg Jd

def mk (l : List UInt8) : ByteArray := ⟨l.toArray⟩
theorem mk_list (l : List UInt8) : (mk l).data.toList = l := by simp [mk]
theorem mk_size (l : List UInt8) : (mk l).size = l.length := by rw [Lib.size_eq, mk_list]
theorem mk_of (s : ByteArray) : mk s.data.toList = s := by simp [mk]
theorem mk_eq {s : ByteArray} {l : List UInt8} (h : s.data.toList = l) : s = mk l := by rw [← h, mk_of]
theorem mk_inj {l m : List UInt8} : mk l = mk m ↔ l = m := ⟨fun h => by have := congrArg (fun s => s.data.toList) h; simpa [mk] using this, fun h => by rw [h]⟩

/-- What strings.Cut answers at one byte. -/
def CutP (c : UInt8) (l : List UInt8) (w : World) (e : Ending) (w' : World) : Prop :=
  ((∃ x y, cut1 c l = some (x, y) ∧ e = .returned (.tuple #[.string (mk x), .string (mk y), .bool true])) ∨ (cut1 c l = none ∧ e = .returned (.tuple #[.string (mk l), .string (mk []), .bool false]))) ∧ Below w.heap.size w w'
theorem ext_take (s : ByteArray) (k : Nat) : s.extract 0 k = mk (s.data.toList.take k) := extract_zero s k
theorem ext_drop (s : ByteArray) (k : Nat) : s.extract k s.size = mk (s.data.toList.drop k) := mk_eq (extract_drop s k)

set_option maxRecDepth 100000 in
set_option maxHeartbeats 2000000 in
theorem slCut_any (s : ByteArray) (c : UInt8) (w : World) (hs : s.size ≤ 1048576) :
    Calls Tryz.prog 88 #[.string s, .string ⟨#[c]⟩] w (CutP c s.data.toList w) := by
  have I := Lib.hid (fun W => Any.stringslite_Index_one Tryz.lays219 s c W)
  have HE := Lib.hid (indexByte_cut (c := c) s.data.toList)
  have HW : Hid (Below w.heap.size w w) := Below.refl _ _
  have hone : ((⟨#[c]⟩ : ByteArray).size : Int) = 1 := rfl
  have hone2 : (⟨#[c]⟩ : ByteArray).size = 1 := rfl
  generalize (⟨#[c]⟩ : ByteArray) = C at I hone hone2 ⊢
  rcases hc : cut1 c s.data.toList with _ | ⟨x, y⟩
  · have HI : Hid (Lib.indexByte s.data.toList c = -1) := by have := HE.out; rw [hc] at this; exact this
    have HF : Hid (cut1 c s.data.toList = none) := hc
    have HM := Lib.hid (mk_of s)
    clear hc HE
    go_enter Tryz.func88, Tryz.ntmps88
    go_wp2_with fail
    refine (I.out _).mono ?_
    rintro r w1 ⟨rfl, hw⟩
    subst hw
    rw [HI.out]
    go_wp2_with fail
    go_ret3
    exact ⟨.inr ⟨HF.out, by rw [HM.out]; rfl⟩, HW.out⟩
  · obtain ⟨hl, hn⟩ := cut1_some hc
    have hlen := congrArg List.length hl
    rw [List.length_append, List.length_cons, ← Lib.size_eq] at hlen
    have HI : Hid (Lib.indexByte s.data.toList c = (x.length : Int)) := by have := HE.out; rw [hc] at this; exact this
    have HF : Hid (cut1 c s.data.toList = some (x, y)) := hc
    have HX : Hid (s.extract 0 x.length = mk x) := by show _ = _; rw [ext_take, hl, List.take_left' rfl]
    have HY : Hid (s.extract (x.length + 1) s.size = mk y) := by show _ = _; rw [ext_drop, hl, show x ++ c :: y = (x ++ [c]) ++ y by simp, List.drop_left' (by simp)]
    have hk : x.length + 1 ≤ s.size := by omega
    generalize x.length = k at HI HX HY hk
    have g1 : IntKind.i64.wrap ((k : Int) + 1) = (k : Int) + 1 := IntWalk.i64_in _ (by omega)
    have g2 : ((k : Int) + 1).toNat = k + 1 := by omega
    have g3 : (0 : Int) ≤ (k : Int) + 1 := by omega
    have g4 : (k : Int) + 1 ≤ (s.size : Int) := by omega
    have g5 : (k : Int) ≤ (s.size : Int) := by omega
    clear hc HE hl hn hlen hone2
    go_enter Tryz.func88, Tryz.ntmps88
    go_wp2_with fail
    refine (I.out _).mono ?_
    rintro r w1 ⟨rfl, hw⟩
    subst hw
    rw [HI.out]
    go_wp2_with fail
    go_quiet (fail)
    go_wp2_with fail
    go_ret3
    exact ⟨.inl ⟨x, y, HF.out, by rw [← HX.out, ← HY.out]; rfl⟩, bel_drew _ _⟩
set_option maxHeartbeats 1000000 in
theorem cut_any (s : ByteArray) (c : UInt8) (w : World) (hs : s.size ≤ 1048576) :
    Calls Tryz.prog 71 #[.string s, .string ⟨#[c]⟩] w (CutP c s.data.toList w) := by
  have H := Lib.hid (slCut_any s c w hs)
  go_enter Tryz.func71, Tryz.ntmps71
  go_wp2_with fail
  refine H.out.mono ?_
  rintro r w1 ⟨hor, hb⟩
  have HB := Lib.hid hb
  clear hb
  rcases hor with ⟨x, y, hc, rfl⟩ | ⟨hc, rfl⟩
  · have HC := Lib.hid hc
    clear hc
    go_wp2_with fail
    go_ret3
    exact ⟨.inl ⟨x, y, HC.out, rfl⟩, HB.out⟩
  · have HC := Lib.hid hc
    clear hc
    go_wp2_with fail
    go_ret3
    exact ⟨.inr ⟨HC.out, rfl⟩, HB.out⟩
theorem cut_yes (s : ByteArray) (c : UInt8) (w : World) (hs : s.size ≤ 1048576) {x y : List UInt8} (h : cut1 c s.data.toList = some (x, y)) :
    Calls Tryz.prog 71 #[.string s, .string ⟨#[c]⟩] w fun e w' => e = .returned (.tuple #[.string (mk x), .string (mk y), .bool true]) ∧ Below w.heap.size w w' :=
  (cut_any s c w hs).mono fun e w' ⟨hor, hb⟩ => by
    rcases hor with ⟨x', y', hc, he⟩ | ⟨hc, _⟩
    · rw [h] at hc
      simp only [Option.some.injEq, Prod.mk.injEq] at hc
      obtain ⟨rfl, rfl⟩ := hc
      exact ⟨he, hb⟩
    · rw [h] at hc; cases hc
theorem cut_no (s : ByteArray) (c : UInt8) (w : World) (hs : s.size ≤ 1048576) (h : cut1 c s.data.toList = none) :
    Calls Tryz.prog 71 #[.string s, .string ⟨#[c]⟩] w fun e w' => e = .returned (.tuple #[.string s, .string (mk []), .bool false]) ∧ Below w.heap.size w w' :=
  (cut_any s c w hs).mono fun e w' ⟨hor, hb⟩ => by
    rcases hor with ⟨x', y', hc, _⟩ | ⟨_, he⟩
    · rw [h] at hc; cases hc
    · rw [mk_of] at he; exact ⟨he, hb⟩

theorem str9 : (Tryz.prog.info? 9).map (fun i => (i.zero, i.size, i.bytes)) = some (some (.string ByteArray.empty), 1, 16) := by kernel_rfl
def pcs (s : ByteArray) : List ByteArray := Lib.splitB ⟨#[46]⟩ 0 (Lib.countB s ⟨#[46]⟩) s
theorem pcs_len (s : ByteArray) : (pcs s).length = Lib.countB s ⟨#[46]⟩ + 1 := Lib.splitB_all ⟨#[46]⟩ (by decide) 0 _ s rfl
set_option maxHeartbeats 1000000 in
theorem split_any (s : ByteArray) (w : World) (hs : s.size ≤ 1048576) :
    Calls Tryz.prog 105 #[.string s, .string ⟨#[46]⟩] w fun e w' =>
      e = .returned (.slice (some ⟨w.heap.size, 0, none⟩) (pcs s).length (pcs s).length) ∧ w' = w.alloc (.cells ((pcs s).map Value.string).toArray 9) := by
  have hle := Lib.countB_le ⟨#[46]⟩ (by decide) s.size s (Nat.le_refl _)
  have hlen := pcs_len s
  have c := Any.strings_genSplit_core Tryz.lays221 str9 s ⟨#[46]⟩ 0 (-1) (Lib.countB s ⟨#[46]⟩ + 1) w (by omega) (by decide) (Nat.zero_le _)
    (fun x cc hx => (Any.strings_Index_one Tryz.lays143 x 46 _).mono fun e w' ⟨he, hw⟩ => ⟨by rw [he, ← Jd.index_byte], hw⟩)
    ((Any.strings_Count_one Tryz.lays138 s 46 w).mono fun e w' ⟨he, hw⟩ => ⟨by rw [he]; show _ = Ending.returned (Value.int .i64 ((Lib.count s.data.toList [46] : Nat) : Int)); rw [Lib.count_one]; rfl, hw⟩)
    (by decide) (by decide) (by rw [if_pos (by decide)]; omega)
  rw [Nat.add_sub_cancel] at c
  change Calls _ _ _ _ (fun e w' => e = .returned (.slice (some ⟨w.heap.size, 0, none⟩) (pcs s).length (Lib.countB s ⟨#[46]⟩ + 1)) ∧ w' = w.alloc (.cells (Lib.cellsOf (pcs s) (Lib.countB s ⟨#[46]⟩ + 1)) 9)) at c
  rw [← hlen, Lib.cellsOf_full] at c
  have H := Lib.hid c
  clear c hle hlen
  generalize pcs s = P at H ⊢
  go_enter Tryz.func105, Tryz.ntmps105
  go_wp2_with fail
  refine H.out.mono ?_
  rintro r w1 ⟨rfl, hw⟩
  subst hw
  go_wp2_with fail
  go_ret
  exact ⟨rfl, rfl⟩

theorem trimL_any (s : ByteArray) (w : World) (hs : s.size ≤ 1048576) :
    Calls Tryz.prog 68 #[.string s, .string ⟨#[97, 98, 99, 100, 101, 102, 103, 104, 105, 106, 107, 108, 109, 110, 111, 112, 113, 114, 115, 116, 117, 118, 119, 120, 121, 122, 48, 49, 50, 51, 52, 53, 54, 55, 56, 57, 45]⟩] w fun e w' => e = .returned (.string (mk (Lib.trimS s.data.toList letters))) ∧ Below w.heap.size w w' :=
  Any.strings_Trim_laid Tryz.lays160 (by kernel_rfl) s ⟨letters.toArray⟩ w (by omega) (by decide) (ascii_of_all (by decide))
theorem suffix_any (s : ByteArray) (w : World) (hs : s.size ≤ 1048576) :
    Calls Tryz.prog 90 #[.string s, .string ⟨#[46]⟩] w fun e w' => e = .returned (.string (mk (Lib.trimSuffix s.data.toList [46]))) ∧ Below w.heap.size w w' :=
  (Any.strings_TrimSuffix Tryz.lays102 s ⟨#[46]⟩ w (by omega)).mono fun e w' ⟨he, hw⟩ => ⟨he, by subst hw; exact Below.refl _ _⟩


end Go.Proofs.YtlklmoohoobjjaaGreatDoor.Jn
