/- Plain mathematics of addresses on lists of bytes: which may be, their plain form, their text, what a text tells; there and back; the case of letters. No condition; nothing of the program stands here. -/
import Derived.Test.YthhmdkdpfeofjaaDoorTxg
import Derived.Lib.SplitLaws
import Derived.Lib.SlTrimSet
namespace Go.Proofs.YthhmdkdpfeofjaaDoor.Jd
open Go Go.Lib Sg

theorem eqU {a b : UInt8} (h : a.toNat = b.toNat) : a = b := UInt8.toNat_inj.1 h
theorem lt256 (a : UInt8) : a.toNat < 256 := UInt8.toNat_lt a

/-! ### Texts, and a byte that stands alone -/
def Tx (l : List UInt8) : Prop := ∃ cs, IsT l cs
theorem Tx.nil : Tx [] := ⟨[], IsT.nil⟩
theorem enc_high {c : Nat} (h : isSg c = true) (hc : ¬ c < 128) : ∀ a ∈ enc c, 128 ≤ a.toNat := by
  intro a ha
  obtain ⟨i, hi, rfl⟩ := List.getElem_of_mem ha
  have hn : nb (enc c) i = (enc c)[i].toNat := by unfold nb; rw [List.getD_eq_getElem?_getD, List.getElem?_eq_getElem hi]; rfl
  rw [← hn]
  rcases Nat.eq_zero_or_pos i with h0 | h0
  · subst h0; have := (enc_big h hc).1; omega
  · have := (inner_iff _).1 (enc_rest h i h0 hi); omega
/-- A byte below 128 in a text is a sign of its own. -/
theorem split_at {b : UInt8} (hb : b.toNat < 128) {r : List UInt8} : ∀ (cs : List Nat) (a : List UInt8), IsT (a ++ b :: r) cs → ∃ c1 c2, cs = c1 ++ b.toNat :: c2 ∧ IsT a c1 ∧ IsT r c2 := by
  intro cs
  induction cs with
  | nil =>
    intro a h
    have := h.2
    rw [cat_nil] at this
    simp at this
  | cons c cs ih =>
    intro a h
    obtain ⟨hc, q, hq, ht⟩ := h.cons
    by_cases hs : c < 128
    · rw [enc_small hs] at hq
      cases a with
      | nil =>
        injection hq with h1 h2
        subst h2
        have hcn : c = b.toNat := by rw [h1, u_nat (by omega)]
        exact ⟨[], cs, by rw [hcn]; rfl, IsT.nil, ht⟩
      | cons x a =>
        injection hq with h1 h2
        have h2' : a ++ b :: r = q := h2
        obtain ⟨c1, c2, rfl, h3, h4⟩ := ih a (by rw [h2']; exact ht)
        refine ⟨c :: c1, c2, rfl, ?_, h4⟩
        have := (IsT.one hc).append h3
        rw [enc_small hs, ← h1] at this
        exact this
    · have hh := enc_high (ok_sg hc) hs
      have hle : (enc c).length ≤ a.length := by
        rcases Nat.lt_or_ge a.length (enc c).length with hlt | hge
        · exfalso
          have h1 : (a ++ b :: r)[a.length]? = some b := by simp
          rw [hq, List.getElem?_append_left hlt, List.getElem?_eq_getElem hlt] at h1
          have h2 := hh _ (List.getElem_mem hlt)
          simp only [Option.some.injEq] at h1
          rw [h1] at h2
          omega
        · exact hge
      have ha : a = enc c ++ a.drop (enc c).length := by
        have h1 := congrArg (List.take (enc c).length) hq
        rw [List.take_append_of_le_length hle, List.take_left'  rfl] at h1
        conv => lhs; rw [← List.take_append_drop (enc c).length a, h1]
      generalize a.drop (enc c).length = a2 at ha
      subst ha
      rw [List.append_assoc] at hq
      have h2 := List.append_cancel_left hq
      obtain ⟨c1, c2, rfl, h3, h4⟩ := ih a2 (by rw [h2]; exact ht)
      exact ⟨c :: c1, c2, rfl, (IsT.one hc).append h3, h4⟩
theorem Tx.put {a r : List UInt8} {b b' : UInt8} (h : Tx (a ++ b :: r)) (hb : b.toNat < 128) (hb' : 32 ≤ b'.toNat ∧ b'.toNat < 128) : Tx (a ++ b' :: r) := by
  obtain ⟨cs, h⟩ := h
  obtain ⟨c1, c2, _, h1, h2⟩ := split_at hb cs a h
  refine ⟨c1 ++ (b'.toNat :: c2), ?_⟩
  have hok : ok b'.toNat = true := ok_mk ((isSg_iff _).2 (by omega)) ((plain_iff _).2 (by omega))
  have h3 := IsT.one hok
  rw [enc_small hb'.2] at h3
  have e : u b'.toNat = b' := u_of rfl
  rw [e] at h3
  exact h1.append (h3.append h2)

/-! ### The parts -/
def bar4 (b : UInt8) : Bool := ([9, 10, 13, 127] : List UInt8).contains b
def barN (b : UInt8) : Bool := ([32, 34, 38, 39, 47, 58, 60, 62, 64] : List UInt8).contains b
def up (b : UInt8) : Bool := decide (65 ≤ b.toNat) && decide (b.toNat ≤ 90)
def letters : List UInt8 := [97, 98, 99, 100, 101, 102, 103, 104, 105, 106, 107, 108, 109, 110, 111, 112, 113, 114, 115, 116, 117, 118, 119, 120, 121, 122, 48, 49, 50, 51, 52, 53, 54, 55, 56, 57, 45]
def ld (b : UInt8) : Bool := letters.contains b
def dm : Bool → List UInt8 → Bool
  | p, [] => !p
  | p, b :: r => if b = 46 then !p && dm true r else ld b && dm false r
def part (l : List UInt8) : Prop := l.length ≤ 1023 ∧ Tx l ∧ l.any bar4 = false
structure J where
  n : List UInt8
  d : List UInt8
  r : List UInt8
deriving DecidableEq
def norm (j : J) : J := ⟨foldL j.n, Lib.trimSuffix (foldL j.d) [46], j.r⟩
def Ok (j : J) : Prop := part j.n ∧ part j.d ∧ part j.r ∧ j.n.any up = false ∧ j.n.any barN = false ∧ dm true j.d = true
open Classical in
noncomputable def okp (l : List UInt8) : Bool := decide (part l)
open Classical in
noncomputable def ok (j : J) : Bool := decide (Ok j)
theorem ok_iff (j : J) : ok j = true ↔ Ok j := by simp [ok]
theorem okp_iff (l : List UInt8) : okp l = true ↔ part l := by simp [okp]
theorem part_nil : part [] := ⟨by simp, Tx.nil, rfl⟩

/-! ### A text's front ahead of a byte, and what is behind it -/
def cut1 (c : UInt8) : List UInt8 → Option (List UInt8 × List UInt8)
  | [] => none
  | b :: r => if b = c then some ([], r) else (cut1 c r).map fun p => (b :: p.1, p.2)
theorem cut1_none {c : UInt8} : ∀ {l : List UInt8}, cut1 c l = none → c ∉ l
  | [], _ => by simp
  | b :: r, h => by
    rw [cut1] at h
    by_cases e : b = c
    · rw [if_pos e] at h; cases h
    · rw [if_neg e] at h
      simp only [Option.map_eq_none_iff] at h
      have := cut1_none h
      simp only [List.mem_cons, not_or]
      exact ⟨fun x => e x.symm, this⟩
theorem cut1_some {c : UInt8} : ∀ {l x y : List UInt8}, cut1 c l = some (x, y) → l = x ++ c :: y ∧ c ∉ x
  | [], _, _, h => by cases h
  | b :: r, x, y, h => by
    rw [cut1] at h
    by_cases e : b = c
    · rw [if_pos e] at h
      simp only [Option.some.injEq, Prod.mk.injEq] at h
      obtain ⟨rfl, rfl⟩ := h
      exact ⟨by rw [e]; rfl, by simp⟩
    · rw [if_neg e] at h
      simp only [Option.map_eq_some_iff] at h
      obtain ⟨⟨x', y'⟩, h1, h2⟩ := h
      simp only [Prod.mk.injEq] at h2
      obtain ⟨rfl, rfl⟩ := h2
      obtain ⟨h3, h4⟩ := cut1_some h1
      refine ⟨by rw [h3]; rfl, ?_⟩
      simp only [List.mem_cons, not_or]
      exact ⟨fun x => e x.symm, h4⟩
theorem cut1_out {c : UInt8} : ∀ {l : List UInt8}, c ∉ l → cut1 c l = none
  | [], _ => rfl
  | b :: r, h => by
    simp only [List.mem_cons, not_or] at h
    rw [cut1, if_neg (fun e => h.1 e.symm), cut1_out h.2]; rfl
theorem cut1_at {c : UInt8} (y : List UInt8) : ∀ {x : List UInt8}, c ∉ x → cut1 c (x ++ c :: y) = some (x, y)
  | [], _ => by rw [List.nil_append, cut1, if_pos rfl]
  | b :: r, h => by
    simp only [List.mem_cons, not_or] at h
    rw [List.cons_append, cut1, if_neg (fun e => h.1 e.symm), cut1_at y h.2]; rfl
theorem indexByte_cut {c : UInt8} : ∀ l : List UInt8, indexByte l c = match cut1 c l with | none => -1 | some p => (p.1.length : Int)
  | [] => rfl
  | b :: r => by
    rw [indexByte, cut1, indexByte_cut r]
    by_cases e : b = c
    · rw [if_pos e, if_pos (by simpa using e)]; rfl
    · rw [if_neg e, if_neg (by simpa using e)]
      cases h : cut1 c r with
      | none => rfl
      | some p =>
        simp only [Option.map_some, List.length_cons]
        rw [if_neg (by simp)]
        push_cast
        rfl
theorem index_byte (c : UInt8) : ∀ l : List UInt8, index l [c] = indexByte l c
  | [] => rfl
  | b :: r => by
    rw [index, indexByte, index_byte c r]
    by_cases e : b = c
    · subst e; simp
    · have h1 : ([c] : List UInt8).isPrefixOf (b :: r) = false := by simp [List.isPrefixOf]; exact fun x => e x.symm
      have h2 : (b == c) = false := by simpa using e
      rw [h1, h2]

/-! ### What a text tells -/
noncomputable def fin (j : J) : Option J := if ok (norm j) = true then some (norm j) else none
noncomputable def ps2 (l r : List UInt8) : Option J :=
  match cut1 64 l with
  | none => fin ⟨[], l, r⟩
  | some (x, y) => if x = [] then none else fin ⟨x, y, r⟩
noncomputable def ps (l : List UInt8) : Option J :=
  match cut1 47 l with
  | none => ps2 l []
  | some (x, y) => if y = [] then none else ps2 x y
def put (j : J) : List UInt8 := (if j.n = [] then [] else j.n ++ [64]) ++ (j.d ++ if j.r = [] then [] else 47 :: j.r)

theorem fin_some {j k : J} (h : fin j = some k) : Ok k := by
  unfold fin at h
  split at h
  · rename_i h1; simp only [Option.some.injEq] at h; subst h; exact (ok_iff _).1 h1
  · cases h
theorem ps2_some {l r : List UInt8} {k : J} (h : ps2 l r = some k) : Ok k := by
  unfold ps2 at h
  split at h
  · exact fin_some h
  · split at h
    · cases h
    · exact fin_some h
theorem ps_some {l : List UInt8} {k : J} (h : ps l = some k) : Ok k := by
  unfold ps at h
  split at h
  · exact ps2_some h
  · split at h
    · cases h
    · exact ps2_some h

/-! ### What may be is plain -/
theorem low_id {b : UInt8} (h : up b = false) : low b = b := by
  apply eqU
  rw [low_nat]
  unfold lowN
  unfold up at h
  rw [if_neg]
  rintro ⟨h1, h2⟩
  simp [h1, h2] at h
theorem fold_id {l : List UInt8} (h : l.any up = false) : foldL l = l := by
  unfold foldL
  conv => rhs; rw [← List.map_id l]
  apply List.map_congr_left
  intro a ha
  have := List.any_eq_false.1 h a ha
  exact low_id (by simpa using this)
theorem ld_range {b : UInt8} (h : ld b = true) : (97 ≤ b.toNat ∧ b.toNat ≤ 122) ∨ (48 ≤ b.toNat ∧ b.toNat ≤ 57) ∨ b.toNat = 45 := by
  unfold ld letters at h
  simp only [List.contains_eq_mem, List.mem_cons, List.not_mem_nil, or_false, decide_eq_true_eq] at h
  rcases h with h | h | h | h | h | h | h | h | h | h | h | h | h | h | h | h | h | h | h | h | h | h | h | h | h | h | h | h | h | h | h | h | h | h | h | h | h <;> subst h <;> decide
theorem ld_all : ∀ x : Fin 256, ld (u x.val) = ((decide (97 ≤ x.val) && decide (x.val ≤ 122)) || (decide (48 ≤ x.val) && decide (x.val ≤ 57)) || decide (x.val = 45)) := by decide +kernel
theorem dm_up : ∀ {p : Bool} {l : List UInt8}, dm p l = true → l.any up = false ∧ 47 ∉ l ∧ 64 ∉ l
  | _, [], _ => ⟨rfl, by simp, by simp⟩
  | p, b :: r, h => by
    rw [dm] at h
    by_cases e : b = 46
    · rw [if_pos e] at h
      simp only [Bool.and_eq_true] at h
      obtain ⟨h1, h2, h3⟩ := dm_up h.2
      subst e
      exact ⟨by rw [List.any_cons, h1]; rfl, by simp [h2], by simp [h3]⟩
    · rw [if_neg e] at h
      simp only [Bool.and_eq_true] at h
      obtain ⟨h1, h2, h3⟩ := dm_up h.2
      have hr := ld_range h.1
      refine ⟨?_, ?_, ?_⟩
      · rw [List.any_cons, h1, Bool.or_false]
        unfold up
        rw [Bool.eq_false_iff]; simp; omega
      · simp only [List.mem_cons, not_or]
        exact ⟨fun x => (by rw [← x] at hr; revert hr; decide), h2⟩
      · simp only [List.mem_cons, not_or]
        exact ⟨fun x => (by rw [← x] at hr; revert hr; decide), h3⟩
theorem dm_last : ∀ {p : Bool} {l : List UInt8}, dm p l = true → l.getLast? ≠ some 46
  | _, [], _ => by simp
  | p, [b], h => by
    rw [dm] at h
    intro e
    simp at e
    subst e
    simp [dm] at h
  | p, b :: x :: r, h => by
    rw [List.getLast?_cons_cons]
    rw [dm] at h
    split at h
    · simp only [Bool.and_eq_true] at h; exact dm_last h.2
    · simp only [Bool.and_eq_true] at h; exact dm_last h.2
theorem trim_dot (l : List UInt8) : Lib.trimSuffix l [46] = if l.getLast? = some 46 then l.dropLast else l := by
  unfold Lib.trimSuffix Lib.hasSuffix
  by_cases h : l.getLast? = some 46
  · have h1 : ([46] : List UInt8).isSuffixOf l = true := by
      rw [List.isSuffixOf_iff_suffix]
      refine ⟨l.dropLast, ?_⟩
      have hne : l ≠ [] := fun e => by rw [e] at h; simp at h
      rw [List.getLast?_eq_some_getLast hne, Option.some.injEq] at h
      conv => rhs; rw [← List.dropLast_concat_getLast hne, h]
    rw [h1, if_pos rfl, if_pos h, List.dropLast_eq_take]
    rfl
  · have h1 : ([46] : List UInt8).isSuffixOf l = false := by
      rw [Bool.eq_false_iff]
      intro e
      rw [List.isSuffixOf_iff_suffix] at e
      obtain ⟨t, rfl⟩ := e
      exact h (by simp)
    rw [h1, if_neg h]
    rfl
theorem norm_ok {j : J} (h : Ok j) : norm j = j := by
  obtain ⟨_, _, _, h4, _, h6⟩ := h
  have h7 := dm_up h6
  unfold norm
  rw [fold_id h4, fold_id h7.1, trim_dot, if_neg (dm_last h6)]
theorem barN_at : barN 47 = true ∧ barN 64 = true := by decide
theorem not_any {p : UInt8 → Bool} {l : List UInt8} {c : UInt8} (h : l.any p = false) (hc : p c = true) : c ∉ l := fun e => by
  have := List.any_eq_false.1 h c e
  exact this hc
theorem ps_put {j : J} (h : Ok j) : ps (put j) = some j := by
  have hn := norm_ok h
  obtain ⟨h1, h2, h3, h4, h5, h6⟩ := id h
  have n47 := not_any h5 barN_at.1
  have n64 := not_any h5 barN_at.2
  obtain ⟨_, d47, d64⟩ := dm_up h6
  have hf : fin j = some j := by unfold fin; rw [hn, if_pos ((ok_iff j).2 h)]
  obtain ⟨n, d, r⟩ := j
  have two : ps2 ((if n = [] then [] else n ++ [64]) ++ d) r = some ⟨n, d, r⟩ := by
    unfold ps2
    by_cases e : n = []
    · subst e
      rw [if_pos rfl, List.nil_append, cut1_out d64]
      exact hf
    · rw [if_neg e, List.append_assoc, List.singleton_append, cut1_at d n64]
      simp only
      rw [if_neg e]
      exact hf
  have m47 : (47 : UInt8) ∉ (if n = [] then [] else n ++ [64]) ++ d := by
    intro x
    rcases List.mem_append.1 x with x | x
    · split at x
      · cases x
      · rcases List.mem_append.1 x with x | x
        · exact n47 x
        · simp at x
    · exact d47 x
  unfold ps put
  by_cases e : r = []
  · subst e
    simp only [if_true, List.append_nil]
    rw [cut1_out m47]
    exact two
  · simp only [if_neg e]
    rw [← List.append_assoc, cut1_at r m47]
    simp only
    rw [if_neg e]
    exact two
theorem put_inj {j k : J} (h1 : Ok j) (h2 : Ok k) : put j = put k ↔ j = k :=
  ⟨fun e => by have := ps_put h1; rw [e, ps_put h2] at this; exact (Option.some.inj this).symm, fun e => by rw [e]⟩
theorem ok_bare {j : J} (h : Ok j) : Ok ⟨j.n, j.d, []⟩ := ⟨h.1, h.2.1, part_nil, h.2.2.2⟩
theorem ok_empty : ¬ Ok ⟨[], [], []⟩ := fun h => by have := h.2.2.2.2.2; simp [dm] at this

/-! ### Lengths -/
theorem trim_le (l : List UInt8) : (Lib.trimSuffix l [46]).length ≤ l.length := Lib.trimSuffix_le l [46]
theorem norm_len (j : J) : (norm j).n.length = j.n.length ∧ (norm j).d.length ≤ j.d.length ∧ (norm j).r = j.r := by
  refine ⟨foldL_len _, ?_, rfl⟩
  have := trim_le (foldL j.d)
  rw [foldL_len] at this
  exact this
theorem put_len (j : J) : (put j).length ≤ j.n.length + j.d.length + j.r.length + 2 := by
  unfold put
  rw [List.length_append, List.length_append]
  split <;> split <;> simp <;> omega

end Go.Proofs.YthhmdkdpfeofjaaDoor.Jd
