/- A list of items: whether it may be, what a change leaves: plain mathematics. No condition. -/
import Derived.Test.YtdmbngkkbgmlfaaGreatDoorNa
namespace Go.Proofs.YtdmbngkkbgmlfaaGreatDoor.T
open Go Go.Lib By

noncomputable def pb (p : Prop) : Bool := @decide p (Classical.propDecidable p)
theorem pb_yes {p : Prop} (h : p) : pb p = true := (@decide_eq_true_iff p (Classical.propDecidable p)).2 h
theorem pb_no {p : Prop} (h : ¬ p) : pb p = false := by rw [Bool.eq_false_iff]; exact fun e => h ((@decide_eq_true_iff p (Classical.propDecidable p)).1 e)
theorem pb_iff {p : Prop} : pb p = true ↔ p := @decide_eq_true_iff p (Classical.propDecidable p)
theorem pb_not {p : Prop} : pb p = false ↔ ¬ p := ⟨fun e h => (by rw [pb_yes h] at e; cases e), pb_no⟩

/-! ### Places -/
def cp (a b : Int) : Int := if a < b then -1 else if b < a then 1 else 0
def cI (x y : It) : Int := if cp x.g y.g = 0 then cp x.i y.i else cp x.g y.g
def Lt (x y : It) : Prop := x.g < y.g ∨ (x.g = y.g ∧ x.i < y.i)
def Sp (x y : It) : Prop := x.g = y.g ∧ x.i = y.i
instance (x y : It) : Decidable (Sp x y) := inferInstanceAs (Decidable (x.g = y.g ∧ x.i = y.i))
theorem cI_lt {x y : It} : cI x y < 0 ↔ Lt x y := by
  unfold cI cp Lt
  repeat' split
  all_goals omega
theorem cI_eq {x y : It} : cI x y = 0 ↔ Sp x y := by
  unfold cI cp Sp
  repeat' split
  all_goals omega
theorem Lt.trans {x y z : It} (h : Lt x y) (k : Lt y z) : Lt x z := by unfold Lt at *; omega
theorem Lt.irr {x y : It} (h : Lt x y) : ¬ Sp x y := by unfold Lt Sp at *; omega
theorem Lt.asym {x y : It} (h : Lt x y) : ¬ Lt y x := by unfold Lt at *; omega
theorem Lt.of_not {x y : It} (h : ¬ Lt x y) (k : ¬ Sp x y) : Lt y x := by unfold Lt Sp at *; omega
theorem ris_of {l : List It} (h : ∀ k (hk : k + 1 < l.length), Lt (l[k]'(by omega)) l[k + 1]) : l.Pairwise Lt := by
  rw [List.pairwise_iff_getElem]
  intro i j hi hj hij
  induction j with
  | zero => omega
  | succ j ih =>
    by_cases e : i = j
    · subst e; exact h i hj
    · exact (ih (by omega) (by omega)).trans (h j hj)
theorem ris_at {l : List It} (h : l.Pairwise Lt) {i j : Nat} (hj : j < l.length) (hij : i < j) : Lt (l[i]'(by omega)) l[j] := (List.pairwise_iff_getElem.1 h) i j (by omega) hj hij

/-! ### Whether a list may be -/
def ttl (x : It) : Int × ByteArray := if x.t = 0 then (0, Go.Proofs.YtdmbngkkbgmlfaaGreatDoor.mk (Hd.nl x.n.data.toList)) else (x.t, x.n)
def grp (x : It) : Bool := decide (x.t = 1 ∧ 0 < x.g ∧ x.i = 0 ∧ x.n.size ≠ 0)
def hasK (l : List It) (k g : Int) : Bool := l.any fun y => decide (y.t = k ∧ y.g = g)
def bud (l : List It) (x : It) : Bool := decide (x.t = 0 ∧ 0 < x.i) && hasK l 1 x.g
def fitB (l : List It) : Bool := l.all fun x => grp x || bud l x
structure Lk (l : List It) (t : Int) : Prop where
  n : l.length ≤ 100
  t0 : 0 ≤ t
  t1 : t ≤ 4294967295
  it : ∀ x ∈ l, itB x = true
  ris : l.Pairwise Lt
  fit : ∀ x ∈ l, grp x = true ∨ bud l x = true
  dif : l.Pairwise (fun x y => ttl x ≠ ttl y)
noncomputable def okB (l : List It) (t : Int) : Bool := pb (Lk l t)
def lsN (k : Int) (l : List It) (t : Int) : Nt := ⟨k, ⟨#[]⟩, ⟨#[]⟩, ⟨#[]⟩, 0, 0, 0, t, false, l, []⟩
theorem may_list (l : List It) (t : Int) : may (lsN 18 l t) = true ↔ l.length ≤ 100 ∧ 0 ≤ t ∧ t ≤ 4294967295 ∧ ∀ x ∈ l, itB x = true := by
  have hz : (⟨#[]⟩ : ByteArray).size = 0 := rfl
  have e : may (lsN 18 l t) = (inB t 0 4294967295 && inB l.length 0 100 && l.all itB) := by
    simp [may, lsN, hold, bnd, bndN, isK, nmB, txB, isT_nil, inB, hz, -ByteArray.size_eq_zero_iff]
    rfl
  rw [e]
  simp only [inB, Bool.and_eq_true, decide_eq_true_iff, List.all_eq_true]
  constructor
  · rintro ⟨⟨⟨a, b⟩, c, d⟩, e⟩
    exact ⟨by omega, a, b, e⟩
  · rintro ⟨a, b, c, d⟩
    exact ⟨⟨⟨b, c⟩, by omega, by omega⟩, d⟩
theorem may_add (x : It) : may (lsN 20 [x] 0) = itB x := by
  have hz : (⟨#[]⟩ : ByteArray).size = 0 := rfl
  simp [may, lsN, hold, bnd, bndN, isK, nmB, txB, isT_nil, inB, hz, -ByteArray.size_eq_zero_iff]
theorem fitB_iff {l : List It} : fitB l = true ↔ ∀ x ∈ l, grp x = true ∨ bud l x = true := by
  unfold fitB
  rw [List.all_eq_true]
  simp only [Bool.or_eq_true]
theorem okB_eq (l : List It) (t : Int) : okB l t = (may (lsN 18 l t) && pb (l.Pairwise Lt) && fitB l && pb (l.Pairwise fun x y => ttl x ≠ ttl y)) := by
  rw [Bool.eq_iff_iff]
  unfold okB
  simp only [pb_iff, Bool.and_eq_true, may_list, fitB_iff]
  exact ⟨fun h => ⟨⟨⟨⟨h.n, h.t0, h.t1, h.it⟩, h.ris⟩, h.fit⟩, h.dif⟩, fun ⟨⟨⟨⟨a, b, c, d⟩, e⟩, f⟩, g⟩ => ⟨a, b, c, d, e, f, g⟩⟩
theorem hasK_iff {l : List It} {k g : Int} : hasK l k g = true ↔ ∃ y ∈ l, y.t = k ∧ y.g = g := by simp [hasK]
theorem grp_iff {x : It} : grp x = true ↔ x.t = 1 ∧ 0 < x.g ∧ x.i = 0 ∧ x.n.size ≠ 0 := by simp [grp]
theorem bud_iff {l : List It} {x : It} : bud l x = true ↔ x.t = 0 ∧ 0 < x.i ∧ hasK l 1 x.g = true := by simp [bud, and_assoc]

/-! ### Where an item lies, or would lie -/
structure Srch (l : List It) (x : It) (q : Nat) : Prop where
  le : q ≤ l.length
  lo : ∀ k (h : k < l.length), k < q → Lt l[k] x
  hi : ∀ k (h : k < l.length), q ≤ k → ¬ Lt l[k] x
theorem Srch.one {l : List It} {x : It} {p q : Nat} (h : Srch l x p) (k : Srch l x q) : p = q := by
  by_cases h1 : p < q
  · exact absurd (k.lo p (by have := k.le; omega) h1) (h.hi p (by have := k.le; omega) (Nat.le_refl _))
  by_cases h2 : q < p
  · exact absurd (h.lo q (by have := h.le; omega) h2) (k.hi q (by have := h.le; omega) (Nat.le_refl _))
  omega
/-- Does one lie there? -/
def thr (l : List It) (x : It) (q : Nat) : Bool := match l[q]? with
  | some y => decide (y.g = x.g ∧ y.i = x.i)
  | none => false
def tyAt (l : List It) (q : Nat) : Int := match l[q]? with
  | some y => y.t
  | none => 0
theorem thr_at {l : List It} {x : It} {q : Nat} (h : q < l.length) : thr l x q = decide (l[q].g = x.g ∧ l[q].i = x.i) := by
  unfold thr
  rw [List.getElem?_eq_getElem h]
theorem thr_out {l : List It} {x : It} {q : Nat} (h : ¬ q < l.length) : thr l x q = false := by
  unfold thr
  rw [List.getElem?_eq_none (by omega)]
theorem tyAt_at {l : List It} {q : Nat} (h : q < l.length) : tyAt l q = l[q].t := by
  unfold tyAt
  rw [List.getElem?_eq_getElem h]
theorem thr_yes {l : List It} {x : It} {q : Nat} (h : thr l x q = true) : ∃ h : q < l.length, Sp l[q] x := by
  by_cases k : q < l.length
  · rw [thr_at k] at h
    exact ⟨k, of_decide_eq_true h⟩
  · rw [thr_out k] at h
    cases h
theorem thr_no {l : List It} {x : It} {q : Nat} (hp : l.Pairwise Lt) (s : Srch l x q) (h : thr l x q = false) : ∀ k (hk : k < l.length), (k < q → Lt l[k] x) ∧ (q ≤ k → Lt x l[k]) := by
  intro k hk
  refine ⟨s.lo k hk, fun hq => ?_⟩
  have hq2 : q < l.length := by omega
  have e : Lt x l[q] := by
    refine Lt.of_not (s.hi q hq2 (Nat.le_refl _)) ?_
    rw [thr_at hq2] at h
    exact of_decide_eq_false h
  by_cases e2 : q = k
  · subst e2; exact e
  · exact e.trans (ris_at hp hk (by omega))

/-! ### A change -/
noncomputable def mayB (l : List It) (x : It) : Bool := itB x && (grp x || bud l x)
def tkn (l : List It) (x : It) : Bool := l.any fun y => decide (¬ (y.g = x.g ∧ y.i = x.i) ∧ ttl y = ttl x)
noncomputable def code (l : List It) (k : Int) (x : It) (q : Nat) : Int :=
  if ¬ (k = 20 ∨ k = 21 ∨ k = 22) then 10
  else if k ≠ 22 ∧ mayB l x = false then 10
  else if k ≠ 20 ∧ thr l x q = false then 2
  else if k = 20 ∧ thr l x q = true then 3
  else if k = 22 ∧ tyAt l q = 1 ∧ hasK l 0 x.g = true then 10
  else if k = 21 ∧ tyAt l q ≠ x.t then 10
  else if k = 20 ∧ 100 ≤ l.length then 12
  else if k ≠ 22 ∧ tkn l x = true then 3 else 0
def app (l : List It) (k : Int) (x : It) (q : Nat) : List It :=
  if k = 20 then l.take q ++ x :: l.drop q else if k = 21 then l.set q x else l.take q ++ l.drop (q + 1)
theorem code_zero {l : List It} {k : Int} {x : It} {q : Nat} (h : code l k x q = 0) :
    (k = 20 ∧ mayB l x = true ∧ thr l x q = false ∧ l.length < 100 ∧ tkn l x = false) ∨
    (k = 21 ∧ mayB l x = true ∧ thr l x q = true ∧ tyAt l q = x.t ∧ tkn l x = false) ∨
    (k = 22 ∧ thr l x q = true ∧ ¬ (tyAt l q = 1 ∧ hasK l 0 x.g = true)) := by
  unfold code at h
  split at h
  · cases h
  rename_i h0
  split at h
  · cases h
  rename_i h1
  split at h
  · cases h
  rename_i h2
  split at h
  · cases h
  rename_i h3
  split at h
  · cases h
  rename_i h4
  split at h
  · cases h
  rename_i h5
  split at h
  · cases h
  rename_i h6
  split at h
  · cases h
  rename_i h7
  have h0 : k = 20 ∨ k = 21 ∨ k = 22 := Decidable.not_not.1 h0
  rcases h0 with rfl | rfl | rfl
  · exact .inl ⟨rfl, by simpa using h1, by simpa using h3, by simpa using h6, by simpa using h7⟩
  · exact .inr (.inl ⟨rfl, by simpa using h1, by simpa using h2, by simpa using h5, by simpa using h7⟩)
  · exact .inr (.inr ⟨rfl, by simpa using h2, fun ⟨a, b⟩ => h4 ⟨rfl, a, b⟩⟩)
theorem tkn_no {l : List It} {x : It} (h : tkn l x = false) {y : It} (hy : y ∈ l) (hs : ¬ Sp y x) : ttl y ≠ ttl x := by
  intro e
  unfold tkn at h
  rw [List.any_eq_false] at h
  exact h y hy (by rw [decide_eq_true_iff]; exact ⟨hs, e⟩)
theorem hasK_mono {l m : List It} {k g : Int} (h : ∀ y ∈ l, y ∈ m) (e : hasK l k g = true) : hasK m k g = true := by
  rw [hasK_iff] at e ⊢
  obtain ⟨y, hy, r⟩ := e
  exact ⟨y, h y hy, r⟩
theorem mayB_iff {l : List It} {x : It} : mayB l x = true ↔ itB x = true ∧ (grp x = true ∨ bud l x = true) := by simp [mayB]
theorem fit_mono {l m : List It} {x : It} (h : ∀ g, hasK l 1 g = true → hasK m 1 g = true) (e : grp x = true ∨ bud l x = true) : grp x = true ∨ bud m x = true := by
  rcases e with e | e
  · exact .inl e
  · right
    rw [bud_iff] at e ⊢
    exact ⟨e.1, e.2.1, h _ e.2.2⟩
theorem mem_ins {l : List It} {x y : It} {q : Nat} : y ∈ l.take q ++ x :: l.drop q ↔ y = x ∨ y ∈ l := by
  rw [List.mem_append, List.mem_cons]
  constructor
  · rintro (h | h | h)
    · exact .inr (List.mem_of_mem_take h)
    · exact .inl h
    · exact .inr (List.mem_of_mem_drop h)
  · rintro (h | h)
    · exact .inr (.inl h)
    · rw [← List.take_append_drop q l, List.mem_append] at h
      rcases h with h | h
      · exact .inl h
      · exact .inr (.inr h)
theorem ins_ok {l : List It} {t : Int} {x : It} {q : Nat} (h : Lk l t) (s : Srch l x q) (h1 : mayB l x = true) (h2 : thr l x q = false) (h3 : l.length < 100) (h4 : tkn l x = false) : Lk (l.take q ++ x :: l.drop q) t := by
  have hle := s.le
  have ht := thr_no h.ris s h2
  have hns : ∀ y ∈ l, ¬ Sp y x := fun y hy e => by
    obtain ⟨k, hk, rfl⟩ := List.getElem_of_mem hy
    by_cases hq : k < q
    · exact ((ht k hk).1 hq).irr e
    · exact ((ht k hk).2 (by omega)).irr ⟨e.1.symm, e.2.symm⟩
  rw [mayB_iff] at h1
  have hT : ∀ y ∈ l.take q, Lt y x := fun y hy => by
    obtain ⟨k, hk, rfl⟩ := List.getElem_of_mem hy
    rw [List.length_take] at hk
    rw [List.getElem_take]
    exact s.lo k (by omega) (by omega)
  have hD : ∀ y ∈ l.drop q, Lt x y := fun y hy => by
    obtain ⟨k, hk, rfl⟩ := List.getElem_of_mem hy
    rw [List.length_drop] at hk
    rw [List.getElem_drop]
    exact (ht (q + k) (by omega)).2 (by omega)
  refine ⟨?_, h.t0, h.t1, ?_, ?_, ?_, ?_⟩
  · rw [List.length_append, List.length_cons, List.length_take, List.length_drop]; omega
  · intro y hy
    rcases mem_ins.1 hy with rfl | hy
    · exact h1.1
    · exact h.it y hy
  · rw [List.pairwise_append, List.pairwise_cons]
    refine ⟨h.ris.sublist (List.take_sublist _ _), ⟨fun y hy => hD y hy, h.ris.sublist (List.drop_sublist _ _)⟩, ?_⟩
    intro a ha b hb
    rw [List.mem_cons] at hb
    rcases hb with rfl | hb
    · exact hT a ha
    · exact (hT a ha).trans (hD b hb)
  · intro y hy
    have hm : ∀ g, hasK l 1 g = true → hasK (l.take q ++ x :: l.drop q) 1 g = true := fun g => hasK_mono fun z hz => mem_ins.2 (.inr hz)
    rcases mem_ins.1 hy with rfl | hy
    · exact fit_mono hm h1.2
    · exact fit_mono hm (h.fit y hy)
  · have hp := h.dif
    rw [← List.take_append_drop q l, List.pairwise_append] at hp
    rw [List.pairwise_append, List.pairwise_cons]
    refine ⟨hp.1, ⟨fun y hy => (tkn_no h4 (List.mem_of_mem_drop hy) (hns y (List.mem_of_mem_drop hy))).symm, hp.2.1⟩, ?_⟩
    intro a ha b hb
    rw [List.mem_cons] at hb
    rcases hb with rfl | hb
    · exact tkn_no h4 (List.mem_of_mem_take ha) (hns a (List.mem_of_mem_take ha))
    · exact hp.2.2 a ha b hb
theorem set_ok {l : List It} {t : Int} {x : It} {q : Nat} (h : Lk l t) (h1 : mayB l x = true) (h2 : thr l x q = true) (h3 : tyAt l q = x.t) (h4 : tkn l x = false) : Lk (l.set q x) t := by
  obtain ⟨hq, hs⟩ := thr_yes h2
  rw [tyAt_at hq] at h3
  rw [mayB_iff] at h1
  have hmem : ∀ y ∈ l.set q x, y = x ∨ y ∈ l := fun y hy => (List.mem_or_eq_of_mem_set hy).symm
  have hpl : ∀ k (hk : k < l.length), Sp ((l.set q x)[k]'(by simpa using hk)) l[k] := fun k hk => by
    rw [List.getElem_set]
    split
    · rename_i e; subst e; exact ⟨hs.1.symm, hs.2.symm⟩
    · exact ⟨rfl, rfl⟩
  have hg : ∀ g, hasK l 1 g = true → hasK (l.set q x) 1 g = true := fun g e => by
    rw [hasK_iff] at e ⊢
    obtain ⟨y, hy, e1, e2⟩ := e
    obtain ⟨k, hk, rfl⟩ := List.getElem_of_mem hy
    by_cases e3 : k = q
    · subst e3
      exact ⟨x, List.mem_iff_getElem.2 ⟨k, by simpa using hk, by rw [List.getElem_set]; simp⟩, by rw [← h3]; exact e1, by rw [← hs.1]; exact e2⟩
    · exact ⟨l[k], List.mem_iff_getElem.2 ⟨k, by simpa using hk, by rw [List.getElem_set, if_neg (fun e => e3 e.symm)]⟩, e1, e2⟩
  refine ⟨by rw [List.length_set]; exact h.n, h.t0, h.t1, ?_, ?_, ?_, ?_⟩
  · intro y hy
    rcases hmem y hy with rfl | hy
    · exact h1.1
    · exact h.it y hy
  · rw [List.pairwise_iff_getElem]
    intro i j hi hj hij
    rw [List.length_set] at hi hj
    have a := hpl i hi
    have b := hpl j hj
    have c := ris_at h.ris hj hij
    unfold Lt at c ⊢
    unfold Sp at a b
    omega
  · intro y hy
    rcases hmem y hy with rfl | hy
    · exact fit_mono hg h1.2
    · exact fit_mono hg (h.fit y hy)
  · rw [List.pairwise_iff_getElem]
    intro i j hi hj hij
    have hi' : i < l.length := by simpa using hi
    have hj' : j < l.length := by simpa using hj
    rw [List.getElem_set, List.getElem_set]
    have c := ris_at h.ris hj' hij
    split
    · rename_i e; subst e
      rw [if_neg (by omega)]
      refine (tkn_no h4 (List.getElem_mem hj') fun e => ?_).symm
      exact c.irr ⟨hs.1.trans e.1.symm, hs.2.trans e.2.symm⟩
    · split
      · rename_i e; subst e
        refine tkn_no h4 (List.getElem_mem hi') fun e => ?_
        exact c.irr ⟨e.1.trans hs.1.symm, e.2.trans hs.2.symm⟩
      · exact (List.pairwise_iff_getElem.1 h.dif) i j hi' hj' hij
theorem cut_at {l : List It} {q : Nat} (hq : q < l.length) : l = l.take q ++ l[q] :: l.drop (q + 1) := by
  rw [← List.drop_eq_getElem_cons hq, List.take_append_drop]
theorem mem_cut {l : List It} {y : It} {q : Nat} (hq : q < l.length) (h : y ∈ l) : y = l[q] ∨ y ∈ l.take q ++ l.drop (q + 1) := by
  have e := cut_at hq
  generalize l[q] = z at e
  rw [e, List.mem_append, List.mem_cons] at h
  rw [List.mem_append]
  rcases h with h | h | h
  · exact .inr (.inl h)
  · exact .inl h
  · exact .inr (.inr h)
theorem cut_sub {l : List It} {q : Nat} : (l.take q ++ l.drop (q + 1)).Sublist l := by
  rw [← List.eraseIdx_eq_take_drop_succ]
  exact List.eraseIdx_sublist _ _
theorem del_ok {l : List It} {t : Int} {x : It} {q : Nat} (h : Lk l t) (h2 : thr l x q = true) (h3 : ¬ (tyAt l q = 1 ∧ hasK l 0 x.g = true)) : Lk (l.take q ++ l.drop (q + 1)) t := by
  obtain ⟨hq, hs⟩ := thr_yes h2
  rw [tyAt_at hq] at h3
  refine ⟨Nat.le_trans cut_sub.length_le h.n, h.t0, h.t1, fun y hy => h.it y (cut_sub.subset hy), h.ris.sublist cut_sub, ?_, h.dif.sublist cut_sub⟩
  intro y hy
  have hyl := cut_sub.subset hy
  rcases h.fit y hyl with e | e
  · exact .inl e
  · right
    rw [bud_iff] at e ⊢
    refine ⟨e.1, e.2.1, ?_⟩
    have e3 := e.2.2
    rw [hasK_iff] at e3 ⊢
    obtain ⟨z, hz, z1, z2⟩ := e3
    rcases mem_cut hq hz with rfl | hz
    · refine absurd ⟨z1, ?_⟩ h3
      rw [hasK_iff]
      exact ⟨y, hyl, e.1, by rw [← hs.1, z2]⟩
    · exact ⟨z, hz, z1, z2⟩
theorem app_ok {l : List It} {t k : Int} {x : It} {q : Nat} (h : Lk l t) (s : Srch l x q) (e : code l k x q = 0) : Lk (app l k x q) t := by
  unfold app
  rcases code_zero e with ⟨rfl, h1, h2, h3, h4⟩ | ⟨rfl, h1, h2, h3, h4⟩ | ⟨rfl, h2, h3⟩
  · exact ins_ok h s h1 h2 h3 h4
  · exact set_ok h h1 h2 h3 h4
  · exact del_ok h h2 h3

/-! ### What is lost -/
noncomputable def lost (l m : List It) : Nat := (l.filter fun y => !pb (y ∈ m)).length
theorem lost_none {l m : List It} (h : ∀ y ∈ l, y ∈ m) : lost l m = 0 := by
  unfold lost
  rw [List.length_eq_zero_iff, List.filter_eq_nil_iff]
  intro y hy
  rw [pb_yes (h y hy)]
  simp
theorem lost_one {l m : List It} {q : Nat} (hq : q < l.length) (h : ∀ y ∈ l.take q ++ l.drop (q + 1), y ∈ m) : lost l m = if pb (l[q] ∈ m) = true then 0 else 1 := by
  have e := cut_at hq
  generalize l[q] = z at e
  rw [List.forall_mem_append] at h
  have hA : (l.take q).filter (fun y => !pb (y ∈ m)) = [] := by rw [List.filter_eq_nil_iff]; intro y hy; rw [pb_yes (h.1 y hy)]; simp
  have hB : (l.drop (q + 1)).filter (fun y => !pb (y ∈ m)) = [] := by rw [List.filter_eq_nil_iff]; intro y hy; rw [pb_yes (h.2 y hy)]; simp
  unfold lost
  rw [e, List.filter_append, List.filter_cons, hA, hB]
  by_cases hz : z ∈ m
  · rw [pb_yes hz]; simp
  · rw [pb_no hz]; simp
theorem app_lost {l : List It} {t k : Int} {x : It} {q : Nat} (h : Lk l t) (s : Srch l x q) (e : code l k x q = 0) :
    (k = 20 ∧ lost l (app l k x q) = 0 ∧ (app l k x q).length = l.length + 1) ∨ (k = 21 ∧ lost l (app l k x q) ≤ 1 ∧ (app l k x q).length = l.length) ∨ (k = 22 ∧ lost l (app l k x q) = 1 ∧ (app l k x q).length + 1 = l.length) := by
  have hle := s.le
  unfold app
  rcases code_zero e with ⟨rfl, h1, h2, h3, h4⟩ | ⟨rfl, h1, h2, h3, h4⟩ | ⟨rfl, h2, h3⟩
  · refine .inl ⟨rfl, lost_none fun y hy => mem_ins.2 (.inr hy), ?_⟩
    show (l.take q ++ x :: l.drop q).length = _
    rw [List.length_append, List.length_cons, List.length_take, List.length_drop]; omega
  · refine .inr (.inl ⟨rfl, ?_, ?_⟩)
    · obtain ⟨hq, hs⟩ := thr_yes h2
      show lost l (l.set q x) ≤ 1
      rw [lost_one hq]
      · split <;> omega
      · intro y hy
        rw [List.mem_append] at hy
        rcases hy with hy | hy
        · obtain ⟨k, hk, rfl⟩ := List.getElem_of_mem hy
          rw [List.length_take] at hk
          rw [List.getElem_take]
          exact List.mem_iff_getElem.2 ⟨k, by rw [List.length_set]; omega, by rw [List.getElem_set, if_neg (by omega)]⟩
        · obtain ⟨k, hk, rfl⟩ := List.getElem_of_mem hy
          rw [List.length_drop] at hk
          rw [List.getElem_drop]
          exact List.mem_iff_getElem.2 ⟨q + 1 + k, by rw [List.length_set]; omega, by rw [List.getElem_set, if_neg (by omega)]⟩
    · show (l.set q x).length = _
      rw [List.length_set]
  · obtain ⟨hq, hs⟩ := thr_yes h2
    refine .inr (.inr ⟨rfl, ?_, ?_⟩)
    · show lost l (l.take q ++ l.drop (q + 1)) = 1
      rw [lost_one hq fun y hy => hy, pb_no]; rfl
      intro hm
      rw [List.mem_append] at hm
      rcases hm with hm | hm
      · obtain ⟨k, hk, e⟩ := List.getElem_of_mem hm
        rw [List.length_take] at hk
        rw [List.getElem_take] at e
        have := (ris_at h.ris hq (show k < q by omega)).irr
        rw [e] at this
        exact this ⟨rfl, rfl⟩
      · obtain ⟨k, hk, e⟩ := List.getElem_of_mem hm
        rw [List.length_drop] at hk
        rw [List.getElem_drop] at e
        have := (ris_at h.ris (show q + 1 + k < l.length by omega) (show q < q + 1 + k by omega)).irr
        rw [e] at this
        exact this ⟨rfl, rfl⟩
    · show (l.take q ++ l.drop (q + 1)).length + 1 = _
      rw [List.length_append, List.length_take, List.length_drop]; omega
end Go.Proofs.YtdmbngkkbgmlfaaGreatDoor.T
