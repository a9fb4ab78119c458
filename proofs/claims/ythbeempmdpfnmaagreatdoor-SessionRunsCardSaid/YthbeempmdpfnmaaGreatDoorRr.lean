/- A region that draws its order, by promises; of its operations some store into cells of their own: whatever relation each operation's worlds keep. No condition. -/
import Derived.Test.YthbeempmdpfnmaaGreatDoorRp

namespace Go.Proofs.YthbeempmdpfnmaaGreatDoor
open Go Go.RowKit

/-- An operation gives a value of which ψ holds, whatever follows; its worlds keep R. -/
def GivesR (P : Program) (o : Oper) (R : World → Prop) (ψ : Value → World → Prop) (a : Act) (W : World) : Prop :=
  ∀ (K : Act → World → Prop) (Q : Exit → Act → World → Prop), (∀ v W', R W' → ψ v W' → K (a.put o.dst v) W') → Oper.wp P o a W K Q
theorem givesR_skip {P : Program} {o : Oper} {R : World → Prop} {ψ : Value → World → Prop} {a : Act} {W W' : World} (hr : (execOp a.eval o).run P W = .ok .skip W') (hb : R W') (h : ψ undef W') : GivesR P o R ψ a W := by
  intro K Q hK
  unfold Oper.wp
  rw [hr]
  exact hK undef W' hb h
structure PsiR (w0 : World) (a0 : Act) (ds : Nat → Nat) (n : Nat) (J : World → Prop) (χ : Nat → World → Prop) (ψ : Nat → Value → World → Prop) (L : Array Bool) (a : Act) (W : World) : Prop where
  size : a.tmps.size = a0.tmps.size
  df : a.defers = a0.defers
  out : ∀ s : Nat, s ∉ (List.range n).map ds → a.eval (.tmp s) = a0.eval (.tmp s)
  bel : J W
  vals : ∀ j, j < n → L.getD j false = true → ψ j (a.eval (.tmp (ds j))) W
  chi : ∀ j, j < n → L.getD j false = false → χ j W
/-- The region's form: the first n operations have no guard; one that gives a value fills the slot ds, another one has a number behind all slots; all are unlike. -/
def formR (l : List Oper) (ds : Nat → Nat) (n N : Nat) : Bool :=
  (List.range n).all fun i => match l[i]? with
    | some o => o.guard.isNone && ((decide (o.dst = some (ds i)) && decide (ds i < N)) || (o.dst.isNone && decide (N ≤ ds i))) && (List.range n).all (fun j => decide (i = j) || !decide (ds i = ds j))
    | none => false
theorem formR_of {l : List Oper} {ds : Nat → Nat} {n N : Nat} (h : formR l ds n N = true) {i : Nat} (hi : i < n) {o : Oper} (ho : l[i]? = some o) : o.guard = none ∧ ((o.dst = some (ds i) ∧ ds i < N) ∨ (o.dst = none ∧ N ≤ ds i)) ∧ ∀ j, j < n → i ≠ j → ds i ≠ ds j := by
  have h1 := List.all_eq_true.1 h i (List.mem_range.2 hi)
  rw [ho] at h1
  simp only [Bool.and_eq_true, Bool.or_eq_true, decide_eq_true_eq, Option.isNone_iff_eq_none] at h1
  refine ⟨h1.1.1, h1.1.2, fun j hj hne e => ?_⟩
  have h2 := List.all_eq_true.1 h1.2 j (List.mem_range.2 hj)
  simp only [Bool.or_eq_true, decide_eq_true_eq, Bool.not_eq_true', decide_eq_false_iff_not] at h2
  rcases h2 with h2 | h2
  · exact hne h2
  · exact h2 e
def slotsB (ds : Nat → Nat) (ks : List Nat) (n N : Nat) : Bool := (List.range n).all fun j => ks.contains (ds j) || decide (N ≤ ds j)
theorem chi_ne {L : Array Bool} {i j : Nat} (hi : i < L.size) (h : (L.setIfInBounds i true).getD j false = false) : i ≠ j := by
  rintro rfl
  simp [hi] at h
theorem chi_old {L : Array Bool} {i j : Nat} (hi : i < L.size) (h : (L.setIfInBounds i true).getD j false = false) : L.getD j false = false := by
  have e := chi_ne hi h
  rw [Array.getD_eq_getD_getElem?, Array.getElem?_setIfInBounds, if_neg e, ← Array.getD_eq_getD_getElem?] at h
  exact h
theorem waits_not {l : List Oper} {n i j : Nat} {L : Array Bool} (inv : HeadInv .any l.toArray n L) (hw : Region.waitsFor .any l.toArray j i = true) (hl : L.getD i false = false) : L.getD j false = false := by
  cases hj : L.getD j false
  · rfl
  · obtain ⟨oj, ho, e, he, hb, rfl⟩ := Region.waitsFor_spec hw
    have := inv.closed j oj ho hj e he hb
    rw [this] at hl
    cases hl
theorem eval_far {a : Act} {k : Nat} (h : a.tmps.size ≤ k) : a.eval (.tmp k) = undef := by
  show a.tmps.getD k undef = undef
  rw [Array.getD, dif_neg (by omega)]
section
variable {P : Program} {Q : Exit → Act → World → Prop} {l : List Oper} {n : Nat} {w0 : World} {a0 : Act} {ds : Nat → Nat} {ks : List Nat} {Rel : Nat → World → World → Prop} {J : World → Prop} {χ : Nat → World → Prop} {ψ : Nat → Value → World → Prop}
theorem wpAny_psiR (hac : acyc l.toArray = true) (hsk : Region.sinkB .any l.toArray n = true) (hch : Region.chainB .any l.toArray n = true) (hn : n < l.toArray.size)
    (hseq : Region.seqB .any l.toArray (l.length - n) n (List.replicate n true ++ List.replicate (l.length - n) false).toArray = true) (hfm : formR l ds n a0.tmps.size = true) (hks : slotsB ds ks n a0.tmps.size = true)
    (hU : ∀ i, i < n → a0.tmps.size ≤ ds i → ∀ v W, ψ i v W → ψ i undef W)
    (hJ : ∀ i W W', i < n → Rel i W W' → J W → J W') (hX : ∀ i j W W', i < n → j < n → i ≠ j → Rel i W W' → J W → χ j W → χ j W')
    (hmono : ∀ i j v W W', i < n → j < n → i ≠ j → Rel i W W' → J W → ψ j v W → ψ j v W')
    (hstep : ∀ (i : Nat) (o : Oper), i < n → l[i]? = some o → ∀ a W, a.tmps.size = a0.tmps.size → (∀ s : Nat, s ∉ (List.range n).map ds → a.eval (.tmp s) = a0.eval (.tmp s)) → J W → χ i W → (∀ j, j < n → Region.waitsFor .any l.toArray j i = true → χ j W) → (∀ e ∈ o.after, Region.binds .any e = true → e.on < n → ψ e.on (a.eval (.tmp (ds e.on))) W) → GivesR P o (Rel i W) (ψ i) a W)
    (hend : ∀ a W, a = canonL a ks a0 → J W → (∀ j, j < n → ψ j (a.eval (.tmp (ds j))) W) → wpList P l.toArray Q (l.drop n) a W) :
    ∀ (f : Nat) (L : Array Bool) (a : Act) (W : World), HeadInv .any l.toArray n L → unl L n = f → PsiR w0 a0 ds n J χ ψ L a W → wpAny P .any l.toArray Q (f + (l.length - n)) L a W
  | 0, L, a, W, inv, hf, hI => by
    have hall := unl_zero hf
    have hn' : n < l.length := by simpa using hn
    have hsz : L.size = l.length := by have := inv.size; simpa using this
    have hL : L = (List.replicate n true ++ List.replicate (l.length - n) false).toArray := by
      refine Array.ext (by simp [hsz]; omega) fun j h1 h2 => ?_
      by_cases hj : j < n
      · have h3 := hall j hj
        simp only [Array.getD, h1, dif_pos] at h3
        rw [show L[j] = true from h3]
        simp [List.getElem_append_left, hj]
      · have h3 := inv.tail j (by omega) (by simpa using (by omega : j < l.length))
        simp only [Array.getD, h1, dif_pos] at h3
        rw [show L[j] = false from h3]
        simp only [List.getElem_toArray]
        rw [List.getElem_append_right (by simp; omega)]
        simp
    have hdl : (l.drop n).length = l.length - n := by simp
    have hcan : ∀ j : Nat, j ∉ ks → a.eval (.tmp j) = a0.eval (.tmp j) := fun j hj => by
      by_cases hm : j ∈ (List.range n).map ds
      · obtain ⟨i, hi, rfl⟩ := List.mem_map.1 hm
        have h1 := List.all_eq_true.1 hks i hi
        simp only [Bool.or_eq_true, List.contains_iff_mem, decide_eq_true_eq] at h1
        rcases h1 with h1 | h1
        · exact absurd h1 hj
        · rw [eval_far (by rw [hI.size]; exact h1), eval_far h1]
      · exact hI.out j hm
    have hfin := hend a W (canon_eq hI.size hI.df hcan) hI.bel fun j hj => hI.vals j hj (by
      have h3 := hall j hj
      have h4 : j < L.size := by omega
      simp only [Array.getD, h4, dif_pos] at h3 ⊢
      exact h3)
    have := wpAny_of_seq (P := P) (md := .any) (Q' := Q) (l.drop n) n L a W (fun j => by simp [List.getElem?_drop]) (by rw [hdl, hL]; exact hseq) hfin
    rwa [hdl, ← Nat.zero_add (l.length - n)] at this
  | f + 1, L, a, W, inv, hf, hI => by
    rw [show f + 1 + (l.length - n) = (f + (l.length - n)) + 1 by omega]
    refine ⟨fun hr => ?_, fun i hi => ?_⟩
    · exfalso
      have h1 := ready_nil (acyc_of hac) inv.size hr n hn
      rw [inv.tail n (Nat.le_refl _) hn] at h1
      cases h1
    · obtain ⟨i0, hi0, hl0⟩ := unl_some (L := L) (n := n) (by omega)
      have hin : i < n := Nat.lt_of_not_le fun h => tail_waits hsk hch hn inv _ i0 rfl hi0 hl0 i h hi
      obtain ⟨hlt, hl, o, ho, hd⟩ := ready_mem hi
      have hol : l[i]? = some o := by simpa using ho
      obtain ⟨hgd, hdst, hinj⟩ := formR_of hfm hin hol
      refine wpOp_step ho fun K' hK => ?_
      rw [if_pos (by simp [Region.wanted, hgd])]
      have hlf : L.getD i false = false := getD_both hl
      have hsz : i < L.size := by rw [inv.size]; exact hlt
      refine hstep i o hin hol a W hI.size hI.out hI.bel (hI.chi i hin hlf) (fun j hj hw => hI.chi j hj (waits_not inv hw hlf)) (fun e he hb hen => hI.vals e.on hen (hd e he hb)) K' Q fun v W' hb hv => hK _ _ ?_
      refine wpAny_psiR hac hsk hch hn hseq hfm hks hU hJ hX hmono hstep hend f _ _ W' (inv.set hi hin) (by have := unl_set L i hl n hin; omega) ?_
      rcases hdst with ⟨hdst, hdN⟩ | ⟨hdst, hdN⟩
      · rw [hdst]
        refine ⟨by rw [act_size]; exact hI.size, hI.df, fun s hs => ?_, hJ i W W' hin hb hI.bel, fun j hj hlj => ?_, fun j hj hlj => ?_⟩
        · rw [eval_put_ne (fun e => hs (List.mem_map.2 ⟨i, List.mem_range.2 hin, e⟩))]
          exact hI.out s hs
        · by_cases e : i = j
          · subst e
            rw [eval_put_same (by rw [hI.size]; exact hdN)]
            exact hv
          · rw [eval_put_ne (hinj j hj e)]
            have h5 : L.getD j false = true := by
              rw [Array.getD_eq_getD_getElem?, Array.getElem?_setIfInBounds, if_neg e, ← Array.getD_eq_getD_getElem?] at hlj
              exact hlj
            exact hmono i j _ W W' hin hj e hb hI.bel (hI.vals j hj h5)
        · exact hX i j W W' hin hj (chi_ne hsz hlj) hb hI.bel (hI.chi j hj (chi_old hsz hlj))
      · rw [hdst]
        show PsiR w0 a0 ds n J χ ψ _ a W'
        refine ⟨hI.size, hI.df, hI.out, hJ i W W' hin hb hI.bel, fun j hj hlj => ?_, fun j hj hlj => hX i j W W' hin hj (chi_ne hsz hlj) hb hI.bel (hI.chi j hj (chi_old hsz hlj))⟩
        by_cases e : i = j
        · subst e
          rw [eval_far (by rw [hI.size]; exact hdN)]
          exact hU i hin hdN v W' hv
        · have h5 : L.getD j false = true := by
            rw [Array.getD_eq_getD_getElem?, Array.getElem?_setIfInBounds, if_neg e, ← Array.getD_eq_getD_getElem?] at hlj
            exact hlj
          exact hmono i j _ W W' hin hj e hb hI.bel (hI.vals j hj h5)
/-- THE LAW. -/
theorem region_psiC {id : Nat} {w : World} (n : Nat) (ds : Nat → Nat) (ks : List Nat) (Rel : Nat → World → World → Prop) (J : World → Prop) (χ : Nat → World → Prop) (ψ : Nat → Value → World → Prop) (hm : P.follows .mixedOrders = true) (hac : acyc l.toArray = true) (hsk : Region.sinkB .any l.toArray n = true) (hch : Region.chainB .any l.toArray n = true) (hn : n < l.toArray.size)
    (hseq : Region.seqB .any l.toArray (l.length - n) n (List.replicate n true ++ List.replicate (l.length - n) false).toArray = true) (hfm : formR l ds n a0.tmps.size = true) (hks : slotsB ds ks n a0.tmps.size = true)
    (hU : ∀ i, i < n → a0.tmps.size ≤ ds i → ∀ v W, ψ i v W → ψ i undef W) (hJ0 : J w.drew) (hX0 : ∀ j, j < n → χ j w.drew) (hJ : ∀ i W W', i < n → Rel i W W' → J W → J W') (hX : ∀ i j W W', i < n → j < n → i ≠ j → Rel i W W' → J W → χ j W → χ j W')
    (hmono : ∀ i j v W W', i < n → j < n → i ≠ j → Rel i W W' → J W → ψ j v W → ψ j v W')
    (hstep : ∀ (i : Nat) (o : Oper), i < n → l[i]? = some o → ∀ a W, a.tmps.size = a0.tmps.size → (∀ s : Nat, s ∉ (List.range n).map ds → a.eval (.tmp s) = a0.eval (.tmp s)) → J W → χ i W → (∀ j, j < n → Region.waitsFor .any l.toArray j i = true → χ j W) → (∀ e ∈ o.after, Region.binds .any e = true → e.on < n → ψ e.on (a.eval (.tmp (ds e.on))) W) → GivesR P o (Rel i W) (ψ i) a W)
    (hend : ∀ a W, a = canonL a ks a0 → J W → (∀ j, j < n → ψ j (a.eval (.tmp (ds j))) W) → wpList P l.toArray Q (l.drop n) a W) : (Code.region id l.toArray true).wp P Q a0 w := by
  refine wp_region_any hm ?_
  have hn' : n < l.length := by simpa using hn
  have inv0 : HeadInv .any l.toArray n (Array.replicate l.toArray.size false) :=
    ⟨by simp, fun j oj _ hl => (by rw [getD_replicate_false] at hl; cases hl), fun t _ ht => getD_in (by simpa using ht) (getD_replicate_false _ _)⟩
  have hu : ∀ k, k ≤ l.length → unl (Array.replicate l.toArray.size false) k = k := by
    intro k
    induction k with
    | zero => intro _; rfl
    | succ k ih =>
      intro hk
      simp only [unl]
      rw [ih (by omega)]
      have : (Array.replicate l.toArray.size false).getD k true = false := by
        have h4 : k < (Array.replicate l.toArray.size false).size := by simp; omega
        simp only [Array.getD, h4, dif_pos]
        simp
      rw [this]; rfl
  have H := wpAny_psiR (P := P) (Q := Q) (w0 := w) (a0 := a0) hac hsk hch hn hseq hfm hks hU hJ hX hmono hstep hend n (Array.replicate l.toArray.size false) a0 w.drew inv0 (hu n (by omega))
    ⟨rfl, rfl, fun _ _ => rfl, hJ0, fun j _ hl => (by rw [getD_replicate_false] at hl; cases hl), fun j hj _ => hX0 j hj⟩
  rw [show n + (l.length - n) = l.toArray.size by simp; omega] at H
  exact H
end
end Go.Proofs.YthbeempmdpfnmaaGreatDoor
