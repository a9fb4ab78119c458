/- A law for drawn regions: what each operation promises, where some are passed over. No condition. -/
import Derived.Test.YtdmbngkkbgmlfaaGreatDoorRq
namespace Go.Proofs.YtdmbngkkbgmlfaaGreatDoor
open Go Go.RowKit

/-- The region's form: the first n operations wait for such ahead of them, fill the slots ds, all unlike; what guards one of them is waited for, and known: so it is known which are run. -/
def formH (l : List Oper) (ds : Nat → Nat) (n N : Nat) (gs : List (Nat × Bool)) (run : Nat → Bool) : Bool :=
  (List.range n).all fun i => match l[i]? with
    | some o => decide (o.dst = some (ds i)) && decide (ds i < N) && (List.range n).all (fun j => decide (i = j) || !decide (ds i = ds j)) && (match o.guard with
      | none => run i
      | some (k, b) => decide (k < n) && gs.any (fun p => decide (p.1 = k) && (run i == (p.2 == b))) && o.after.any (fun e => decide (e.on = k) && Region.binds .any e))
    | none => false
theorem formH_of {l : List Oper} {ds : Nat → Nat} {n N : Nat} {gs : List (Nat × Bool)} {run : Nat → Bool} (h : formH l ds n N gs run = true) {i : Nat} (hi : i < n) {o : Oper} (ho : l[i]? = some o) : o.dst = some (ds i) ∧ ds i < N ∧ (∀ j, j < n → i ≠ j → ds i ≠ ds j) ∧ (o.guard = none → run i = true) ∧ (∀ k b, o.guard = some (k, b) → k < n ∧ (∃ g, (k, g) ∈ gs ∧ run i = (g == b)) ∧ ∃ e ∈ o.after, e.on = k ∧ Region.binds .any e = true) := by
  have h1 := List.all_eq_true.1 h i (List.mem_range.2 hi)
  rw [ho] at h1
  simp only [Bool.and_eq_true, decide_eq_true_eq] at h1
  refine ⟨h1.1.1.1, h1.1.1.2, fun j hj hne e => ?_, fun hg => ?_, fun k b hg => ?_⟩
  · have h2 := List.all_eq_true.1 h1.1.2 j (List.mem_range.2 hj)
    simp only [Bool.or_eq_true, decide_eq_true_eq, Bool.not_eq_true', decide_eq_false_iff_not] at h2
    rcases h2 with h2 | h2
    · exact hne h2
    · exact h2 e
  · have h2 := h1.2
    rw [hg] at h2
    exact h2
  · have h2 := h1.2
    rw [hg] at h2
    simp only [Bool.and_eq_true, decide_eq_true_eq, List.any_eq_true, Array.any_eq_true', beq_iff_eq] at h2
    obtain ⟨⟨q2, p, hp, q3, q5⟩, e, he, q4⟩ := h2
    obtain ⟨p1, p2⟩ := p
    dsimp only at q3 q5
    subst q3
    exact ⟨q2, ⟨p2, hp, q5⟩, e, he, q4.1, q4.2⟩
section
variable {P : Program} {Q : Exit → Act → World → Prop} {l : List Oper} {n : Nat} {w0 : World} {a0 : Act} {ds : Nat → Nat} {ψ : Nat → Value → World → Prop}
theorem wpAny_psiH (hac : acyc l.toArray = true) (hsk : Region.sinkB .any l.toArray n = true) (hch : Region.chainB .any l.toArray n = true) (hn : n < l.toArray.size)
    (hseq : Region.seqB .any l.toArray (l.length - n) n (List.replicate n true ++ List.replicate (l.length - n) false).toArray = true) (gs : List (Nat × Bool)) (run : Nat → Bool) (hfm : formH l ds n a0.tmps.size gs run = true) (hgs : ∀ k g v W, (k, g) ∈ gs → ψ k v W → v = .bool g) (hskip : ∀ i W, i < n → run i = false → ψ i undef W)
    (hmono : ∀ j v W W', Below W.heap.size W W' → ψ j v W → ψ j v W')
    (hstep : ∀ (i : Nat) (o : Oper), i < n → run i = true → l[i]? = some o → ∀ a W, a.tmps.size = a0.tmps.size → (∀ s : Nat, s ∉ (List.range n).map ds → a.eval (.tmp s) = a0.eval (.tmp s)) → Below w0.heap.size w0 W → (∀ e ∈ o.after, Region.binds .any e = true → e.on < n → ψ e.on (a.eval (.tmp (ds e.on))) W) → Gives P o (ψ i) a W)
    (hend : ∀ a W, a = canonL a ((List.range n).map ds) a0 → Below w0.heap.size w0 W → (∀ j, j < n → ψ j (a.eval (.tmp (ds j))) W) → wpList P l.toArray Q (l.drop n) a W) :
    ∀ (f : Nat) (L : Array Bool) (a : Act) (W : World), HeadInv .any l.toArray n L → unl L n = f → PsiI w0 a0 ds n ψ L a W → wpAny P .any l.toArray Q (f + (l.length - n)) L a W
  | 0, L, a, W, inv, hf, hI => by
    have hall := unl_zero hf
    have hn' : n < l.length := by simpa using hn
    have hsz : L.size = l.length := by have := inv.size; simpa using this
    have hL : L = (List.replicate n true ++ List.replicate (l.length - n) false).toArray := by
      refine Array.ext (by simp [hsz]; omega) fun j h1 h2 => ?_
      by_cases hj : j < n
      · have h3 := hall j hj
        simp only [Array.getD, h1, dif_pos] at h3
        rw [show L[j] = true from h3]
        simp [List.getElem_append_left, hj]
      · have h3 := inv.tail j (by omega) (by simpa using (by omega : j < l.length))
        simp only [Array.getD, h1, dif_pos] at h3
        rw [show L[j] = false from h3]
        simp only [List.getElem_toArray]
        rw [List.getElem_append_right (by simp; omega)]
        simp
    have hdl : (l.drop n).length = l.length - n := by simp
    have hfin := hend a W (canon_eq hI.size hI.df fun j hj => hI.out j hj) hI.bel fun j hj => hI.vals j hj (by
      have h3 := hall j hj
      have h4 : j < L.size := by omega
      simp only [Array.getD, h4, dif_pos] at h3 ⊢
      exact h3)
    have := wpAny_of_seq (P := P) (md := .any) (Q' := Q) (l.drop n) n L a W (fun j => by simp [List.getElem?_drop]) (by rw [hdl, hL]; exact hseq) hfin
    rwa [hdl, ← Nat.zero_add (l.length - n)] at this
  | f + 1, L, a, W, inv, hf, hI => by
    rw [show f + 1 + (l.length - n) = (f + (l.length - n)) + 1 by omega]
    refine ⟨fun hr => ?_, fun i hi => ?_⟩
    · exfalso
      have h1 := ready_nil (acyc_of hac) inv.size hr n hn
      rw [inv.tail n (Nat.le_refl _) hn] at h1
      cases h1
    · obtain ⟨i0, hi0, hl0⟩ := unl_some (L := L) (n := n) (by omega)
      have hin : i < n := Nat.lt_of_not_le fun h => tail_waits hsk hch hn inv _ i0 rfl hi0 hl0 i h hi
      obtain ⟨hlt, hl, o, ho, hd⟩ := ready_mem hi
      have hol : l[i]? = some o := by simpa using ho
      obtain ⟨hdst, hdN, hinj, hg0, hgd⟩ := formH_of hfm hin hol
      have hw : Region.wanted o (yielded l.toArray a.tmps) = run i := by
        unfold Region.wanted
        cases hg : o.guard with
        | none => exact (hg0 hg).symm
        | some kb =>
          obtain ⟨k, b⟩ := kb
          obtain ⟨hkn, ⟨g, hkg, hri⟩, e, he, rfl, hbn⟩ := hgd k b hg
          have hv := hgs _ _ _ _ hkg (hI.vals e.on hkn (hd e he hbn))
          have hkl : e.on < l.length := by have hn2 : n < l.length := (by simpa using hn); omega
          obtain ⟨hdk, hdkN, _, _⟩ := formH_of hfm hkn (List.getElem?_eq_getElem hkl)
          have hy : yielded l.toArray a.tmps e.on = some g := by
            unfold yielded
            rw [List.getElem?_toArray, List.getElem?_eq_getElem hkl]
            simp only [Option.bind_some, hdk]
            have hlt : ds e.on < a.tmps.size := by rw [hI.size]; exact hdkN
            have h3 : a.tmps.getD (ds e.on) undef = .bool g := hv
            simp only [Array.getD, hlt, dif_pos] at h3
            rw [Array.getElem?_eq_getElem hlt]
            show (match some a.tmps[ds e.on] with | some (.bool b) => some b | _ => none) = some g
            rw [show a.tmps[ds e.on] = .bool g from h3]
          rw [hri]
          simp only [hy]; cases g <;> cases b <;> rfl
      have hput : ∀ (v : Value) (W' : World), Below W.heap.size W W' → ψ i v W' → PsiI w0 a0 ds n ψ (L.setIfInBounds i true) (a.put o.dst v) W' := fun v W' hb hv => by
        rw [hdst]
        refine ⟨by rw [act_size]; exact hI.size, hI.df, fun s hs => ?_, hI.bel.trans (hb.mono hI.bel.size), fun j hj hlj => ?_⟩
        · rw [eval_put_ne (fun e => hs (List.mem_map.2 ⟨i, List.mem_range.2 hin, e⟩))]
          exact hI.out s hs
        · by_cases e : i = j
          · subst e
            rw [eval_put_same (by rw [hI.size]; exact hdN)]
            exact hv
          · rw [eval_put_ne (hinj j hj e)]
            have h5 : L.getD j false = true := by
              rw [Array.getD_eq_getD_getElem?, Array.getElem?_setIfInBounds, if_neg e, ← Array.getD_eq_getD_getElem?] at hlj
              exact hlj
            exact hmono j _ W W' hb (hI.vals j hj h5)
      refine wpOp_step ho fun K' hK => ?_
      rw [hw]
      cases hrun : run i with
      | true =>
        rw [if_pos rfl]
        refine hstep i o hin hrun hol a W hI.size hI.out hI.bel (fun e he hb hen => hI.vals e.on hen (hd e he hb)) K' Q fun v W' hb hv => hK _ _ ?_
        exact wpAny_psiH hac hsk hch hn hseq gs run hfm hgs hskip hmono hstep hend f _ _ W' (inv.set hi hin) (by have := unl_set L i hl n hin; omega) (hput v W' hb hv)
      | false =>
        rw [if_neg (by decide)]
        exact hK _ _ (wpAny_psiH hac hsk hch hn hseq gs run hfm hgs hskip hmono hstep hend f _ _ W (inv.set hi hin) (by have := unl_set L i hl n hin; omega) (hput undef W (Below.refl _ _) (hskip i W hin hrun)))
/-- THE LAW. -/
theorem region_psiH {id : Nat} {w : World} (n : Nat) (ds : Nat → Nat) (ψ : Nat → Value → World → Prop) (hm : P.follows .mixedOrders = true) (hac : acyc l.toArray = true) (hsk : Region.sinkB .any l.toArray n = true) (hch : Region.chainB .any l.toArray n = true) (hn : n < l.toArray.size)
    (hseq : Region.seqB .any l.toArray (l.length - n) n (List.replicate n true ++ List.replicate (l.length - n) false).toArray = true) (gs : List (Nat × Bool)) (run : Nat → Bool) (hfm : formH l ds n a0.tmps.size gs run = true) (hgs : ∀ k g v W, (k, g) ∈ gs → ψ k v W → v = .bool g) (hskip : ∀ i W, i < n → run i = false → ψ i undef W)
    (hmono : ∀ j v W W', Below W.heap.size W W' → ψ j v W → ψ j v W')
    (hstep : ∀ (i : Nat) (o : Oper), i < n → run i = true → l[i]? = some o → ∀ a W, a.tmps.size = a0.tmps.size → (∀ s : Nat, s ∉ (List.range n).map ds → a.eval (.tmp s) = a0.eval (.tmp s)) → Below w.heap.size w W → (∀ e ∈ o.after, Region.binds .any e = true → e.on < n → ψ e.on (a.eval (.tmp (ds e.on))) W) → Gives P o (ψ i) a W)
    (hend : ∀ a W, a = canonL a ((List.range n).map ds) a0 → Below w.heap.size w W → (∀ j, j < n → ψ j (a.eval (.tmp (ds j))) W) → wpList P l.toArray Q (l.drop n) a W) : (Code.region id l.toArray true).wp P Q a0 w := by
  refine wp_region_any hm ?_
  have hn' : n < l.length := by simpa using hn
  have inv0 : HeadInv .any l.toArray n (Array.replicate l.toArray.size false) :=
    ⟨by simp, fun j oj _ hl => (by rw [getD_replicate_false] at hl; cases hl), fun t _ ht => getD_in (by simpa using ht) (getD_replicate_false _ _)⟩
  have hu : ∀ k, k ≤ l.length → unl (Array.replicate l.toArray.size false) k = k := by
    intro k
    induction k with
    | zero => intro _; rfl
    | succ k ih =>
      intro hk
      simp only [unl]
      rw [ih (by omega)]
      have : (Array.replicate l.toArray.size false).getD k true = false := by
        have h4 : k < (Array.replicate l.toArray.size false).size := by simp; omega
        simp only [Array.getD, h4, dif_pos]
        simp
      rw [this]; rfl
  have H := wpAny_psiH (P := P) (Q := Q) (w0 := w) (a0 := a0) hac hsk hch hn hseq gs run hfm hgs hskip hmono hstep hend n (Array.replicate l.toArray.size false) a0 w.drew inv0 (hu n (by omega))
    ⟨rfl, rfl, fun _ _ => rfl, (Below.refl _ _).drew, fun j _ hl => (by rw [getD_replicate_false] at hl; cases hl)⟩
  rw [show n + (l.length - n) = l.toArray.size by simp; omega] at H
  exact H
end

end Go.Proofs.YtdmbngkkbgmlfaaGreatDoor
