/- Regions that draw, by promises. Conditions: those of each theorem's head. -/
import Derived.Test.YthbeempmdpfnmaaGreatDoorAc
import Derived.StillTail
import Derived.Orders
import Derived.RegionTactic

namespace Go.Proofs.YthbeempmdpfnmaaGreatDoor
open Go Go.RowKit

theorem eval_put_same {a : Act} {d : Nat} {v : Value} (h : d < a.tmps.size) : (a.put (some d) v).eval (.tmp d) = v := by
  show (a.tmps.setIfInBounds d v).getD d undef = v
  simp [Array.getD, h]
theorem eval_put_ne {a : Act} {d k : Nat} {v : Value} (h : d ≠ k) : (a.put (some d) v).eval (.tmp k) = a.eval (.tmp k) := by
  show (a.tmps.setIfInBounds d v).getD k undef = a.tmps.getD k undef
  rw [Array.getD_eq_getD_getElem?, Array.getD_eq_getD_getElem?, Array.getElem?_setIfInBounds, if_neg h]
theorem act_size {a : Act} {d : Nat} {v : Value} : (a.put (some d) v).tmps.size = a.tmps.size := by
  show (a.tmps.setIfInBounds d v).size = _
  simp
/-! ### What is listed -/
section
variable {P : Program} {ops : Array Oper} {Q : Exit → Act → World → Prop} {md : Region.Mode}
/-- How many of the first n are not listed. -/
def unl (L : Array Bool) : Nat → Nat
  | 0 => 0
  | n + 1 => unl L n + if L.getD n true = true then 0 else 1
theorem getD_set_ne (L : Array Bool) {i n : Nat} (e : ¬ i = n) : (L.setIfInBounds i true).getD n true = L.getD n true := by
  rw [Array.getD_eq_getD_getElem?, Array.getD_eq_getD_getElem?, Array.getElem?_setIfInBounds, if_neg e]
theorem unl_zero {L : Array Bool} : ∀ {n : Nat}, unl L n = 0 → ∀ i, i < n → L.getD i true = true
  | 0, _, i, h => absurd h (Nat.not_lt_zero _)
  | n + 1, h, i, hi => by
    simp only [unl] at h
    by_cases e : i = n
    · subst e
      by_cases h1 : L.getD i true = true
      · exact h1
      · rw [if_neg h1] at h; omega
    · exact unl_zero (n := n) (by omega) i (by omega)
theorem ready_mem {L : Array Bool} {i : Nat} (h : i ∈ Region.ready md ops L) : i < ops.size ∧ L.getD i true = false ∧ ∃ o, ops[i]? = some o ∧ ∀ e ∈ o.after, Region.binds md e = true → L.getD e.on false = true := by
  simp only [Region.ready, List.mem_filter, List.mem_range, Bool.and_eq_true, Bool.not_eq_true'] at h
  obtain ⟨hi, hl, ho⟩ := h
  refine ⟨hi, hl, ?_⟩
  have hs : ops[i]? = some ops[i] := Array.getElem?_eq_getElem hi
  rw [hs] at ho
  simp only [Option.map_some, Option.getD_some, Array.all_eq_true_iff_forall_mem, Bool.or_eq_true, Bool.not_eq_true'] at ho
  refine ⟨_, hs, fun e he hb => ?_⟩
  rcases ho e he with h1 | h1
  · rw [hb] at h1; cases h1
  · exact h1
theorem ready_nil {L : Array Bool} (hac : ∀ (i : Nat) (o : Oper), ops[i]? = some o → ∀ e ∈ o.after, Region.binds md e = true → e.on < i) (hs : L.size = ops.size) (h : Region.ready md ops L = []) : ∀ i, i < ops.size → L.getD i true = true := by
  intro i
  induction i using Nat.strongRecOn with
  | _ i ih =>
    intro hi
    by_cases hl : L.getD i true = true
    · exact hl
    · exfalso
      have hl : L.getD i true = false := by simpa using hl
      have hso : ops[i]? = some ops[i] := Array.getElem?_eq_getElem hi
      have : i ∈ Region.ready md ops L := by
        simp only [Region.ready, List.mem_filter, List.mem_range, Bool.and_eq_true, Bool.not_eq_true']
        refine ⟨hi, hl, ?_⟩
        rw [hso]
        simp only [Option.map_some, Option.getD_some, Array.all_eq_true_iff_forall_mem, Bool.or_eq_true, Bool.not_eq_true']
        intro e he
        by_cases hbe : Region.binds md e = true
        case neg => left; simpa using hbe
        right
        have hlt := hac i _ hso e he hbe
        have h1 := ih e.on hlt (by omega)
        have h2 : e.on < L.size := by omega
        simp only [Array.getD, h2, dif_pos] at h1 ⊢
        exact h1
      rw [h] at this
      cases this
end
theorem unl_other (L : Array Bool) (i : Nat) : ∀ n, n ≤ i → unl (L.setIfInBounds i true) n = unl L n
  | 0, _ => rfl
  | n + 1, h => by
    simp only [unl]
    rw [unl_other L i n (by omega), getD_set_ne L (show ¬ i = n by omega)]
theorem unl_set (L : Array Bool) (i : Nat) (hL : L.getD i true = false) : ∀ n, i < n → unl (L.setIfInBounds i true) n + 1 = unl L n
  | 0, h => absurd h (Nat.not_lt_zero _)
  | n + 1, h => by
    simp only [unl]
    by_cases e : i = n
    · subst e
      have hs : i < L.size := by
        by_cases hi : i < L.size
        · exact hi
        · simp [Array.getD, hi] at hL
      have h1 : (L.setIfInBounds i true).getD i true = true := by simp [Array.getD, hs]
      rw [unl_other L i i (Nat.le_refl _), if_pos h1, hL, if_neg (by decide)]
    · have ih := unl_set L i hL n (by omega)
      rw [getD_set_ne L e]; omega
theorem unl_some {L : Array Bool} : ∀ {n : Nat}, 0 < unl L n → ∃ i, i < n ∧ L.getD i true = false
  | 0, h => absurd h (Nat.lt_irrefl _)
  | n + 1, h => by
    simp only [unl] at h
    by_cases e : L.getD n true = true
    · rw [if_pos e] at h
      obtain ⟨i, hi, hl⟩ := unl_some (n := n) (by omega)
      exact ⟨i, by omega, hl⟩
    · exact ⟨n, by omega, by simpa using e⟩
def acyc (ops : Array Oper) : Bool := (List.range ops.size).all fun i => match ops[i]? with | some o => o.after.all (fun e => !Region.binds .any e || decide (e.on < i)) | none => true
theorem acyc_of {ops : Array Oper} (h : acyc ops = true) : ∀ (i : Nat) (o : Oper), ops[i]? = some o → ∀ e ∈ o.after, Region.binds .any e = true → e.on < i := by
  intro i o ho e he hbe
  have hi : i < ops.size := (Array.getElem?_eq_some_iff.1 ho).1
  have h1 := List.all_eq_true.1 h i (List.mem_range.2 hi)
  rw [ho] at h1
  have h2 := (Array.all_eq_true_iff_forall_mem.1 h1) e he
  have h3 : (!Region.binds .any e || decide (e.on < i)) = true := h2
  rw [hbe] at h3
  simpa using h3
def canonL (a : Act) : List Nat → Act → Act
  | [], b => b
  | k :: ks, b => canonL a ks (b.put (some k) (a.eval (.tmp k)))
theorem canon_size (a : Act) : ∀ (ks : List Nat) (b : Act), (canonL a ks b).tmps.size = b.tmps.size
  | [], _ => rfl
  | k :: ks, b => by
    show (canonL a ks (b.put (some k) (a.eval (.tmp k)))).tmps.size = _
    rw [canon_size a ks, act_size]
theorem canon_defers (a : Act) : ∀ (ks : List Nat) (b : Act), (canonL a ks b).defers = b.defers
  | [], _ => rfl
  | _ :: ks, _ => (canon_defers a ks _).trans rfl
theorem canon_eval (a : Act) : ∀ (ks : List Nat) (b : Act), a.tmps.size = b.tmps.size → ∀ j : Nat, j < b.tmps.size → (j ∉ ks → a.eval (.tmp j) = b.eval (.tmp j)) → (canonL a ks b).eval (.tmp j) = a.eval (.tmp j)
  | [], b, _, j, _, h => (h (by simp)).symm
  | k :: ks, b, hs, j, hj, h => by
    show (canonL a ks (b.put (some k) (a.eval (.tmp k)))).eval (.tmp j) = _
    refine canon_eval a ks _ (by rw [act_size]; exact hs) j (by rw [act_size]; exact hj) fun hn => ?_
    by_cases e : k = j
    · subst e; rw [eval_put_same hj]
    · rw [eval_put_ne e]
      exact h (fun hm => by rcases List.mem_cons.1 hm with r | r; exact e r.symm; exact hn r)
theorem canon_eq {a b : Act} {ks : List Nat} (hs : a.tmps.size = b.tmps.size) (hd : a.defers = b.defers) (h : ∀ j : Nat, j ∉ ks → a.eval (.tmp j) = b.eval (.tmp j)) : a = canonL a ks b := by
  have h1 := canon_size a ks b
  have h2 := canon_defers a ks b
  have h3 := fun j hj => canon_eval a ks b hs j hj (h j)
  generalize canonL a ks b = c at h1 h2 h3
  obtain ⟨ta, da⟩ := a
  obtain ⟨tc, dc⟩ := c
  have e1 : da = dc := hd.trans h2.symm
  subst e1
  congr 1
  have hsz : ta.size = tc.size := hs.trans h1.symm
  refine Array.ext hsz fun j hj1 hj2 => ?_
  have h4 := h3 j (by rw [← hs]; exact hj1)
  have h5 : tc.getD j undef = ta.getD j undef := h4
  simp only [Array.getD, hj1, hj2, dif_pos] at h5
  exact h5.symm

/-! ### Promises -/
/-- An operation gives a value of which ψ holds, whatever follows; the old blocks stay. -/
def Gives (P : Program) (o : Oper) (ψ : Value → World → Prop) (a : Act) (W : World) : Prop :=
  ∀ (K : Act → World → Prop) (Q : Exit → Act → World → Prop), (∀ v W', Below W.heap.size W W' → ψ v W' → K (a.put o.dst v) W') → Oper.wp P o a W K Q
theorem gives_run {P : Program} {o : Oper} {ψ : Value → World → Prop} {a : Act} {W W' : World} {v : Value} (hr : (execOp a.eval o).run P W = .ok (.value v) W') (hb : Below W.heap.size W W') (h : ψ v W') : Gives P o ψ a W := by
  intro K Q hK
  unfold Oper.wp
  rw [hr]
  exact hK v W' hb h
theorem gives_read {P : Program} {o : Oper} {ψ : Value → World → Prop} {a : Act} {W : World} {v : Value} (hr : (execOp a.eval o).run P W = .ok (.value v) W) (h : ψ v W) : Gives P o ψ a W := gives_run hr (Below.refl _ _) h
theorem gives_call {P : Program} {o : Oper} {ψ : Value → World → Prop} {a : Act} {W : World} {f : FuncId} {args : Array Value} (hr : (execOp a.eval o).run P W = .ok (.enter f args) W) (h : Calls P f args W fun e W' => ∃ v, e = .returned v ∧ Below W.heap.size W W' ∧ ψ v W') : Gives P o ψ a W := by
  intro K Q hK
  unfold Oper.wp
  rw [hr]
  refine h.mono ?_
  rintro e W' ⟨v, rfl, hb, hv⟩
  exact hK v W' hb hv
/-- What the operations listed so far have given. -/
structure PsiI (w0 : World) (a0 : Act) (ds : Nat → Nat) (n : Nat) (ψ : Nat → Value → World → Prop) (L : Array Bool) (a : Act) (W : World) : Prop where
  size : a.tmps.size = a0.tmps.size
  df : a.defers = a0.defers
  out : ∀ s : Nat, s ∉ (List.range n).map ds → a.eval (.tmp s) = a0.eval (.tmp s)
  bel : Below w0.heap.size w0 W
  vals : ∀ j, j < n → L.getD j false = true → ψ j (a.eval (.tmp (ds j))) W
/-- The region's form: the first n operations wait for such ahead of them, have no guard, and fill the slots ds, all unlike. -/
def formB (l : List Oper) (ds : Nat → Nat) (n N : Nat) : Bool :=
  (List.range n).all fun i => match l[i]? with
    | some o => decide (o.dst = some (ds i)) && o.guard.isNone && decide (ds i < N) && (List.range n).all (fun j => decide (i = j) || !decide (ds i = ds j))
    | none => false
theorem form_of {l : List Oper} {ds : Nat → Nat} {n N : Nat} (h : formB l ds n N = true) {i : Nat} (hi : i < n) {o : Oper} (ho : l[i]? = some o) : o.dst = some (ds i) ∧ o.guard = none ∧ ds i < N ∧ ∀ j, j < n → i ≠ j → ds i ≠ ds j := by
  have h1 := List.all_eq_true.1 h i (List.mem_range.2 hi)
  rw [ho] at h1
  simp only [Bool.and_eq_true, decide_eq_true_eq, Option.isNone_iff_eq_none] at h1
  refine ⟨h1.1.1.1, h1.1.1.2, h1.1.2, fun j hj hne e => ?_⟩
  have h2 := List.all_eq_true.1 h1.2 j (List.mem_range.2 hj)
  simp only [Bool.or_eq_true, decide_eq_true_eq, Bool.not_eq_true', decide_eq_false_iff_not] at h2
  rcases h2 with h2 | h2
  · exact hne h2
  · exact h2 e
section
variable {P : Program} {Q : Exit → Act → World → Prop} {l : List Oper} {n : Nat} {w0 : World} {a0 : Act} {ds : Nat → Nat} {ψ : Nat → Value → World → Prop}
theorem wpAny_psi (hac : acyc l.toArray = true) (hsk : Region.sinkB .any l.toArray n = true) (hch : Region.chainB .any l.toArray n = true) (hn : n < l.toArray.size)
    (hseq : Region.seqB .any l.toArray (l.length - n) n (List.replicate n true ++ List.replicate (l.length - n) false).toArray = true) (hfm : formB l ds n a0.tmps.size = true)
    (hmono : ∀ j v W W', Below W.heap.size W W' → ψ j v W → ψ j v W')
    (hstep : ∀ (i : Nat) (o : Oper), i < n → l[i]? = some o → ∀ a W, a.tmps.size = a0.tmps.size → (∀ s : Nat, s ∉ (List.range n).map ds → a.eval (.tmp s) = a0.eval (.tmp s)) → Below w0.heap.size w0 W → (∀ e ∈ o.after, Region.binds .any e = true → e.on < n → ψ e.on (a.eval (.tmp (ds e.on))) W) → Gives P o (ψ i) a W)
    (hend : ∀ a W, a = canonL a ((List.range n).map ds) a0 → Below w0.heap.size w0 W → (∀ j, j < n → ψ j (a.eval (.tmp (ds j))) W) → wpList P l.toArray Q (l.drop n) a W) :
    ∀ (f : Nat) (L : Array Bool) (a : Act) (W : World), HeadInv .any l.toArray n L → unl L n = f → PsiI w0 a0 ds n ψ L a W → wpAny P .any l.toArray Q (f + (l.length - n)) L a W
  | 0, L, a, W, inv, hf, hI => by
    have hall := unl_zero hf
    have hn' : n < l.length := by simpa using hn
    have hsz : L.size = l.length := by have := inv.size; simpa using this
    have hL : L = (List.replicate n true ++ List.replicate (l.length - n) false).toArray := by
      refine Array.ext (by simp [hsz]; omega) fun j h1 h2 => ?_
      by_cases hj : j < n
      · have h3 := hall j hj
        simp only [Array.getD, h1, dif_pos] at h3
        rw [show L[j] = true from h3]
        simp [List.getElem_append_left, hj]
      · have h3 := inv.tail j (by omega) (by simpa using (by omega : j < l.length))
        simp only [Array.getD, h1, dif_pos] at h3
        rw [show L[j] = false from h3]
        simp only [List.getElem_toArray]
        rw [List.getElem_append_right (by simp; omega)]
        simp
    have hdl : (l.drop n).length = l.length - n := by simp
    have hfin := hend a W (canon_eq hI.size hI.df fun j hj => hI.out j hj) hI.bel fun j hj => hI.vals j hj (by
      have h3 := hall j hj
      have h4 : j < L.size := by omega
      simp only [Array.getD, h4, dif_pos] at h3 ⊢
      exact h3)
    have := wpAny_of_seq (P := P) (md := .any) (Q' := Q) (l.drop n) n L a W (fun j => by simp [List.getElem?_drop]) (by rw [hdl, hL]; exact hseq) hfin
    rwa [hdl, ← Nat.zero_add (l.length - n)] at this
  | f + 1, L, a, W, inv, hf, hI => by
    rw [show f + 1 + (l.length - n) = (f + (l.length - n)) + 1 by omega]
    refine ⟨fun hr => ?_, fun i hi => ?_⟩
    · exfalso
      have h1 := ready_nil (acyc_of hac) inv.size hr n hn
      rw [inv.tail n (Nat.le_refl _) hn] at h1
      cases h1
    · obtain ⟨i0, hi0, hl0⟩ := unl_some (L := L) (n := n) (by omega)
      have hin : i < n := Nat.lt_of_not_le fun h => tail_waits hsk hch hn inv _ i0 rfl hi0 hl0 i h hi
      obtain ⟨hlt, hl, o, ho, hd⟩ := ready_mem hi
      have hol : l[i]? = some o := by simpa using ho
      obtain ⟨hdst, hgd, hdN, hinj⟩ := form_of hfm hin hol
      refine wpOp_step ho fun K' hK => ?_
      rw [if_pos (by simp [Region.wanted, hgd])]
      refine hstep i o hin hol a W hI.size hI.out hI.bel (fun e he hb hen => hI.vals e.on hen (hd e he hb)) K' Q fun v W' hb hv => hK _ _ ?_
      refine wpAny_psi hac hsk hch hn hseq hfm hmono hstep hend f _ _ W' (inv.set hi hin) (by have := unl_set L i hl n hin; omega) ?_
      rw [hdst]
      refine ⟨by rw [act_size]; exact hI.size, hI.df, fun s hs => ?_, hI.bel.trans (hb.mono hI.bel.size), fun j hj hlj => ?_⟩
      · rw [eval_put_ne (fun e => hs (List.mem_map.2 ⟨i, List.mem_range.2 hin, e⟩))]
        exact hI.out s hs
      · by_cases e : i = j
        · subst e
          rw [eval_put_same (by rw [hI.size]; exact hdN)]
          exact hv
        · rw [eval_put_ne (hinj j hj e)]
          have h5 : L.getD j false = true := by
            rw [Array.getD_eq_getD_getElem?, Array.getElem?_setIfInBounds, if_neg e, ← Array.getD_eq_getD_getElem?] at hlj
            exact hlj
          exact hmono j _ W W' hb (hI.vals j hj h5)
/-- THE LAW. -/
theorem region_psi {id : Nat} {w : World} (n : Nat) (ds : Nat → Nat) (ψ : Nat → Value → World → Prop) (hm : P.follows .mixedOrders = true) (hac : acyc l.toArray = true) (hsk : Region.sinkB .any l.toArray n = true) (hch : Region.chainB .any l.toArray n = true) (hn : n < l.toArray.size)
    (hseq : Region.seqB .any l.toArray (l.length - n) n (List.replicate n true ++ List.replicate (l.length - n) false).toArray = true) (hfm : formB l ds n a0.tmps.size = true)
    (hmono : ∀ j v W W', Below W.heap.size W W' → ψ j v W → ψ j v W')
    (hstep : ∀ (i : Nat) (o : Oper), i < n → l[i]? = some o → ∀ a W, a.tmps.size = a0.tmps.size → (∀ s : Nat, s ∉ (List.range n).map ds → a.eval (.tmp s) = a0.eval (.tmp s)) → Below w.heap.size w W → (∀ e ∈ o.after, Region.binds .any e = true → e.on < n → ψ e.on (a.eval (.tmp (ds e.on))) W) → Gives P o (ψ i) a W)
    (hend : ∀ a W, a = canonL a ((List.range n).map ds) a0 → Below w.heap.size w W → (∀ j, j < n → ψ j (a.eval (.tmp (ds j))) W) → wpList P l.toArray Q (l.drop n) a W) : (Code.region id l.toArray true).wp P Q a0 w := by
  refine wp_region_any hm ?_
  have hn' : n < l.length := by simpa using hn
  have inv0 : HeadInv .any l.toArray n (Array.replicate l.toArray.size false) :=
    ⟨by simp, fun j oj _ hl => (by rw [getD_replicate_false] at hl; cases hl), fun t _ ht => getD_in (by simpa using ht) (getD_replicate_false _ _)⟩
  have hu : ∀ k, k ≤ l.length → unl (Array.replicate l.toArray.size false) k = k := by
    intro k
    induction k with
    | zero => intro _; rfl
    | succ k ih =>
      intro hk
      simp only [unl]
      rw [ih (by omega)]
      have : (Array.replicate l.toArray.size false).getD k true = false := by
        have h4 : k < (Array.replicate l.toArray.size false).size := by simp; omega
        simp only [Array.getD, h4, dif_pos]
        simp
      rw [this]; rfl
  have H := wpAny_psi (P := P) (Q := Q) (w0 := w) (a0 := a0) hac hsk hch hn hseq hfm hmono hstep hend n (Array.replicate l.toArray.size false) a0 w.drew inv0 (hu n (by omega))
    ⟨rfl, rfl, fun _ _ => rfl, (Below.refl _ _).drew, fun j _ hl => (by rw [getD_replicate_false] at hl; cases hl)⟩
  rw [show n + (l.length - n) = l.toArray.size by simp; omega] at H
  exact H
end

end Go.Proofs.YthbeempmdpfnmaaGreatDoor

namespace Go.Proofs.YthbeempmdpfnmaaGreatDoor
open Go Go.RowKit

/-- The region's form: the first n operations wait for such ahead of them, fill the slots ds, all unlike; what guards one of them is waited for, and must be true. -/
def formG (l : List Oper) (ds : Nat → Nat) (n N : Nat) (gs : List Nat) : Bool :=
  (List.range n).all fun i => match l[i]? with
    | some o => decide (o.dst = some (ds i)) && decide (ds i < N) && (List.range n).all (fun j => decide (i = j) || !decide (ds i = ds j)) && (match o.guard with
      | none => true
      | some (k, b) => b && decide (k < n) && gs.contains k && o.after.any (fun e => decide (e.on = k) && Region.binds .any e))
    | none => false
theorem formG_of {l : List Oper} {ds : Nat → Nat} {n N : Nat} {gs : List Nat} (h : formG l ds n N gs = true) {i : Nat} (hi : i < n) {o : Oper} (ho : l[i]? = some o) : o.dst = some (ds i) ∧ ds i < N ∧ (∀ j, j < n → i ≠ j → ds i ≠ ds j) ∧ (∀ k b, o.guard = some (k, b) → b = true ∧ k < n ∧ k ∈ gs ∧ ∃ e ∈ o.after, e.on = k ∧ Region.binds .any e = true) := by
  have h1 := List.all_eq_true.1 h i (List.mem_range.2 hi)
  rw [ho] at h1
  simp only [Bool.and_eq_true, decide_eq_true_eq] at h1
  refine ⟨h1.1.1.1, h1.1.1.2, fun j hj hne e => ?_, fun k b hg => ?_⟩
  · have h2 := List.all_eq_true.1 h1.1.2 j (List.mem_range.2 hj)
    simp only [Bool.or_eq_true, decide_eq_true_eq, Bool.not_eq_true', decide_eq_false_iff_not] at h2
    rcases h2 with h2 | h2
    · exact hne h2
    · exact h2 e
  · have h2 := h1.2
    rw [hg] at h2
    simp only [Bool.and_eq_true, decide_eq_true_eq, List.contains_iff_mem, Array.any_eq_true'] at h2
    obtain ⟨⟨⟨q1, q2⟩, q3⟩, e, he, q4⟩ := h2
    exact ⟨q1, q2, q3, e, he, q4.1, q4.2⟩
section
variable {P : Program} {Q : Exit → Act → World → Prop} {l : List Oper} {n : Nat} {w0 : World} {a0 : Act} {ds : Nat → Nat} {ψ : Nat → Value → World → Prop}
theorem wpAny_psiG (hac : acyc l.toArray = true) (hsk : Region.sinkB .any l.toArray n = true) (hch : Region.chainB .any l.toArray n = true) (hn : n < l.toArray.size)
    (hseq : Region.seqB .any l.toArray (l.length - n) n (List.replicate n true ++ List.replicate (l.length - n) false).toArray = true) (gs : List Nat) (hfm : formG l ds n a0.tmps.size gs = true) (hgs : ∀ k v W, k ∈ gs → ψ k v W → v = .bool true)
    (hmono : ∀ j v W W', Below W.heap.size W W' → ψ j v W → ψ j v W')
    (hstep : ∀ (i : Nat) (o : Oper), i < n → l[i]? = some o → ∀ a W, a.tmps.size = a0.tmps.size → (∀ s : Nat, s ∉ (List.range n).map ds → a.eval (.tmp s) = a0.eval (.tmp s)) → Below w0.heap.size w0 W → (∀ e ∈ o.after, Region.binds .any e = true → e.on < n → ψ e.on (a.eval (.tmp (ds e.on))) W) → Gives P o (ψ i) a W)
    (hend : ∀ a W, a = canonL a ((List.range n).map ds) a0 → Below w0.heap.size w0 W → (∀ j, j < n → ψ j (a.eval (.tmp (ds j))) W) → wpList P l.toArray Q (l.drop n) a W) :
    ∀ (f : Nat) (L : Array Bool) (a : Act) (W : World), HeadInv .any l.toArray n L → unl L n = f → PsiI w0 a0 ds n ψ L a W → wpAny P .any l.toArray Q (f + (l.length - n)) L a W
  | 0, L, a, W, inv, hf, hI => by
    have hall := unl_zero hf
    have hn' : n < l.length := by simpa using hn
    have hsz : L.size = l.length := by have := inv.size; simpa using this
    have hL : L = (List.replicate n true ++ List.replicate (l.length - n) false).toArray := by
      refine Array.ext (by simp [hsz]; omega) fun j h1 h2 => ?_
      by_cases hj : j < n
      · have h3 := hall j hj
        simp only [Array.getD, h1, dif_pos] at h3
        rw [show L[j] = true from h3]
        simp [List.getElem_append_left, hj]
      · have h3 := inv.tail j (by omega) (by simpa using (by omega : j < l.length))
        simp only [Array.getD, h1, dif_pos] at h3
        rw [show L[j] = false from h3]
        simp only [List.getElem_toArray]
        rw [List.getElem_append_right (by simp; omega)]
        simp
    have hdl : (l.drop n).length = l.length - n := by simp
    have hfin := hend a W (canon_eq hI.size hI.df fun j hj => hI.out j hj) hI.bel fun j hj => hI.vals j hj (by
      have h3 := hall j hj
      have h4 : j < L.size := by omega
      simp only [Array.getD, h4, dif_pos] at h3 ⊢
      exact h3)
    have := wpAny_of_seq (P := P) (md := .any) (Q' := Q) (l.drop n) n L a W (fun j => by simp [List.getElem?_drop]) (by rw [hdl, hL]; exact hseq) hfin
    rwa [hdl, ← Nat.zero_add (l.length - n)] at this
  | f + 1, L, a, W, inv, hf, hI => by
    rw [show f + 1 + (l.length - n) = (f + (l.length - n)) + 1 by omega]
    refine ⟨fun hr => ?_, fun i hi => ?_⟩
    · exfalso
      have h1 := ready_nil (acyc_of hac) inv.size hr n hn
      rw [inv.tail n (Nat.le_refl _) hn] at h1
      cases h1
    · obtain ⟨i0, hi0, hl0⟩ := unl_some (L := L) (n := n) (by omega)
      have hin : i < n := Nat.lt_of_not_le fun h => tail_waits hsk hch hn inv _ i0 rfl hi0 hl0 i h hi
      obtain ⟨hlt, hl, o, ho, hd⟩ := ready_mem hi
      have hol : l[i]? = some o := by simpa using ho
      obtain ⟨hdst, hdN, hinj, hgd⟩ := formG_of hfm hin hol
      have hw : Region.wanted o (yielded l.toArray a.tmps) = true := by
        unfold Region.wanted
        cases hg : o.guard with
        | none => rfl
        | some kb =>
          obtain ⟨k, b⟩ := kb
          obtain ⟨rfl, hkn, hkg, e, he, rfl, hbn⟩ := hgd k b hg
          have hv := hgs _ _ _ hkg (hI.vals e.on hkn (hd e he hbn))
          have hkl : e.on < l.length := by have hn2 : n < l.length := (by simpa using hn); omega
          obtain ⟨hdk, hdkN, _, _⟩ := formG_of hfm hkn (List.getElem?_eq_getElem hkl)
          have hy : yielded l.toArray a.tmps e.on = some true := by
            unfold yielded
            rw [List.getElem?_toArray, List.getElem?_eq_getElem hkl]
            simp only [Option.bind_some, hdk]
            have hlt : ds e.on < a.tmps.size := by rw [hI.size]; exact hdkN
            have h3 : a.tmps.getD (ds e.on) undef = .bool true := hv
            simp only [Array.getD, hlt, dif_pos] at h3
            rw [Array.getElem?_eq_getElem hlt]
            show (match some a.tmps[ds e.on] with | some (.bool b) => some b | _ => none) = some true
            rw [show a.tmps[ds e.on] = .bool true from h3]
          simp only [hy]; rfl
      refine wpOp_step ho fun K' hK => ?_
      rw [if_pos hw]
      refine hstep i o hin hol a W hI.size hI.out hI.bel (fun e he hb hen => hI.vals e.on hen (hd e he hb)) K' Q fun v W' hb hv => hK _ _ ?_
      refine wpAny_psiG hac hsk hch hn hseq gs hfm hgs hmono hstep hend f _ _ W' (inv.set hi hin) (by have := unl_set L i hl n hin; omega) ?_
      rw [hdst]
      refine ⟨by rw [act_size]; exact hI.size, hI.df, fun s hs => ?_, hI.bel.trans (hb.mono hI.bel.size), fun j hj hlj => ?_⟩
      · rw [eval_put_ne (fun e => hs (List.mem_map.2 ⟨i, List.mem_range.2 hin, e⟩))]
        exact hI.out s hs
      · by_cases e : i = j
        · subst e
          rw [eval_put_same (by rw [hI.size]; exact hdN)]
          exact hv
        · rw [eval_put_ne (hinj j hj e)]
          have h5 : L.getD j false = true := by
            rw [Array.getD_eq_getD_getElem?, Array.getElem?_setIfInBounds, if_neg e, ← Array.getD_eq_getD_getElem?] at hlj
            exact hlj
          exact hmono j _ W W' hb (hI.vals j hj h5)
/-- THE LAW. -/
theorem region_psiG {id : Nat} {w : World} (n : Nat) (ds : Nat → Nat) (ψ : Nat → Value → World → Prop) (hm : P.follows .mixedOrders = true) (hac : acyc l.toArray = true) (hsk : Region.sinkB .any l.toArray n = true) (hch : Region.chainB .any l.toArray n = true) (hn : n < l.toArray.size)
    (hseq : Region.seqB .any l.toArray (l.length - n) n (List.replicate n true ++ List.replicate (l.length - n) false).toArray = true) (gs : List Nat) (hfm : formG l ds n a0.tmps.size gs = true) (hgs : ∀ k v W, k ∈ gs → ψ k v W → v = .bool true)
    (hmono : ∀ j v W W', Below W.heap.size W W' → ψ j v W → ψ j v W')
    (hstep : ∀ (i : Nat) (o : Oper), i < n → l[i]? = some o → ∀ a W, a.tmps.size = a0.tmps.size → (∀ s : Nat, s ∉ (List.range n).map ds → a.eval (.tmp s) = a0.eval (.tmp s)) → Below w.heap.size w W → (∀ e ∈ o.after, Region.binds .any e = true → e.on < n → ψ e.on (a.eval (.tmp (ds e.on))) W) → Gives P o (ψ i) a W)
    (hend : ∀ a W, a = canonL a ((List.range n).map ds) a0 → Below w.heap.size w W → (∀ j, j < n → ψ j (a.eval (.tmp (ds j))) W) → wpList P l.toArray Q (l.drop n) a W) : (Code.region id l.toArray true).wp P Q a0 w := by
  refine wp_region_any hm ?_
  have hn' : n < l.length := by simpa using hn
  have inv0 : HeadInv .any l.toArray n (Array.replicate l.toArray.size false) :=
    ⟨by simp, fun j oj _ hl => (by rw [getD_replicate_false] at hl; cases hl), fun t _ ht => getD_in (by simpa using ht) (getD_replicate_false _ _)⟩
  have hu : ∀ k, k ≤ l.length → unl (Array.replicate l.toArray.size false) k = k := by
    intro k
    induction k with
    | zero => intro _; rfl
    | succ k ih =>
      intro hk
      simp only [unl]
      rw [ih (by omega)]
      have : (Array.replicate l.toArray.size false).getD k true = false := by
        have h4 : k < (Array.replicate l.toArray.size false).size := by simp; omega
        simp only [Array.getD, h4, dif_pos]
        simp
      rw [this]; rfl
  have H := wpAny_psiG (P := P) (Q := Q) (w0 := w) (a0 := a0) hac hsk hch hn hseq gs hfm hgs hmono hstep hend n (Array.replicate l.toArray.size false) a0 w.drew inv0 (hu n (by omega))
    ⟨rfl, rfl, fun _ _ => rfl, (Below.refl _ _).drew, fun j _ hl => (by rw [getD_replicate_false] at hl; cases hl)⟩
  rw [show n + (l.length - n) = l.toArray.size by simp; omega] at H
  exact H
end

end Go.Proofs.YthbeempmdpfnmaaGreatDoor
