/- A region that draws its order: operations that give values, one of them a call that makes memory; two boxes are made at any time, and filled once their values are there. By a condition on the whole act that each operation keeps. No condition beyond the theorems' heads. -/
import Derived.Test.YthbeempmdpfnmaaGreatDoorRp

namespace Go.Proofs.YthbeempmdpfnmaaGreatDoor
open Go Go.RowKit

theorem unl_false (n : Nat) : ∀ k, k ≤ n → unl (Array.replicate n false) k ≤ n
  | 0, _ => Nat.zero_le _
  | k + 1, h => by
    have : ∀ j, j ≤ n → unl (Array.replicate n false) j ≤ j := by
      intro j
      induction j with
      | zero => intro _; exact Nat.le_refl _
      | succ j ih => intro hj; have := ih (by omega); simp only [unl]; split <;> omega
    exact Nat.le_trans (this (k + 1) h) h
section
variable {P : Program} {ops : Array Oper} {Q : Exit → Act → World → Prop}
theorem wpAny_inv (I : Array Bool → Act → World → Prop) (hac : ∀ (i : Nat) (o : Oper), ops[i]? = some o → ∀ e ∈ o.after, Region.binds .any e = true → e.on < i)
    (hstep : ∀ (L : Array Bool) (a : Act) (w : World) (i : Nat) (o : Oper), I L a w → L.size = ops.size → ops[i]? = some o → L.getD i true = false → (∀ e ∈ o.after, Region.binds .any e = true → L.getD e.on false = true) →
      ∀ K' : Act → World → Prop, (∀ a w, I (L.setIfInBounds i true) a w → K' a w) → if Region.wanted o (yielded ops a.tmps) = true then Oper.wp P o a w K' Q else K' (a.put o.dst undef) w)
    (hend : ∀ (L : Array Bool) (a : Act) (w : World), I L a w → (∀ i, i < ops.size → L.getD i true = true) → Q .normal a w) :
    ∀ (fuel : Nat) (L : Array Bool) (a : Act) (w : World), L.size = ops.size → unl L ops.size ≤ fuel → I L a w → wpAny P .any ops Q fuel L a w
  | 0, L, a, w, hs, hf, hI => by
    have hall := unl_zero (Nat.le_zero.1 hf)
    refine ⟨?_, hend L a w hI hall⟩
    cases hr : Region.ready .any ops L with
    | nil => rfl
    | cons i r =>
      have := ready_mem (md := .any) (ops := ops) (L := L) (i := i) (by rw [hr]; exact List.mem_cons_self ..)
      rw [hall i this.1] at this
      cases this.2.1
  | fuel + 1, L, a, w, hs, hf, hI => by
    refine ⟨fun hr => hend L a w hI (ready_nil hac hs hr), fun i hi => ?_⟩
    obtain ⟨hlt, hl, o, ho, hd⟩ := ready_mem hi
    refine wpOp_step ho fun K' hK => hstep L a w i o hI hs ho hl hd K' fun a' w' hI' => hK a' w' ?_
    refine wpAny_inv I hac hstep hend fuel _ a' w' (by simpa using hs) ?_ hI'
    have := unl_set L i hl ops.size hlt
    omega
end
/-- THE LAW: a condition I on what is listed, the act, the world: it holds at the beginning, each operation that may come up keeps it, and where all are listed what is asked holds. -/
theorem region_inv {P : Program} {id : Nat} {ops : Array Oper} {Q : Exit → Act → World → Prop} {a : Act} {w : World} (hm : P.follows .mixedOrders = true) (I : Array Bool → Act → World → Prop)
    (hac : acyc ops = true) (h0 : I (Array.replicate ops.size false) a w.drew)
    (hstep : ∀ (L : Array Bool) (a : Act) (w : World) (i : Nat) (o : Oper), I L a w → L.size = ops.size → ops[i]? = some o → L.getD i true = false → (∀ e ∈ o.after, Region.binds .any e = true → L.getD e.on false = true) →
      ∀ K' : Act → World → Prop, (∀ a w, I (L.setIfInBounds i true) a w → K' a w) → if Region.wanted o (yielded ops a.tmps) = true then Oper.wp P o a w K' Q else K' (a.put o.dst undef) w)
    (hend : ∀ (L : Array Bool) (a : Act) (w : World), I L a w → (∀ i, i < ops.size → L.getD i true = true) → Q .normal a w) : (Code.region id ops true).wp P Q a w :=
  wp_region_any hm (wpAny_inv I (acyc_of hac) hstep hend ops.size _ a _ (by simp) (unl_false _ _ (Nat.le_refl _)) h0)

theorem flag_same {L : Array Bool} {i : Nat} (h : i < L.size) : (L.setIfInBounds i true).getD i false = true := by simp [Array.getD, h]
theorem flag_ne {L : Array Bool} {i j : Nat} (h : i ≠ j) : (L.setIfInBounds i true).getD j false = L.getD j false := by
  rw [Array.getD_eq_getD_getElem?, Array.getD_eq_getD_getElem?, Array.getElem?_setIfInBounds, if_neg h]
theorem flag_up {L : Array Bool} {i j : Nat} (h : L.getD j false = true) : (L.setIfInBounds i true).getD j false = true := by
  by_cases e : i = j
  · subst e
    have : i < L.size := by
      by_cases hi : i < L.size
      · exact hi
      · simp [Array.getD, hi] at h
    exact flag_same this
  · rw [flag_ne e]; exact h
/-- A world that differs in one block alone. -/
structure PutAt (W W' : World) (A : Nat) : Prop where
  os : W'.os = W.os
  tape : W'.tape = W.tape
  output : W'.output = W.output
  size : W'.heap.size = W.heap.size
  other : ∀ k, k ≠ A → W'.heap[k]? = W.heap[k]?
theorem PutAt.trans {U V W : World} {A : Nat} (h : PutAt U V A) (k : PutAt V W A) : PutAt U W A := ⟨k.os.trans h.os, k.tape.trans h.tape, k.output.trans h.output, k.size.trans h.size, fun j hj => (k.other j hj).trans (h.other j hj)⟩
theorem PutAt.cell (W : World) (A i : Nat) (u : Value) : PutAt W (W.setCell ⟨A, i, none⟩ u) A := by
  have k := (Below.refl A W).setCell (p := ⟨A, i, none⟩) (Nat.le_refl _) u
  exact ⟨k.os, k.tape, k.output, by simp [World.setCell], fun j hj => Below.heap_setCell _ _ _ _ hj⟩
theorem PutAt.below {B A : Nat} {w W W' : World} (h : PutAt W W' A) (hb : Below B w W) (hA : B ≤ A) : Below B w W' :=
  hb.trans ⟨h.os, h.tape, h.output, by rw [h.size]; exact Nat.le_refl _, fun k hk => h.other k (by omega)⟩

/-- What is told of such a region. n head operations, the c-th the call; sA, sB the boxes' slots, their types, sizes, what they hold at last. -/
structure Two (τ : Type) where
  n : Nat
  c : Nat
  ds : Nat → Nat
  sA : Nat
  sB : Nat
  V : τ → Nat → Value
  Pay : τ → World → Prop
  lo : τ → Nat
  TA : TypeId
  TB : TypeId
  zA : Nat
  zB : Nat
  FA : τ → Array Value
  FB : τ → Array Value
/-- What is known while the region runs. -/
structure TwI {τ : Type} (S : Two τ) (w0 : World) (a0 : Act) (A B : Nat) (t : τ) (w5 : World) (L : Array Bool) (a : Act) (W : World) : Prop where
  sz : a.tmps.size = a0.tmps.size
  df : a.defers = a0.defers
  out : ∀ k : Nat, k ≠ S.sA → k ≠ S.sB → k ∉ (List.range S.n).map S.ds → a.eval (.tmp k) = a0.eval (.tmp k)
  bel : Below w0.heap.size w0 W
  vals : ∀ j, j < S.n → L.getD j false = true → a.eval (.tmp (S.ds j)) = S.V t j
  pay : L.getD S.c false = true → S.Pay t w5 ∧ w0.heap.size ≤ S.lo t ∧ w5.heap.size ≤ W.heap.size ∧ ∀ k, S.lo t ≤ k → k < w5.heap.size → W.heap[k]? = w5.heap[k]?
  bA : L.getD S.n false = true → a.eval (.tmp S.sA) = .pointer (some ⟨A, 0, none⟩) ∧ w0.heap.size ≤ A ∧ (∃ fz : Array Value, fz.size = S.zA ∧ W.heap[A]? = some (.cells fz S.TA (0, 0)) ∧ (L.getD (S.n + 2) false = true → fz = S.FA t)) ∧ (L.getD S.c false = true → A < S.lo t ∨ w5.heap.size ≤ A)
  bB : L.getD (S.n + 1) false = true → a.eval (.tmp S.sB) = .pointer (some ⟨B, 0, none⟩) ∧ w0.heap.size ≤ B ∧ (∃ fz : Array Value, fz.size = S.zB ∧ W.heap[B]? = some (.cells fz S.TB (0, 0)) ∧ (L.getD (S.n + 3) false = true → fz = S.FB t)) ∧ (L.getD S.c false = true → B < S.lo t ∨ w5.heap.size ≤ B)
  ne : L.getD S.n false = true → L.getD (S.n + 1) false = true → A ≠ B
  late : ∀ j, S.c < j → j < S.n → L.getD j false = true → L.getD S.c false = true
  oA : L.getD (S.n + 2) false = true → L.getD S.n false = true ∧ L.getD S.c false = true
  oB : L.getD (S.n + 3) false = true → L.getD (S.n + 1) false = true ∧ L.getD S.c false = true
section
variable {τ : Type} {S : Two τ} {w0 W W' w5 : World} {a0 a : Act} {A B : Nat} {t : τ} {L : Array Bool}
theorem heap_lt' {w : World} {b : Nat} {o : Obj} (h : w.heap[b]? = some o) : b < w.heap.size := (Array.getElem?_eq_some_iff.1 h).1
/-- A head operation, not the call. -/
theorem TwI.fill (h : TwI S w0 a0 A B t w5 L a W) {i : Nat} (hi : i < S.n) (hic : i ≠ S.c) (hN : S.ds i < a0.tmps.size) (hds : ∀ j, j < S.n → i ≠ j → S.ds i ≠ S.ds j) (hsA : S.ds i ≠ S.sA) (hsB : S.ds i ≠ S.sB) (hlc : S.c < i → L.getD S.c false = true)
    (hb : Below W.heap.size W W') {v : Value} (hv : v = S.V t i) : TwI S w0 a0 A B t w5 (L.setIfInBounds i true) (a.put (some (S.ds i)) v) W' := by
  have fc : (L.setIfInBounds i true).getD S.c false = L.getD S.c false := flag_ne hic
  have fn : (L.setIfInBounds i true).getD S.n false = L.getD S.n false := flag_ne (by omega)
  have fn1 : (L.setIfInBounds i true).getD (S.n + 1) false = L.getD (S.n + 1) false := flag_ne (by omega)
  have fn2 : (L.setIfInBounds i true).getD (S.n + 2) false = L.getD (S.n + 2) false := flag_ne (by omega)
  have fn3 : (L.setIfInBounds i true).getD (S.n + 3) false = L.getD (S.n + 3) false := flag_ne (by omega)
  refine ⟨by rw [act_size]; exact h.sz, h.df, fun k h1 h2 h3 => ?_, h.bel.trans (hb.mono h.bel.size), fun j hj hl => ?_, ?_, ?_, ?_, by rw [fn, fn1]; exact h.ne, fun j h1 h2 hl => ?_, by rw [fn2, fn, fc]; exact h.oA, by rw [fn3, fn1, fc]; exact h.oB⟩
  · rw [eval_put_ne (fun e => h3 (List.mem_map.2 ⟨i, List.mem_range.2 hi, e⟩))]
    exact h.out k h1 h2 h3
  · by_cases e : i = j
    · subst e; rw [eval_put_same (by rw [h.sz]; exact hN)]; exact hv
    · rw [eval_put_ne (hds j hj e)]
      rw [flag_ne e] at hl
      exact h.vals j hj hl
  · rw [fc]
    intro hc
    obtain ⟨p1, p0, p2, p3⟩ := h.pay hc
    exact ⟨p1, p0, Nat.le_trans p2 hb.size, fun k hk hk2 => (hb.block k (by omega)).trans (p3 k hk hk2)⟩
  · rw [fn, fn2, fc, eval_put_ne hsA]
    intro h12
    obtain ⟨q1, q2, ⟨fz, q3, q4, q5⟩, q6⟩ := h.bA h12
    exact ⟨q1, q2, ⟨fz, q3, (hb.block _ (heap_lt' q4)).trans q4, q5⟩, q6⟩
  · rw [fn1, fn3, fc, eval_put_ne hsB]
    intro h12
    obtain ⟨q1, q2, ⟨fz, q3, q4, q5⟩, q6⟩ := h.bB h12
    exact ⟨q1, q2, ⟨fz, q3, (hb.block _ (heap_lt' q4)).trans q4, q5⟩, q6⟩
  · rw [fc]
    by_cases e : i = j
    · subst e; exact hlc h1
    · rw [flag_ne e] at hl
      exact h.late j h1 h2 hl
/-- The call. -/
theorem TwI.call (h : TwI S w0 a0 A B t w5 L a W) (hi : S.c < S.n) (hN : S.ds S.c < a0.tmps.size) (hds : ∀ j, j < S.n → S.c ≠ j → S.ds S.c ≠ S.ds j) (hsA : S.ds S.c ≠ S.sA) (hsB : S.ds S.c ≠ S.sB) (hl0 : L.getD S.c false = false)
    {t' : τ} (hV : ∀ j, j < S.c → S.V t' j = S.V t j) (hb : Below W.heap.size W W') (hP : S.Pay t' W') (hlo : S.lo t' = W.heap.size) {v : Value} (hv : v = S.V t' S.c) : TwI S w0 a0 A B t' W' (L.setIfInBounds S.c true) (a.put (some (S.ds S.c)) v) W' := by
  have fn : (L.setIfInBounds S.c true).getD S.n false = L.getD S.n false := flag_ne (by omega)
  have fn1 : (L.setIfInBounds S.c true).getD (S.n + 1) false = L.getD (S.n + 1) false := flag_ne (by omega)
  have fn2 : (L.setIfInBounds S.c true).getD (S.n + 2) false = L.getD (S.n + 2) false := flag_ne (by omega)
  have fn3 : (L.setIfInBounds S.c true).getD (S.n + 3) false = L.getD (S.n + 3) false := flag_ne (by omega)
  have no2 : L.getD (S.n + 2) false = true → False := fun e => by have := (h.oA e).2; rw [hl0] at this; cases this
  have no3 : L.getD (S.n + 3) false = true → False := fun e => by have := (h.oB e).2; rw [hl0] at this; cases this
  refine ⟨by rw [act_size]; exact h.sz, h.df, fun k h1 h2 h3 => ?_, h.bel.trans (hb.mono h.bel.size), fun j hj hl => ?_, fun _ => ⟨hP, by rw [hlo]; exact h.bel.size, Nat.le_refl _, fun _ _ _ => rfl⟩, ?_, ?_, by rw [fn, fn1]; exact h.ne, fun j h1 h2 hl => ?_, by rw [fn2]; exact fun e => (no2 e).elim, by rw [fn3]; exact fun e => (no3 e).elim⟩
  · rw [eval_put_ne (fun e => h3 (List.mem_map.2 ⟨S.c, List.mem_range.2 hi, e⟩))]
    exact h.out k h1 h2 h3
  · by_cases e : S.c = j
    · subst e; rw [eval_put_same (by rw [h.sz]; exact hN)]; exact hv
    · rw [eval_put_ne (hds j hj e)]
      rw [flag_ne e] at hl
      by_cases e2 : S.c < j
      · have := h.late j e2 hj hl; rw [hl0] at this; cases this
      · rw [hV j (by omega)]; exact h.vals j hj hl
  · rw [fn, fn2, eval_put_ne hsA]
    intro h12
    obtain ⟨q1, q2, ⟨fz, q3, q4, _⟩, _⟩ := h.bA h12
    exact ⟨q1, q2, ⟨fz, q3, (hb.block _ (heap_lt' q4)).trans q4, fun e => (no2 e).elim⟩, fun _ => .inl (by rw [hlo]; exact heap_lt' q4)⟩
  · rw [fn1, fn3, eval_put_ne hsB]
    intro h12
    obtain ⟨q1, q2, ⟨fz, q3, q4, _⟩, _⟩ := h.bB h12
    exact ⟨q1, q2, ⟨fz, q3, (hb.block _ (heap_lt' q4)).trans q4, fun e => (no3 e).elim⟩, fun _ => .inl (by rw [hlo]; exact heap_lt' q4)⟩
  · by_cases e : S.c = j
    · omega
    · rw [flag_ne e] at hl
      exact flag_up (h.late j h1 h2 hl)
/-- The first box is made. -/
theorem TwI.boxA (h : TwI S w0 a0 A B t w5 L a W) (hc : S.c < S.n) (hN : S.sA < a0.tmps.size) (hsB : S.sA ≠ S.sB) (hds : ∀ j, j < S.n → S.sA ≠ S.ds j) (hl0 : L.getD S.n false = false) {zs : Array Value} (hz : zs.size = S.zA) :
    TwI S w0 a0 W.heap.size B t w5 (L.setIfInBounds S.n true) (a.put (some S.sA) (.pointer (some ⟨W.heap.size, 0, none⟩))) (W.alloc (.cells zs S.TA)) := by
  have hb : Below W.heap.size W (W.alloc (.cells zs S.TA)) := (Below.refl _ W).alloc (Nat.le_refl _) _
  have fc : (L.setIfInBounds S.n true).getD S.c false = L.getD S.c false := flag_ne (by omega)
  have fn1 : (L.setIfInBounds S.n true).getD (S.n + 1) false = L.getD (S.n + 1) false := flag_ne (by omega)
  have fn2 : (L.setIfInBounds S.n true).getD (S.n + 2) false = L.getD (S.n + 2) false := flag_ne (by omega)
  have fn3 : (L.setIfInBounds S.n true).getD (S.n + 3) false = L.getD (S.n + 3) false := flag_ne (by omega)
  have no2 : L.getD (S.n + 2) false = true → False := fun e => by have := (h.oA e).1; rw [hl0] at this; cases this
  refine ⟨by rw [act_size]; exact h.sz, h.df, fun k h1 h2 h3 => ?_, h.bel.trans (hb.mono h.bel.size), fun j hj hl => ?_, ?_, ?_, ?_, ?_, fun j h1 h2 hl => ?_, by rw [fn2]; exact fun e => (no2 e).elim, by rw [fn3, fn1, fc]; exact h.oB⟩
  · rw [eval_put_ne (Ne.symm h1)]; exact h.out k h1 h2 h3
  · rw [eval_put_ne (hds j hj)]
    rw [flag_ne (by omega)] at hl
    exact h.vals j hj hl
  · rw [fc]
    intro hcc
    obtain ⟨p1, p0, p2, p3⟩ := h.pay hcc
    exact ⟨p1, p0, Nat.le_trans p2 hb.size, fun k hk hk2 => (hb.block k (by omega)).trans (p3 k hk hk2)⟩
  · intro _
    rw [fn2, fc, eval_put_same (by rw [h.sz]; exact hN)]
    exact ⟨rfl, h.bel.size, ⟨zs, hz, heap_alloc_new W _, fun e => (no2 e).elim⟩, fun e => .inr (h.pay e).2.2.1⟩
  · rw [fn1, fn3, fc, eval_put_ne hsB]
    intro h12
    obtain ⟨q1, q2, ⟨fz, q3, q4, q5⟩, q6⟩ := h.bB h12
    exact ⟨q1, q2, ⟨fz, q3, (hb.block _ (heap_lt' q4)).trans q4, q5⟩, q6⟩
  · rw [fn1]
    intro _ h13
    obtain ⟨_, _, ⟨fz, _, q4, _⟩, _⟩ := h.bB h13
    have := heap_lt' q4
    omega
  · rw [flag_ne (by omega)] at hl
    rw [fc]; exact h.late j h1 h2 hl
/-- The second box is made. -/
theorem TwI.boxB (h : TwI S w0 a0 A B t w5 L a W) (hc : S.c < S.n) (hN : S.sB < a0.tmps.size) (hsA : S.sB ≠ S.sA) (hds : ∀ j, j < S.n → S.sB ≠ S.ds j) (hl0 : L.getD (S.n + 1) false = false) {zs : Array Value} (hz : zs.size = S.zB) :
    TwI S w0 a0 A W.heap.size t w5 (L.setIfInBounds (S.n + 1) true) (a.put (some S.sB) (.pointer (some ⟨W.heap.size, 0, none⟩))) (W.alloc (.cells zs S.TB)) := by
  have hb : Below W.heap.size W (W.alloc (.cells zs S.TB)) := (Below.refl _ W).alloc (Nat.le_refl _) _
  have fc : (L.setIfInBounds (S.n + 1) true).getD S.c false = L.getD S.c false := flag_ne (by omega)
  have fn : (L.setIfInBounds (S.n + 1) true).getD S.n false = L.getD S.n false := flag_ne (by omega)
  have fn2 : (L.setIfInBounds (S.n + 1) true).getD (S.n + 2) false = L.getD (S.n + 2) false := flag_ne (by omega)
  have fn3 : (L.setIfInBounds (S.n + 1) true).getD (S.n + 3) false = L.getD (S.n + 3) false := flag_ne (by omega)
  have no3 : L.getD (S.n + 3) false = true → False := fun e => by have := (h.oB e).1; rw [hl0] at this; cases this
  refine ⟨by rw [act_size]; exact h.sz, h.df, fun k h1 h2 h3 => ?_, h.bel.trans (hb.mono h.bel.size), fun j hj hl => ?_, ?_, ?_, ?_, ?_, fun j h1 h2 hl => ?_, by rw [fn2, fn, fc]; exact h.oA, by rw [fn3]; exact fun e => (no3 e).elim⟩
  · rw [eval_put_ne (Ne.symm h2)]; exact h.out k h1 h2 h3
  · rw [eval_put_ne (hds j hj)]
    rw [flag_ne (by omega)] at hl
    exact h.vals j hj hl
  · rw [fc]
    intro hcc
    obtain ⟨p1, p0, p2, p3⟩ := h.pay hcc
    exact ⟨p1, p0, Nat.le_trans p2 hb.size, fun k hk hk2 => (hb.block k (by omega)).trans (p3 k hk hk2)⟩
  · rw [fn, fn2, fc, eval_put_ne hsA]
    intro h12
    obtain ⟨q1, q2, ⟨fz, q3, q4, q5⟩, q6⟩ := h.bA h12
    exact ⟨q1, q2, ⟨fz, q3, (hb.block _ (heap_lt' q4)).trans q4, q5⟩, q6⟩
  · intro _
    rw [fn3, fc, eval_put_same (by rw [h.sz]; exact hN)]
    exact ⟨rfl, h.bel.size, ⟨zs, hz, heap_alloc_new W _, fun e => (no3 e).elim⟩, fun e => .inr (h.pay e).2.2.1⟩
  · rw [fn]
    intro h12 _
    obtain ⟨_, _, ⟨fz, _, q4, _⟩, _⟩ := h.bA h12
    have := heap_lt' q4
    omega
  · rw [flag_ne (by omega)] at hl
    rw [fc]; exact h.late j h1 h2 hl
/-- The first box is filled. -/
theorem TwI.putA (h : TwI S w0 a0 A B t w5 L a W) (hc : S.c < S.n) (l1 : L.getD S.n false = true) (l2 : L.getD S.c false = true) (hp : PutAt W W' A) (hz : (S.FA t).size = S.zA) (hw : W'.heap[A]? = some (.cells (S.FA t) S.TA (0, 0))) : TwI S w0 a0 A B t w5 (L.setIfInBounds (S.n + 2) true) a W' := by
  have fc : (L.setIfInBounds (S.n + 2) true).getD S.c false = L.getD S.c false := flag_ne (by omega)
  have fn : (L.setIfInBounds (S.n + 2) true).getD S.n false = L.getD S.n false := flag_ne (by omega)
  have fn1 : (L.setIfInBounds (S.n + 2) true).getD (S.n + 1) false = L.getD (S.n + 1) false := flag_ne (by omega)
  have fn3 : (L.setIfInBounds (S.n + 2) true).getD (S.n + 3) false = L.getD (S.n + 3) false := flag_ne (by omega)
  obtain ⟨q1, q2, _, q6⟩ := h.bA l1
  have q7 := q6 l2
  refine ⟨h.sz, h.df, h.out, hp.below h.bel q2, fun j hj hl => ?_, ?_, fun _ => ⟨q1, q2, ⟨_, hz, hw, fun _ => rfl⟩, fun _ => q7⟩, ?_, by rw [fn, fn1]; exact h.ne, fun j h1 h2 hl => ?_, fun _ => by rw [fn, fc]; exact ⟨l1, l2⟩, by rw [fn3, fn1, fc]; exact h.oB⟩
  · rw [flag_ne (by omega)] at hl
    exact h.vals j hj hl
  · rw [fc]
    intro hcc
    obtain ⟨p1, p0, p2, p3⟩ := h.pay hcc
    exact ⟨p1, p0, by rw [hp.size]; exact p2, fun k hk hk2 => (hp.other k (by omega)).trans (p3 k hk hk2)⟩
  · rw [fn1, fn3, fc]
    intro h13
    obtain ⟨r1, r2, ⟨fz, r3, r4, r5⟩, r6⟩ := h.bB h13
    exact ⟨r1, r2, ⟨fz, r3, (hp.other B (Ne.symm (h.ne l1 h13))).trans r4, r5⟩, r6⟩
  · rw [flag_ne (by omega)] at hl
    rw [fc]; exact h.late j h1 h2 hl
/-- The second box is filled. -/
theorem TwI.putB (h : TwI S w0 a0 A B t w5 L a W) (hc : S.c < S.n) (l1 : L.getD (S.n + 1) false = true) (l2 : L.getD S.c false = true) (hp : PutAt W W' B) (hz : (S.FB t).size = S.zB) (hw : W'.heap[B]? = some (.cells (S.FB t) S.TB (0, 0))) : TwI S w0 a0 A B t w5 (L.setIfInBounds (S.n + 3) true) a W' := by
  have fc : (L.setIfInBounds (S.n + 3) true).getD S.c false = L.getD S.c false := flag_ne (by omega)
  have fn : (L.setIfInBounds (S.n + 3) true).getD S.n false = L.getD S.n false := flag_ne (by omega)
  have fn1 : (L.setIfInBounds (S.n + 3) true).getD (S.n + 1) false = L.getD (S.n + 1) false := flag_ne (by omega)
  have fn2 : (L.setIfInBounds (S.n + 3) true).getD (S.n + 2) false = L.getD (S.n + 2) false := flag_ne (by omega)
  obtain ⟨q1, q2, _, q6⟩ := h.bB l1
  have q7 := q6 l2
  refine ⟨h.sz, h.df, h.out, hp.below h.bel q2, fun j hj hl => ?_, ?_, ?_, fun _ => ⟨q1, q2, ⟨_, hz, hw, fun _ => rfl⟩, fun _ => q7⟩, by rw [fn, fn1]; exact h.ne, fun j h1 h2 hl => ?_, by rw [fn2, fn, fc]; exact h.oA, fun _ => by rw [fn1, fc]; exact ⟨l1, l2⟩⟩
  · rw [flag_ne (by omega)] at hl
    exact h.vals j hj hl
  · rw [fc]
    intro hcc
    obtain ⟨p1, p0, p2, p3⟩ := h.pay hcc
    exact ⟨p1, p0, by rw [hp.size]; exact p2, fun k hk hk2 => (hp.other k (by omega)).trans (p3 k hk hk2)⟩
  · rw [fn, fn2, fc]
    intro h13
    obtain ⟨r1, r2, ⟨fz, r3, r4, r5⟩, r6⟩ := h.bA h13
    exact ⟨r1, r2, ⟨fz, r3, (hp.other A (h.ne h13 l1)).trans r4, r5⟩, r6⟩
  · rw [flag_ne (by omega)] at hl
    rw [fc]; exact h.late j h1 h2 hl
end
/-- The region's form, asked by reckoning. -/
def formT (l : List Oper) (n c : Nat) (ds : Nat → Nat) (sA sB N : Nat) : Bool :=
  decide (l.length = n + 4) && decide (c < n) && decide (sA < N) && decide (sB < N) && decide (sA ≠ sB) &&
  (List.range n).all (fun i => match l[i]? with
    | some o => o.guard.isNone && decide (o.dst = some (ds i)) && decide (ds i < N) && decide (ds i ≠ sA) && decide (ds i ≠ sB) && (List.range n).all (fun j => decide (i = j) || !decide (ds i = ds j)) && (decide (i ≤ c) || o.after.any fun e => Region.binds .any e && decide (c ≤ e.on) && decide (e.on < i))
    | none => false) &&
  (match l[n]?, l[n + 1]?, l[n + 2]?, l[n + 3]? with
    | some oA, some oB, some pA, some pB => oA.guard.isNone && decide (oA.dst = some sA) && oB.guard.isNone && decide (oB.dst = some sB) && pA.guard.isNone && pA.dst.isNone && pB.guard.isNone && pB.dst.isNone &&
      pA.after.any (fun e => Region.binds .any e && decide (e.on = n)) && pA.after.any (fun e => Region.binds .any e && decide (e.on = c)) && pB.after.any (fun e => Region.binds .any e && decide (e.on = n + 1)) && pB.after.any (fun e => Region.binds .any e && decide (e.on = c))
    | _, _, _, _ => false)
/-- THE LAW for two boxes. -/
theorem region_two {P : Program} {id : Nat} {Q : Exit → Act → World → Prop} {a0 : Act} {w : World} {l : List Oper} {τ : Type} (S : Two τ) (ks : List Nat) (t0 : τ) (hm : P.follows .mixedOrders = true) (hac : acyc l.toArray = true) (hfm : formT l S.n S.c S.ds S.sA S.sB a0.tmps.size = true)
    (hks : (((List.range S.n).all fun j => ks.contains (S.ds j)) && ks.contains S.sA && ks.contains S.sB) = true) (hV : ∀ t t' j, j < S.c → S.V t j = S.V t' j)
    (hhead : ∀ (i : Nat) (o : Oper), i < S.n → i ≠ S.c → l[i]? = some o → ∀ (t : τ) (a : Act) (W : World), (∀ k : Nat, k ≠ S.sA → k ≠ S.sB → k ∉ (List.range S.n).map S.ds → a.eval (.tmp k) = a0.eval (.tmp k)) → Below w.heap.size w W → (∀ e ∈ o.after, Region.binds .any e = true → e.on < S.n → a.eval (.tmp (S.ds e.on)) = S.V t e.on) → Gives P o (fun v _ => v = S.V t i) a W)
    (hcall : ∀ (o : Oper), l[S.c]? = some o → ∀ (t : τ) (a : Act) (W : World), (∀ k : Nat, k ≠ S.sA → k ≠ S.sB → k ∉ (List.range S.n).map S.ds → a.eval (.tmp k) = a0.eval (.tmp k)) → Below w.heap.size w W → (∀ e ∈ o.after, Region.binds .any e = true → e.on < S.n → a.eval (.tmp (S.ds e.on)) = S.V t e.on) → Gives P o (fun v W' => ∃ t', v = S.V t' S.c ∧ S.Pay t' W' ∧ S.lo t' = W.heap.size) a W)
    (hA : ∀ (o : Oper), l[S.n]? = some o → ∀ (a : Act) (W : World), ∃ zs : Array Value, zs.size = S.zA ∧ (execOp a.eval o).run P W = .ok (.value (.pointer (some ⟨W.heap.size, 0, none⟩))) (W.alloc (.cells zs S.TA)))
    (hB : ∀ (o : Oper), l[S.n + 1]? = some o → ∀ (a : Act) (W : World), ∃ zs : Array Value, zs.size = S.zB ∧ (execOp a.eval o).run P W = .ok (.value (.pointer (some ⟨W.heap.size, 0, none⟩))) (W.alloc (.cells zs S.TB)))
    (hpA : ∀ (o : Oper), l[S.n + 2]? = some o → ∀ (t : τ) (a : Act) (W : World) (A : Nat) (fz : Array Value), a.eval (.tmp S.sA) = .pointer (some ⟨A, 0, none⟩) → fz.size = S.zA → W.heap[A]? = some (.cells fz S.TA (0, 0)) → (∀ e ∈ o.after, Region.binds .any e = true → e.on < S.n → a.eval (.tmp (S.ds e.on)) = S.V t e.on) → ∃ W', (execOp a.eval o).run P W = .ok .skip W' ∧ PutAt W W' A ∧ (S.FA t).size = S.zA ∧ W'.heap[A]? = some (.cells (S.FA t) S.TA (0, 0)))
    (hpB : ∀ (o : Oper), l[S.n + 3]? = some o → ∀ (t : τ) (a : Act) (W : World) (B : Nat) (fz : Array Value), a.eval (.tmp S.sB) = .pointer (some ⟨B, 0, none⟩) → fz.size = S.zB → W.heap[B]? = some (.cells fz S.TB (0, 0)) → (∀ e ∈ o.after, Region.binds .any e = true → e.on < S.n → a.eval (.tmp (S.ds e.on)) = S.V t e.on) → ∃ W', (execOp a.eval o).run P W = .ok .skip W' ∧ PutAt W W' B ∧ (S.FB t).size = S.zB ∧ W'.heap[B]? = some (.cells (S.FB t) S.TB (0, 0)))
    (hend : ∀ (a : Act) (W : World) (A B : Nat) (t : τ) (w5 : World), a = canonL a ks a0 → Below w.heap.size w W → a.eval (.tmp S.sA) = .pointer (some ⟨A, 0, none⟩) → a.eval (.tmp S.sB) = .pointer (some ⟨B, 0, none⟩) → w.heap.size ≤ A → w.heap.size ≤ B → A ≠ B → W.heap[A]? = some (.cells (S.FA t) S.TA (0, 0)) → W.heap[B]? = some (.cells (S.FB t) S.TB (0, 0)) →
      S.Pay t w5 → w5.heap.size ≤ W.heap.size → (∀ k, S.lo t ≤ k → k < w5.heap.size → W.heap[k]? = w5.heap[k]?) → Q .normal a W) : (Code.region id l.toArray true).wp P Q a0 w := by
  simp only [formT, Bool.and_eq_true, decide_eq_true_eq] at hfm
  obtain ⟨⟨⟨⟨⟨⟨hlen, hc⟩, hsA⟩, hsB⟩, hne⟩, hhd⟩, htl⟩ := hfm
  have hh : ∀ i (hi : i < S.n) o, l[i]? = some o → o.guard = none ∧ o.dst = some (S.ds i) ∧ S.ds i < a0.tmps.size ∧ S.ds i ≠ S.sA ∧ S.ds i ≠ S.sB ∧ (∀ j, j < S.n → i ≠ j → S.ds i ≠ S.ds j) ∧ (S.c < i → ∃ e ∈ o.after, Region.binds .any e = true ∧ S.c ≤ e.on ∧ e.on < i) := by
    intro i hi o ho
    have h1 := List.all_eq_true.1 hhd i (List.mem_range.2 hi)
    rw [ho] at h1
    simp only [Bool.and_eq_true, decide_eq_true_eq, Option.isNone_iff_eq_none] at h1
    obtain ⟨⟨⟨⟨⟨⟨g1, g2⟩, g3⟩, g4⟩, g5⟩, g6⟩, g7⟩ := h1
    refine ⟨g1, g2, g3, g4, g5, fun j hj hne e => ?_, fun hci => ?_⟩
    · have h2 := List.all_eq_true.1 g6 j (List.mem_range.2 hj)
      simp only [Bool.or_eq_true, decide_eq_true_eq, Bool.not_eq_true', decide_eq_false_iff_not] at h2
      rcases h2 with h2 | h2
      · exact hne h2
      · exact h2 e
    · simp only [Bool.or_eq_true, decide_eq_true_eq] at g7
      rcases g7 with g7 | g7
      · omega
      · rw [Array.any_eq_true] at g7
        obtain ⟨k, hk, hg⟩ := g7
        simp only [Bool.and_eq_true, decide_eq_true_eq] at hg
        exact ⟨_, Array.getElem_mem hk, hg.1.1, hg.1.2, hg.2⟩
  have hget : ∀ i, i < S.n + 4 → ∃ o, l[i]? = some o := fun i hi => ⟨_, List.getElem?_eq_getElem (by omega)⟩
  obtain ⟨oA, eoA⟩ := hget S.n (by omega)
  obtain ⟨oB, eoB⟩ := hget (S.n + 1) (by omega)
  obtain ⟨pA, epA⟩ := hget (S.n + 2) (by omega)
  obtain ⟨pB, epB⟩ := hget (S.n + 3) (by omega)
  rw [eoA, eoB, epA, epB] at htl
  simp only [Bool.and_eq_true, decide_eq_true_eq, Option.isNone_iff_eq_none, Array.any_eq_true] at htl
  obtain ⟨⟨⟨⟨⟨⟨⟨⟨⟨⟨⟨b1, b2⟩, b3⟩, b4⟩, b5⟩, b6⟩, b7⟩, b8⟩, b9⟩, b10⟩, b11⟩, b12⟩ := htl
  have hdsA : ∀ j, j < S.n → S.sA ≠ S.ds j := fun j hj => by
    obtain ⟨o, ho⟩ := hget j (by omega)
    exact Ne.symm (hh j hj o ho).2.2.2.1
  have hdsB : ∀ j, j < S.n → S.sB ≠ S.ds j := fun j hj => by
    obtain ⟨o, ho⟩ := hget j (by omega)
    exact Ne.symm (hh j hj o ho).2.2.2.2.1
  have hf : ∀ j, (Array.replicate l.toArray.size false).getD j false = false := fun j => by simp [Array.getD]
  refine region_inv hm (fun L a W => L.size = l.length ∧ ∃ A B t w5, TwI S w a0 A B t w5 L a W) hac ⟨by simp, 0, 0, t0, w, rfl, rfl, fun _ _ _ _ => rfl, (Below.refl _ _).drew, fun j _ hl => ?_, fun hl => ?_, fun hl => ?_, fun hl => ?_, fun hl => ?_, fun j _ _ hl => ?_, fun hl => ?_, fun hl => ?_⟩ ?_ ?_
  iterate 8 (rw [hf] at hl; cases hl)
  · rintro L a W i o ⟨hLs, A, B, t, w5, hI⟩ hsz ho hl hd K' hK
    have hol : l[i]? = some o := by simpa using ho
    have hi : i < S.n + 4 := by
      have := (List.getElem?_eq_some_iff.1 hol).1
      omega
    have hl0 : L.getD i false = false := getD_both hl
    have hK2 : ∀ a W, (∃ A B t w5, TwI S w a0 A B t w5 (L.setIfInBounds i true) a W) → K' a W := fun a W h => hK a W ⟨by simpa using hLs, h⟩
    have hdep : ∀ e ∈ o.after, Region.binds .any e = true → e.on < S.n → a.eval (.tmp (S.ds e.on)) = S.V t e.on := fun e he hb hen => hI.vals e.on hen (hd e he hb)
    by_cases hin : i < S.n
    · obtain ⟨g1, g2, g3, g4, g5, g6, g7⟩ := hh i hin o hol
      rw [if_pos (by simp [Region.wanted, g1])]
      by_cases hic : i = S.c
      · subst hic
        refine hcall o hol t a W hI.out hI.bel hdep K' Q fun v W' hb hv => hK2 _ _ ?_
        obtain ⟨t', hv, hP, hlo⟩ := hv
        rw [g2]
        exact ⟨A, B, t', W', hI.call hc g3 g6 g4 g5 hl0 (fun j hj => hV t' t j hj) hb hP hlo hv⟩
      · refine hhead i o hin hic hol t a W hI.out hI.bel hdep K' Q fun v W' hb hv => hK2 _ _ ?_
        rw [g2]
        refine ⟨A, B, t, w5, hI.fill hin hic g3 g6 g4 g5 (fun hci => ?_) hb hv⟩
        obtain ⟨e, he, hbe, h1, h2⟩ := g7 hci
        by_cases ec : e.on = S.c
        · rw [← ec]; exact hd e he hbe
        · exact hI.late e.on (by omega) (by omega) (hd e he hbe)
    · have hcs : i = S.n ∨ i = S.n + 1 ∨ i = S.n + 2 ∨ i = S.n + 3 := by omega
      rcases hcs with rfl | rfl | rfl | rfl
      · obtain rfl : oA = o := Option.some.inj (eoA.symm.trans hol)
        obtain ⟨zs, hz, hr⟩ := hA _ hol a W
        rw [if_pos (by simp [Region.wanted, b1])]
        unfold Oper.wp
        rw [hr]
        show K' (a.put oA.dst _) _
        rw [b2]
        exact hK2 _ _ ⟨_, B, t, w5, hI.boxA hc hsA hne hdsA hl0 hz⟩
      · obtain rfl : oB = o := Option.some.inj (eoB.symm.trans hol)
        obtain ⟨zs, hz, hr⟩ := hB _ hol a W
        rw [if_pos (by simp [Region.wanted, b3])]
        unfold Oper.wp
        rw [hr]
        show K' (a.put oB.dst _) _
        rw [b4]
        exact hK2 _ _ ⟨A, _, t, w5, hI.boxB hc hsB (Ne.symm hne) hdsB hl0 hz⟩
      · obtain rfl : pA = o := Option.some.inj (epA.symm.trans hol)
        obtain ⟨k1, hk1, hg1⟩ := b9
        obtain ⟨k2, hk2, hg2⟩ := b10
        have l1 := hd _ (Array.getElem_mem hk1) hg1.1
        rw [hg1.2] at l1
        have l2 := hd _ (Array.getElem_mem hk2) hg2.1
        rw [hg2.2] at l2
        obtain ⟨q1, _, ⟨fz, q3, q4, _⟩, _⟩ := hI.bA l1
        obtain ⟨W', hr, hp, hz, hw⟩ := hpA _ hol t a W A fz q1 q3 q4 hdep
        rw [if_pos (by simp [Region.wanted, b5])]
        unfold Oper.wp
        rw [hr]
        show K' (a.put pA.dst undef) _
        rw [b6]
        exact hK2 _ _ ⟨A, B, t, w5, hI.putA hc l1 l2 hp hz hw⟩
      · obtain rfl : pB = o := Option.some.inj (epB.symm.trans hol)
        obtain ⟨k1, hk1, hg1⟩ := b11
        obtain ⟨k2, hk2, hg2⟩ := b12
        have l1 := hd _ (Array.getElem_mem hk1) hg1.1
        rw [hg1.2] at l1
        have l2 := hd _ (Array.getElem_mem hk2) hg2.1
        rw [hg2.2] at l2
        obtain ⟨q1, _, ⟨fz, q3, q4, _⟩, _⟩ := hI.bB l1
        obtain ⟨W', hr, hp, hz, hw⟩ := hpB _ hol t a W B fz q1 q3 q4 hdep
        rw [if_pos (by simp [Region.wanted, b7])]
        unfold Oper.wp
        rw [hr]
        show K' (a.put pB.dst undef) _
        rw [b8]
        exact hK2 _ _ ⟨A, B, t, w5, hI.putB hc l1 l2 hp hz hw⟩
  · rintro L a W ⟨hLs, A, B, t, w5, hI⟩ hall
    have tt : ∀ j, j < S.n + 4 → L.getD j false = true := fun j hj => by
      have h := hall j (by simp; omega)
      have h4 : j < L.size := by omega
      simp only [Array.getD, h4, dif_pos] at h ⊢
      exact h
    obtain ⟨q1, q2, ⟨fz, q3, q4, q5⟩, _⟩ := hI.bA (tt _ (by omega))
    obtain ⟨r1, r2, ⟨gz, r3, r4, r5⟩, _⟩ := hI.bB (tt _ (by omega))
    obtain ⟨p1, _, p2, p3⟩ := hI.pay (tt _ (by omega))
    rw [q5 (tt _ (by omega))] at q4
    rw [r5 (tt _ (by omega))] at r4
    simp only [Bool.and_eq_true] at hks
    obtain ⟨⟨k1, k2⟩, k3⟩ := hks
    rw [List.contains_iff_mem] at k2 k3
    refine hend a W A B t w5 (canon_eq hI.sz hI.df fun j hj => hI.out j (fun e => hj (e ▸ k2)) (fun e => hj (e ▸ k3)) fun hm => ?_) hI.bel q1 r1 q2 r2 (hI.ne (tt _ (by omega)) (tt _ (by omega))) q4 r4 p1 p2 p3
    obtain ⟨i, hi, rfl⟩ := List.mem_map.1 hm
    have := List.all_eq_true.1 k1 i hi
    rw [List.contains_iff_mem] at this
    exact hj this
end Go.Proofs.YthbeempmdpfnmaaGreatDoor
