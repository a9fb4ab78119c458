/- A region that draws its order, by a condition that each of its operations keeps: no order is gone through. Condition: each operation waits only for such as stand ahead of it in the text. -/
import Derived.Orders
import Derived.RegionTactic
namespace Go.Proofs.YtccpdfcmhggleaaGreatDoor.Iv
open Go

section
variable {P : Program} {ops : Array Oper} {Q : Exit → Act → World → Prop} {md : Region.Mode}
/-- How many of the first n are not listed. -/
def unl (L : Array Bool) : Nat → Nat
  | 0 => 0
  | n + 1 => unl L n + if L.getD n true = true then 0 else 1
theorem getD_set_ne (L : Array Bool) {i n : Nat} (e : ¬ i = n) : (L.setIfInBounds i true).getD n true = L.getD n true := by
  rw [Array.getD_eq_getD_getElem?, Array.getD_eq_getD_getElem?, Array.getElem?_setIfInBounds, if_neg e]
theorem unl_le (L : Array Bool) (i : Nat) : ∀ n, unl (L.setIfInBounds i true) n ≤ unl L n
  | 0 => Nat.le_refl _
  | n + 1 => by
    have ih := unl_le L i n
    have h : (L.setIfInBounds i true).getD n true = true ∨ (L.setIfInBounds i true).getD n true = L.getD n true := by
      by_cases e : i = n
      · subst e
        by_cases hi : i < L.size
        · left; simp [Array.getD, hi]
        · right; simp [Array.getD, hi]
      · right; exact getD_set_ne L e
    simp only [unl]
    rcases h with h | h
    · rw [if_pos h]; omega
    · rw [h]; omega
theorem unl_lt (L : Array Bool) (i : Nat) (hL : L.getD i true = false) : ∀ n, i < n → unl (L.setIfInBounds i true) n < unl L n
  | 0, h => absurd h (Nat.not_lt_zero _)
  | n + 1, h => by
    simp only [unl]
    by_cases e : i = n
    · subst e
      have hs : i < L.size := by
        by_cases hi : i < L.size
        · exact hi
        · simp [Array.getD, hi] at hL
      have h1 : (L.setIfInBounds i true).getD i true = true := by simp [Array.getD, hs]
      rw [if_pos h1, hL, if_neg (by decide)]
      have := unl_le L i i
      omega
    · have ih := unl_lt L i hL n (by omega)
      have h1 : (L.setIfInBounds i true).getD n true = L.getD n true := getD_set_ne L e
      rw [h1]; omega
theorem unl_zero {L : Array Bool} : ∀ {n : Nat}, unl L n = 0 → ∀ i, i < n → L.getD i true = true
  | 0, _, i, h => absurd h (Nat.not_lt_zero _)
  | n + 1, h, i, hi => by
    simp only [unl] at h
    by_cases e : i = n
    · subst e
      by_cases h1 : L.getD i true = true
      · exact h1
      · rw [if_neg h1] at h; omega
    · exact unl_zero (n := n) (by omega) i (by omega)
theorem ready_mem {L : Array Bool} {i : Nat} (h : i ∈ Region.ready md ops L) : i < ops.size ∧ L.getD i true = false ∧ ∃ o, ops[i]? = some o ∧ ∀ e ∈ o.after, Region.binds md e = true → L.getD e.on false = true := by
  simp only [Region.ready, List.mem_filter, List.mem_range, Bool.and_eq_true, Bool.not_eq_true'] at h
  obtain ⟨hi, hl, ho⟩ := h
  refine ⟨hi, hl, ?_⟩
  have hs : ops[i]? = some ops[i] := Array.getElem?_eq_getElem hi
  rw [hs] at ho
  simp only [Option.map_some, Option.getD_some, Array.all_eq_true_iff_forall_mem, Bool.or_eq_true, Bool.not_eq_true'] at ho
  refine ⟨_, hs, fun e he hb => ?_⟩
  rcases ho e he with h1 | h1
  · rw [hb] at h1; cases h1
  · exact h1
theorem ready_nil {L : Array Bool} (hac : ∀ (i : Nat) (o : Oper), ops[i]? = some o → ∀ e ∈ o.after, e.on < i) (hs : L.size = ops.size) (h : Region.ready md ops L = []) : ∀ i, i < ops.size → L.getD i true = true := by
  intro i
  induction i using Nat.strongRecOn with
  | _ i ih =>
    intro hi
    by_cases hl : L.getD i true = true
    · exact hl
    · exfalso
      have hl : L.getD i true = false := by simpa using hl
      have hso : ops[i]? = some ops[i] := Array.getElem?_eq_getElem hi
      have : i ∈ Region.ready md ops L := by
        simp only [Region.ready, List.mem_filter, List.mem_range, Bool.and_eq_true, Bool.not_eq_true']
        refine ⟨hi, hl, ?_⟩
        rw [hso]
        simp only [Option.map_some, Option.getD_some, Array.all_eq_true_iff_forall_mem, Bool.or_eq_true, Bool.not_eq_true']
        intro e he
        right
        have hlt := hac i _ hso e he
        have h1 := ih e.on hlt (by omega)
        have h2 : e.on < L.size := by omega
        simp only [Array.getD, h2, dif_pos] at h1 ⊢
        exact h1
      rw [h] at this
      cases this
theorem wpAny_inv (I : Array Bool → Act → World → Prop) (hac : ∀ (i : Nat) (o : Oper), ops[i]? = some o → ∀ e ∈ o.after, e.on < i)
    (hstep : ∀ (L : Array Bool) (a : Act) (w : World) (i : Nat) (o : Oper), I L a w → L.size = ops.size → ops[i]? = some o → L.getD i true = false → (∀ e ∈ o.after, Region.binds md e = true → L.getD e.on false = true) →
      ∀ K' : Act → World → Prop, (∀ a w, I (L.setIfInBounds i true) a w → K' a w) → if Region.wanted o (yielded ops a.tmps) = true then Oper.wp P o a w K' Q else K' (a.put o.dst undef) w)
    (hend : ∀ (L : Array Bool) (a : Act) (w : World), I L a w → (∀ i, i < ops.size → L.getD i true = true) → Q .normal a w) :
    ∀ (fuel : Nat) (L : Array Bool) (a : Act) (w : World), L.size = ops.size → unl L ops.size ≤ fuel → I L a w → wpAny P md ops Q fuel L a w
  | 0, L, a, w, hs, hf, hI => by
    have hall := unl_zero (Nat.le_zero.1 hf)
    refine ⟨?_, hend L a w hI hall⟩
    cases hr : Region.ready md ops L with
    | nil => rfl
    | cons i r =>
      have := ready_mem (md := md) (ops := ops) (L := L) (i := i) (by rw [hr]; exact List.mem_cons_self ..)
      rw [hall i this.1] at this
      cases this.2.1
  | fuel + 1, L, a, w, hs, hf, hI => by
    refine ⟨fun hr => hend L a w hI (ready_nil hac hs hr), fun i hi => ?_⟩
    obtain ⟨hlt, hl, o, ho, hd⟩ := ready_mem hi
    refine wpOp_step ho fun K' hK => hstep L a w i o hI hs ho hl hd K' fun a' w' hI' => hK a' w' ?_
    refine wpAny_inv I hac hstep hend fuel _ a' w' (by simpa using hs) ?_ hI'
    have := unl_lt L i hl ops.size hlt
    omega
end
theorem unl_false (n : Nat) : ∀ k, k ≤ n → unl (Array.replicate n false) k ≤ n
  | 0, _ => Nat.zero_le _
  | k + 1, h => by
    have : ∀ j, j ≤ n → unl (Array.replicate n false) j ≤ j := by
      intro j
      induction j with
      | zero => intro _; exact Nat.le_refl _
      | succ j ih => intro hj; have := ih (by omega); simp only [unl]; split <;> omega
    exact Nat.le_trans (this (k + 1) h) h
/-- THE LAW: a condition I on what is listed, the act, the world: it holds at the beginning, each operation that may come up keeps it, and where all are listed what is asked holds. -/
theorem region_inv {P : Program} {id : Nat} {ops : Array Oper} {Q : Exit → Act → World → Prop} {a : Act} {w : World} (hm : P.follows .mixedOrders = true) (I : Array Bool → Act → World → Prop)
    (hac : ∀ (i : Nat) (o : Oper), ops[i]? = some o → ∀ e ∈ o.after, e.on < i) (h0 : I (Array.replicate ops.size false) a w.drew)
    (hstep : ∀ (L : Array Bool) (a : Act) (w : World) (i : Nat) (o : Oper), I L a w → L.size = ops.size → ops[i]? = some o → L.getD i true = false → (∀ e ∈ o.after, Region.binds .any e = true → L.getD e.on false = true) →
      ∀ K' : Act → World → Prop, (∀ a w, I (L.setIfInBounds i true) a w → K' a w) → if Region.wanted o (yielded ops a.tmps) = true then Oper.wp P o a w K' Q else K' (a.put o.dst undef) w)
    (hend : ∀ (L : Array Bool) (a : Act) (w : World), I L a w → (∀ i, i < ops.size → L.getD i true = true) → Q .normal a w) : (Code.region id ops true).wp P Q a w :=
  wp_region_any hm (wpAny_inv I hac hstep hend ops.size _ a _ (by simp) (unl_false _ _ (Nat.le_refl _)) h0)
end Go.Proofs.YtccpdfcmhggleaaGreatDoor.Iv
