/- One value appended to a slice of the call's own, whatever made its row: a conversion, an earlier append, nil. Condition: the new length takes at most 2^47 bytes. -/
import Derived.Test.YtnoabinodojkiaaDoorDn
import Derived.ArgAppend
namespace Go.Proofs.YtnoabinodojkiaaDoor
open Go.RowKit Go.Lib By Dg

/-- The slice v holds the values xs, each of one cell, in a row from block N on, or is nil. -/
def Own (N : Nat) (v : Value) (xs : List Value) (w : World) : Prop :=
  (v = .slice none 0 0 ∧ xs = []) ∨ ∃ g cap, v = .slice (some ⟨g, 0, none⟩) xs.length cap ∧ N ≤ g ∧ xs.length ≤ cap ∧ (∀ j u, xs[j]? = some u → w.cell? ⟨g, j, none⟩ = some u) ∧ ∀ j, j < cap → (w.cell? ⟨g, j, none⟩).isSome = true ∧ w.frozen? ⟨g, j, none⟩ = false
theorem cell_lt {w : World} {a : Addr} (h : (w.cell? a).isSome = true) : a.block < w.heap.size := by
  obtain ⟨v, hv⟩ := Option.isSome_iff_exists.1 h
  exact World.block_lt_of_cell? _ _ hv
theorem Own.below {N : Nat} {v : Value} {xs : List Value} {w w' : World} (h : Own N v xs w) (hb : Below w.heap.size w w') : Own N v xs w' := by
  rcases h with h | ⟨g, cap, h1, h2, h3, h4, h5⟩
  · exact .inl h
  · refine .inr ⟨g, cap, h1, h2, h3, fun j u hu => ?_, fun j hj => ?_⟩
    · exact (hb.cell (cell_lt (h5 j (by have := (List.getElem?_eq_some_iff.1 hu).1; omega)).1)).trans (h4 j u hu)
    · have := cell_lt (h5 j hj).1
      rw [hb.cell this, hb.frozen this]
      exact h5 j hj
theorem Own.form {N : Nat} {v : Value} {xs : List Value} {w : World} (h : Own N v xs w) (h0 : xs ≠ []) : ∃ g cap, v = .slice (some ⟨g, 0, none⟩) xs.length cap ∧ N ≤ g ∧ g < w.heap.size ∧ xs.length ≤ cap ∧ ∀ j u, xs[j]? = some u → w.cell? ⟨g, j, none⟩ = some u := by
  rcases h with ⟨_, h⟩ | ⟨g, cap, h1, h2, h3, h4, h5⟩
  · exact absurd h h0
  · refine ⟨g, cap, h1, h2, ?_, h3, h4⟩
    have : 0 < xs.length := List.length_pos_iff.2 h0
    exact cell_lt (h5 0 (by omega)).1
theorem own_of_row {N : Nat} {v : Value} {xs : List Value} {w : World} {e : TypeId} (h : w.ownsRow N e 1 v xs.length xs) (h0 : 0 < xs.length) : Own N v xs w := by
  rcases h.2 with ⟨_, h1⟩ | ⟨g, cap, cur, hv, hN, hg, hn, hm, hc, ht⟩
  · omega
  · refine .inr ⟨g, cap, hv, hN, hn, fun j u hu => ?_, fun j hj => ⟨?_, frozen_of_row w g j cur e hg⟩⟩
    · rw [cell_of_row w g j cur e _ hg, ← hu, ← ht, Nat.mul_one]
      rw [List.getElem?_take_of_lt (by rw [← ht] at hu; have := (List.getElem?_eq_some_iff.1 hu).1; simp at this; omega), Array.getElem?_toList]
    · rw [cell_of_row w g j cur e _ hg, Array.getElem?_eq_getElem (by omega)]
      rfl
theorem one_off (ad : Addr) (w : World) (u : Value) (hu : w.cell? ad = some u) : ∀ j v, [u][j]? = some v → w.cell? (ad.add j) = some v := by
  intro j v hj
  match j, hj with
  | 0, hj => simp at hj; subst hj; rw [← hu]; unfold Addr.add; split <;> simp_all
theorem wpList_app {P : Program} (w : World) {ops : Array Oper} {rest : List Oper} {o : Oper} {a : Act} {Q : Exit → Act → World → Prop}
    (hg : o.guard = none) (s x : Operand) (t : TypeId) (hop : o.op = Op.call { callee := Callee.builtin Builtin.append, args := #[s, x], argTypes := #[t, t] })
    (e : TypeId) (i : TypeInfo) (z : Value) (bytes : Nat) (h1 : P.underlying t = some (.slice e)) (h2 : P.info? e = some i) (h3 : i.zero = some z) (h4 : i.size = 1) (h5 : i.bytes = bytes) (h6 : z.cells.size = 1)
    (N : Nat) (v : Value) (xs : List Value) (hs : a.eval s = v) (hO : Own N v xs w) (ad : Addr) (c : Nat) (hx : a.eval x = .slice (some ad) 1 c) (u : Value) (hu : w.cell? ad = some u) (hu1 : u.oneCell' = true)
    (hb : (xs.length + 1) * bytes ≤ 140737488355328) (hl : xs.length + 1 ≤ 1048576) (hN : N ≤ w.heap.size)
    (h : ∀ v' w', Own N v' (xs ++ [u]) w' → Below N w w' → wpList P ops Q rest (a.put o.dst v') w') : wpList P ops Q (o :: rest) a w := by
  have hmax : xs.length + 1 ≤ maxLen := by unfold maxLen; omega
  have hone : ∀ y ∈ [u], y.oneCell' = true := by intro y hy; simp at hy; subst hy; exact hu1
  have hgrow : ∀ v' w', w'.ownsRow w.heap.size e 1 v' (xs.length + 1) (xs ++ [u]) → w.grownBy w' none → wpList P ops Q rest (a.put o.dst v') w' := by
    intro v' w' h7 h8
    refine h v' w' ?_ ((Below.refl N w).grown h8 hN (fun k hk => by cases hk))
    have : Own w.heap.size v' (xs ++ [u]) w' := own_of_row (e := e) (by rw [List.length_append]; exact h7) (by simp)
    rcases this with h9 | ⟨g, cap, k1, k2, k3, k4, k5⟩
    · exact .inl h9
    · exact .inr ⟨g, cap, k1, by omega, k3, k4, k5⟩
  rcases hO with ⟨rfl, rfl⟩ | ⟨g, cap, rfl, hNg, hlen, hcells, hrow⟩
  · refine wpList_append_grows w hg s x t hop e i z 1 bytes h1 h2 h3 h4 h5 h6 (by decide) none 0 0 [] hs (fun _ => ⟨rfl, rfl⟩) rfl (fun b hb => by cases hb) ad 1 c [u] hx rfl (one_off ad w u hu) hone (by decide) hmax hb ?_
    exact hgrow
  · refine wpList_append_arg w hg s x t hop e i z 1 bytes h1 h2 h3 h4 h5 h6 (by decide) g 0 xs.length cap xs hs (Nat.mul_one _).symm (fun j v hj => by rw [Nat.zero_add]; exact hcells j v hj) ad 1 c [u] hx rfl (one_off ad w u hu) hone ?_ hmax hb ?_ (fun _ => hgrow)
    · intro hr j hj
      simp only [List.length_singleton] at hj
      exact hrow _ (by omega)
    · intro hr
      rw [Nat.zero_add, Nat.mul_one]
      show wpList P ops Q rest _ (w.setCell ⟨g, xs.length, none⟩ u)
      refine h _ _ (.inr ⟨g, cap, by simp, hNg, by simp; omega, fun j v hj => ?_, fun j hj => ?_⟩) ((Below.refl N w).setCell (show N ≤ g from hNg) u)
      · rw [List.getElem?_append] at hj
        split at hj
        · rw [World.cell?_setCell_other _ _ _ _ (fun e => by cases e; omega)]
          exact hcells j v hj
        · have : j = xs.length := by
            have := (List.getElem?_eq_some_iff.1 hj).1
            simp at this
            omega
          subst this
          simp at hj
          subst hj
          obtain ⟨y, hy⟩ := Option.isSome_iff_exists.1 (hrow xs.length (by omega)).1
          exact World.cell?_setCell_same _ _ _ hy
      · rw [World.frozen?_setCell]
        refine ⟨?_, (hrow j hj).2⟩
        by_cases hj2 : j = xs.length
        · subst hj2
          obtain ⟨y, hy⟩ := Option.isSome_iff_exists.1 (hrow xs.length hj).1
          rw [World.cell?_setCell_same _ _ _ hy]
          rfl
        · rw [World.cell?_setCell_other _ _ _ _ (fun e => hj2 (by cases e; rfl))]
          exact (hrow j hj).1
end Go.Proofs.YtnoabinodojkiaaDoor
