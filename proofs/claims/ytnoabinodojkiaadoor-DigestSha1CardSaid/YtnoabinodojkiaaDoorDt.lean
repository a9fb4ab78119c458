/- One value appended to a slice of the call's own, as one step of a region that draws its order. Condition: the new length takes at most 2^47 bytes. -/
import Derived.Test.YtnoabinodojkiaaDoorDo
import Derived.Deep.RegionLaw
import Derived.IntWalk
namespace Go.Proofs.YtnoabinodojkiaaDoor
open Go.RowKit Go.Lib By Dg

theorem wrap_in {x : Int} (h1 : -9223372036854775808 ≤ x) (h2 : x ≤ 9223372036854775807) : IntKind.i64.wrap x = x := IntWalk.i64_in _ ⟨h1, h2⟩
theorem run_app {P : Program} (w : World) (t ty e : TypeId) (i : TypeInfo) (z : Value) (bytes : Nat) (h1 : P.underlying t = some (.slice e)) (h2 : P.info? e = some i) (h3 : i.zero = some z) (h4 : i.size = 1) (h5 : i.bytes = bytes) (h6 : z.cells.size = 1)
    (N : Nat) (v : Value) (xs : List Value) (hO : Own N v xs w) (ad : Addr) (c : Nat) (u : Value) (hu : w.cell? ad = some u) (hu1 : u.oneCell' = true)
    (hb : (xs.length + 1) * bytes ≤ 140737488355328) (hl : xs.length + 1 ≤ 1048576) (hN : N ≤ w.heap.size) :
    ∃ v' w', (Builtin.append_ #[t, t] ty #[v, .slice (some ad) 1 c]).run P w = .ok v' w' ∧ Own N v' (xs ++ [u]) w' ∧ Below N w w' := by
  have hmax : xs.length + 1 ≤ maxLen := by unfold maxLen; omega
  have hone : ∀ y ∈ [u], y.oneCell' = true := by intro y hy; simp at hy; subst hy; exact hu1
  have hgrow : ∀ v' w', w'.ownsRow w.heap.size e 1 v' (xs.length + 1) (xs ++ [u]) → w.grownBy w' none → Own N v' (xs ++ [u]) w' ∧ Below N w w' := by
    intro v' w' h7 h8
    refine ⟨?_, (Below.refl N w).grown h8 hN (fun k hk => by cases hk)⟩
    have : Own w.heap.size v' (xs ++ [u]) w' := own_of_row (e := e) (by rw [List.length_append]; exact h7) (by simp)
    rcases this with h9 | ⟨g, cap, k1, k2, k3, k4, k5⟩
    · exact .inl h9
    · exact .inr ⟨g, cap, k1, by omega, k3, k4, k5⟩
  rcases hO with ⟨rfl, rfl⟩ | ⟨g, cap, rfl, hNg, hlen, hcells, hrow⟩
  · obtain ⟨v', w', hr, h7, h8, _⟩ := run_append_own (P := P) w w.heap.size t ty e i z 1 bytes h1 h2 h3 h4 h5 h6 (by decide) (.slice none 0 0) 0 [] (World.ownsRow_nil _ _ _ _) ad 1 c [u] rfl (one_off ad w u hu) hone (by decide) hb (Nat.le_refl _)
    exact ⟨v', w', hr, hgrow v' w' h7 h8⟩
  · by_cases hr : xs.length + 1 ≤ cap
    · have hrun := run_append_room_cells (P := P) w t ty e i h1 h2 g 0 xs.length cap ad 1 c [u] (by rw [h4]; rfl) (one_off ad w u hu) hone hr (fun j hj => by
          simp only [List.length_singleton] at hj
          rw [h4]
          exact (hrow _ (by omega)).1) (fun j hj => by
          simp only [List.length_singleton] at hj
          rw [h4]
          exact (hrow _ (by omega)).2)
      rw [h4, Nat.zero_add, Nat.mul_one] at hrun
      refine ⟨_, _, hrun, ?_⟩
      show Own N _ _ (w.setCell ⟨g, xs.length, none⟩ u) ∧ Below N w (w.setCell ⟨g, xs.length, none⟩ u)
      refine ⟨.inr ⟨g, cap, by simp, hNg, by simp; omega, fun j v hj => ?_, fun j hj => ?_⟩, (Below.refl N w).setCell (show N ≤ g from hNg) u⟩
      · rw [List.getElem?_append] at hj
        split at hj
        · rw [World.cell?_setCell_other _ _ _ _ (fun e => by cases e; omega)]
          exact hcells j v hj
        · have : j = xs.length := by
            have := (List.getElem?_eq_some_iff.1 hj).1
            simp at this
            omega
          subst this
          simp at hj
          subst hj
          obtain ⟨y, hy⟩ := Option.isSome_iff_exists.1 (hrow xs.length (by omega)).1
          exact World.cell?_setCell_same _ _ _ hy
      · rw [World.frozen?_setCell]
        refine ⟨?_, (hrow j hj).2⟩
        by_cases hj2 : j = xs.length
        · subst hj2
          obtain ⟨y, hy⟩ := Option.isSome_iff_exists.1 (hrow xs.length hj).1
          rw [World.cell?_setCell_same _ _ _ hy]
          rfl
        · rw [World.cell?_setCell_other _ _ _ _ (fun e => hj2 (by cases e; rfl))]
          exact (hrow j hj).1
    · obtain ⟨v', w', hrun, h7, h8⟩ := run_append_arg_grows (P := P) w t ty e i z 1 bytes h1 h2 h3 h4 h5 h6 (by decide) ⟨g, 0, none⟩ xs.length cap xs (Nat.mul_one _).symm (fun j u hj => by rw [Addr.add_lit, Nat.zero_add]; exact hcells j u hj) ad 1 c [u] rfl (one_off ad w u hu) (by omega) hmax hb
      exact ⟨v', w', hrun, hgrow v' w' h7 h8⟩
theorem step_app {P : Program} (w : World) {ops : Array Oper} {o : Oper} {a : Act} {K : Act → World → Prop} {Q : Exit → Act → World → Prop} {E : Prop}
    (hg : o.guard = none) (s x : Operand) (t : TypeId) (hop : o.op = Op.call { callee := Callee.builtin Builtin.append, args := #[s, x], argTypes := #[t, t] })
    (e : TypeId) (i : TypeInfo) (z : Value) (bytes : Nat) (h1 : P.underlying t = some (.slice e)) (h2 : P.info? e = some i) (h3 : i.zero = some z) (h4 : i.size = 1) (h5 : i.bytes = bytes) (h6 : z.cells.size = 1)
    (N : Nat) (v : Value) (xs : List Value) (hs : a.eval s = v) (hO : Own N v xs w) (ad : Addr) (c : Nat) (hx : a.eval x = .slice (some ad) 1 c) (u : Value) (hu : w.cell? ad = some u) (hu1 : u.oneCell' = true)
    (hb : (xs.length + 1) * bytes ≤ 140737488355328) (hl : xs.length + 1 ≤ 1048576) (hN : N ≤ w.heap.size)
    (h : ∀ v' w', Own N v' (xs ++ [u]) w' → Below N w w' → K (a.put o.dst v') w') :
    if Region.wanted o (yielded ops a.tmps) = true then Oper.wp P o a w K Q else E := by
  have hw : Region.wanted o (yielded ops a.tmps) = true := by simp [Region.wanted, hg]
  rw [if_pos hw]
  obtain ⟨v', w', hr, h7, h8⟩ := run_app (P := P) w t o.type e i z bytes h1 h2 h3 h4 h5 h6 N v xs hO ad c u hu hu1 hb hl hN
  unfold Oper.wp execOp
  simp only [hop, resolve, invoke, builtin, Sem.run_bind, Sem.run_pure, Result.andThen_ok, List.map_toArray, List.map_cons, List.map_nil, hs, hx, hr]
  exact h v' w' h7 h8
end Go.Proofs.YtnoabinodojkiaaDoor
