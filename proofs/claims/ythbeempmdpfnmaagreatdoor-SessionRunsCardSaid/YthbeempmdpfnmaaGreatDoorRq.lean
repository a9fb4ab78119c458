/- Promises of a region's operations. No condition. -/
import Derived.Test.YthbeempmdpfnmaaGreatDoorS4
import Derived.Test.YthbeempmdpfnmaaGreatDoorRp
namespace Go.Proofs.YthbeempmdpfnmaaGreatDoor.T
open Go.RowKit Go.Lib

structure Pr where
  p : Value → World → Prop
  m : ∀ v W W', Below W.heap.size W W' → p v W → p v W'
def Pr.tt : Pr := ⟨fun _ _ => True, fun _ _ _ _ h => h⟩
def Pr.eq (u : Value) : Pr := ⟨fun v _ => v = u, fun _ _ _ _ h => h⟩
/-- A value that speaks of a row that was made. -/
def Pr.ex (N : Nat) (cs : Array Value) (T : TypeId) (f : Nat → Value) : Pr := ⟨fun v W => ∃ B, v = f B ∧ N ≤ B ∧ W.heap[B]? = some (.cells cs T (0, 0)), fun _ _ _ hb ⟨B, h1, h2, h3⟩ => ⟨B, h1, h2, (hb.block _ (heap_lt h3)).trans h3⟩⟩
def psL (L : List Pr) (j : Nat) (v : Value) (W : World) : Prop := (L.getD j Pr.tt).p v W
theorem psL_mono (L : List Pr) : ∀ j v W W', Below W.heap.size W W' → psL L j v W → psL L j v W' := fun j v W W' hb h => (L.getD j Pr.tt).m v W W' hb h
end Go.Proofs.YthbeempmdpfnmaaGreatDoor.T
