/- Contracts: the document's Parse; there and back, plainly. Conditions: those of each theorem's head. -/
import Derived.Test.YtiodjaeonoheiaaGreatDoorTd
import Derived.Deep.AppendLies
import Derived.Deep.DeepCutAuto
namespace Go.Proofs.YtiodjaeonoheiaaGreatDoor.T
open Go.RowKit Go.Lib Go.Shelf
theorem own_keep {w w' : World} {N n s : Nat} {T : TypeId} {v : Value} {xs : List Value} (h : w.ownsRow N T s v n xs) (hk : ∀ b, v.ownBlock = some b → w'.heap[b]? = w.heap[b]?) : w'.ownsRow N T s v n xs := by
  refine ⟨h.1, ?_⟩
  rcases h.2 with h3 | ⟨g, cap, cur, rfl, q1, q2, q3⟩
  · exact .inl h3
  · exact .inr ⟨g, cap, cur, rfl, q1, (hk g rfl).trans q2, q3⟩
theorem own_heap {w : World} {N n s : Nat} {T : TypeId} {v : Value} {xs : List Value} (h : w.ownsRow N T s v n xs) {b : Nat} (hb : v.ownBlock = some b) : N ≤ b ∧ ∃ cur, w.heap[b]? = some (.cells cur T (0, 0)) := by
  rcases h.2 with ⟨rfl, _⟩ | ⟨g, cap, cur, rfl, q1, q2, q3⟩
  · cases hb
  · cases hb
    exact ⟨q1, cur, q2⟩
theorem own_below {w w' : World} {N n s : Nat} {T : TypeId} {v : Value} {xs : List Value} (h : w.ownsRow N T s v n xs) (hb : Below w.heap.size w w') : w'.ownsRow N T s v n xs :=
  own_keep h fun b e => by
    obtain ⟨_, cur, hc⟩ := own_heap h e
    exact hb.block _ (heap_lt hc)
end Go.Proofs.YtiodjaeonoheiaaGreatDoor.T
namespace Go.Proofs.YtiodjaeonoheiaaGreatDoor.T
open Go.RowKit Go.Lib Go.Shelf By
theorem intOk_nat {n width : Int} (h : intOk n width = true) : ∃ x K : Nat, n = x ∧ width = K ∧ wid K = true ∧ x < 256 ^ K := by
  unfold intOk at h
  simp only [Bool.and_eq_true, decide_eq_true_eq] at h
  obtain ⟨⟨h1, h2⟩, h3⟩ := h
  have hw := wid_cases h1
  refine ⟨n.toNat, width.toNat, by omega, by omega, ?_, ?_⟩
  · rw [show ((width.toNat : Nat) : Int) = width by omega]
    exact h1
  · have h4 : n < ((256 ^ width.toNat : Nat) : Int) := by rw [Int.natCast_pow]; exact h3
    exact (Int.toNat_lt h2).2 h4
theorem back_int {n width : Int} (h : intOk n width = true) : intE n width = 0 ∧ numE (intS n width) = 0 ∧ numV (intS n width) = n ∧ ((intS n width).size : Int) = width := by
  have h' := h
  obtain ⟨x, K, rfl, rfl, hw, hx⟩ := intOk_nat h'
  obtain ⟨e1, e2⟩ := intS_yes h
  rw [e1]
  rw [Int.toNat_natCast, Int.toNat_natCast]
  have hz : (mk (dig x K)).size = K := by rw [mk_size, dig_length]
  refine ⟨e2, ?_, ?_, ?_⟩
  · unfold numE; rw [hz, if_pos hw]
  · unfold numV; rw [hz, if_pos hw, mk_list, numL_dig_lt hx]
  · rw [hz]
end Go.Proofs.YtiodjaeonoheiaaGreatDoor.T
