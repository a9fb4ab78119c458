/- An argument of the type of slices of elements, opened. Condition: the datum's sizes are within the reach. -/
import Derived.Test.YtccpdfcmhggleaaGreatDoorTo
namespace Go.Proofs.YtccpdfcmhggleaaGreatDoor
open Go.RowKit Go.Lib Tg Go.ChangeShapes Go.WideShapes

section
variable {H : Type} {enc : TypeId × Value → H} {w : World}
theorem open_elems {n : Nat} {a0 : Option Addr} {n0 c0 : Nat} {y : DataW H × List MemPlace} (h : DataW.trod enc Tryz.prog w 0 (fun _ => true) true n 24 [.slice a0 n0 c0] = some y) (hz : ∀ m ∈ y.1.weights Tryz.prog 24, m ≤ reachBytes) :
    ∃ l : List El, l.length = n0 ∧ l.length ≤ maxLen ∧ KsIn w.heap.size w a0 l := by
  rcases DataW.trod_slice Tryz.underlying24 h with ⟨hcs, hy⟩ | ⟨a, len, cap, elems, rest, n', hk2, hcs, hy, _, hl, hm, hlen, hel, _, _⟩
  · have hcs : [Value.slice a0 n0 c0] = [.slice none 0 0] := hcs
    cases hcs
    exact ⟨[], rfl, Nat.zero_le _, fun i hi => absurd hi (Nat.not_lt_zero i)⟩
  · have hcs : [Value.slice a0 n0 c0] = [.slice (some a) len cap] := hcs
    cases hcs
    subst hlen
    rw [hy] at hz
    simp only [DataW.weights, Tryz.underlying24] at hz
    have hE : ∀ i, ∃ p : El × (Nat → Value), i < elems.length → (In w.heap.size w p.1 (.agg #[p.2 0, p.2 1, p.2 2, p.2 3, p.2 4]) ∧ ∀ j, j < 5 → w.cell? ((a.add (i * 5)).add j) = some (p.2 j)) := by
      intro i
      by_cases hil : i < elems.length
      · have h1 := hel i hil
        rw [c25o, List.getElem?_eq_getElem hil] at h1
        obtain ⟨cs', hc, ht⟩ := Option.bind_eq_some_iff.1 h1
        obtain ⟨e, he⟩ := open_elem n' cs' elems[i] ht (fun m hm => hz m (List.mem_cons_of_mem _ (List.mem_append_left _ (mem_all (List.mem_map.2 ⟨_, List.getElem_mem hil, rfl⟩) hm))))
        obtain ⟨_, hl5, hcell⟩ := World.cells?_some hc
        obtain ⟨u0, u1, u2, u3, u4, rfl⟩ := len5 hl5
        refine ⟨(e, fun j => match j with | 0 => u0 | 1 => u1 | 2 => u2 | 3 => u3 | _ => u4), fun _ => ⟨he, fun j hj => ?_⟩⟩
        rw [hcell j hj]
        match j, hj with
        | 0, _ => rfl
        | 1, _ => rfl
        | 2, _ => rfl
        | 3, _ => rfl
        | 4, _ => rfl
      · exact ⟨(.mk .empty .empty [] .empty [], fun _ => .bool false), fun h => absurd h hil⟩
    obtain ⟨p, hp⟩ := Classical.skolem.1 hE
    have hlen2 : ((List.range elems.length).map fun i => (p i).1).length = elems.length := by simp
    refine ⟨(List.range elems.length).map fun i => (p i).1, hlen2, by rw [hlen2]; omega, fun i hi => ?_⟩
    rw [hlen2] at hi
    have hge : ((List.range elems.length).map fun i => (p i).1)[i]'(by rw [hlen2]; exact hi) = (p i).1 := by simp
    rw [hge]
    have h0 := (hp i hi).2
    have hin := (hp i hi).1
    have ha : ∃ b o, a = ⟨b, o, none⟩ ∧ b < w.heap.size := by
      have h1 := (hp 0 (by omega)).2 0 (by decide)
      rw [Nat.zero_mul] at h1
      exact addr_at (by simpa [Addr.add] using h1)
    obtain ⟨b, o, rfl, hb⟩ := ha
    have q0 := h0 0 (by decide)
    have q1 := h0 1 (by decide)
    have q2 := h0 2 (by decide)
    have q3 := h0 3 (by decide)
    have q4 := h0 4 (by decide)
    rw [add_none, add_none] at q0 q1 q2 q3 q4
    obtain ⟨a1, c1, a2, c2, hv⟩ := hin.form
    simp only [Value.agg.injEq, Array.mk.injEq, List.cons.injEq, and_true] at hv
    obtain ⟨e0, e1, e2, e3, e4⟩ := hv
    rw [e0, e1, e2, e3, e4] at hin
    rw [e0] at q0
    rw [e1] at q1
    rw [e2] at q2
    rw [e3] at q3
    rw [e4] at q4
    exact ⟨b, o, a1, c1, a2, c2, rfl, hb, ⟨by simpa using q0, q1, q2, q3, q4⟩, hin⟩
end
end Go.Proofs.YtccpdfcmhggleaaGreatDoor
