/- An argument of the type of slices of events, opened. Condition: the datum's sizes are within the reach. -/
import Derived.Test.YtolnpfcncmcacaaGreatDoorTo
import Derived.Test.YtolnpfcncmcacaaGreatDoorZk
namespace Go.Proofs.YtolnpfcncmcacaaGreatDoor
open Go.RowKit Go.Lib Tg Go.ChangeShapes Go.WideShapes

theorem c3o : Tryz.prog.cellsOf 3 = 1 := by kernel_rfl
theorem c34o : Tryz.prog.cellsOf 34 = 1 := by kernel_rfl
theorem c50o : Tryz.prog.cellsOf 50 = 7 := by kernel_rfl
theorem len7 {α : Type} {l : List α} (h : l.length = 7) : ∃ a b c d e f g, l = [a, b, c, d, e, f, g] := by
  match l, h with
  | [a, b, c, d, e, f, g], _ => exact ⟨a, b, c, d, e, f, g, rfl⟩
theorem len3 {α : Type} {l : List α} (h : l.length = 3) : ∃ a b c, l = [a, b, c] := by
  match l, h with
  | [a, b, c], _ => exact ⟨a, b, c, rfl⟩
section
variable {H : Type} {enc : TypeId × Value → H} {w : World}
theorem open_event {n : Nat} {cs : List Value} {y : DataW H × List MemPlace} (h : DataW.trod enc Tryz.prog w 0 (fun _ => true) true n 50 cs = some y) (hz : ∀ m ∈ y.1.weights Tryz.prog 50, m ≤ reachBytes) :
    ∃ (x : Et) (aA : Option Addr) (cA : Nat) (aK : Option Addr) (cK : Nat), cs = [.int .i64 x.1, .string x.2.1.sp, .string x.2.1.nm, .slice aA x.2.1.atr.length cA, .string x.2.1.tx, .slice aK x.2.1.ks.length cK, .int .i64 x.2.2] ∧
      In w.heap.size w x.2.1 (.agg #[.string x.2.1.sp, .string x.2.1.nm, .slice aA x.2.1.atr.length cA, .string x.2.1.tx, .slice aK x.2.1.ks.length cK]) ∧ (Lit.int .i64 x.2.2).wf = true := by
  obtain ⟨xs, k, hk, rfl, hcl, hxl, hf⟩ := DataW.trod_struct Tryz.underlying50 h
  rw [c50o] at hcl
  obtain ⟨v0, v1, v2, v3, v4, v5, v6, rfl⟩ := len7 hcl
  obtain ⟨y0, y1, y2, rfl⟩ := len3 hxl
  have f0 : DataW.trod enc Tryz.prog w 0 (fun _ => true) true k 3 (List.take (Tryz.prog.cellsOf 3) [v0, v1, v2, v3, v4, v5, v6]) = some y0 := hf 0 _ rfl
  have f1 : DataW.trod enc Tryz.prog w 0 (fun _ => true) true k 48 (List.take (Tryz.prog.cellsOf 48) [v1, v2, v3, v4, v5, v6]) = some y1 := hf 1 _ rfl
  have f2 : DataW.trod enc Tryz.prog w 0 (fun _ => true) true k 34 (List.take (Tryz.prog.cellsOf 34) [v6]) = some y2 := hf 2 _ rfl
  rw [c3o] at f0
  rw [c25o] at f1
  rw [c34o] at f2
  have f0 : DataW.trod enc Tryz.prog w 0 (fun _ => true) true k 3 [v0] = some y0 := f0
  have f1 : DataW.trod enc Tryz.prog w 0 (fun _ => true) true k 48 [v1, v2, v3, v4, v5] = some y1 := f1
  have f2 : DataW.trod enc Tryz.prog w 0 (fun _ => true) true k 34 [v6] = some y2 := f2
  simp only [DataW.weights, Tryz.underlying50, DataW.weightsEach, List.map_cons, List.map_nil, List.append_nil, List.mem_append] at hz
  have z1 : ∀ m ∈ y1.1.weights Tryz.prog 48, m ≤ reachBytes := fun m hm => hz m (.inr (.inl hm))
  obtain ⟨e, he⟩ := open_elem k _ y1 f1 z1
  obtain ⟨i0, h0, _, _⟩ := DataW.trod_int Tryz.underlying3 f0
  obtain ⟨i2, h2, _, hw⟩ := DataW.trod_int Tryz.underlying34 f2
  obtain rfl : v0 = .int .i64 i0 := by simpa using h0
  obtain rfl : v6 = .int .i64 i2 := by simpa using h2
  obtain ⟨a1, c1, a2, c2, hv⟩ := he.form
  simp only [Value.agg.injEq, Array.mk.injEq, List.cons.injEq, and_true] at hv
  obtain ⟨rfl, rfl, rfl, rfl, rfl⟩ := hv
  exact ⟨(i0, e, i2), a1, c1, a2, c2, rfl, he, hw⟩
theorem open_events {n : Nat} {a0 : Option Addr} {n0 c0 : Nat} {y : DataW H × List MemPlace} (h : DataW.trod enc Tryz.prog w 0 (fun _ => true) true n 27 [.slice a0 n0 c0] = some y) (hz : ∀ m ∈ y.1.weights Tryz.prog 27, m ≤ reachBytes) :
    ∃ l : List Et, l.length = n0 ∧ l.length ≤ maxLen ∧ EtIn w.heap.size w a0 l := by
  rcases DataW.trod_slice Tryz.underlying27 h with ⟨hcs, hy⟩ | ⟨a, len, cap, elems, rest, n', hk2, hcs, hy, _, hl, hm, hlen, hel, _, _⟩
  · have hcs : [Value.slice a0 n0 c0] = [.slice none 0 0] := hcs
    cases hcs
    exact ⟨[], rfl, Nat.zero_le _, fun i hi => absurd hi (Nat.not_lt_zero i)⟩
  · have hcs : [Value.slice a0 n0 c0] = [.slice (some a) len cap] := hcs
    cases hcs
    subst hlen
    rw [hy] at hz
    simp only [DataW.weights, Tryz.underlying27] at hz
    have hE : ∀ i, ∃ p : Et × (Option Addr × Nat × Option Addr × Nat), i < elems.length →
        (In w.heap.size w p.1.2.1 (.agg #[.string p.1.2.1.sp, .string p.1.2.1.nm, .slice p.2.1 p.1.2.1.atr.length p.2.2.1, .string p.1.2.1.tx, .slice p.2.2.2.1 p.1.2.1.ks.length p.2.2.2.2]) ∧ (Lit.int .i64 p.1.2.2).wf = true ∧
        ∀ j v, [Value.int .i64 p.1.1, .string p.1.2.1.sp, .string p.1.2.1.nm, .slice p.2.1 p.1.2.1.atr.length p.2.2.1, .string p.1.2.1.tx, .slice p.2.2.2.1 p.1.2.1.ks.length p.2.2.2.2, .int .i64 p.1.2.2][j]? = some v → w.cell? ((a.add (i * 7)).add j) = some v) := by
      intro i
      by_cases hil : i < elems.length
      · have h1 := hel i hil
        rw [c50o, List.getElem?_eq_getElem hil] at h1
        obtain ⟨cs', hc, ht⟩ := Option.bind_eq_some_iff.1 h1
        obtain ⟨x, a1, c1, a2, c2, rfl, hin, hw⟩ := open_event ht (fun m hm => hz m (List.mem_cons_of_mem _ (List.mem_append_left _ (mem_all (List.mem_map.2 ⟨_, List.getElem_mem hil, rfl⟩) hm))))
        obtain ⟨_, hl7, hcell⟩ := World.cells?_some hc
        refine ⟨(x, a1, c1, a2, c2), fun _ => ⟨hin, hw, fun j v hj => ?_⟩⟩
        have hj7 : j < 7 := by
          have := (List.getElem?_eq_some_iff.1 hj).1
          simpa using this
        rw [hcell j hj7]
        exact hj
      · exact ⟨((0, .mk .empty .empty [] .empty [], 0), none, 0, none, 0), fun h => absurd h hil⟩
    obtain ⟨p, hp⟩ := Classical.skolem.1 hE
    have hlen2 : ((List.range elems.length).map fun i => (p i).1).length = elems.length := by simp
    refine ⟨(List.range elems.length).map fun i => (p i).1, hlen2, by rw [hlen2]; omega, fun i hi => ?_⟩
    rw [hlen2] at hi
    have hge : ((List.range elems.length).map fun i => (p i).1)[i]'(by rw [hlen2]; exact hi) = (p i).1 := by simp
    rw [hge]
    obtain ⟨hin, hw, hc⟩ := hp i hi
    have ha : ∃ b o, a = ⟨b, o, none⟩ ∧ b < w.heap.size := by
      have h1 := (hp 0 (by omega)).2.2 0 _ rfl
      rw [Nat.zero_mul] at h1
      exact addr_at (by simpa [Addr.add] using h1)
    obtain ⟨b, o, rfl, hb⟩ := ha
    have q0 := hc 0 _ rfl
    have q1 := hc 1 _ rfl
    have q2 := hc 2 _ rfl
    have q3 := hc 3 _ rfl
    have q4 := hc 4 _ rfl
    have q5 := hc 5 _ rfl
    have q6 := hc 6 _ rfl
    rw [add_none, add_none] at q0 q1 q2 q3 q4 q5 q6
    exact ⟨b, o, _, _, _, _, rfl, hb, ⟨by simpa using q0, q1, q2, q3, q4, q5, q6⟩, hin, hw⟩
end
end Go.Proofs.YtolnpfcncmcacaaGreatDoor
