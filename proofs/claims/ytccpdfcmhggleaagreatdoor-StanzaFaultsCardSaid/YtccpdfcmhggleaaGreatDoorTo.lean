/- An argument of the type of elements, opened: what reads as a datum is an element in memory. Condition: the datum's sizes are within the reach. -/
import Derived.Test.YtccpdfcmhggleaaGreatDoorDa
import Derived.Deep.Slices
import Derived.SizedLaws
import Derived.OpenShut
namespace Go.Proofs.YtccpdfcmhggleaaGreatDoor
open Go.RowKit Go.Lib Tg Go.ChangeShapes Go.WideShapes

theorem mem_all {H : Type} {P : Program} {e : TypeId} : ∀ {l : List (DataW H)} {d : DataW H} {m : Nat}, d ∈ l → m ∈ d.weights P e → m ∈ DataW.weightsAll P e l
  | x :: r, d, m, hd, hm => by
    simp only [DataW.weightsAll, List.mem_append]
    rcases List.mem_cons.1 hd with rfl | hd
    · exact .inl hm
    · exact .inr (mem_all hd hm)
theorem c9o : Tryz.prog.cellsOf 9 = 1 := by kernel_rfl
theorem c22o : Tryz.prog.cellsOf 27 = 1 := by kernel_rfl
theorem c23o : Tryz.prog.cellsOf 24 = 1 := by kernel_rfl
theorem c25o : Tryz.prog.cellsOf 29 = 5 := by kernel_rfl
theorem c53o : Tryz.prog.cellsOf 49 = 2 := by kernel_rfl
theorem b53o : Tryz.prog.bytesOf 49 = 32 := by kernel_rfl
theorem len5 {α : Type} {l : List α} (h : l.length = 5) : ∃ a b c d e, l = [a, b, c, d, e] := by
  match l, h with
  | [a, b, c, d, e], _ => exact ⟨a, b, c, d, e, rfl⟩
theorem len2 {α : Type} {l : List α} (h : l.length = 2) : ∃ a b, l = [a, b] := by
  match l, h with
  | [a, b], _ => exact ⟨a, b, rfl⟩
theorem addr_at {w : World} {a : Addr} {v : Value} (h : w.cell? a = some v) : ∃ b o, a = ⟨b, o, none⟩ ∧ b < w.heap.size := by
  have hs := World.cell?_spot h
  have hb := World.block_lt_of_cell? _ _ h
  obtain ⟨b, o, s⟩ := a
  simp only at hs hb
  subst hs
  exact ⟨b, o, rfl, hb⟩
theorem add_none (b o k : Nat) : (⟨b, o, none⟩ : Addr).add k = ⟨b, o + k, none⟩ := by
  unfold Addr.add
  split
  · subst_vars; rfl
  · rfl
section
variable {H : Type} {enc : TypeId × Value → H} {w : World}
theorem str_at {n : Nat} {v : Value} {y : DataW H × List MemPlace} (h : DataW.trod enc Tryz.prog w 0 (fun _ => true) true n 9 [v] = some y) : ∃ s : ByteArray, v = .string s ∧ y.1 = .lit (.string s.data.toList) := by
  obtain ⟨s, hs, rfl, _⟩ := DataW.trod_string Tryz.underlying9 h
  exact ⟨s, by simpa using hs, rfl⟩
theorem size_at {s : ByteArray} {y : DataW H} (hy : y = .lit (.string s.data.toList)) (hz : ∀ m ∈ y.weights Tryz.prog 9, m ≤ reachBytes) : s.size ≤ 140737488351232 := by
  subst hy
  have := hz s.data.toList.length (by simp [DataW.weights])
  rw [By.len_size] at this
  exact this
theorem attrs_at {n : Nat} {v : Value} {y : DataW H × List MemPlace} (h : DataW.trod enc Tryz.prog w 0 (fun _ => true) true n 27 [v] = some y) (hz : ∀ m ∈ y.1.weights Tryz.prog 27, m ≤ reachBytes) :
    ∃ (aA : Option Addr) (l : List (ByteArray × ByteArray)) (cA : Nat), v = .slice aA l.length cA ∧ (l.length ≤ cA ∧ cA ≤ maxLen) ∧ l.length ≤ 140737488351232 ∧ (∀ a ∈ l, a.1.size ≤ 140737488351232 ∧ a.2.size ≤ 140737488351232) ∧ AtIn w.heap.size w aA l := by
  rcases Go.Deep.open_slice Tryz.underlying27 h with ⟨hcs, rfl⟩ | ⟨a, len, cap, m, k, D, Pl, hcs, _, hl, hm, hmm, rfl, hi⟩
  · obtain rfl : v = .slice none 0 0 := by simpa using hcs
    exact ⟨none, [], 0, rfl, ⟨by decide, by decide⟩, by decide, fun a h => (by cases h), fun i h => (by cases h)⟩
  · obtain rfl : v = .slice (some a) len cap := by simpa using hcs
    have hmm2 : m = cap := by simpa using hmm
    subst hmm2
    clear hmm hcs
    have hel : ∀ i, ∃ p : ByteArray × ByteArray, i < len → (D i = .agg [.lit (.string p.1.data.toList), .lit (.string p.2.data.toList)] ∧ w.cell? (a.add (i * 2)) = some (.string p.1) ∧ w.cell? ((a.add (i * 2)).add 1) = some (.string p.2)) := by
      intro i
      by_cases hil : i < len
      · obtain ⟨cs', hc, ht⟩ := hi i (by omega)
        rw [c53o] at hc
        obtain ⟨_, hlen, hcell⟩ := World.cells?_some hc
        obtain ⟨u0, u1, rfl⟩ := len2 hlen
        obtain ⟨xs, k', _, hx, _, hxl, hf⟩ := DataW.trod_struct Tryz.underlying49 ht
        obtain ⟨y0, y1, rfl⟩ := len2 hxl
        have f0 : DataW.trod enc Tryz.prog w 0 (fun _ => true) true k' 9 (List.take (Tryz.prog.cellsOf 9) [u0, u1]) = some y0 := hf 0 _ rfl
        have f1 : DataW.trod enc Tryz.prog w 0 (fun _ => true) true k' 9 (List.take (Tryz.prog.cellsOf 9) [u1]) = some y1 := hf 1 _ rfl
        rw [c9o] at f0
        rw [c9o] at f1
        have f0 : DataW.trod enc Tryz.prog w 0 (fun _ => true) true k' 9 [u0] = some y0 := f0
        have f1 : DataW.trod enc Tryz.prog w 0 (fun _ => true) true k' 9 [u1] = some y1 := f1
        obtain ⟨s0, rfl, e0⟩ := str_at f0
        obtain ⟨s1, rfl, e1⟩ := str_at f1
        simp only [Prod.mk.injEq] at hx
        have h0 := hcell 0 (by decide)
        have h1 := hcell 1 (by decide)
        refine ⟨(s0, s1), fun _ => ⟨?_, by simpa [Addr.add] using h0, by simpa using h1⟩⟩
        rw [hx.1]
        simp [e0, e1]
      · exact ⟨(⟨#[]⟩, ⟨#[]⟩), fun h => absurd h hil⟩
    obtain ⟨p, hp⟩ := Classical.skolem.1 hel
    have hzw : ∀ m', m' ∈ DataW.weights Tryz.prog 27 (DataW.slice ((List.range len).map D) ((List.range (m - len)).map fun j => D (len + j))) → m' ≤ reachBytes := hz
    simp only [DataW.weights, Tryz.underlying27, b53o] at hzw
    have hlz := hzw _ List.mem_cons_self
    simp only [List.length_map, List.length_range] at hlz
    unfold reachBytes at hlz
    have hel2 : ∀ i, i < len → ∀ m', m' ∈ (D i).weights Tryz.prog 49 → m' ≤ reachBytes := fun i hil m' hm' =>
      hzw m' (List.mem_cons_of_mem _ (List.mem_append_left _ (mem_all (List.mem_map.2 ⟨i, by simpa using hil, rfl⟩) hm')))
    refine ⟨some a, (List.range len).map p, m, by simp, ⟨by simpa using hl, hm⟩, by simp; omega, ?_, ?_⟩
    · intro q hq
      obtain ⟨i, hir, rfl⟩ := List.mem_map.1 hq
      have hil : i < len := by simpa using hir
      have hw := hel2 i hil
      rw [(hp i hil).1] at hw
      simp only [DataW.weights, Tryz.underlying49, DataW.weightsEach, List.map_cons, List.map_nil, List.append_nil, List.mem_append, List.mem_singleton] at hw
      constructor
      · have := hw _ (.inl rfl)
        rw [By.len_size] at this
        exact this
      · have := hw _ (.inr rfl)
        rw [By.len_size] at this
        exact this
    · intro i hi2
      have hil : i < len := by simpa using hi2
      obtain ⟨_, c0, c1⟩ := hp i hil
      have ha : ∃ b o, a = ⟨b, o, none⟩ ∧ b < w.heap.size := by
        have h0 := (hp 0 (by omega)).2.1
        rw [Nat.zero_mul] at h0
        exact addr_at (by simpa [Addr.add] using h0)
      obtain ⟨b, o, rfl, hb⟩ := ha
      refine ⟨b, o, rfl, hb, ?_, ?_⟩
      · rw [add_none] at c0
        simpa using c0
      · rw [add_none, add_none] at c1
        simpa using c1
theorem open_elem : ∀ (n : Nat) (cs : List Value) (y : DataW H × List MemPlace), DataW.trod enc Tryz.prog w 0 (fun _ => true) true n 29 cs = some y → (∀ m ∈ y.1.weights Tryz.prog 29, m ≤ reachBytes) → ∃ e, In w.heap.size w e (.agg ⟨cs⟩) := by
  intro n
  induction n using Nat.strongRecOn with
  | _ n ih =>
    intro cs y h hz
    obtain ⟨xs, k, hk, rfl, hcl, hxl, hf⟩ := DataW.trod_struct Tryz.underlying29 h
    rw [c25o] at hcl
    obtain ⟨v0, v1, v2, v3, v4, rfl⟩ := len5 hcl
    obtain ⟨y0, y1, y2, y3, y4, rfl⟩ := len5 hxl
    have f0 : DataW.trod enc Tryz.prog w 0 (fun _ => true) true k 9 (List.take (Tryz.prog.cellsOf 9) [v0, v1, v2, v3, v4]) = some y0 := hf 0 _ rfl
    have f1 : DataW.trod enc Tryz.prog w 0 (fun _ => true) true k 9 (List.take (Tryz.prog.cellsOf 9) [v1, v2, v3, v4]) = some y1 := hf 1 _ rfl
    have f2 : DataW.trod enc Tryz.prog w 0 (fun _ => true) true k 27 (List.take (Tryz.prog.cellsOf 27) [v2, v3, v4]) = some y2 := hf 2 _ rfl
    have f3 : DataW.trod enc Tryz.prog w 0 (fun _ => true) true k 9 (List.take (Tryz.prog.cellsOf 9) [v3, v4]) = some y3 := hf 3 _ rfl
    have f4 : DataW.trod enc Tryz.prog w 0 (fun _ => true) true k 24 (List.take (Tryz.prog.cellsOf 24) [v4]) = some y4 := hf 4 _ rfl
    rw [c9o] at f0
    rw [c9o] at f1
    rw [c22o] at f2
    rw [c9o] at f3
    rw [c23o] at f4
    have f0 : DataW.trod enc Tryz.prog w 0 (fun _ => true) true k 9 [v0] = some y0 := f0
    have f1 : DataW.trod enc Tryz.prog w 0 (fun _ => true) true k 9 [v1] = some y1 := f1
    have f2 : DataW.trod enc Tryz.prog w 0 (fun _ => true) true k 27 [v2] = some y2 := f2
    have f3 : DataW.trod enc Tryz.prog w 0 (fun _ => true) true k 9 [v3] = some y3 := f3
    have f4 : DataW.trod enc Tryz.prog w 0 (fun _ => true) true k 24 [v4] = some y4 := f4
    simp only [DataW.weights, Tryz.underlying29, DataW.weightsEach, List.map_cons, List.map_nil, List.append_nil, List.mem_append] at hz
    have z0 : ∀ m ∈ y0.1.weights Tryz.prog 9, m ≤ reachBytes := fun m hm => hz m (.inl hm)
    have z1 : ∀ m ∈ y1.1.weights Tryz.prog 9, m ≤ reachBytes := fun m hm => hz m (.inr (.inl hm))
    have z2 : ∀ m ∈ y2.1.weights Tryz.prog 27, m ≤ reachBytes := fun m hm => hz m (.inr (.inr (.inl hm)))
    have z3 : ∀ m ∈ y3.1.weights Tryz.prog 9, m ≤ reachBytes := fun m hm => hz m (.inr (.inr (.inr (.inl hm))))
    have z4 : ∀ m ∈ y4.1.weights Tryz.prog 24, m ≤ reachBytes := fun m hm => hz m (.inr (.inr (.inr (.inr hm))))
    clear hz hf
    obtain ⟨s0, rfl, e0⟩ := str_at f0
    obtain ⟨s1, rfl, e1⟩ := str_at f1
    obtain ⟨s3, rfl, e3⟩ := str_at f3
    have g0 := size_at e0 z0
    have g1 := size_at e1 z1
    have g3 := size_at e3 z3
    obtain ⟨aA, l, cA, rfl, hcA, hll, hls, hat⟩ := attrs_at f2 z2
    rcases DataW.trod_slice Tryz.underlying24 f4 with ⟨hcs, hy⟩ | ⟨a, len, cap, elems, rest, n', hk2, hcs, hy, _, hl, hm, hlen, hel, _, _⟩
    · obtain rfl : v4 = .slice none 0 0 := by simpa using hcs
      exact ⟨.mk s0 s1 l s3 [], .mk s0 s1 l s3 [] aA cA none 0 (fun _ _ => .bool false) ⟨⟨g0, g1, g3, hll⟩, hls⟩ hcA (by decide) hat (fun i h => by cases h) (fun i h => by cases h)⟩
    · obtain rfl : v4 = .slice (some a) len cap := by simpa using hcs
      subst hlen
      rw [hy] at z4
      simp only [DataW.weights, Tryz.underlying24] at z4
      have hE : ∀ i, ∃ p : El × (Nat → Value), i < elems.length → (In w.heap.size w p.1 (.agg #[p.2 0, p.2 1, p.2 2, p.2 3, p.2 4]) ∧ ∀ j, j < 5 → w.cell? ((a.add (i * 5)).add j) = some (p.2 j)) := by
        intro i
        by_cases hil : i < elems.length
        · have h1 := hel i hil
          rw [c25o, List.getElem?_eq_getElem hil] at h1
          obtain ⟨cs', hc, ht⟩ := Option.bind_eq_some_iff.1 h1
          obtain ⟨e, he⟩ := ih n' (by omega) cs' elems[i] ht (fun m hm => z4 m (List.mem_cons_of_mem _ (List.mem_append_left _ (mem_all (List.mem_map.2 ⟨_, List.getElem_mem hil, rfl⟩) hm))))
          obtain ⟨_, hl5, hcell⟩ := World.cells?_some hc
          obtain ⟨u0, u1, u2, u3, u4, rfl⟩ := len5 hl5
          refine ⟨(e, fun j => match j with | 0 => u0 | 1 => u1 | 2 => u2 | 3 => u3 | _ => u4), fun _ => ⟨he, fun j hj => ?_⟩⟩
          rw [hcell j hj]
          match j, hj with
          | 0, _ => rfl
          | 1, _ => rfl
          | 2, _ => rfl
          | 3, _ => rfl
          | 4, _ => rfl
        · exact ⟨(.mk s0 s1 l s3 [], fun _ => .bool false), fun h => absurd h hil⟩
      obtain ⟨p, hp⟩ := Classical.skolem.1 hE
      have hlen2 : ((List.range elems.length).map fun i => (p i).1).length = elems.length := by simp
      refine ⟨.mk s0 s1 l s3 ((List.range elems.length).map fun i => (p i).1), ?_⟩
      have := In.mk s0 s1 l s3 ((List.range elems.length).map fun i => (p i).1) aA cA (some a) cap (fun i j => (p i).2 j) (B := w.heap.size) (w := w) ⟨⟨g0, g1, g3, hll⟩, hls⟩ hcA (by rw [hlen2]; omega) hat
        (fun i hi => ?_) (fun i hi => ?_)
      · rwa [hlen2] at this
      · rw [hlen2] at hi
        have h0 := (hp i hi).2
        have ha : ∃ b o, a = ⟨b, o, none⟩ ∧ b < w.heap.size := by
          have h1 := (hp 0 (by omega)).2 0 (by decide)
          rw [Nat.zero_mul] at h1
          exact addr_at (by simpa [Addr.add] using h1)
        obtain ⟨b, o, rfl, hb⟩ := ha
        have q0 := h0 0 (by decide)
        have q1 := h0 1 (by decide)
        have q2 := h0 2 (by decide)
        have q3 := h0 3 (by decide)
        have q4 := h0 4 (by decide)
        rw [add_none, add_none] at q0 q1 q2 q3 q4
        exact ⟨b, o, rfl, hb, by simpa using q0, q1, q2, q3, q4⟩
      · rw [hlen2] at hi
        simpa using (hp i hi).1
end
end Go.Proofs.YtccpdfcmhggleaaGreatDoor
