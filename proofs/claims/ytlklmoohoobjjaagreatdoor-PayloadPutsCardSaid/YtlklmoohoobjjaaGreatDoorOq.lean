/- Arguments opened: an ask, an address, a slice of entries. Condition: the datum's sizes are within the reach. -/
import Derived.Test.YtlklmoohoobjjaaGreatDoorPv
import Derived.Deep.Slices
import Derived.SizedLaws
import Derived.OpenShut
namespace Go.Proofs.YtlklmoohoobjjaaGreatDoor
open Go.RowKit Go.Lib Tg Go.ChangeShapes Go.WideShapes

theorem mem_all {H : Type} {P : Program} {e : TypeId} : ∀ {l : List (DataW H)} {d : DataW H} {m : Nat}, d ∈ l → m ∈ d.weights P e → m ∈ DataW.weightsAll P e l
  | [], _, _, h, _ => by cases h
  | x :: l, d, m, h, hm => by
    rw [DataW.weightsAll]
    rcases List.mem_cons.1 h with rfl | h
    · exact List.mem_append_left _ hm
    · exact List.mem_append_right _ (mem_all h hm)
theorem c9o : Tryz.prog.cellsOf 9 = 1 := by kernel_rfl
theorem cIo : Tryz.prog.cellsOf 3 = 1 := by kernel_rfl
theorem cJo : Tryz.prog.cellsOf 25 = 3 := by kernel_rfl
theorem cKo : Tryz.prog.cellsOf 23 = 4 := by kernel_rfl
theorem cEo : Tryz.prog.cellsOf 48 = 6 := by kernel_rfl
theorem bEo : Tryz.prog.bytesOf 48 = 88 := by kernel_rfl
theorem len3 {α : Type} {l : List α} (h : l.length = 3) : ∃ a b c, l = [a, b, c] := by
  match l, h with
  | [a, b, c], _ => exact ⟨a, b, c, rfl⟩
theorem len4 {α : Type} {l : List α} (h : l.length = 4) : ∃ a b c d, l = [a, b, c, d] := by
  match l, h with
  | [a, b, c, d], _ => exact ⟨a, b, c, d, rfl⟩
theorem len6 {α : Type} {l : List α} (h : l.length = 6) : ∃ a b c d e f, l = [a, b, c, d, e, f] := by
  match l, h with
  | [a, b, c, d, e, f], _ => exact ⟨a, b, c, d, e, f, rfl⟩
theorem addr_at {w : World} {a : Addr} {v : Value} (h : w.cell? a = some v) : ∃ b o, a = ⟨b, o, none⟩ ∧ b < w.heap.size := by
  have hs := World.cell?_spot h
  have hb := World.block_lt_of_cell? _ _ h
  obtain ⟨b, o, s⟩ := a
  simp only at hs hb
  subst hs
  exact ⟨b, o, rfl, hb⟩
theorem add_none (b o k : Nat) : (⟨b, o, none⟩ : Addr).add k = ⟨b, o + k, none⟩ := by
  unfold Addr.add
  split <;> simp_all
section
variable {H : Type} {enc : TypeId × Value → H} {w : World}
theorem str_at {n : Nat} {v : Value} {y : DataW H × List MemPlace} (h : DataW.trod enc Tryz.prog w 0 (fun _ => true) true n 9 [v] = some y) : ∃ s : ByteArray, v = .string s ∧ y.1 = .lit (.string s.data.toList) := by
  obtain ⟨s, hs, rfl, _⟩ := DataW.trod_string Tryz.underlying9 h
  exact ⟨s, by simpa using hs, rfl⟩
theorem size_at {s : ByteArray} {y : DataW H} (hy : y = .lit (.string s.data.toList)) (hz : ∀ m ∈ y.weights Tryz.prog 9, m ≤ reachBytes) : s.size ≤ 140737488351232 := by
  subst hy
  have := hz s.data.toList.length (by simp [DataW.weights])
  rw [By.len_size] at this
  exact this
theorem int_at {n : Nat} {v : Value} {y : DataW H × List MemPlace} (h : DataW.trod enc Tryz.prog w 0 (fun _ => true) true n 3 [v] = some y) : ∃ x : Int, v = .int .i64 x := by
  obtain ⟨x, hx, _⟩ := DataW.trod_int Tryz.underlying3 h
  exact ⟨x, by simpa using hx⟩
theorem jid_at {n : Nat} {v0 v1 v2 : Value} {y : DataW H × List MemPlace} (h : DataW.trod enc Tryz.prog w 0 (fun _ => true) true n 25 [v0, v1, v2] = some y) (hz : ∀ m ∈ y.1.weights Tryz.prog 25, m ≤ reachBytes) :
    ∃ s0 s1 s2 : ByteArray, v0 = .string s0 ∧ v1 = .string s1 ∧ v2 = .string s2 ∧ s0.size ≤ 140737488351232 ∧ s1.size ≤ 140737488351232 ∧ s2.size ≤ 140737488351232 := by
  obtain ⟨xs, k, hk, rfl, hcl, hxl, hf⟩ := DataW.trod_struct Tryz.underlying25 h
  obtain ⟨y0, y1, y2, rfl⟩ := len3 hxl
  have f0 : DataW.trod enc Tryz.prog w 0 (fun _ => true) true k 9 (List.take (Tryz.prog.cellsOf 9) [v0, v1, v2]) = some y0 := hf 0 _ rfl
  rw [c9o] at f0
  have f0 : DataW.trod enc Tryz.prog w 0 (fun _ => true) true k 9 [v0] = some y0 := f0
  have f1 : DataW.trod enc Tryz.prog w 0 (fun _ => true) true k 9 (List.take (Tryz.prog.cellsOf 9) [v1, v2]) = some y1 := hf 1 _ rfl
  rw [c9o] at f1
  have f1 : DataW.trod enc Tryz.prog w 0 (fun _ => true) true k 9 [v1] = some y1 := f1
  have f2 : DataW.trod enc Tryz.prog w 0 (fun _ => true) true k 9 (List.take (Tryz.prog.cellsOf 9) [v2]) = some y2 := hf 2 _ rfl
  rw [c9o] at f2
  have f2 : DataW.trod enc Tryz.prog w 0 (fun _ => true) true k 9 [v2] = some y2 := f2
  simp only [DataW.weights, Tryz.underlying25, DataW.weightsEach, List.map_cons, List.map_nil, List.append_nil, List.mem_append] at hz
  have z0 : ∀ m ∈ y0.1.weights Tryz.prog 9, m ≤ reachBytes := fun m hm => hz m (.inl hm)
  have z1 : ∀ m ∈ y1.1.weights Tryz.prog 9, m ≤ reachBytes := fun m hm => hz m (.inr (.inl hm))
  have z2 : ∀ m ∈ y2.1.weights Tryz.prog 9, m ≤ reachBytes := fun m hm => hz m (.inr (.inr hm))
  obtain ⟨s0, rfl, e0⟩ := str_at f0
  obtain ⟨s1, rfl, e1⟩ := str_at f1
  obtain ⟨s2, rfl, e2⟩ := str_at f2
  exact ⟨s0, s1, s2, rfl, rfl, rfl, size_at e0 z0, size_at e1 z1, size_at e2 z2⟩
theorem open_jid {n : Nat} {cs : List Value} {y : DataW H × List MemPlace} (h : DataW.trod enc Tryz.prog w 0 (fun _ => true) true n 25 cs = some y) (hz : ∀ m ∈ y.1.weights Tryz.prog 25, m ≤ reachBytes) :
    ∃ s0 s1 s2 : ByteArray, cs = [.string s0, .string s1, .string s2] ∧ s0.size ≤ 140737488351232 ∧ s1.size ≤ 140737488351232 ∧ s2.size ≤ 140737488351232 := by
  have h' := h
  obtain ⟨xs, k, hk, rfl, hcl, hxl, hf⟩ := DataW.trod_struct Tryz.underlying25 h'
  rw [cJo] at hcl
  obtain ⟨v0, v1, v2, rfl⟩ := len3 hcl
  obtain ⟨s0, s1, s2, rfl, rfl, rfl, q1, q2, q3⟩ := jid_at h hz
  exact ⟨s0, s1, s2, rfl, q1, q2, q3⟩
/-- An ask that came in. -/
theorem open_ask {n : Nat} {cs : List Value} {y : DataW H × List MemPlace} (h : DataW.trod enc Tryz.prog w 0 (fun _ => true) true n 23 cs = some y) (hz : ∀ m ∈ y.1.weights Tryz.prog 23, m ≤ reachBytes) :
    ∃ (x : Int) (s1 s2 s3 : ByteArray), cs = [.int .i64 x, .string s1, .string s2, .string s3] ∧ s1.size ≤ 140737488351232 ∧ s2.size ≤ 140737488351232 ∧ s3.size ≤ 140737488351232 := by
  obtain ⟨xs, k, hk, rfl, hcl, hxl, hf⟩ := DataW.trod_struct Tryz.underlying23 h
  rw [cKo] at hcl
  obtain ⟨v0, v1, v2, v3, rfl⟩ := len4 hcl
  obtain ⟨y0, y1, y2, y3, rfl⟩ := len4 hxl
  have f0 : DataW.trod enc Tryz.prog w 0 (fun _ => true) true k 3 (List.take (Tryz.prog.cellsOf 3) [v0, v1, v2, v3]) = some y0 := hf 0 _ rfl
  rw [cIo] at f0
  have f0 : DataW.trod enc Tryz.prog w 0 (fun _ => true) true k 3 [v0] = some y0 := f0
  have f1 : DataW.trod enc Tryz.prog w 0 (fun _ => true) true k 9 (List.take (Tryz.prog.cellsOf 9) [v1, v2, v3]) = some y1 := hf 1 _ rfl
  rw [c9o] at f1
  have f1 : DataW.trod enc Tryz.prog w 0 (fun _ => true) true k 9 [v1] = some y1 := f1
  have f2 : DataW.trod enc Tryz.prog w 0 (fun _ => true) true k 9 (List.take (Tryz.prog.cellsOf 9) [v2, v3]) = some y2 := hf 2 _ rfl
  rw [c9o] at f2
  have f2 : DataW.trod enc Tryz.prog w 0 (fun _ => true) true k 9 [v2] = some y2 := f2
  have f3 : DataW.trod enc Tryz.prog w 0 (fun _ => true) true k 9 (List.take (Tryz.prog.cellsOf 9) [v3]) = some y3 := hf 3 _ rfl
  rw [c9o] at f3
  have f3 : DataW.trod enc Tryz.prog w 0 (fun _ => true) true k 9 [v3] = some y3 := f3
  simp only [DataW.weights, Tryz.underlying23, DataW.weightsEach, List.map_cons, List.map_nil, List.append_nil, List.mem_append] at hz
  have z1 : ∀ m ∈ y1.1.weights Tryz.prog 9, m ≤ reachBytes := fun m hm => hz m (.inr (.inl hm))
  have z2 : ∀ m ∈ y2.1.weights Tryz.prog 9, m ≤ reachBytes := fun m hm => hz m (.inr (.inr (.inl hm)))
  have z3 : ∀ m ∈ y3.1.weights Tryz.prog 9, m ≤ reachBytes := fun m hm => hz m (.inr (.inr (.inr hm)))
  obtain ⟨x0, rfl⟩ := int_at f0
  obtain ⟨s1, rfl, e1⟩ := str_at f1
  obtain ⟨s2, rfl, e2⟩ := str_at f2
  obtain ⟨s3, rfl, e3⟩ := str_at f3
  exact ⟨x0, s1, s2, s3, rfl, size_at e1 z1, size_at e2 z2, size_at e3 z3⟩
theorem open_en {n : Nat} {cs : List Value} {y : DataW H × List MemPlace} (h : DataW.trod enc Tryz.prog w 0 (fun _ => true) true n 48 cs = some y) : ∃ e : En, cs = e.cells.toList ∧ ((∀ m ∈ y.1.weights Tryz.prog 48, m ≤ reachBytes) → e.Rz) := by
  obtain ⟨xs, k, hk, rfl, hcl, hxl, hf⟩ := DataW.trod_struct Tryz.underlying48 h
  rw [cEo] at hcl
  obtain ⟨v0, v1, v2, v3, v4, v5, rfl⟩ := len6 hcl
  obtain ⟨y0, y1, y2, y3, rfl⟩ := len4 hxl
  have f0 : DataW.trod enc Tryz.prog w 0 (fun _ => true) true k 3 (List.take (Tryz.prog.cellsOf 3) [v0, v1, v2, v3, v4, v5]) = some y0 := hf 0 _ rfl
  rw [cIo] at f0
  have f0 : DataW.trod enc Tryz.prog w 0 (fun _ => true) true k 3 [v0] = some y0 := f0
  have f1 : DataW.trod enc Tryz.prog w 0 (fun _ => true) true k 25 (List.take (Tryz.prog.cellsOf 25) [v1, v2, v3, v4, v5]) = some y1 := hf 1 _ rfl
  rw [cJo] at f1
  have f1 : DataW.trod enc Tryz.prog w 0 (fun _ => true) true k 25 [v1, v2, v3] = some y1 := f1
  have f2 : DataW.trod enc Tryz.prog w 0 (fun _ => true) true k 9 (List.take (Tryz.prog.cellsOf 9) [v4, v5]) = some y2 := hf 2 _ rfl
  rw [c9o] at f2
  have f2 : DataW.trod enc Tryz.prog w 0 (fun _ => true) true k 9 [v4] = some y2 := f2
  have f3 : DataW.trod enc Tryz.prog w 0 (fun _ => true) true k 9 (List.take (Tryz.prog.cellsOf 9) [v5]) = some y3 := hf 3 _ rfl
  rw [c9o] at f3
  have f3 : DataW.trod enc Tryz.prog w 0 (fun _ => true) true k 9 [v5] = some y3 := f3
  obtain ⟨x0, rfl⟩ := int_at f0
  obtain ⟨s2, rfl, e2⟩ := str_at f2
  obtain ⟨s3, rfl, e3⟩ := str_at f3
  have hj : ∃ t0 t1 t2 : ByteArray, v1 = .string t0 ∧ v2 = .string t1 ∧ v3 = .string t2 ∧ ((∀ m ∈ y1.1.weights Tryz.prog 25, m ≤ reachBytes) → t0.size ≤ 140737488351232 ∧ t1.size ≤ 140737488351232 ∧ t2.size ≤ 140737488351232) := by
    obtain ⟨xs, k, hk, rfl, hcl, hxl, hf⟩ := DataW.trod_struct Tryz.underlying25 f1
    obtain ⟨y0, y1, y2, rfl⟩ := len3 hxl
    clear f1
    have j0 : DataW.trod enc Tryz.prog w 0 (fun _ => true) true k 9 (List.take (Tryz.prog.cellsOf 9) [v1, v2, v3]) = some y0 := hf 0 _ rfl
    rw [c9o] at j0
    have j0 : DataW.trod enc Tryz.prog w 0 (fun _ => true) true k 9 [v1] = some y0 := j0
    have j1 : DataW.trod enc Tryz.prog w 0 (fun _ => true) true k 9 (List.take (Tryz.prog.cellsOf 9) [v2, v3]) = some y1 := hf 1 _ rfl
    rw [c9o] at j1
    have j1 : DataW.trod enc Tryz.prog w 0 (fun _ => true) true k 9 [v2] = some y1 := j1
    have j2 : DataW.trod enc Tryz.prog w 0 (fun _ => true) true k 9 (List.take (Tryz.prog.cellsOf 9) [v3]) = some y2 := hf 2 _ rfl
    rw [c9o] at j2
    have j2 : DataW.trod enc Tryz.prog w 0 (fun _ => true) true k 9 [v3] = some y2 := j2
    obtain ⟨t0, rfl, e0⟩ := str_at j0
    obtain ⟨t1, rfl, e1⟩ := str_at j1
    obtain ⟨t2, rfl, e2⟩ := str_at j2
    refine ⟨t0, t1, t2, rfl, rfl, rfl, fun hz => ?_⟩
    simp only [DataW.weights, Tryz.underlying25, DataW.weightsEach, List.map_cons, List.map_nil, List.append_nil, List.mem_append] at hz
    exact ⟨size_at e0 fun m hm => hz m (.inl hm), size_at e1 fun m hm => hz m (.inr (.inl hm)), size_at e2 fun m hm => hz m (.inr (.inr hm))⟩
  obtain ⟨t0, t1, t2, rfl, rfl, rfl, hj⟩ := hj
  refine ⟨⟨x0, t0, t1, t2, s2, s3⟩, rfl, fun hz => ?_⟩
  simp only [DataW.weights, Tryz.underlying48, DataW.weightsEach, List.map_cons, List.map_nil, List.append_nil, List.mem_append] at hz
  obtain ⟨q0, q1, q2⟩ := hj fun m hm => hz m (.inr (.inl hm))
  exact ⟨q0, q1, q2, size_at e2 fun m hm => hz m (.inr (.inr (.inl hm))), size_at e3 fun m hm => hz m (.inr (.inr (.inr hm)))⟩
/-- A slice of entries that came in. -/
theorem open_entries {n : Nat} {v : Value} {y : DataW H × List MemPlace} (h : DataW.trod enc Tryz.prog w 0 (fun _ => true) true n 40 [v] = some y) (hz : ∀ m ∈ y.1.weights Tryz.prog 40, m ≤ reachBytes) :
    ∃ (aL : Option Addr) (l : List En) (cL : Nat), v = .slice aL l.length cL ∧ l.length ≤ maxLen ∧ (∀ e ∈ l, e.Rz) ∧ EnS (fun _ => True) w aL l := by
  rcases Go.Deep.open_slice Tryz.underlying40 h with ⟨hcs, rfl⟩ | ⟨a, len, cap, m, k, D, Pl, hcs, _, hl, hm, hmm, rfl, hi⟩
  · obtain rfl : v = .slice none 0 0 := by simpa using hcs
    exact ⟨none, [], 0, rfl, by decide, fun a h => (by cases h), fun i h => (by cases h)⟩
  · obtain rfl : v = .slice (some a) len cap := by simpa using hcs
    have hmm2 : m = cap := by simpa using hmm
    subst hmm2
    clear hmm hcs
    have hel : ∀ i, ∃ p : En, i < len → (((∀ m' ∈ (D i).weights Tryz.prog 48, m' ≤ reachBytes) → p.Rz) ∧ ∀ j, j < 6 → w.cell? ((a.add (i * 6)).add j) = p.cells.toList[j]?) := by
      intro i
      by_cases hil : i < len
      · obtain ⟨cs', hc, ht⟩ := hi i (by omega)
        rw [cEo] at hc
        obtain ⟨_, hlen, hcell⟩ := World.cells?_some hc
        obtain ⟨e, he, hr⟩ := open_en ht
        refine ⟨e, fun _ => ⟨hr, fun j hj => ?_⟩⟩
        have := hcell j hj
        rw [this, he]
      · exact ⟨⟨0, ⟨#[]⟩, ⟨#[]⟩, ⟨#[]⟩, ⟨#[]⟩, ⟨#[]⟩⟩, fun h => absurd h hil⟩
    obtain ⟨p, hp⟩ := Classical.skolem.1 hel
    have hzw : ∀ m', m' ∈ DataW.weights Tryz.prog 40 (DataW.slice ((List.range len).map D) ((List.range (m - len)).map fun j => D (len + j))) → m' ≤ reachBytes := hz
    simp only [DataW.weights, Tryz.underlying40, bEo] at hzw
    have hel2 : ∀ i, i < len → ∀ m', m' ∈ (D i).weights Tryz.prog 48 → m' ≤ reachBytes := fun i hil m' hm' =>
      hzw m' (List.mem_cons_of_mem _ (List.mem_append_left _ (mem_all (List.mem_map.2 ⟨i, by simpa using hil, rfl⟩) hm')))
    refine ⟨some a, (List.range len).map p, m, by simp, by simp; omega, ?_, ?_⟩
    · intro q hq
      obtain ⟨i, hir, rfl⟩ := List.mem_map.1 hq
      have hil : i < len := by simpa using hir
      exact (hp i hil).1 (hel2 i hil)
    · intro i hi2
      have hil : i < len := by simpa using hi2
      have hc := (hp i hil).2
      have ha : ∃ b o, a = ⟨b, o, none⟩ ∧ b < w.heap.size := by
        have h0 := (hp 0 (by omega)).2 0 (by decide)
        rw [Nat.zero_mul] at h0
        exact addr_at (v := .int .i64 (p 0).k) (by simpa [Addr.add] using h0)
      obtain ⟨b, o, rfl, hb⟩ := ha
      refine ⟨b, o, rfl, trivial, ?_⟩
      have e : ((List.range len).map p)[i] = p i := by simp
      rw [e]
      have hc2 : ∀ j, j < 6 → w.cell? ⟨b, o + i * 6 + j, none⟩ = (p i).cells.toList[j]? := fun j hj => by
        have := hc j hj
        rw [add_none, add_none] at this
        exact this
      exact ⟨hc2 0 (by decide), hc2 1 (by decide), hc2 2 (by decide), hc2 3 (by decide), hc2 4 (by decide), hc2 5 (by decide)⟩
end
end Go.Proofs.YtlklmoohoobjjaaGreatDoor
