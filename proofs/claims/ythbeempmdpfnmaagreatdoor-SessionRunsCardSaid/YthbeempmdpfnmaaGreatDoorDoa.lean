/- A slice of acts that came in. No condition beyond the theorems' heads. -/
import Derived.Test.YthbeempmdpfnmaaGreatDoorDoor
import Derived.Test.YthbeempmdpfnmaaGreatDoorL5
namespace Go.Proofs.YthbeempmdpfnmaaGreatDoor.T
open Go.ChangeShapes Go.WideShapes Go.ChangeAt Go.RowKit Go.Lib

theorem cAc : Tryz.prog.cellsOf 44 = 13 := by kernel_rfl
theorem bAc : Tryz.prog.bytesOf 44 = 160 := by kernel_rfl
theorem len13 {α : Type} {l : List α} (h : l.length = 13) : ∃ a b c d e f g i j k m n o, l = [a, b, c, d, e, f, g, i, j, k, m, n, o] := by
  match l, h with
  | [a, b, c, d, e, f, g, i, j, k, m, n, o], _ => exact ⟨a, b, c, d, e, f, g, i, j, k, m, n, o, rfl⟩
theorem len3 {α : Type} {l : List α} (h : l.length = 3) : ∃ a b c, l = [a, b, c] := by
  match l, h with
  | [a, b, c], _ => exact ⟨a, b, c, rfl⟩
def Ac.cells (a : Ac) (ai az : Option Addr) (ci cz : Nat) : List Value := [.int .i64 a.k, .int .i64 a.n.k, .string a.n.n, .string a.n.x, .string a.n.d, .int .i64 a.n.c, .int .i64 a.n.s, .int .i64 a.n.e, .int .i64 a.n.t, .bool a.n.o, .slice ai a.n.l.length ci, .slice az a.n.z.length cz, .int .i64 a.c]
section
variable {H : Type} {enc : TypeId × Value → H} {w : World}
theorem open_ac {n : Nat} {cs : List Value} {y : DataW H × List MemPlace} (h : DataW.trod enc Tryz.prog w 0 (fun _ => true) true n 44 cs = some y) (hz : ∀ m ∈ y.1.weights Tryz.prog 44, m ≤ reachBytes) : ∃ (a : Ac) (ai az : Option Addr) (ci cz : Nat), cs = a.cells ai az ci cz ∧ NtR w ai az a.n := by
  obtain ⟨xs, k, hk, rfl, hcl, hxl, hf⟩ := DataW.trod_struct Tryz.underlying44 h
  rw [cAc] at hcl
  obtain ⟨v0, v1, v2, v3, v4, v5, v6, v7, v8, v9, v10, v11, v12, rfl⟩ := len13 hcl
  obtain ⟨y0, y1, y2, rfl⟩ := len3 hxl
  have f0 : DataW.trod enc Tryz.prog w 0 (fun _ => true) true k 3 (List.take (Tryz.prog.cellsOf 3) [v0, v1, v2, v3, v4, v5, v6, v7, v8, v9, v10, v11, v12]) = some y0 := hf 0 _ rfl
  rw [cIo] at f0
  have f0 : DataW.trod enc Tryz.prog w 0 (fun _ => true) true k 3 [v0] = some y0 := f0
  have f1 : DataW.trod enc Tryz.prog w 0 (fun _ => true) true k 42 (List.take (Tryz.prog.cellsOf 42) [v1, v2, v3, v4, v5, v6, v7, v8, v9, v10, v11, v12]) = some y1 := hf 1 _ rfl
  rw [cNo] at f1
  have f1 : DataW.trod enc Tryz.prog w 0 (fun _ => true) true k 42 [v1, v2, v3, v4, v5, v6, v7, v8, v9, v10, v11] = some y1 := f1
  have f2 : DataW.trod enc Tryz.prog w 0 (fun _ => true) true k 3 (List.take (Tryz.prog.cellsOf 3) [v12]) = some y2 := by
    have h2 := hf 2 _ rfl
    simpa [cIo, cNo] using h2
  rw [cIo] at f2
  have f2 : DataW.trod enc Tryz.prog w 0 (fun _ => true) true k 3 [v12] = some y2 := f2
  obtain ⟨x0, rfl⟩ := int_at f0
  obtain ⟨x2, rfl⟩ := int_at f2
  simp only [DataW.weights, Tryz.underlying44, DataW.weightsEach, List.map_cons, List.map_nil, List.append_nil, List.mem_append] at hz
  obtain ⟨t, ai, az, ci, cz, hcs, hR⟩ := open_nt f1 fun m hm => hz m (.inr (.inl hm))
  cases hcs
  exact ⟨⟨x0, t, x2⟩, ai, az, ci, cz, rfl, hR⟩
theorem open_acts {n : Nat} {v : Value} {y : DataW H × List MemPlace} (h : DataW.trod enc Tryz.prog w 0 (fun _ => true) true n 24 [v] = some y) (hz : ∀ m ∈ y.1.weights Tryz.prog 24, m ≤ reachBytes) :
    ∃ (aL : Option Addr) (l : List Ac) (cL : Nat), v = .slice aL l.length cL ∧ l.length ≤ 140737488351232 ∧ AcS w aL l := by
  rcases Go.Deep.open_slice Tryz.underlying24 h with ⟨hcs, rfl⟩ | ⟨a, len, cap, m, k, D, Pl, hcs, _, hl, hm, hmm, rfl, hi⟩
  · obtain rfl : v = .slice none 0 0 := by simpa using hcs
    exact ⟨none, [], 0, rfl, Nat.zero_le _, fun i h => (by cases h)⟩
  · obtain rfl : v = .slice (some a) len cap := by simpa using hcs
    have hmm2 : m = cap := by simpa using hmm
    subst hmm2
    clear hmm hcs
    have hzw : ∀ m', m' ∈ DataW.weights Tryz.prog 24 (DataW.slice ((List.range len).map D) ((List.range (m - len)).map fun j => D (len + j))) → m' ≤ reachBytes := hz
    simp only [DataW.weights, Tryz.underlying24, bAc] at hzw
    have hlz := hzw _ List.mem_cons_self
    simp only [List.length_map, List.length_range] at hlz
    unfold reachBytes at hlz
    have hel2 : ∀ i, i < len → ∀ m', m' ∈ (D i).weights Tryz.prog 44 → m' ≤ reachBytes := fun i hil m' hm' =>
      hzw m' (List.mem_cons_of_mem _ (List.mem_append_left _ (mem_all (List.mem_map.2 ⟨i, by simpa using hil, rfl⟩) hm')))
    have hel : ∀ i, ∃ q : Ac × Option Addr × Option Addr × Nat × Nat, i < len → (NtR w q.2.1 q.2.2.1 q.1.n ∧ ∀ j, j < 13 → w.cell? ((a.add (i * 13)).add j) = (q.1.cells q.2.1 q.2.2.1 q.2.2.2.1 q.2.2.2.2)[j]?) := by
      intro i
      by_cases hil : i < len
      · obtain ⟨cs', hc, ht⟩ := hi i (by omega)
        rw [cAc] at hc
        obtain ⟨_, hlen, hcell⟩ := World.cells?_some hc
        obtain ⟨e, ai, az, ci, cz, he, hr⟩ := open_ac ht (hel2 i hil)
        refine ⟨⟨e, ai, az, ci, cz⟩, fun _ => ⟨hr, fun j hj => ?_⟩⟩
        have := hcell j hj
        rw [this, he]
      · exact ⟨⟨⟨0, nK 0, 0⟩, none, none, 0, 0⟩, fun h => absurd h hil⟩
    obtain ⟨p, hp⟩ := Classical.skolem.1 hel
    refine ⟨some a, (List.range len).map fun i => (p i).1, m, by simp, by simp; omega, ?_⟩
    intro i hi2
    have hil : i < len := by simpa using hi2
    have hc := (hp i hil).2
    have ha : ∃ b o, a = ⟨b, o, none⟩ ∧ b < w.heap.size := by
      have h0 := (hp 0 (by omega)).2 0 (by decide)
      rw [Nat.zero_mul] at h0
      exact addr_at (v := .int .i64 (p 0).1.k) (by simpa [Addr.add, Ac.cells] using h0)
    obtain ⟨b, o, rfl, hb⟩ := ha
    refine ⟨b, o, rfl, ?_⟩
    have e : ((List.range len).map fun i => (p i).1)[i]'hi2 = (p i).1 := by simp
    rw [e]
    have hc2 : ∀ j, j < 13 → w.cell? ⟨b, o + i * 13 + j, none⟩ = ((p i).1.cells (p i).2.1 (p i).2.2.1 (p i).2.2.2.1 (p i).2.2.2.2)[j]? := fun j hj => by
      have := hc j hj
      rw [add_none, add_none] at this
      exact this
    exact ⟨(p i).2.1, (p i).2.2.1, (p i).2.2.2.1, (p i).2.2.2.2, hc2 0 (by decide), hc2 1 (by decide), hc2 2 (by decide), hc2 3 (by decide), hc2 4 (by decide), hc2 5 (by decide), hc2 6 (by decide), hc2 7 (by decide), hc2 8 (by decide), hc2 9 (by decide), hc2 10 (by decide), hc2 11 (by decide), hc2 12 (by decide), (hp i hil).1⟩
end
end Go.Proofs.YthbeempmdpfnmaaGreatDoor.T
