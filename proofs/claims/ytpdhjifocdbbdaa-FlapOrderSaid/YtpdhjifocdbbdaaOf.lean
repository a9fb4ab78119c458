/- Arguments opened: a frame, slices of frames, texts, numbers. Condition: the datum's sizes are within the reach. -/
import Derived.Test.YtpdhjifocdbbdaaUk
import Derived.Deep.Slices
import Derived.SizedLaws
import Derived.OpenShut
namespace Go.Proofs.Ytpdhjifocdbbdaa
open Go.RowKit Go.Lib Go.ChangeShapes Go.WideShapes

theorem mem_all {H : Type} {P : Program} {e : TypeId} : ∀ {l : List (DataW H)} {d : DataW H} {m : Nat}, d ∈ l → m ∈ d.weights P e → m ∈ DataW.weightsAll P e l
  | [], _, _, h, _ => by cases h
  | x :: l, d, m, h, hm => by
    rw [DataW.weightsAll]
    rcases List.mem_cons.1 h with rfl | h
    · exact List.mem_append_left _ hm
    · exact List.mem_append_right _ (mem_all h hm)
theorem c9o : Try.prog.cellsOf 9 = 1 := by kernel_rfl
theorem cIo : Try.prog.cellsOf 3 = 1 := by kernel_rfl
theorem cTo : Try.prog.cellsOf 37 = 3 := by kernel_rfl
theorem bTo : Try.prog.bytesOf 37 = 32 := by kernel_rfl
theorem bSo : Try.prog.bytesOf 9 = 16 := by kernel_rfl
theorem bIo : Try.prog.bytesOf 3 = 8 := by kernel_rfl
theorem len3 {α : Type} {l : List α} (h : l.length = 3) : ∃ a b c, l = [a, b, c] := by
  match l, h with
  | [a, b, c], _ => exact ⟨a, b, c, rfl⟩
theorem addr_at {w : World} {a : Addr} {v : Value} (h : w.cell? a = some v) : ∃ b o, a = ⟨b, o, none⟩ ∧ b < w.heap.size := by
  have hs := World.cell?_spot h
  have hb := World.block_lt_of_cell? _ _ h
  obtain ⟨b, o, s⟩ := a
  simp only at hs hb
  subst hs
  exact ⟨b, o, rfl, hb⟩
theorem add_none (b o k : Nat) : (⟨b, o, none⟩ : Addr).add k = ⟨b, o + k, none⟩ := by
  unfold Addr.add
  split <;> simp_all
section
variable {H : Type} {enc : TypeId × Value → H} {w : World}
theorem str_at {n : Nat} {v : Value} {y : DataW H × List MemPlace} (h : DataW.trod enc Try.prog w 0 (fun _ => true) true n 9 [v] = some y) : ∃ s : ByteArray, v = .string s ∧ y.1 = .lit (.string s.data.toList) := by
  obtain ⟨s, hs, rfl, _⟩ := DataW.trod_string Try.underlying9 h
  exact ⟨s, by simpa using hs, rfl⟩
theorem size_at {s : ByteArray} {y : DataW H} (hy : y = .lit (.string s.data.toList)) (hz : ∀ m ∈ y.weights Try.prog 9, m ≤ reachBytes) : s.size ≤ 140737488351232 := by
  subst hy
  have := hz s.data.toList.length (by simp [DataW.weights])
  rw [By.len_size] at this
  exact this
theorem int_at {n : Nat} {v : Value} {y : DataW H × List MemPlace} (h : DataW.trod enc Try.prog w 0 (fun _ => true) true n 3 [v] = some y) : ∃ x : Int, v = .int .i64 x := by
  obtain ⟨x, hx, _⟩ := DataW.trod_int Try.underlying3 h
  exact ⟨x, by simpa using hx⟩
theorem open_fr {n : Nat} {cs : List Value} {y : DataW H × List MemPlace} (h : DataW.trod enc Try.prog w 0 (fun _ => true) true n 37 cs = some y) : ∃ t : Fr, cs = t.cells ∧ ((∀ m ∈ y.1.weights Try.prog 37, m ≤ reachBytes) → t.d.size ≤ 140737488351232) := by
  obtain ⟨xs, k, hk, rfl, hcl, hxl, hf⟩ := DataW.trod_struct Try.underlying37 h
  rw [cTo] at hcl
  obtain ⟨v0, v1, v2, rfl⟩ := len3 hcl
  obtain ⟨y0, y1, y2, rfl⟩ := len3 hxl
  have f0 : DataW.trod enc Try.prog w 0 (fun _ => true) true k 3 (List.take (Try.prog.cellsOf 3) [v0, v1, v2]) = some y0 := hf 0 _ rfl
  rw [cIo] at f0
  have f0 : DataW.trod enc Try.prog w 0 (fun _ => true) true k 3 [v0] = some y0 := f0
  have f1 : DataW.trod enc Try.prog w 0 (fun _ => true) true k 3 (List.take (Try.prog.cellsOf 3) [v1, v2]) = some y1 := hf 1 _ rfl
  rw [cIo] at f1
  have f1 : DataW.trod enc Try.prog w 0 (fun _ => true) true k 3 [v1] = some y1 := f1
  have f2 : DataW.trod enc Try.prog w 0 (fun _ => true) true k 9 (List.take (Try.prog.cellsOf 9) [v2]) = some y2 := hf 2 _ rfl
  rw [c9o] at f2
  have f2 : DataW.trod enc Try.prog w 0 (fun _ => true) true k 9 [v2] = some y2 := f2
  obtain ⟨x0, rfl⟩ := int_at f0
  obtain ⟨x1, rfl⟩ := int_at f1
  obtain ⟨s1, rfl, e1⟩ := str_at f2
  refine ⟨⟨x0, x1, s1⟩, rfl, fun hz => ?_⟩
  simp only [DataW.weights, Try.underlying37, DataW.weightsEach, List.map_cons, List.map_nil, List.append_nil, List.mem_append] at hz
  exact size_at e1 fun m hm => hz m (.inr (.inr hm))
/-- A slice of frames that came in. -/
theorem open_frs {n : Nat} {v : Value} {y : DataW H × List MemPlace} (h : DataW.trod enc Try.prog w 0 (fun _ => true) true n 27 [v] = some y) (hz : ∀ m ∈ y.1.weights Try.prog 27, m ≤ reachBytes) :
    ∃ (aL : Option Addr) (l : List Fr) (cL : Nat), v = .slice aL l.length cL ∧ l.length ≤ 140737488351232 ∧ (∀ t ∈ l, t.d.size ≤ 140737488351232) ∧ FrS w aL l := by
  rcases Go.Deep.open_slice Try.underlying27 h with ⟨hcs, rfl⟩ | ⟨a, len, cap, m, k, D, Pl, hcs, _, hl, hm, hmm, rfl, hi⟩
  · obtain rfl : v = .slice none 0 0 := by simpa using hcs
    exact ⟨none, [], 0, rfl, Nat.zero_le _, fun a h => (by cases h), fun i h => (by cases h)⟩
  · obtain rfl : v = .slice (some a) len cap := by simpa using hcs
    have hmm2 : m = cap := by simpa using hmm
    subst hmm2
    clear hmm hcs
    have hel : ∀ i, ∃ p : Fr, i < len → (((∀ m' ∈ (D i).weights Try.prog 37, m' ≤ reachBytes) → p.d.size ≤ 140737488351232) ∧ ∀ j, j < 3 → w.cell? ((a.add (i * 3)).add j) = p.cells[j]?) := by
      intro i
      by_cases hil : i < len
      · obtain ⟨cs', hc, ht⟩ := hi i (by omega)
        rw [cTo] at hc
        obtain ⟨_, hlen, hcell⟩ := World.cells?_some hc
        obtain ⟨e, he, hr⟩ := open_fr ht
        refine ⟨e, fun _ => ⟨hr, fun j hj => ?_⟩⟩
        have := hcell j hj
        rw [this, he]
      · exact ⟨⟨0, 0, ⟨#[]⟩⟩, fun h => absurd h hil⟩
    obtain ⟨p, hp⟩ := Classical.skolem.1 hel
    have hzw : ∀ m', m' ∈ DataW.weights Try.prog 27 (DataW.slice ((List.range len).map D) ((List.range (m - len)).map fun j => D (len + j))) → m' ≤ reachBytes := hz
    simp only [DataW.weights, Try.underlying27, bTo] at hzw
    have hlz := hzw _ List.mem_cons_self
    simp only [List.length_map, List.length_range] at hlz
    unfold reachBytes at hlz
    have hel2 : ∀ i, i < len → ∀ m', m' ∈ (D i).weights Try.prog 37 → m' ≤ reachBytes := fun i hil m' hm' =>
      hzw m' (List.mem_cons_of_mem _ (List.mem_append_left _ (mem_all (List.mem_map.2 ⟨i, by simpa using hil, rfl⟩) hm')))
    refine ⟨some a, (List.range len).map p, m, by simp, by simp; omega, ?_, ?_⟩
    · intro q hq
      obtain ⟨i, hir, rfl⟩ := List.mem_map.1 hq
      have hil : i < len := by simpa using hir
      exact (hp i hil).1 (hel2 i hil)
    · intro i hi2
      have hil : i < len := by simpa using hi2
      have hc := (hp i hil).2
      have ha : ∃ b o, a = ⟨b, o, none⟩ ∧ b < w.heap.size := by
        have h0 := (hp 0 (by omega)).2 0 (by decide)
        rw [Nat.zero_mul] at h0
        exact addr_at (v := .int .i64 (p 0).c) (by simpa [Addr.add, Fr.cells] using h0)
      obtain ⟨b, o, rfl, hb⟩ := ha
      refine ⟨b, o, rfl, ?_⟩
      have e : ((List.range len).map p)[i]'hi2 = p i := by simp
      rw [e]
      have hc2 : ∀ j, j < 3 → w.cell? ⟨b, o + i * 3 + j, none⟩ = (p i).cells[j]? := fun j hj => by
        have := hc j hj
        rw [add_none, add_none] at this
        exact this
      exact ⟨hc2 0 (by decide), hc2 1 (by decide), hc2 2 (by decide)⟩
/-- A slice of texts that came in. -/
theorem open_ss {n : Nat} {v : Value} {y : DataW H × List MemPlace} (h : DataW.trod enc Try.prog w 0 (fun _ => true) true n 22 [v] = some y) (hz : ∀ m ∈ y.1.weights Try.prog 22, m ≤ reachBytes) :
    ∃ (aL : Option Addr) (l : List ByteArray) (cL : Nat), v = .slice aL l.length cL ∧ l.length ≤ 140737488351232 ∧ (∀ t ∈ l, t.size ≤ 140737488351232) ∧ SS w aL l := by
  rcases Go.Deep.open_slice Try.underlying22 h with ⟨hcs, rfl⟩ | ⟨a, len, cap, m, k, D, Pl, hcs, _, hl, hm, hmm, rfl, hi⟩
  · obtain rfl : v = .slice none 0 0 := by simpa using hcs
    exact ⟨none, [], 0, rfl, Nat.zero_le _, fun a h => (by cases h), fun i h => (by cases h)⟩
  · obtain rfl : v = .slice (some a) len cap := by simpa using hcs
    have hmm2 : m = cap := by simpa using hmm
    subst hmm2
    clear hmm hcs
    have hel : ∀ i, ∃ p : ByteArray, i < len → (((∀ m' ∈ (D i).weights Try.prog 9, m' ≤ reachBytes) → p.size ≤ 140737488351232) ∧ w.cell? ((a.add (i * 1)).add 0) = some (.string p)) := by
      intro i
      by_cases hil : i < len
      · obtain ⟨cs', hc, ht⟩ := hi i (by omega)
        rw [c9o] at hc
        obtain ⟨_, hlen, hcell⟩ := World.cells?_some hc
        obtain ⟨v0, rfl⟩ : ∃ v0, cs' = [v0] := List.length_eq_one_iff.1 hlen
        obtain ⟨s, rfl, hs⟩ := str_at ht
        refine ⟨s, fun _ => ⟨fun h => size_at hs h, ?_⟩⟩
        have := hcell 0 (by decide)
        rw [this]
        rfl
      · exact ⟨⟨#[]⟩, fun h => absurd h hil⟩
    obtain ⟨p, hp⟩ := Classical.skolem.1 hel
    have hzw : ∀ m', m' ∈ DataW.weights Try.prog 22 (DataW.slice ((List.range len).map D) ((List.range (m - len)).map fun j => D (len + j))) → m' ≤ reachBytes := hz
    simp only [DataW.weights, Try.underlying22, bSo] at hzw
    have hlz := hzw _ List.mem_cons_self
    simp only [List.length_map, List.length_range] at hlz
    unfold reachBytes at hlz
    have hel2 : ∀ i, i < len → ∀ m', m' ∈ (D i).weights Try.prog 9 → m' ≤ reachBytes := fun i hil m' hm' =>
      hzw m' (List.mem_cons_of_mem _ (List.mem_append_left _ (mem_all (List.mem_map.2 ⟨i, by simpa using hil, rfl⟩) hm')))
    refine ⟨some a, (List.range len).map p, m, by simp, by simp; omega, ?_, ?_⟩
    · intro q hq
      obtain ⟨i, hir, rfl⟩ := List.mem_map.1 hq
      have hil : i < len := by simpa using hir
      exact (hp i hil).1 (hel2 i hil)
    · intro i hi2
      have hil : i < len := by simpa using hi2
      have hc := (hp i hil).2
      obtain ⟨b, o, rfl, hb⟩ : ∃ b o, a = ⟨b, o, none⟩ ∧ b < w.heap.size := by
        have h0 := (hp 0 (by omega)).2
        rw [Nat.zero_mul] at h0
        exact addr_at (v := .string (p 0)) (by simpa [Addr.add] using h0)
      refine ⟨b, o, rfl, ?_⟩
      have e : ((List.range len).map p)[i]'hi2 = p i := by simp
      rw [e]
      rw [add_none, add_none, Nat.mul_one] at hc
      exact hc
/-- Behind an address the numbers l. -/
def IsS (w : World) (a : Option Addr) (l : List Int) : Prop := ∀ i (h : i < l.length), ∃ b o, a = some ⟨b, o, none⟩ ∧ w.cell? ⟨b, o + i, none⟩ = some (.int .i64 l[i])
/-- A slice of numbers that came in. -/
theorem open_is {n : Nat} {v : Value} {y : DataW H × List MemPlace} (h : DataW.trod enc Try.prog w 0 (fun _ => true) true n 44 [v] = some y) (hz : ∀ m ∈ y.1.weights Try.prog 44, m ≤ reachBytes) :
    ∃ (aL : Option Addr) (l : List Int) (cL : Nat), v = .slice aL l.length cL ∧ l.length ≤ 140737488351232 ∧ IsS w aL l := by
  rcases Go.Deep.open_slice Try.underlying44 h with ⟨hcs, rfl⟩ | ⟨a, len, cap, m, k, D, Pl, hcs, _, hl, hm, hmm, rfl, hi⟩
  · obtain rfl : v = .slice none 0 0 := by simpa using hcs
    exact ⟨none, [], 0, rfl, Nat.zero_le _, fun i h => (by cases h)⟩
  · obtain rfl : v = .slice (some a) len cap := by simpa using hcs
    have hmm2 : m = cap := by simpa using hmm
    subst hmm2
    clear hmm hcs
    have hel : ∀ i, ∃ p : Int, i < len → w.cell? ((a.add (i * 1)).add 0) = some (.int .i64 p) := by
      intro i
      by_cases hil : i < len
      · obtain ⟨cs', hc, ht⟩ := hi i (by omega)
        rw [cIo] at hc
        obtain ⟨_, hlen, hcell⟩ := World.cells?_some hc
        obtain ⟨v0, rfl⟩ : ∃ v0, cs' = [v0] := List.length_eq_one_iff.1 hlen
        obtain ⟨s, rfl⟩ := int_at ht
        refine ⟨s, fun _ => ?_⟩
        have := hcell 0 (by decide)
        rw [this]
        rfl
      · exact ⟨0, fun h => absurd h hil⟩
    obtain ⟨p, hp⟩ := Classical.skolem.1 hel
    have hzw : ∀ m', m' ∈ DataW.weights Try.prog 44 (DataW.slice ((List.range len).map D) ((List.range (m - len)).map fun j => D (len + j))) → m' ≤ reachBytes := hz
    simp only [DataW.weights, Try.underlying44, bIo] at hzw
    have hlz := hzw _ List.mem_cons_self
    simp only [List.length_map, List.length_range] at hlz
    unfold reachBytes at hlz
    refine ⟨some a, (List.range len).map p, m, by simp, by simp; omega, ?_⟩
    intro i hi2
    have hil : i < len := by simpa using hi2
    have hc := hp i hil
    obtain ⟨b, o, rfl, hb⟩ : ∃ b o, a = ⟨b, o, none⟩ ∧ b < w.heap.size := by
      have h0 := hp 0 (by omega)
      rw [Nat.zero_mul] at h0
      exact addr_at (v := .int .i64 (p 0)) (by simpa [Addr.add] using h0)
    refine ⟨b, o, rfl, ?_⟩
    have e : ((List.range len).map p)[i]'hi2 = p i := by simp
    rw [e]
    rw [add_none, add_none, Nat.mul_one] at hc
    exact hc
end
end Go.Proofs.Ytpdhjifocdbbdaa
