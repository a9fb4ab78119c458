/- A list, an item that came in; a world for the witness that holds what the listed variables hold. No condition beyond the rows' own lists. -/
import Derived.Test.YtdmbngkkbgmlfaaGreatDoorLy
import Derived.Test.YtdmbngkkbgmlfaaGreatDoorCards
import Derived.Test.YtdmbngkkbgmlfaaGreatDoorTie
import Derived.MakeChecks
import Derived.Lay
import Derived.ProofKit
import Derived.OpenShut
import Derived.ShutString
import Derived.ChangeOld
import Derived.SizedLaws
import Derived.Deep.DeepHandedRow
import Derived.Deep.Slices
namespace Go.Proofs.YtdmbngkkbgmlfaaGreatDoor.T
open Go.ChangeShapes Go.WideShapes Go.ChangeAt Go.RowKit Go.Lib

/-- The list that each row of this seat bears. -/
def tabs : List (String × DataW Unit) := Rows.listStaysRow.laid
theorem own : ownKnob Tryz.prog.godebug = none := by kernel_rfl
theorem mem_all {H : Type} {P : Program} {e : TypeId} : ∀ {l : List (DataW H)} {d : DataW H} {m : Nat}, d ∈ l → m ∈ d.weights P e → m ∈ DataW.weightsAll P e l
  | [], _, _, h, _ => by cases h
  | x :: l, d, m, h, hm => by
    rw [DataW.weightsAll]
    rcases List.mem_cons.1 h with rfl | h
    · exact List.mem_append_left _ hm
    · exact List.mem_append_right _ (mem_all h hm)
theorem c9o : Tryz.prog.cellsOf 9 = 1 := by kernel_rfl
theorem cIo : Tryz.prog.cellsOf 3 = 1 := by kernel_rfl
theorem c6o : Tryz.prog.cellsOf 2 = 1 := by kernel_rfl
theorem cBo : Tryz.prog.cellsOf 4 = 1 := by kernel_rfl
theorem cLo : Tryz.prog.cellsOf 22 = 1 := by kernel_rfl
theorem cTo : Tryz.prog.cellsOf 26 = 6 := by kernel_rfl
theorem bTo : Tryz.prog.bytesOf 26 = 64 := by kernel_rfl
theorem len6 {α : Type} {l : List α} (h : l.length = 6) : ∃ a b c d e f, l = [a, b, c, d, e, f] := by
  match l, h with
  | [a, b, c, d, e, f], _ => exact ⟨a, b, c, d, e, f, rfl⟩
theorem addr_at {w : World} {a : Addr} {v : Value} (h : w.cell? a = some v) : ∃ b o, a = ⟨b, o, none⟩ ∧ b < w.heap.size := by
  have hs := World.cell?_spot h
  have hb := World.block_lt_of_cell? _ _ h
  obtain ⟨b, o, s⟩ := a
  simp only at hs hb
  subst hs
  exact ⟨b, o, rfl, hb⟩
theorem add_none (b o k : Nat) : (⟨b, o, none⟩ : Addr).add k = ⟨b, o + k, none⟩ := by
  unfold Addr.add
  split <;> simp_all
theorem len2 {α : Type} {l : List α} (h : l.length = 2) : ∃ a b, l = [a, b] := by
  match l, h with
  | [a, b], _ => exact ⟨a, b, rfl⟩
theorem cLs : Tryz.prog.cellsOf 24 = 2 := by kernel_rfl
section
variable {H : Type} {enc : TypeId × Value → H} {w : World}
theorem str_at {n : Nat} {v : Value} {y : DataW H × List MemPlace} (h : DataW.trod enc Tryz.prog w 0 (fun _ => true) true n 9 [v] = some y) : ∃ s : ByteArray, v = .string s ∧ y.1 = .lit (.string s.data.toList) := by
  obtain ⟨s, hs, rfl, _⟩ := DataW.trod_string Tryz.underlying9 h
  exact ⟨s, by simpa using hs, rfl⟩
theorem size_at {s : ByteArray} {y : DataW H} (hy : y = .lit (.string s.data.toList)) (hz : ∀ m ∈ y.weights Tryz.prog 9, m ≤ reachBytes) : s.size ≤ 140737488351232 := by
  subst hy
  have := hz s.data.toList.length (by simp [DataW.weights])
  rw [By.len_size] at this
  exact this
theorem int_at {n : Nat} {v : Value} {y : DataW H × List MemPlace} (h : DataW.trod enc Tryz.prog w 0 (fun _ => true) true n 3 [v] = some y) : ∃ x : Int, v = .int .i64 x := by
  obtain ⟨x, hx, _⟩ := DataW.trod_int Tryz.underlying3 h
  exact ⟨x, by simpa using hx⟩
theorem int64_at {n : Nat} {v : Value} {y : DataW H × List MemPlace} (h : DataW.trod enc Tryz.prog w 0 (fun _ => true) true n 2 [v] = some y) : ∃ x : Int, v = .int .i64 x := by
  obtain ⟨x, hx, _⟩ := DataW.trod_int Tryz.underlying2 h
  exact ⟨x, by simpa using hx⟩
theorem bool_at {n : Nat} {v : Value} {y : DataW H × List MemPlace} (h : DataW.trod enc Tryz.prog w 0 (fun _ => true) true n 4 [v] = some y) : ∃ x : Bool, v = .bool x := by
  obtain ⟨x, hx, _⟩ := DataW.trod_bool Tryz.underlying4 h
  exact ⟨x, by simpa using hx⟩
theorem open_it {n : Nat} {cs : List Value} {y : DataW H × List MemPlace} (h : DataW.trod enc Tryz.prog w 0 (fun _ => true) true n 26 cs = some y) : ∃ t : It, cs = t.cells ∧ ((∀ m ∈ y.1.weights Tryz.prog 26, m ≤ reachBytes) → t.n.size ≤ 140737488351232 ∧ t.a.size ≤ 140737488351232) := by
  obtain ⟨xs, k, hk, rfl, hcl, hxl, hf⟩ := DataW.trod_struct Tryz.underlying26 h
  rw [cTo] at hcl
  obtain ⟨v0, v1, v2, v3, v4, v5, rfl⟩ := len6 hcl
  obtain ⟨y0, y1, y2, y3, y4, y5, rfl⟩ := len6 hxl
  have f0 : DataW.trod enc Tryz.prog w 0 (fun _ => true) true k 9 (List.take (Tryz.prog.cellsOf 9) [v0, v1, v2, v3, v4, v5]) = some y0 := hf 0 _ rfl
  rw [c9o] at f0
  have f0 : DataW.trod enc Tryz.prog w 0 (fun _ => true) true k 9 [v0] = some y0 := f0
  have f1 : DataW.trod enc Tryz.prog w 0 (fun _ => true) true k 3 (List.take (Tryz.prog.cellsOf 3) [v1, v2, v3, v4, v5]) = some y1 := hf 1 _ rfl
  rw [cIo] at f1
  have f1 : DataW.trod enc Tryz.prog w 0 (fun _ => true) true k 3 [v1] = some y1 := f1
  have f2 : DataW.trod enc Tryz.prog w 0 (fun _ => true) true k 3 (List.take (Tryz.prog.cellsOf 3) [v2, v3, v4, v5]) = some y2 := hf 2 _ rfl
  rw [cIo] at f2
  have f2 : DataW.trod enc Tryz.prog w 0 (fun _ => true) true k 3 [v2] = some y2 := f2
  have f3 : DataW.trod enc Tryz.prog w 0 (fun _ => true) true k 3 (List.take (Tryz.prog.cellsOf 3) [v3, v4, v5]) = some y3 := hf 3 _ rfl
  rw [cIo] at f3
  have f3 : DataW.trod enc Tryz.prog w 0 (fun _ => true) true k 3 [v3] = some y3 := f3
  have f4 : DataW.trod enc Tryz.prog w 0 (fun _ => true) true k 9 (List.take (Tryz.prog.cellsOf 9) [v4, v5]) = some y4 := hf 4 _ rfl
  rw [c9o] at f4
  have f4 : DataW.trod enc Tryz.prog w 0 (fun _ => true) true k 9 [v4] = some y4 := f4
  have f5 : DataW.trod enc Tryz.prog w 0 (fun _ => true) true k 4 (List.take (Tryz.prog.cellsOf 4) [v5]) = some y5 := hf 5 _ rfl
  rw [cBo] at f5
  have f5 : DataW.trod enc Tryz.prog w 0 (fun _ => true) true k 4 [v5] = some y5 := f5
  obtain ⟨s0, rfl, e0⟩ := str_at f0
  obtain ⟨x1, rfl⟩ := int_at f1
  obtain ⟨x2, rfl⟩ := int_at f2
  obtain ⟨x3, rfl⟩ := int_at f3
  obtain ⟨s4, rfl, e4⟩ := str_at f4
  obtain ⟨x5, rfl⟩ := bool_at f5
  refine ⟨⟨s0, x1, x2, x3, s4, x5⟩, rfl, fun hz => ?_⟩
  simp only [DataW.weights, Tryz.underlying26, DataW.weightsEach, List.map_cons, List.map_nil, List.append_nil, List.mem_append] at hz
  exact ⟨size_at e0 fun m hm => hz m (.inl hm), size_at e4 fun m hm => hz m (.inr (.inr (.inr (.inr (.inl hm)))))⟩
theorem open_items {n : Nat} {v : Value} {y : DataW H × List MemPlace} (h : DataW.trod enc Tryz.prog w 0 (fun _ => true) true n 22 [v] = some y) (hz : ∀ m ∈ y.1.weights Tryz.prog 22, m ≤ reachBytes) :
    ∃ (aL : Option Addr) (l : List It) (cL : Nat), v = .slice aL l.length cL ∧ l.length ≤ 140737488351232 ∧ ItS w aL l ∧ ∀ t ∈ l, t.n.size ≤ 140737488351232 ∧ t.a.size ≤ 140737488351232 := by
  rcases Go.Deep.open_slice Tryz.underlying22 h with ⟨hcs, rfl⟩ | ⟨a, len, cap, m, k, D, Pl, hcs, _, hl, hm, hmm, rfl, hi⟩
  · obtain rfl : v = .slice none 0 0 := by simpa using hcs
    exact ⟨none, [], 0, rfl, Nat.zero_le _, fun i h => (by cases h), fun a h => (by cases h)⟩
  · obtain rfl : v = .slice (some a) len cap := by simpa using hcs
    have hmm2 : m = cap := by simpa using hmm
    subst hmm2
    clear hmm hcs
    have hel : ∀ i, ∃ p : It, i < len → (((∀ m' ∈ (D i).weights Tryz.prog 26, m' ≤ reachBytes) → p.n.size ≤ 140737488351232 ∧ p.a.size ≤ 140737488351232) ∧ ∀ j, j < 6 → w.cell? ((a.add (i * 6)).add j) = p.cells[j]?) := by
      intro i
      by_cases hil : i < len
      · obtain ⟨cs', hc, ht⟩ := hi i (by omega)
        rw [cTo] at hc
        obtain ⟨_, hlen, hcell⟩ := World.cells?_some hc
        obtain ⟨e, he, hr⟩ := open_it ht
        refine ⟨e, fun _ => ⟨hr, fun j hj => ?_⟩⟩
        have := hcell j hj
        rw [this, he]
      · exact ⟨⟨⟨#[]⟩, 0, 0, 0, ⟨#[]⟩, false⟩, fun h => absurd h hil⟩
    obtain ⟨p, hp⟩ := Classical.skolem.1 hel
    have hzw : ∀ m', m' ∈ DataW.weights Tryz.prog 22 (DataW.slice ((List.range len).map D) ((List.range (m - len)).map fun j => D (len + j))) → m' ≤ reachBytes := hz
    simp only [DataW.weights, Tryz.underlying22, bTo] at hzw
    have hlz := hzw _ List.mem_cons_self
    simp only [List.length_map, List.length_range] at hlz
    unfold reachBytes at hlz
    have hel2 : ∀ i, i < len → ∀ m', m' ∈ (D i).weights Tryz.prog 26 → m' ≤ reachBytes := fun i hil m' hm' =>
      hzw m' (List.mem_cons_of_mem _ (List.mem_append_left _ (mem_all (List.mem_map.2 ⟨i, by simpa using hil, rfl⟩) hm')))
    refine ⟨some a, (List.range len).map p, m, by simp, by simp; omega, ?_, ?_⟩
    · intro i hi2
      have hil : i < len := by simpa using hi2
      have hc := (hp i hil).2
      have ha : ∃ b o, a = ⟨b, o, none⟩ ∧ b < w.heap.size := by
        have h0 := (hp 0 (by omega)).2 0 (by decide)
        rw [Nat.zero_mul] at h0
        exact addr_at (v := .string (p 0).n) (by simpa [Addr.add, It.cells] using h0)
      obtain ⟨b, o, rfl, hb⟩ := ha
      refine ⟨b, o, rfl, ?_⟩
      have e : ((List.range len).map p)[i]'hi2 = p i := by simp
      rw [e]
      have hc2 : ∀ j, j < 6 → w.cell? ⟨b, o + i * 6 + j, none⟩ = (p i).cells[j]? := fun j hj => by
        have := hc j hj
        rw [add_none, add_none] at this
        exact this
      exact ⟨hc2 0 (by decide), hc2 1 (by decide), hc2 2 (by decide), hc2 3 (by decide), hc2 4 (by decide), hc2 5 (by decide)⟩
    · intro q hq
      obtain ⟨i, hir, rfl⟩ := List.mem_map.1 hq
      have hil : i < len := by simpa using hir
      exact (hp i hil).1 (hel2 i hil)
/-- A list that came in. -/
theorem open_ls {n : Nat} {cs : List Value} {y : DataW H × List MemPlace} (h : DataW.trod enc Tryz.prog w 0 (fun _ => true) true n 24 cs = some y) (hz : ∀ m ∈ y.1.weights Tryz.prog 24, m ≤ reachBytes) : ∃ (l : List It) (a : Option Addr) (c : Nat) (t : Int), cs = [.slice a l.length c, .int .i64 t] ∧ l.length ≤ 140737488351232 ∧ ItS w a l ∧ ∀ x ∈ l, x.n.size ≤ 140737488351232 ∧ x.a.size ≤ 140737488351232 := by
  obtain ⟨xs, k, hk, rfl, hcl, hxl, hf⟩ := DataW.trod_struct Tryz.underlying24 h
  rw [cLs] at hcl
  obtain ⟨v0, v1, rfl⟩ := len2 hcl
  obtain ⟨y0, y1, rfl⟩ := len2 hxl
  have f0 : DataW.trod enc Tryz.prog w 0 (fun _ => true) true k 22 (List.take (Tryz.prog.cellsOf 22) [v0, v1]) = some y0 := hf 0 _ rfl
  rw [cLo] at f0
  have f0 : DataW.trod enc Tryz.prog w 0 (fun _ => true) true k 22 [v0] = some y0 := f0
  have f1 : DataW.trod enc Tryz.prog w 0 (fun _ => true) true k 2 (List.take (Tryz.prog.cellsOf 2) [v1]) = some y1 := hf 1 _ rfl
  rw [c6o] at f1
  have f1 : DataW.trod enc Tryz.prog w 0 (fun _ => true) true k 2 [v1] = some y1 := f1
  obtain ⟨x1, rfl⟩ := int64_at f1
  simp only [DataW.weights, Tryz.underlying24, DataW.weightsEach, List.map_cons, List.map_nil, List.append_nil, List.mem_append] at hz
  obtain ⟨a, l, c, rfl, h1, h2, h3⟩ := open_items f0 fun m hm => hz m (.inl hm)
  exact ⟨l, a, c, x1, rfl, h1, h2, h3⟩
end
/-- A world for the witness: the settled one, the listed variables holding what their text lays. -/
noncomputable def laidWorld (os : Os) : World := World.laidAll Tryz.prog os tabs
theorem laid_met (os : Os) (args : Array Value) : laidMetH Tryz.prog tabs ((laidWorld os).forCall (fun _ _ => 0) ⟨#[], args, []⟩).memory := by
  rw [MakeChecks.laidMetH_plain _ _ _ (by kernel_rfl)]
  exact laidMet_laidAll _ (by kernel_rfl) (by kernel_rfl)
theorem witness_zip {H : Type} {enc : TypeId × Value → H} {C : Checked} {os : Os} {f : FuncId} {fn : Func} {s : OpenSpec} {conds : List PathCond} {apart : Bool} {laid : List (String × DataW Unit)} (w0 : World) (args : Array Value) (hos : w0.os = os)
    (hv : (w0.forCall (fun _ _ => 0) ⟨#[], args, []⟩).Shaped C.prog)
    (hok : Input.okWideB C.prog (w0.forCall (fun _ _ => 0) ⟨#[], args, []⟩) f ⟨#[], args, []⟩ = true)
    (hrow : s.preRow enc C.prog fn conds apart laid (w0.forCall (fun _ _ => 0) ⟨#[], args, []⟩).memory args) :
    ∃ (w : World) (tape : Tape) (i : Input), w.os = os ∧ (w.forCall tape i).Shaped C.prog ∧ i.vars = [] ∧ Input.okWide C.prog (w.forCall tape i) .any w.heap.size f i ∧
      s.preRow enc C.prog fn conds apart laid (w.forCall tape i).memory i.args ∧ ({ modest := false } : Assume).holds C.prog (lone (Frame.enter C.prog f i.args .normal) [] (w.forCall tape i)) :=
  ⟨w0, fun _ _ => 0, ⟨#[], args, []⟩, hos, hv, (Input.okWide_of_okWideB (base := 0) hok).1, (Input.okWide_of_okWideB hok).2, hrow, by
    simp only [Assume.holds]
    exact ⟨by simp, fun h => (by cases h), by simp, by simp, by simp⟩⟩
end Go.Proofs.YtdmbngkkbgmlfaaGreatDoor.T
