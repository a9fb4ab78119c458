/- What the listed variable gives: the table of widths; a world for the witness that holds it; a snac that came in. No condition beyond the rows' own lists. -/
import Derived.Test.YthbpkdcjfcbngaaDoorVh
import Derived.Test.YthbpkdcjfcbngaaDoorCards
import Derived.Test.YthbpkdcjfcbngaaDoorTie
import Derived.Lib.LaidU8
import Derived.Lib.LaidTab
import Derived.Lib.SmallJoins
import Derived.MakeChecks
import Derived.Lay
import Derived.ProofKit
import Derived.OpenShut
import Derived.ShutString
import Derived.ChangeOld
import Derived.SizedLaws
import Derived.Deep.DeepHandedRow
namespace Go.Proofs.YthbpkdcjfcbngaaDoor
open Go.ChangeShapes Go.WideShapes Go.ChangeAt Go.RowKit Go.Lib

theorem own : ownKnob Tryd.prog.godebug = none := by kernel_rfl
theorem laidOut : laidOutB Tryd.prog = true := by kernel_rfl
/-- The list that each row of this seat bears. -/
def tabs : List (String × DataW Unit) := Rows.snacPutsRow.laid
theorem widths_eq : (Rows.laid_wharf_snac_widths : DataW Unit) = tabData .i64 [2, 2, 2, 4] := by kernel_rfl
theorem gd_of {W : World} (h : laidMetH Tryd.prog tabs W) : Gd W := by
  have hL : laidMet Tryd.prog tabs W := by
    rw [MakeChecks.laidMetH_plain _ _ _ (by kernel_rfl)] at h
    exact h
  obtain ⟨g, t, cs, fuel, p, hg, ht, hv, hd⟩ := Lib.laidMet.reads hL (n := "wharf/snac.widths") (d := Rows.laid_wharf_snac_widths) (.head _)
  have e1 : Tryd.prog.globalNamed "wharf/snac.widths" = some 0 := by kernel_rfl
  rw [e1] at hg
  cases hg
  have e2 : (Tryd.prog.globals[0]?).map (·.type) = some 52 := by kernel_rfl
  rw [e2] at ht
  cases ht
  rw [widths_eq] at hd
  have hc := cells_of_tab Tryd.underlying52 Tryd.underlying3 (by kernel_rfl) (by kernel_rfl) hd
  have hw : ∀ i, W.cell? ⟨0, i, none⟩ = ([Value.int .i64 2, .int .i64 2, .int .i64 2, .int .i64 4] : List Value)[i]? := fun i => by
    rw [World.var?_cell e1 hv i, ← Array.getElem?_toList, hc]
    rfl
  exact ⟨hw 0, hw 1, hw 2, hw 3⟩
theorem c9o : Tryd.prog.cellsOf 9 = 1 := by kernel_rfl
theorem cIo : Tryd.prog.cellsOf 3 = 1 := by kernel_rfl
theorem c6o : Tryd.prog.cellsOf 2 = 1 := by kernel_rfl
theorem cSo : Tryd.prog.cellsOf 23 = 5 := by kernel_rfl
theorem len5 {α : Type} {l : List α} (h : l.length = 5) : ∃ a b c d e, l = [a, b, c, d, e] := by
  match l, h with
  | [a, b, c, d, e], _ => exact ⟨a, b, c, d, e, rfl⟩
section
variable {H : Type} {enc : TypeId × Value → H} {w : World}
theorem str_at {n : Nat} {v : Value} {y : DataW H × List MemPlace} (h : DataW.trod enc Tryd.prog w 0 (fun _ => true) true n 9 [v] = some y) : ∃ s : ByteArray, v = .string s ∧ y.1 = .lit (.string s.data.toList) := by
  obtain ⟨s, hs, rfl, _⟩ := DataW.trod_string Tryd.underlying9 h
  exact ⟨s, by simpa using hs, rfl⟩
theorem size_at {s : ByteArray} {y : DataW H} (hy : y = .lit (.string s.data.toList)) (hz : ∀ m ∈ y.weights Tryd.prog 9, m ≤ reachBytes) : s.size ≤ 140737488351232 := by
  subst hy
  have := hz s.data.toList.length (by simp [DataW.weights])
  rw [By.len_size] at this
  exact this
theorem int_at {n : Nat} {v : Value} {y : DataW H × List MemPlace} (h : DataW.trod enc Tryd.prog w 0 (fun _ => true) true n 3 [v] = some y) : ∃ x : Int, v = .int .i64 x := by
  obtain ⟨x, hx, _⟩ := DataW.trod_int Tryd.underlying3 h
  exact ⟨x, by simpa using hx⟩
theorem int64_at {n : Nat} {v : Value} {y : DataW H × List MemPlace} (h : DataW.trod enc Tryd.prog w 0 (fun _ => true) true n 2 [v] = some y) : ∃ x : Int, v = .int .i64 x := by
  obtain ⟨x, hx, _⟩ := DataW.trod_int Tryd.underlying2 h
  exact ⟨x, by simpa using hx⟩
/-- A snac that came in. -/
theorem open_sn {n : Nat} {cs : List Value} {y : DataW H × List MemPlace} (h : DataW.trod enc Tryd.prog w 0 (fun _ => true) true n 23 cs = some y) : ∃ t : Sn, cs = t.cells ∧ ((∀ m ∈ y.1.weights Tryd.prog 23, m ≤ reachBytes) → t.b.size ≤ 140737488351232) := by
  obtain ⟨xs, k, hk, rfl, hcl, hxl, hf⟩ := DataW.trod_struct Tryd.underlying23 h
  rw [cSo] at hcl
  obtain ⟨v0, v1, v2, v3, v4, rfl⟩ := len5 hcl
  obtain ⟨y0, y1, y2, y3, y4, rfl⟩ := len5 hxl
  have f0 : DataW.trod enc Tryd.prog w 0 (fun _ => true) true k 3 (List.take (Tryd.prog.cellsOf 3) [v0, v1, v2, v3, v4]) = some y0 := hf 0 _ rfl
  rw [cIo] at f0
  have f0 : DataW.trod enc Tryd.prog w 0 (fun _ => true) true k 3 [v0] = some y0 := f0
  have f1 : DataW.trod enc Tryd.prog w 0 (fun _ => true) true k 3 (List.take (Tryd.prog.cellsOf 3) [v1, v2, v3, v4]) = some y1 := hf 1 _ rfl
  rw [cIo] at f1
  have f1 : DataW.trod enc Tryd.prog w 0 (fun _ => true) true k 3 [v1] = some y1 := f1
  have f2 : DataW.trod enc Tryd.prog w 0 (fun _ => true) true k 3 (List.take (Tryd.prog.cellsOf 3) [v2, v3, v4]) = some y2 := hf 2 _ rfl
  rw [cIo] at f2
  have f2 : DataW.trod enc Tryd.prog w 0 (fun _ => true) true k 3 [v2] = some y2 := f2
  have f3 : DataW.trod enc Tryd.prog w 0 (fun _ => true) true k 2 (List.take (Tryd.prog.cellsOf 2) [v3, v4]) = some y3 := hf 3 _ rfl
  rw [c6o] at f3
  have f3 : DataW.trod enc Tryd.prog w 0 (fun _ => true) true k 2 [v3] = some y3 := f3
  have f4 : DataW.trod enc Tryd.prog w 0 (fun _ => true) true k 9 (List.take (Tryd.prog.cellsOf 9) [v4]) = some y4 := hf 4 _ rfl
  rw [c9o] at f4
  have f4 : DataW.trod enc Tryd.prog w 0 (fun _ => true) true k 9 [v4] = some y4 := f4
  obtain ⟨x0, rfl⟩ := int_at f0
  obtain ⟨x1, rfl⟩ := int_at f1
  obtain ⟨x2, rfl⟩ := int_at f2
  obtain ⟨x3, rfl⟩ := int64_at f3
  obtain ⟨s4, rfl, e4⟩ := str_at f4
  refine ⟨⟨x0, x1, x2, x3, s4⟩, rfl, fun hz => ?_⟩
  simp only [DataW.weights, Tryd.underlying23, DataW.weightsEach, List.map_cons, List.map_nil, List.append_nil, List.mem_append] at hz
  exact size_at e4 fun m hm => hz m (.inr (.inr (.inr (.inr hm))))
end
/-- A world for the witness: the settled one, the listed variables holding what their text lays. -/
noncomputable def laidWorld (os : Os) : World := World.laidAll Tryd.prog os tabs
theorem laid_met (os : Os) (args : Array Value) : laidMetH Tryd.prog tabs ((laidWorld os).forCall (fun _ _ => 0) ⟨#[], args, []⟩).memory := by
  rw [MakeChecks.laidMetH_plain _ _ _ (by kernel_rfl)]
  exact laidMet_laidAll _ (by kernel_rfl) (by kernel_rfl)
theorem witness_zip {H : Type} {enc : TypeId × Value → H} {C : Checked} {os : Os} {f : FuncId} {fn : Func} {s : OpenSpec} {conds : List PathCond} {apart : Bool} {laid : List (String × DataW Unit)} (w0 : World) (args : Array Value) (hos : w0.os = os)
    (hv : (w0.forCall (fun _ _ => 0) ⟨#[], args, []⟩).Shaped C.prog)
    (hok : Input.okWideB C.prog (w0.forCall (fun _ _ => 0) ⟨#[], args, []⟩) f ⟨#[], args, []⟩ = true)
    (hrow : s.preRow enc C.prog fn conds apart laid (w0.forCall (fun _ _ => 0) ⟨#[], args, []⟩).memory args) :
    ∃ (w : World) (tape : Tape) (i : Input), w.os = os ∧ (w.forCall tape i).Shaped C.prog ∧ i.vars = [] ∧ Input.okWide C.prog (w.forCall tape i) .any w.heap.size f i ∧
      s.preRow enc C.prog fn conds apart laid (w.forCall tape i).memory i.args ∧ ({ modest := false } : Assume).holds C.prog (lone (Frame.enter C.prog f i.args .normal) [] (w.forCall tape i)) :=
  ⟨w0, fun _ _ => 0, ⟨#[], args, []⟩, hos, hv, (Input.okWide_of_okWideB (base := 0) hok).1, (Input.okWide_of_okWideB hok).2, hrow, by
    simp only [Assume.holds]
    exact ⟨by simp, fun h => (by cases h), by simp, by simp, by simp⟩⟩
end Go.Proofs.YthbpkdcjfcbngaaDoor
