/- What the listed variables give: the two tables, cell by cell; a world for the witness that holds them. No condition beyond the rows' own lists. -/
import Derived.Test.YtnoabinodojkiaaDoorL2
import Derived.Test.YtnoabinodojkiaaDoorCards
import Derived.Test.YtnoabinodojkiaaDoorTie
import Derived.Lib.LaidU8
import Derived.Lib.LaidTab
import Derived.MakeChecks
import Derived.Lay
import Derived.ProofKit
import Derived.OpenShut
import Derived.ShutString
import Derived.ChangeOld
import Derived.SizedLaws
import Derived.Deep.DeepHandedRow
namespace Go.Proofs.YtnoabinodojkiaaDoor
open Go.ChangeShapes Go.WideShapes Go.ChangeAt Go.RowKit Go.Lib Go.Shelf By Dg

theorem own : ownKnob Tryd.prog.godebug = none := by kernel_rfl
theorem laidOut : laidOutB Tryd.prog = true := by kernel_rfl
/-- The list that each row of this seat bears. -/
def tabs : List (String × DataW Unit) := Rows.digestMd5Row.laid
theorem sines_eq : (Rows.laid_wharf_digest_sines : DataW Unit) = tabData .u32 sines := by kernel_rfl
def row4 (k : Nat) : List Int := (List.range 4).map fun j => ((turnsL.getD (4 * k + j) 0 : Nat) : Int)
theorem turns_eq : (Rows.laid_wharf_digest_turns : DataW Unit) = .agg [tabData .i64 (row4 0), tabData .i64 (row4 1), tabData .i64 (row4 2), tabData .i64 (row4 3)] := by kernel_rfl
theorem cell_four {cs : List Value} (h : ∀ k, k < 4 → (cs.drop (k * 4)).take 4 = (row4 k).map fun z => Value.int .i64 z) {i : Nat} (hi : i < 16) : cs[i]? = some (.int .i64 ((turnsL.getD i 0 : Nat) : Int)) := by
  have h1 := congrArg (·[i % 4]?) (h (i / 4) (by omega))
  simp only [List.getElem?_take, List.getElem?_drop] at h1
  rw [if_pos (by omega), show i / 4 * 4 + i % 4 = i by omega] at h1
  rw [h1, row4, List.map_map, List.getElem?_map, List.getElem?_range (by omega)]
  simp only [Option.map_some, Function.comp_apply]
  rw [show 4 * (i / 4) + i % 4 = i by omega]
theorem gd_of {W : World} (h : laidMetH Tryd.prog tabs W) : Gd W := by
  have hL : laidMet Tryd.prog tabs W := by
    rw [MakeChecks.laidMetH_plain _ _ _ (by kernel_rfl)] at h
    exact h
  constructor
  · intro k hk
    obtain ⟨g, t, cs, fuel, p, hg, ht, hv, hd⟩ := Lib.laidMet.reads hL (n := "wharf/digest.sines") (d := Rows.laid_wharf_digest_sines) (.head _)
    have e1 : Tryd.prog.globalNamed "wharf/digest.sines" = some 0 := by kernel_rfl
    rw [e1] at hg
    cases hg
    have e2 : (Tryd.prog.globals[0]?).map (·.type) = some 59 := by kernel_rfl
    rw [e2] at ht
    cases ht
    rw [sines_eq] at hd
    have hc := cells_of_tab Tryd.underlying59 Tryd.underlying28 (by kernel_rfl) (by kernel_rfl) hd
    rw [World.var?_cell e1 hv k, ← Array.getElem?_toList, hc]
    have hk2 : k < sines.length := hk
    simp [kk, List.getD_eq_getElem?_getD, List.getElem?_eq_getElem hk2]
  · intro k hk
    obtain ⟨g, t, cs, fuel, p, hg, ht, hv, hd⟩ := Lib.laidMet.reads hL (n := "wharf/digest.turns") (d := Rows.laid_wharf_digest_turns) (.tail _ (.head _))
    have e1 : Tryd.prog.globalNamed "wharf/digest.turns" = some 1 := by kernel_rfl
    rw [e1] at hg
    cases hg
    have e2 : (Tryd.prog.globals[1]?).map (·.type) = some 61 := by kernel_rfl
    rw [e2] at ht
    cases ht
    rw [turns_eq] at hd
    obtain ⟨xs, m, _, hx, _, hlen, hel⟩ := DataW.trod_array Tryd.underlying61 hd
    have hce : Tryd.prog.cellsOf 60 = 4 := by kernel_rfl
    rw [World.var?_cell e1 hv k, ← Array.getElem?_toList]
    refine cell_four (fun j hj => ?_) hk
    have h1 := hel j hj
    rw [hce] at h1
    have h2 : xs[j]? = some (xs[j]'(by omega)) := List.getElem?_eq_getElem _
    rw [h2] at h1
    have h3 : (xs.map (·.1))[j]? = some (tabData .i64 (row4 j)) := by
      have h5 : DataW.agg [tabData .i64 (row4 0), tabData .i64 (row4 1), tabData .i64 (row4 2), tabData .i64 (row4 3)] = DataW.agg (xs.map (·.1)) := congrArg Prod.fst hx
      rw [← DataW.agg.inj h5]
      have : j = 0 ∨ j = 1 ∨ j = 2 ∨ j = 3 := by omega
      rcases this with rfl | rfl | rfl | rfl <;> rfl
    rw [List.getElem?_map, h2, Option.map_some] at h3
    have h4 : (xs[j]'(by omega)) = (tabData .i64 (row4 j), (xs[j]'(by omega)).2) := Prod.ext (Option.some.inj h3) rfl
    rw [h4] at h1
    exact cells_of_tab Tryd.underlying60 Tryd.underlying3 (by kernel_rfl) hce h1
/-- A world for the witness: the settled one, the listed variables holding what their text lays. -/
noncomputable def laidWorld (os : Os) : World := World.laidAll Tryd.prog os tabs
theorem laid_met (os : Os) (args : Array Value) : laidMetH Tryd.prog tabs ((laidWorld os).forCall (fun _ _ => 0) ⟨#[], args, []⟩).memory := by
  rw [MakeChecks.laidMetH_plain _ _ _ (by kernel_rfl)]
  exact laidMet_laidAll _ (by kernel_rfl) (by kernel_rfl)
theorem witness_zip {H : Type} {enc : TypeId × Value → H} {C : Checked} {os : Os} {f : FuncId} {fn : Func} {s : OpenSpec} {conds : List PathCond} {apart : Bool} {laid : List (String × DataW Unit)} (w0 : World) (args : Array Value) (hos : w0.os = os)
    (hv : (w0.forCall (fun _ _ => 0) ⟨#[], args, []⟩).Shaped C.prog)
    (hok : Input.okWideB C.prog (w0.forCall (fun _ _ => 0) ⟨#[], args, []⟩) f ⟨#[], args, []⟩ = true)
    (hrow : s.preRow enc C.prog fn conds apart laid (w0.forCall (fun _ _ => 0) ⟨#[], args, []⟩).memory args) :
    ∃ (w : World) (tape : Tape) (i : Input), w.os = os ∧ (w.forCall tape i).Shaped C.prog ∧ i.vars = [] ∧ Input.okWide C.prog (w.forCall tape i) .any w.heap.size f i ∧
      s.preRow enc C.prog fn conds apart laid (w.forCall tape i).memory i.args ∧ ({ modest := false } : Assume).holds C.prog (lone (Frame.enter C.prog f i.args .normal) [] (w.forCall tape i)) :=
  ⟨w0, fun _ _ => 0, ⟨#[], args, []⟩, hos, hv, (Input.okWide_of_okWideB (base := 0) hok).1, (Input.okWide_of_okWideB hok).2, hrow, by
    simp only [Assume.holds]
    exact ⟨by simp, fun h => (by cases h), by simp, by simp, by simp⟩⟩
end Go.Proofs.YtnoabinodojkiaaDoor
