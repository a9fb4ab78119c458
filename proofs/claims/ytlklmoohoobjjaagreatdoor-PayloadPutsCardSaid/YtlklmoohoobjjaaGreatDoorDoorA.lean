/- What the listed variables give: the table of lines, the table of powers; a world for the witness that holds all of them. No condition beyond the rows' own lists. -/
import Derived.Test.YtlklmoohoobjjaaGreatDoorPu
import Derived.Test.YtlklmoohoobjjaaGreatDoorCards
import Derived.Test.YtlklmoohoobjjaaGreatDoorTie
import Derived.Lib.LaidU8
import Derived.Lib.LaidTab
import Derived.Lib.SmallJoins
import Derived.MakeChecks
import Derived.Lay
import Derived.ProofKit
import Derived.OpenShut
import Derived.ShutString
import Derived.ChangeOld
import Derived.SizedLaws
import Derived.Deep.DeepHandedRow
namespace Go.Proofs.YtlklmoohoobjjaaGreatDoor
open Go.ChangeShapes Go.WideShapes Go.ChangeAt Go.RowKit Go.Lib Go.Shelf

theorem own : ownKnob Tryz.prog.godebug = none := by kernel_rfl
theorem laidOut : laidOutB Tryz.prog = true := by kernel_rfl
/-- The list that each row of this seat bears. -/
def tabs : List (String × DataW Unit) := Rows.payloadBackRow.laid
theorem pows_eq : (Rows.laid_internal_strconv_uint64pow10 : DataW Unit) = tabData .u64 Lib.pow10Tab := by kernel_rfl
theorem dlen4 {α : Type} {l : List α} (h : l.length = 4) : ∃ a b c d, l = [a, b, c, d] := by
  match l, h with
  | [a, b, c, d], _ => exact ⟨a, b, c, d, rfl⟩
theorem dcL : Tryz.prog.cellsOf 57 = 4 := by kernel_rfl
theorem dcI : Tryz.prog.cellsOf 3 = 1 := by kernel_rfl
theorem dcS : Tryz.prog.cellsOf 9 = 1 := by kernel_rfl
/-- A line's cells. -/
theorem line_at {n : Nat} {cs : List Value} {a : Int} {k s m : List UInt8} {p : List MemPlace} {w : World} (h : DataW.trod (fun _ => ()) Tryz.prog w 0 (fun _ => true) false n 57 cs = some (.agg [.lit (.int .i64 a), .lit (.string k), .lit (.string s), .lit (.string m)], p)) :
    cs = [.int .i64 a, .string ⟨k.toArray⟩, .string ⟨s.toArray⟩, .string ⟨m.toArray⟩] := by
  obtain ⟨xs, k', _, hx, hcl, hxl, hf⟩ := DataW.trod_struct Tryz.underlying57 h
  rw [dcL] at hcl
  obtain ⟨v0, v1, v2, v3, rfl⟩ := dlen4 hcl
  obtain ⟨y0, y1, y2, y3, rfl⟩ := dlen4 hxl
  have f0 : DataW.trod (fun _ => ()) Tryz.prog w 0 (fun _ => true) false k' 3 (List.take (Tryz.prog.cellsOf 3) [v0, v1, v2, v3]) = some y0 := hf 0 _ rfl
  have f1 : DataW.trod (fun _ => ()) Tryz.prog w 0 (fun _ => true) false k' 9 (List.take (Tryz.prog.cellsOf 9) [v1, v2, v3]) = some y1 := hf 1 _ rfl
  have f2 : DataW.trod (fun _ => ()) Tryz.prog w 0 (fun _ => true) false k' 9 (List.take (Tryz.prog.cellsOf 9) [v2, v3]) = some y2 := hf 2 _ rfl
  have f3 : DataW.trod (fun _ => ()) Tryz.prog w 0 (fun _ => true) false k' 9 (List.take (Tryz.prog.cellsOf 9) [v3]) = some y3 := hf 3 _ rfl
  rw [dcI] at f0
  rw [dcS] at f1 f2 f3
  have f0 : DataW.trod (fun _ => ()) Tryz.prog w 0 (fun _ => true) false k' 3 [v0] = some y0 := f0
  have f1 : DataW.trod (fun _ => ()) Tryz.prog w 0 (fun _ => true) false k' 9 [v1] = some y1 := f1
  have f2 : DataW.trod (fun _ => ()) Tryz.prog w 0 (fun _ => true) false k' 9 [v2] = some y2 := f2
  have f3 : DataW.trod (fun _ => ()) Tryz.prog w 0 (fun _ => true) false k' 9 [v3] = some y3 := f3
  obtain ⟨z, h0, rfl, _⟩ := DataW.trod_int Tryz.underlying3 f0
  obtain ⟨s1, h1, rfl, _⟩ := DataW.trod_string Tryz.underlying9 f1
  obtain ⟨s2, h2, rfl, _⟩ := DataW.trod_string Tryz.underlying9 f2
  obtain ⟨s3, h3, rfl, _⟩ := DataW.trod_string Tryz.underlying9 f3
  have hx1 := congrArg Prod.fst hx
  simp at hx1 h0 h1 h2 h3
  obtain ⟨rfl, rfl, rfl, rfl⟩ := hx1
  subst h0 h1 h2 h3
  simp
theorem gd_of {W : World} (h : laidMetH Tryz.prog tabs W) : Gd W := by
  have hL : laidMet Tryz.prog tabs W := by
    rw [MakeChecks.laidMetH_plain _ _ _ (by kernel_rfl)] at h
    exact h
  have hlines : ∀ i, i < 32 → W.cell? ⟨0, i, none⟩ = linesL[i]? := by
    obtain ⟨g, t, cs, fuel, p, hg, ht, hv, hd⟩ := Lib.laidMet.reads hL (n := "wharf/payload.lines") (d := Rows.laid_wharf_payload_lines) (.tail _ (.tail _ (.tail _ (.tail _ (.head _)))))
    have e1 : Tryz.prog.globalNamed "wharf/payload.lines" = some 0 := by kernel_rfl
    rw [e1] at hg
    cases hg
    have e2 : (Tryz.prog.globals[0]?).map (·.type) = some 58 := by kernel_rfl
    rw [e2] at ht
    cases ht
    unfold Rows.laid_wharf_payload_lines at hd
    have hel := fun i hi => array_elem Tryz.underlying58 hd i hi
    have hch : ∀ j, j < 8 → (cs.toList.drop (j * 4)).take 4 = (linesL.drop (j * 4)).take 4 := by
      intro j hj
      obtain ⟨f', d, q, h1, h2⟩ := hel j hj
      rw [dcL] at h2
      have hc : j = 0 ∨ j = 1 ∨ j = 2 ∨ j = 3 ∨ j = 4 ∨ j = 5 ∨ j = 6 ∨ j = 7 := by omega
      rcases hc with rfl | rfl | rfl | rfl | rfl | rfl | rfl | rfl <;> (cases h1; exact (line_at h2).trans rfl)
    intro i hi
    have h1 := congrArg (·[i % 4]?) (hch (i / 4) (by omega))
    simp only [List.getElem?_take, List.getElem?_drop] at h1
    rw [if_pos (by omega), if_pos (by omega), show i / 4 * 4 + i % 4 = i by omega] at h1
    rw [World.var?_cell e1 hv i, ← Array.getElem?_toList]
    exact h1
  refine ⟨hlines, World.block_lt_of_cell? W _ (hlines 0 (by decide)), fun w' hb => ?_⟩
  obtain ⟨g, t, cs, fuel, p, hg, ht, hv, hd⟩ := Lib.laidMet.reads hL (n := "internal/strconv.uint64pow10") (d := Rows.laid_internal_strconv_uint64pow10) (.tail _ (.tail _ (.head _)))
  have e1 : Tryz.prog.globalNamed "internal/strconv.uint64pow10" = some 1 := by kernel_rfl
  rw [e1] at hg
  cases hg
  have e2 : (Tryz.prog.globals[1]?).map (·.type) = some 120 := by kernel_rfl
  rw [e2] at ht
  cases ht
  rw [pows_eq] at hd
  have hc := cells_of_tab Tryz.underlying120 Tryz.underlying103 (by kernel_rfl) (by kernel_rfl) hd
  have hT : Lib.TabIs Tryz.prog W "internal/strconv.uint64pow10" .u64 Lib.pow10Tab := by
    unfold Lib.TabIs
    rw [hv, ← hc]
  exact Go.Joins.tab_stays e1 hT hb (Nat.le_refl _)
/-- A world for the witness: the settled one, the listed variables holding what their text lays. -/
noncomputable def laidWorld (os : Os) : World := World.laidAll Tryz.prog os tabs
theorem laid_met (os : Os) (args : Array Value) : laidMetH Tryz.prog tabs ((laidWorld os).forCall (fun _ _ => 0) ⟨#[], args, []⟩).memory := by
  rw [MakeChecks.laidMetH_plain _ _ _ (by kernel_rfl)]
  exact laidMet_laidAll _ (by kernel_rfl) (by kernel_rfl)
theorem witness_zip {H : Type} {enc : TypeId × Value → H} {C : Checked} {os : Os} {f : FuncId} {fn : Func} {s : OpenSpec} {conds : List PathCond} {apart : Bool} {laid : List (String × DataW Unit)} (w0 : World) (args : Array Value) (hos : w0.os = os)
    (hv : (w0.forCall (fun _ _ => 0) ⟨#[], args, []⟩).Shaped C.prog)
    (hok : Input.okWideB C.prog (w0.forCall (fun _ _ => 0) ⟨#[], args, []⟩) f ⟨#[], args, []⟩ = true)
    (hrow : s.preRow enc C.prog fn conds apart laid (w0.forCall (fun _ _ => 0) ⟨#[], args, []⟩).memory args) :
    ∃ (w : World) (tape : Tape) (i : Input), w.os = os ∧ (w.forCall tape i).Shaped C.prog ∧ i.vars = [] ∧ Input.okWide C.prog (w.forCall tape i) .any w.heap.size f i ∧
      s.preRow enc C.prog fn conds apart laid (w.forCall tape i).memory i.args ∧ ({ modest := false } : Assume).holds C.prog (lone (Frame.enter C.prog f i.args .normal) [] (w.forCall tape i)) :=
  ⟨w0, fun _ _ => 0, ⟨#[], args, []⟩, hos, hv, (Input.okWide_of_okWideB (base := 0) hok).1, (Input.okWide_of_okWideB hok).2, hrow, by
    simp only [Assume.holds]
    exact ⟨by simp, fun h => (by cases h), by simp, by simp, by simp⟩⟩
end Go.Proofs.YtlklmoohoobjjaaGreatDoor
