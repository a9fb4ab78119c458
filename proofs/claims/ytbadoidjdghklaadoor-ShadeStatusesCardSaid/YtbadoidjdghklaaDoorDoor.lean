/- What the listed variables give: the decoder's two tables, the table of entities; a world for the witness that holds them. No condition beyond the rows' own lists. -/
import Derived.Test.YtbadoidjdghklaaDoorSl
import Derived.Test.YtbadoidjdghklaaDoorCards
import Derived.Test.YtbadoidjdghklaaDoorTie
import Derived.Lib.LaidU8T
import Derived.Lib.LaidU8
import Derived.MakeChecks
import Derived.Lay
import Derived.ProofKit
import Derived.OpenShut
import Derived.ShutString
import Derived.ChangeOld
import Derived.SizedLaws
import Derived.Deep.DeepHandedRow
namespace Go.Proofs.YtbadoidjdghklaaDoor
open Go.ChangeShapes Go.WideShapes Go.ChangeAt Go.RowKit Go.Lib Go.Shelf Sh

theorem own : ownKnob Tryd.prog.godebug = none := by kernel_rfl
theorem laidOut : laidOutB Tryd.prog = true := by kernel_rfl
/-- The list that each row of this seat bears. -/
def tabs : List (String × DataW Unit) := Rows.shadeTextsRow.laid
theorem accept_eq : (Rows.laid_unicode_utf8_acceptRanges : DataW Unit) = acceptData := by kernel_rfl
theorem first_eq : Rows.laid_unicode_utf8_first = firstData := by kernel_rfl
theorem extra : U8Extra Tryd.prog Tryd.lays260_ren := ⟨by kernel_rfl, by kernel_rfl, by kernel_rfl, by kernel_rfl, by kernel_rfl, by kernel_rfl, by kernel_rfl⟩
theorem gd_of {W : World} (hL : laidMet Tryd.prog tabs W) : Gd W := by
  have h4 := Lib.laidMet.reads hL (n := "unicode/utf8.acceptRanges") (d := Rows.laid_unicode_utf8_acceptRanges) (.head _)
  have h3 := Lib.laidMet.reads hL (n := "unicode/utf8.first") (d := Rows.laid_unicode_utf8_first) (.tail _ (.tail _ (.head _)))
  rw [accept_eq] at h4
  rw [first_eq] at h3
  exact utf8Tabs_of_reads Tryd.lays260 extra h3 h4
section
variable {H : Type} {enc : TypeId × Value → H} {P : Program} {w : World} {base : Nat} {sp : Nat → Bool} {held : Bool}
/-- A struct whose fields are texts, that reads as these texts, holds them, cell for cell. -/
theorem texts_of_struct {fuel : Nat} {t : TypeId} {fs : Array Field} {cs : List Value} {zs : List (List UInt8)} {p : List MemPlace} (ht : P.underlying t = some (.struct fs))
    (hf : ∀ (i : Nat) (f : Field), fs[i]? = some f → P.underlying f.type = some .string ∧ f.offset = i ∧ P.cellsOf f.type = 1) (hct : P.cellsOf t = fs.size)
    (h : DataW.trod enc P w base sp held fuel t cs = some (.agg (zs.map fun z => .lit (.string z)), p)) : cs = zs.map fun z => Value.string ⟨z.toArray⟩ := by
  obtain ⟨xs, n, rfl, hx, hl, hxl, hall⟩ := DataW.trod_struct ht h
  have hxs : xs.map (·.1) = zs.map fun z => (DataW.lit (.string z) : DataW H) := by
    have := congrArg Prod.fst hx
    simpa using this.symm
  have hzl : zs.length = fs.size := by
    have := congrArg List.length hxs
    simp at this
    omega
  apply List.ext_getElem?
  intro i
  by_cases hi : i < fs.size
  · obtain ⟨hu, ho, hc⟩ := hf i fs[i] (by simp [hi])
    have h1 := hall i fs[i] (by simp [hi])
    obtain ⟨b, hb⟩ : ∃ b, xs[i]? = some b := ⟨xs[i]'(by omega), List.getElem?_eq_getElem (by omega)⟩
    rw [hb, ho, hc] at h1
    obtain ⟨z, hcz, rfl, _⟩ := DataW.trod_string hu h1
    have h2 : cs[i]? = some (.string z) := by
      have := congrArg (·[0]?) hcz
      simpa [List.getElem?_take, List.getElem?_drop] using this
    have h3 : (xs.map (·.1))[i]? = some (DataW.lit (.string z.data.toList) : DataW H) := by simp [hb]
    rw [hxs] at h3
    simp only [List.getElem?_map, Option.map_eq_some_iff, DataW.lit.injEq, Lit.string.injEq] at h3
    obtain ⟨z', hz', e⟩ := h3
    subst e
    simp [h2, hz']
  · rw [List.getElem?_eq_none (by omega), List.getElem?_eq_none (by simp; omega)]
end
def entL : List (List (List UInt8)) := [[M1, [38]], [M2, [60]], [M3, [62]], [M4, [34]], [M5, [32]]]
theorem ents_eq : (Rows.laid_wharf_shade_entities : DataW Unit) = .agg (entL.map fun r => .agg (r.map fun z => .lit (.string z))) := by kernel_rfl
theorem cEo : Tryd.prog.cellsOf 62 = 2 := by kernel_rfl
theorem cSo : Tryd.prog.cellsOf 9 = 1 := by kernel_rfl
theorem ge_of {W : World} (hL : laidMet Tryd.prog tabs W) : Ge W := by
  obtain ⟨g, t, cs, fuel, p, hg, ht, hv, hd⟩ := Lib.laidMet.reads hL (n := "wharf/shade.entities") (d := Rows.laid_wharf_shade_entities) (.tail _ (.head _))
  have e1 : Tryd.prog.globalNamed "wharf/shade.entities" = some 0 := by kernel_rfl
  rw [e1] at hg
  cases hg
  have e2 : (Tryd.prog.globals[0]?).map (·.type) = some 63 := by kernel_rfl
  rw [e2] at ht
  cases ht
  rw [ents_eq] at hd
  have hw : ∀ i (hi : i < 5) j, j < 2 → W.cell? ⟨0, i * 2 + j, none⟩ = ((entL[i]'hi).map fun z => Value.string ⟨z.toArray⟩)[j]? := fun i hi j hj => by
    obtain ⟨fuel', d, q, hdi, he⟩ := Lib.array_elem Tryd.underlying63 hd i hi
    have hei : entL[i]? = some (entL[i]'hi) := List.getElem?_eq_getElem hi
    simp only [List.getElem?_map, hei, Option.map_some, Option.some.injEq] at hdi
    subst hdi
    rw [cEo] at he
    have hcs := texts_of_struct Tryd.underlying62 (fun j f hj => by
      match j, hj with
      | 0, hj => simp at hj; subst hj; exact ⟨Tryd.underlying9, rfl, cSo⟩
      | 1, hj => simp at hj; subst hj; exact ⟨Tryd.underlying9, rfl, cSo⟩
      | j + 2, hj => simp at hj) (by rw [cEo]; rfl) he
    have e0 := congrArg (·[j]?) hcs
    simp only [List.getElem?_take, List.getElem?_drop, if_pos hj] at e0
    rw [World.var?_cell e1 hv (i * 2 + j), ← Array.getElem?_toList, e0]
  intro i v hv2
  have hi : i < 10 := by
    have := List.getElem?_eq_some_iff.1 hv2
    exact this.1
  have hc := hw (i / 2) (by omega) (i % 2) (by omega)
  rw [show i / 2 * 2 + i % 2 = i by omega] at hc
  rw [hc, ← hv2]
  have : i = 0 ∨ i = 1 ∨ i = 2 ∨ i = 3 ∨ i = 4 ∨ i = 5 ∨ i = 6 ∨ i = 7 ∨ i = 8 ∨ i = 9 := by omega
  rcases this with rfl | rfl | rfl | rfl | rfl | rfl | rfl | rfl | rfl | rfl <;> rfl
theorem gs_of {W : World} (h : laidMetH Tryd.prog tabs W) : Gs W := by
  have hL : laidMet Tryd.prog tabs W := by
    rw [MakeChecks.laidMetH_plain _ _ _ (by kernel_rfl)] at h
    exact h
  exact ⟨gd_of hL, ge_of hL⟩
/-- A world for the witness: the settled one, the listed variables holding what their text lays. -/
noncomputable def laidWorld (os : Os) : World := World.laidAll Tryd.prog os tabs
theorem laid_met (os : Os) (args : Array Value) : laidMetH Tryd.prog tabs ((laidWorld os).forCall (fun _ _ => 0) ⟨#[], args, []⟩).memory := by
  rw [MakeChecks.laidMetH_plain _ _ _ (by kernel_rfl)]
  exact laidMet_laidAll _ (by kernel_rfl) (by kernel_rfl)
theorem witness_zip {H : Type} {enc : TypeId × Value → H} {C : Checked} {os : Os} {f : FuncId} {fn : Func} {s : OpenSpec} {conds : List PathCond} {apart : Bool} {laid : List (String × DataW Unit)} (w0 : World) (args : Array Value) (hos : w0.os = os)
    (hv : (w0.forCall (fun _ _ => 0) ⟨#[], args, []⟩).Shaped C.prog)
    (hok : Input.okWideB C.prog (w0.forCall (fun _ _ => 0) ⟨#[], args, []⟩) f ⟨#[], args, []⟩ = true)
    (hrow : s.preRow enc C.prog fn conds apart laid (w0.forCall (fun _ _ => 0) ⟨#[], args, []⟩).memory args) :
    ∃ (w : World) (tape : Tape) (i : Input), w.os = os ∧ (w.forCall tape i).Shaped C.prog ∧ i.vars = [] ∧ Input.okWide C.prog (w.forCall tape i) .any w.heap.size f i ∧
      s.preRow enc C.prog fn conds apart laid (w.forCall tape i).memory i.args ∧ ({ modest := false } : Assume).holds C.prog (lone (Frame.enter C.prog f i.args .normal) [] (w.forCall tape i)) :=
  ⟨w0, fun _ _ => 0, ⟨#[], args, []⟩, hos, hv, (Input.okWide_of_okWideB (base := 0) hok).1, (Input.okWide_of_okWideB hok).2, hrow, by
    simp only [Assume.holds]
    exact ⟨by simp, fun h => (by cases h), by simp, by simp, by simp⟩⟩
end Go.Proofs.YtbadoidjdghklaaDoor
