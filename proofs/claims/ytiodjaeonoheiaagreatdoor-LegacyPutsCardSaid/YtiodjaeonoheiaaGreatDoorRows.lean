/-
  NARROWER THAN 'FOR EVERY INPUT', by the rows' own cells (each row's printed sentence says how): LegacyPuts: laid · LegacyReads: laid.
  DERIVED. THE GIVEN ROWS OF THIS SEAT. 2 by the template 'for every input the law returns true; each argument reads behind the call as it read before'; 0 by the template 'total and deterministic' (their statements: YtiodjaeonoheiaaGreatDoorTotals.lean).
  GIVEN WITH THE SEED: the statements are not yours to turn. If you find one false, say at which input.
  Laid BY PROGRAM, IN A SANDBOX (cutbox-rows.mjs): the forced cells as the released guide's own fill.sh prints them over the translation 2c1981464996eed4… (all of the seat's roots in one cut). By AI agents, Wed Nov 11 2026. No macro, syntax, notation, axiom, sorry.
-/
import Derived.Test.YtiodjaeonoheiaaGreatDoorChecked
import GoSem.Claim
import GoSem.ClaimJoined
import GoSem.ClaimMapViews
import Derived.JoinedTies
import Derived.KernelRfl
namespace Go.Proofs.YtiodjaeonoheiaaGreatDoor
/- THE CELL 'sum', in the pinned program and in every row, IS THE sha256 OF THE DUMP (.gsa) THAT YtiodjaeonoheiaaGreatDoorProg.lean LOADS. Nothing in Lean hashes anything: it is a label: what it is worth is what the hold of that sum in a sandbox is worth. -/
noncomputable def Tryz.pinned : Pinned := { name := "ytiodjaeonoheiaagreatdoor", sum := "2c1981464996eed4a466ecfa1e1eec0aa22af25ceb557c0c3eb149329f01dfde", checked := Tryz.checked }
namespace Rows
def none {H : Type} : Left H := { results := [], args := [] }

/- WHAT THE LISTED PACKAGE-LEVEL VARIABLES READ AS WHEN THE CALL BEGINS. Each datum BY PROGRAM (the guide's laid-datum.mjs) off the statement by which the dump's own 'gosem.cut.vars' lays the variable. In a bare row this is a premise. The card (YtiodjaeonoheiaaGreatDoorCards.lean) ties it to the program's text. -/
def laid_wharf_snac_widths {H : Type} : DataW H := .agg [.lit (.int .i64 2), .lit (.int .i64 2), .lit (.int .i64 2), .lit (.int .i64 4)]
def laid_wharf_legacy_places {H : Type} : DataW H := .agg [.agg [.lit (.int .i64 0), .lit (.int .i64 0), .lit (.int .i64 0)], .agg [.lit (.int .i64 1), .lit (.int .i64 0), .lit (.int .i64 0)], .agg [.lit (.int .i64 1), .lit (.int .i64 0), .lit (.int .i64 0)], .agg [.lit (.int .i64 4), .lit (.int .i64 0), .lit (.int .i64 0)], .agg [.lit (.int .i64 5), .lit (.int .i64 0), .lit (.int .i64 0)], .agg [.lit (.int .i64 2), .lit (.int .i64 23), .lit (.int .i64 6)], .agg [.lit (.int .i64 2), .lit (.int .i64 23), .lit (.int .i64 7)], .agg [.lit (.int .i64 2), .lit (.int .i64 23), .lit (.int .i64 2)], .agg [.lit (.int .i64 2), .lit (.int .i64 23), .lit (.int .i64 3)], .agg [.lit (.int .i64 2), .lit (.int .i64 1), .lit (.int .i64 3)], .agg [.lit (.int .i64 2), .lit (.int .i64 1), .lit (.int .i64 2)], .agg [.lit (.int .i64 2), .lit (.int .i64 1), .lit (.int .i64 30)], .agg [.lit (.int .i64 2), .lit (.int .i64 1), .lit (.int .i64 17)], .agg [.lit (.int .i64 2), .lit (.int .i64 3), .lit (.int .i64 11)], .agg [.lit (.int .i64 2), .lit (.int .i64 3), .lit (.int .i64 12)], .agg [.lit (.int .i64 2), .lit (.int .i64 4), .lit (.int .i64 6)], .agg [.lit (.int .i64 2), .lit (.int .i64 4), .lit (.int .i64 7)], .agg [.lit (.int .i64 2), .lit (.int .i64 19), .lit (.int .i64 5)], .agg [.lit (.int .i64 2), .lit (.int .i64 19), .lit (.int .i64 6)], .agg [.lit (.int .i64 2), .lit (.int .i64 19), .lit (.int .i64 15)], .agg [.lit (.int .i64 2), .lit (.int .i64 19), .lit (.int .i64 8)], .agg [.lit (.int .i64 2), .lit (.int .i64 19), .lit (.int .i64 9)], .agg [.lit (.int .i64 2), .lit (.int .i64 19), .lit (.int .i64 10)], .agg [.lit (.int .i64 2), .lit (.int .i64 19), .lit (.int .i64 17)], .agg [.lit (.int .i64 2), .lit (.int .i64 19), .lit (.int .i64 18)], .agg [.lit (.int .i64 2), .lit (.int .i64 19), .lit (.int .i64 14)], .agg [.lit (.int .i64 2), .lit (.int .i64 19), .lit (.int .i64 24)], .agg [.lit (.int .i64 2), .lit (.int .i64 19), .lit (.int .i64 25)], .agg [.lit (.int .i64 2), .lit (.int .i64 19), .lit (.int .i64 26)], .agg [.lit (.int .i64 2), .lit (.int .i64 19), .lit (.int .i64 27)]]

/-- 'wharflaw14.LegacyPuts': WHATEVER THE INPUT: true; the input reads as it did. -/
def legacyPutsSpec : ChangeSpec := { name := "legacyPuts", fn := fun _ => fun
  | [d1, d2, d3, d4] => { results := [.lit (.bool true)], args := [d1, d2, d3, d4] }
  | _ => none }
def legacyPutsRow : OpenClaim := { program := "ytiodjaeonoheiaagreatdoor", sum := "2c1981464996eed4a466ecfa1e1eec0aa22af25ceb557c0c3eb149329f01dfde", func := "wharf/wharflaw14.LegacyPuts", spec := "legacyPuts", inPlace := ["internal/abi.NoEscape"], named := ["wharf/legacy.places", "wharf/snac.widths"], apart := false, laid := [("wharf/snac.widths", laid_wharf_snac_widths), ("wharf/legacy.places", laid_wharf_legacy_places)] }
def LegacyPutsSaid : Prop := legacyPutsRow.holds Tryz.pinned (OpenSpec.ofChange legacyPutsSpec)

/-- ITS FALSE NEIGHBOUR: 'it returns false'. Refute it at one input. -/
def legacyPutsWrong : ChangeSpec := { name := "legacyPuts", fn := fun _ => fun
  | [d1, d2, d3, d4] => { results := [.lit (.bool false)], args := [d1, d2, d3, d4] }
  | _ => none }
def LegacyPutsWrongFalsely : Prop := legacyPutsRow.holds Tryz.pinned (OpenSpec.ofChange legacyPutsWrong)

/-- 'wharflaw14.LegacyReads': WHATEVER THE INPUT: true; the input reads as it did. -/
def legacyReadsSpec : ChangeSpec := { name := "legacyReads", fn := fun _ => fun
  | [d1, d2] => { results := [.lit (.bool true)], args := [d1, d2] }
  | _ => none }
def legacyReadsRow : OpenClaim := { program := "ytiodjaeonoheiaagreatdoor", sum := "2c1981464996eed4a466ecfa1e1eec0aa22af25ceb557c0c3eb149329f01dfde", func := "wharf/wharflaw14.LegacyReads", spec := "legacyReads", inPlace := ["internal/abi.NoEscape"], named := ["wharf/legacy.places", "wharf/snac.widths"], apart := false, laid := [("wharf/snac.widths", laid_wharf_snac_widths), ("wharf/legacy.places", laid_wharf_legacy_places)] }
def LegacyReadsSaid : Prop := legacyReadsRow.holds Tryz.pinned (OpenSpec.ofChange legacyReadsSpec)

/-- ITS FALSE NEIGHBOUR: 'it returns false'. Refute it at one input. -/
def legacyReadsWrong : ChangeSpec := { name := "legacyReads", fn := fun _ => fun
  | [d1, d2] => { results := [.lit (.bool false)], args := [d1, d2] }
  | _ => none }
def LegacyReadsWrongFalsely : Prop := legacyReadsRow.holds Tryz.pinned (OpenSpec.ofChange legacyReadsWrong)

/- THE SECOND FORM. 'bulk': how many values and letters a reading holds, each counted each time it is reached (what is shared counts as often as it is met; a slice's spare places count too). A statement '..UptoSaid' is the law's where the arguments, and the package variables that the reading takes, are together of bulk at most 1048576: NARROWER than '..Said'. Prove '..Said' where nothing that the law and all that it calls make is longer than what came in: it says more and counts as full. Else prove '..UptoSaid'. A law counts once. -/
mutual
def uptoBulk {H : Type} : DataW H → Nat
  | .lit (.string bytes) => bytes.length + 1
  | .lit _ => 1
  | .nil => 1
  | .ptr d => uptoBulk d + 1
  | .slice elems spare => uptoBulkAll elems + uptoBulkAll spare + 1
  | .agg parts => uptoBulkAll parts + 1
  | .iface _ d => uptoBulk d + 1
  | .map entries => uptoBulkEntries entries + 1
  | .held _ => 1
def uptoBulkAll {H : Type} : List (DataW H) → Nat
  | [] => 0
  | d :: r => uptoBulk d + uptoBulkAll r
def uptoBulkEntries {H : Type} : List (Lit × DataW H) → Nat
  | [] => 0
  | x :: r => uptoBulkEntry x + uptoBulkEntries r
def uptoBulkEntry {H : Type} : Lit × DataW H → Nat
  | (.string bytes, d) => bytes.length + uptoBulk d + 1
  | (_, d) => uptoBulk d + 1
 end
def uptoSmall : (H : Type) → List (DataW H) → Bool := fun _ ds => decide (uptoBulkAll ds ≤ 1048576)
def OpenSpec.upto (s : _root_.Go.ChangeSpec) : _root_.Go.OpenSpec := { _root_.Go.OpenSpec.ofChange s with cond := some uptoSmall }

/-- 'wharflaw14.LegacyPuts', WHERE WHAT IT READS IS OF BULK AT MOST 1048576: true; the input reads as it did. -/
def legacyPutsUptoRow : OpenClaim := { program := "ytiodjaeonoheiaagreatdoor", sum := "2c1981464996eed4a466ecfa1e1eec0aa22af25ceb557c0c3eb149329f01dfde", func := "wharf/wharflaw14.LegacyPuts", spec := "legacyPuts", inPlace := ["internal/abi.NoEscape"], named := ["wharf/legacy.places", "wharf/snac.widths"], apart := false, laid := [("wharf/snac.widths", laid_wharf_snac_widths), ("wharf/legacy.places", laid_wharf_legacy_places)], narrowed := true }
def LegacyPutsUptoSaid : Prop := legacyPutsUptoRow.holds Tryz.pinned (OpenSpec.upto legacyPutsSpec)

/-- 'wharflaw14.LegacyReads', WHERE WHAT IT READS IS OF BULK AT MOST 1048576: true; the input reads as it did. -/
def legacyReadsUptoRow : OpenClaim := { program := "ytiodjaeonoheiaagreatdoor", sum := "2c1981464996eed4a466ecfa1e1eec0aa22af25ceb557c0c3eb149329f01dfde", func := "wharf/wharflaw14.LegacyReads", spec := "legacyReads", inPlace := ["internal/abi.NoEscape"], named := ["wharf/legacy.places", "wharf/snac.widths"], apart := false, laid := [("wharf/snac.widths", laid_wharf_snac_widths), ("wharf/legacy.places", laid_wharf_legacy_places)], narrowed := true }
def LegacyReadsUptoSaid : Prop := legacyReadsUptoRow.holds Tryz.pinned (OpenSpec.upto legacyReadsSpec)

end Rows
end Go.Proofs.YtiodjaeonoheiaaGreatDoor
