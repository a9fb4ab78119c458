/-
  NARROWER THAN 'FOR EVERY INPUT', by the rows' own cells (each row's printed sentence says how): SnacPuts: laid · SnacBack: laid · SnacApart: laid · SnacHeads: laid.
  DERIVED. THE GIVEN ROWS OF THIS SEAT. 4 by the template 'for every input the law returns true; each argument reads behind the call as it read before'; 0 by the template 'total and deterministic' (their statements: YthbpkdcjfcbngaaDoorTotals.lean).
  GIVEN WITH THE SEED: the statements are not yours to turn. If you find one false, say at which input.
  Laid BY PROGRAM, IN A SANDBOX (cutbox-rows.mjs): the forced cells as the released guide's own fill.sh prints them over the translation 7e7a3feceb41b5ec… (all of the seat's roots in one cut). By AI agents, Wed Nov 11 2026. No macro, syntax, notation, axiom, sorry.
-/
import Derived.Test.YthbpkdcjfcbngaaDoorChecked
import GoSem.Claim
import GoSem.ClaimJoined
import GoSem.ClaimMapViews
import Derived.JoinedTies
import Derived.KernelRfl
namespace Go.Proofs.YthbpkdcjfcbngaaDoor
/- THE CELL 'sum', in the pinned program and in every row, IS THE sha256 OF THE DUMP (.gsa) THAT YthbpkdcjfcbngaaDoorProg.lean LOADS. Nothing in Lean hashes anything: it is a label: what it is worth is what the hold of that sum in a sandbox is worth. -/
noncomputable def Tryd.pinned : Pinned := { name := "ythbpkdcjfcbngaadoor", sum := "7e7a3feceb41b5ecd3e694cac8ce589af36761608567ab8d549aa8d2da571df9", checked := Tryd.checked }
namespace Rows
def none {H : Type} : Left H := { results := [], args := [] }

/- WHAT THE LISTED PACKAGE-LEVEL VARIABLES READ AS WHEN THE CALL BEGINS. Each datum BY PROGRAM (the guide's laid-datum.mjs) off the statement by which the dump's own 'gosem.cut.vars' lays the variable. In a bare row this is a premise. The card (YthbpkdcjfcbngaaDoorCards.lean) ties it to the program's text. -/
def laid_wharf_snac_widths {H : Type} : DataW H := .agg [.lit (.int .i64 2), .lit (.int .i64 2), .lit (.int .i64 2), .lit (.int .i64 4)]

/-- 'wharflaw13.SnacPuts': WHATEVER THE INPUT: true; the input reads as it did. -/
def snacPutsSpec : ChangeSpec := { name := "snacPuts", fn := fun _ => fun
  | [d1, d2, d3, d4] => { results := [.lit (.bool true)], args := [d1, d2, d3, d4] }
  | _ => none }
def snacPutsRow : OpenClaim := { program := "ythbpkdcjfcbngaadoor", sum := "7e7a3feceb41b5ecd3e694cac8ce589af36761608567ab8d549aa8d2da571df9", func := "wharf/wharflaw13.SnacPuts", spec := "snacPuts", named := ["wharf/snac.widths"], apart := false, laid := [("wharf/snac.widths", laid_wharf_snac_widths)] }
def SnacPutsSaid : Prop := snacPutsRow.holds Tryd.pinned (OpenSpec.ofChange snacPutsSpec)

/-- ITS FALSE NEIGHBOUR: 'it returns false'. Refute it at one input. -/
def snacPutsWrong : ChangeSpec := { name := "snacPuts", fn := fun _ => fun
  | [d1, d2, d3, d4] => { results := [.lit (.bool false)], args := [d1, d2, d3, d4] }
  | _ => none }
def SnacPutsWrongFalsely : Prop := snacPutsRow.holds Tryd.pinned (OpenSpec.ofChange snacPutsWrong)

/-- 'wharflaw13.SnacBack': WHATEVER THE INPUT: true; the input reads as it did. -/
def snacBackSpec : ChangeSpec := { name := "snacBack", fn := fun _ => fun
  | [d1, d2] => { results := [.lit (.bool true)], args := [d1, d2] }
  | _ => none }
def snacBackRow : OpenClaim := { program := "ythbpkdcjfcbngaadoor", sum := "7e7a3feceb41b5ecd3e694cac8ce589af36761608567ab8d549aa8d2da571df9", func := "wharf/wharflaw13.SnacBack", spec := "snacBack", named := ["wharf/snac.widths"], apart := false, laid := [("wharf/snac.widths", laid_wharf_snac_widths)] }
def SnacBackSaid : Prop := snacBackRow.holds Tryd.pinned (OpenSpec.ofChange snacBackSpec)

/-- ITS FALSE NEIGHBOUR: 'it returns false'. Refute it at one input. -/
def snacBackWrong : ChangeSpec := { name := "snacBack", fn := fun _ => fun
  | [d1, d2] => { results := [.lit (.bool false)], args := [d1, d2] }
  | _ => none }
def SnacBackWrongFalsely : Prop := snacBackRow.holds Tryd.pinned (OpenSpec.ofChange snacBackWrong)

/-- 'wharflaw13.SnacApart': WHATEVER THE INPUT: true; the input reads as it did. -/
def snacApartSpec : ChangeSpec := { name := "snacApart", fn := fun _ => fun
  | [d1, d2] => { results := [.lit (.bool true)], args := [d1, d2] }
  | _ => none }
def snacApartRow : OpenClaim := { program := "ythbpkdcjfcbngaadoor", sum := "7e7a3feceb41b5ecd3e694cac8ce589af36761608567ab8d549aa8d2da571df9", func := "wharf/wharflaw13.SnacApart", spec := "snacApart", named := ["wharf/snac.widths"], apart := false, laid := [("wharf/snac.widths", laid_wharf_snac_widths)] }
def SnacApartSaid : Prop := snacApartRow.holds Tryd.pinned (OpenSpec.ofChange snacApartSpec)

/-- ITS FALSE NEIGHBOUR: 'it returns false'. Refute it at one input. -/
def snacApartWrong : ChangeSpec := { name := "snacApart", fn := fun _ => fun
  | [d1, d2] => { results := [.lit (.bool false)], args := [d1, d2] }
  | _ => none }
def SnacApartWrongFalsely : Prop := snacApartRow.holds Tryd.pinned (OpenSpec.ofChange snacApartWrong)

/-- 'wharflaw13.SnacHeads': WHATEVER THE INPUT: true; the input reads as it did. -/
def snacHeadsSpec : ChangeSpec := { name := "snacHeads", fn := fun _ => fun
  | [d1, d2, d3, d4] => { results := [.lit (.bool true)], args := [d1, d2, d3, d4] }
  | _ => none }
def snacHeadsRow : OpenClaim := { program := "ythbpkdcjfcbngaadoor", sum := "7e7a3feceb41b5ecd3e694cac8ce589af36761608567ab8d549aa8d2da571df9", func := "wharf/wharflaw13.SnacHeads", spec := "snacHeads", named := ["wharf/snac.widths"], apart := false, laid := [("wharf/snac.widths", laid_wharf_snac_widths)] }
def SnacHeadsSaid : Prop := snacHeadsRow.holds Tryd.pinned (OpenSpec.ofChange snacHeadsSpec)

/-- ITS FALSE NEIGHBOUR: 'it returns false'. Refute it at one input. -/
def snacHeadsWrong : ChangeSpec := { name := "snacHeads", fn := fun _ => fun
  | [d1, d2, d3, d4] => { results := [.lit (.bool false)], args := [d1, d2, d3, d4] }
  | _ => none }
def SnacHeadsWrongFalsely : Prop := snacHeadsRow.holds Tryd.pinned (OpenSpec.ofChange snacHeadsWrong)

/- THE SECOND FORM. 'bulk': how many values and letters a reading holds, each counted each time it is reached (what is shared counts as often as it is met; a slice's spare places count too). A statement '..UptoSaid' is the law's where the arguments, and the package variables that the reading takes, are together of bulk at most 1048576: NARROWER than '..Said'. Prove '..Said' where nothing that the law and all that it calls make is longer than what came in: it says more and counts as full. Else prove '..UptoSaid'. A law counts once. -/
mutual
def uptoBulk {H : Type} : DataW H → Nat
  | .lit (.string bytes) => bytes.length + 1
  | .lit _ => 1
  | .nil => 1
  | .ptr d => uptoBulk d + 1
  | .slice elems spare => uptoBulkAll elems + uptoBulkAll spare + 1
  | .agg parts => uptoBulkAll parts + 1
  | .iface _ d => uptoBulk d + 1
  | .map entries => uptoBulkEntries entries + 1
  | .held _ => 1
def uptoBulkAll {H : Type} : List (DataW H) → Nat
  | [] => 0
  | d :: r => uptoBulk d + uptoBulkAll r
def uptoBulkEntries {H : Type} : List (Lit × DataW H) → Nat
  | [] => 0
  | x :: r => uptoBulkEntry x + uptoBulkEntries r
def uptoBulkEntry {H : Type} : Lit × DataW H → Nat
  | (.string bytes, d) => bytes.length + uptoBulk d + 1
  | (_, d) => uptoBulk d + 1
 end
def uptoSmall : (H : Type) → List (DataW H) → Bool := fun _ ds => decide (uptoBulkAll ds ≤ 1048576)
def OpenSpec.upto (s : _root_.Go.ChangeSpec) : _root_.Go.OpenSpec := { _root_.Go.OpenSpec.ofChange s with cond := some uptoSmall }

/-- 'wharflaw13.SnacPuts', WHERE WHAT IT READS IS OF BULK AT MOST 1048576: true; the input reads as it did. -/
def snacPutsUptoRow : OpenClaim := { program := "ythbpkdcjfcbngaadoor", sum := "7e7a3feceb41b5ecd3e694cac8ce589af36761608567ab8d549aa8d2da571df9", func := "wharf/wharflaw13.SnacPuts", spec := "snacPuts", named := ["wharf/snac.widths"], apart := false, laid := [("wharf/snac.widths", laid_wharf_snac_widths)], narrowed := true }
def SnacPutsUptoSaid : Prop := snacPutsUptoRow.holds Tryd.pinned (OpenSpec.upto snacPutsSpec)

/-- 'wharflaw13.SnacBack', WHERE WHAT IT READS IS OF BULK AT MOST 1048576: true; the input reads as it did. -/
def snacBackUptoRow : OpenClaim := { program := "ythbpkdcjfcbngaadoor", sum := "7e7a3feceb41b5ecd3e694cac8ce589af36761608567ab8d549aa8d2da571df9", func := "wharf/wharflaw13.SnacBack", spec := "snacBack", named := ["wharf/snac.widths"], apart := false, laid := [("wharf/snac.widths", laid_wharf_snac_widths)], narrowed := true }
def SnacBackUptoSaid : Prop := snacBackUptoRow.holds Tryd.pinned (OpenSpec.upto snacBackSpec)

/-- 'wharflaw13.SnacApart', WHERE WHAT IT READS IS OF BULK AT MOST 1048576: true; the input reads as it did. -/
def snacApartUptoRow : OpenClaim := { program := "ythbpkdcjfcbngaadoor", sum := "7e7a3feceb41b5ecd3e694cac8ce589af36761608567ab8d549aa8d2da571df9", func := "wharf/wharflaw13.SnacApart", spec := "snacApart", named := ["wharf/snac.widths"], apart := false, laid := [("wharf/snac.widths", laid_wharf_snac_widths)], narrowed := true }
def SnacApartUptoSaid : Prop := snacApartUptoRow.holds Tryd.pinned (OpenSpec.upto snacApartSpec)

/-- 'wharflaw13.SnacHeads', WHERE WHAT IT READS IS OF BULK AT MOST 1048576: true; the input reads as it did. -/
def snacHeadsUptoRow : OpenClaim := { program := "ythbpkdcjfcbngaadoor", sum := "7e7a3feceb41b5ecd3e694cac8ce589af36761608567ab8d549aa8d2da571df9", func := "wharf/wharflaw13.SnacHeads", spec := "snacHeads", named := ["wharf/snac.widths"], apart := false, laid := [("wharf/snac.widths", laid_wharf_snac_widths)], narrowed := true }
def SnacHeadsUptoSaid : Prop := snacHeadsUptoRow.holds Tryd.pinned (OpenSpec.upto snacHeadsSpec)

end Rows
end Go.Proofs.YthbpkdcjfcbngaaDoor
