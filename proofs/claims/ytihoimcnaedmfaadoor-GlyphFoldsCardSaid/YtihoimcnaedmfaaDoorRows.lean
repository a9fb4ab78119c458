/-
  NARROWER THAN 'FOR EVERY INPUT', by the rows' own cells (each row's printed sentence says how): GlyphFirsts: laid · GlyphChecks: laid · GlyphFolds: laid · GlyphBack: laid · GlyphWhole: laid · GlyphSame: laid · GlyphHeads: laid · GlyphOrder: laid · GlyphCuts: laid.
  DERIVED. THE GIVEN ROWS OF THIS SEAT. 9 by the template 'for every input the law returns true; each argument reads behind the call as it read before'; 0 by the template 'total and deterministic' (their statements: YtihoimcnaedmfaaDoorTotals.lean).
  GIVEN WITH THE SEED: the statements are not yours to turn. If you find one false, say at which input.
  Laid BY PROGRAM, IN A SANDBOX (cutbox-rows.mjs): the forced cells as the released guide's own fill.sh prints them over the translation 28603e5b5d9d0014… (all of the seat's roots in one cut). By AI agents, Wed Nov 11 2026. No macro, syntax, notation, axiom, sorry.
-/
import Derived.Test.YtihoimcnaedmfaaDoorChecked
import GoSem.PinnedTables
import GoSem.Claim
import GoSem.ClaimJoined
import GoSem.ClaimMapViews
import Derived.JoinedTies
import Derived.KernelRfl
namespace Go.Proofs.YtihoimcnaedmfaaDoor
/- THE CELL 'sum', in the pinned program and in every row, IS THE sha256 OF THE DUMP (.gsa) THAT YtihoimcnaedmfaaDoorProg.lean LOADS. Nothing in Lean hashes anything: it is a label: what it is worth is what the hold of that sum in a sandbox is worth. -/
noncomputable def Tryd.pinned : Pinned := { name := "ytihoimcnaedmfaadoor", sum := "28603e5b5d9d0014378d8de1af515c56060a8ad0bf3d3933450316901fe83f18", checked := Tryd.checked }
namespace Rows
def none {H : Type} : Left H := { results := [], args := [] }

/- WHAT THE LISTED PACKAGE-LEVEL VARIABLES READ AS WHEN THE CALL BEGINS. Each datum BY PROGRAM (the guide's laid-datum.mjs) off the statement by which the dump's own 'gosem.cut.vars' lays the variable. In a bare row this is a premise. The card (YtihoimcnaedmfaaDoorCards.lean) ties it to the program's text. -/
def laid_unicode_utf8_acceptRanges {H : Type} : DataW H := .agg [.agg [.lit (.int .u8 128), .lit (.int .u8 191)], .agg [.lit (.int .u8 160), .lit (.int .u8 191)], .agg [.lit (.int .u8 128), .lit (.int .u8 159)], .agg [.lit (.int .u8 144), .lit (.int .u8 191)], .agg [.lit (.int .u8 128), .lit (.int .u8 143)], .agg [.lit (.int .u8 0), .lit (.int .u8 0)], .agg [.lit (.int .u8 0), .lit (.int .u8 0)], .agg [.lit (.int .u8 0), .lit (.int .u8 0)], .agg [.lit (.int .u8 0), .lit (.int .u8 0)], .agg [.lit (.int .u8 0), .lit (.int .u8 0)], .agg [.lit (.int .u8 0), .lit (.int .u8 0)], .agg [.lit (.int .u8 0), .lit (.int .u8 0)], .agg [.lit (.int .u8 0), .lit (.int .u8 0)], .agg [.lit (.int .u8 0), .lit (.int .u8 0)], .agg [.lit (.int .u8 0), .lit (.int .u8 0)], .agg [.lit (.int .u8 0), .lit (.int .u8 0)]]
/-- One of Go's own tables, pinned by name: the form's constant. -/
def laid_unicode_utf8_first : DataW Unit := Go.Pinned.utf8First

/-- 'wharflaw01.GlyphFirsts': WHATEVER THE INPUT: true; the input reads as it did. -/
def glyphFirstsSpec : ChangeSpec := { name := "glyphFirsts", fn := fun _ => fun
  | [d1, d2] => { results := [.lit (.bool true)], args := [d1, d2] }
  | _ => none }
def glyphFirstsRow : OpenClaim := { program := "ytihoimcnaedmfaadoor", sum := "28603e5b5d9d0014378d8de1af515c56060a8ad0bf3d3933450316901fe83f18", func := "wharf/wharflaw01.GlyphFirsts", spec := "glyphFirsts", inPlace := ["internal/bytealg.IndexByteString", "internal/bytealg.IndexString"], named := ["unicode/utf8.first", "unicode/utf8.acceptRanges", "internal/bytealg.MaxLen"], apart := false, laid := [("unicode/utf8.acceptRanges", laid_unicode_utf8_acceptRanges), ("unicode/utf8.first", laid_unicode_utf8_first)] }
def GlyphFirstsSaid : Prop := glyphFirstsRow.holds Tryd.pinned (OpenSpec.ofChange glyphFirstsSpec)

/-- ITS FALSE NEIGHBOUR: 'it returns false'. Refute it at one input. -/
def glyphFirstsWrong : ChangeSpec := { name := "glyphFirsts", fn := fun _ => fun
  | [d1, d2] => { results := [.lit (.bool false)], args := [d1, d2] }
  | _ => none }
def GlyphFirstsWrongFalsely : Prop := glyphFirstsRow.holds Tryd.pinned (OpenSpec.ofChange glyphFirstsWrong)

/-- 'wharflaw01.GlyphChecks': WHATEVER THE INPUT: true; the input reads as it did. -/
def glyphChecksSpec : ChangeSpec := { name := "glyphChecks", fn := fun _ => fun
  | [d] => { results := [.lit (.bool true)], args := [d] }
  | _ => none }
def glyphChecksRow : OpenClaim := { program := "ytihoimcnaedmfaadoor", sum := "28603e5b5d9d0014378d8de1af515c56060a8ad0bf3d3933450316901fe83f18", func := "wharf/wharflaw01.GlyphChecks", spec := "glyphChecks", inPlace := ["internal/bytealg.IndexByteString", "internal/bytealg.IndexString"], named := ["unicode/utf8.first", "unicode/utf8.acceptRanges", "internal/bytealg.MaxLen"], apart := false, laid := [("unicode/utf8.acceptRanges", laid_unicode_utf8_acceptRanges), ("unicode/utf8.first", laid_unicode_utf8_first)] }
def GlyphChecksSaid : Prop := glyphChecksRow.holds Tryd.pinned (OpenSpec.ofChange glyphChecksSpec)

/-- ITS FALSE NEIGHBOUR: 'it returns false'. Refute it at one input. -/
def glyphChecksWrong : ChangeSpec := { name := "glyphChecks", fn := fun _ => fun
  | [d] => { results := [.lit (.bool false)], args := [d] }
  | _ => none }
def GlyphChecksWrongFalsely : Prop := glyphChecksRow.holds Tryd.pinned (OpenSpec.ofChange glyphChecksWrong)

/-- 'wharflaw01.GlyphFolds': WHATEVER THE INPUT: true; the input reads as it did. -/
def glyphFoldsSpec : ChangeSpec := { name := "glyphFolds", fn := fun _ => fun
  | [d1, d2] => { results := [.lit (.bool true)], args := [d1, d2] }
  | _ => none }
def glyphFoldsRow : OpenClaim := { program := "ytihoimcnaedmfaadoor", sum := "28603e5b5d9d0014378d8de1af515c56060a8ad0bf3d3933450316901fe83f18", func := "wharf/wharflaw01.GlyphFolds", spec := "glyphFolds", inPlace := ["internal/bytealg.IndexByteString", "internal/bytealg.IndexString"], named := ["unicode/utf8.first", "unicode/utf8.acceptRanges", "internal/bytealg.MaxLen"], apart := false, laid := [("unicode/utf8.acceptRanges", laid_unicode_utf8_acceptRanges), ("unicode/utf8.first", laid_unicode_utf8_first)] }
def GlyphFoldsSaid : Prop := glyphFoldsRow.holds Tryd.pinned (OpenSpec.ofChange glyphFoldsSpec)

/-- ITS FALSE NEIGHBOUR: 'it returns false'. Refute it at one input. -/
def glyphFoldsWrong : ChangeSpec := { name := "glyphFolds", fn := fun _ => fun
  | [d1, d2] => { results := [.lit (.bool false)], args := [d1, d2] }
  | _ => none }
def GlyphFoldsWrongFalsely : Prop := glyphFoldsRow.holds Tryd.pinned (OpenSpec.ofChange glyphFoldsWrong)

/-- 'wharflaw01.GlyphBack': WHATEVER THE INPUT: true; the input reads as it did. -/
def glyphBackSpec : ChangeSpec := { name := "glyphBack", fn := fun _ => fun
  | [d1, d2, d3] => { results := [.lit (.bool true)], args := [d1, d2, d3] }
  | _ => none }
def glyphBackRow : OpenClaim := { program := "ytihoimcnaedmfaadoor", sum := "28603e5b5d9d0014378d8de1af515c56060a8ad0bf3d3933450316901fe83f18", func := "wharf/wharflaw01.GlyphBack", spec := "glyphBack", inPlace := ["internal/bytealg.IndexByteString", "internal/bytealg.IndexString"], named := ["unicode/utf8.first", "unicode/utf8.acceptRanges", "internal/bytealg.MaxLen"], apart := false, laid := [("unicode/utf8.acceptRanges", laid_unicode_utf8_acceptRanges), ("unicode/utf8.first", laid_unicode_utf8_first)] }
def GlyphBackSaid : Prop := glyphBackRow.holds Tryd.pinned (OpenSpec.ofChange glyphBackSpec)

/-- ITS FALSE NEIGHBOUR: 'it returns false'. Refute it at one input. -/
def glyphBackWrong : ChangeSpec := { name := "glyphBack", fn := fun _ => fun
  | [d1, d2, d3] => { results := [.lit (.bool false)], args := [d1, d2, d3] }
  | _ => none }
def GlyphBackWrongFalsely : Prop := glyphBackRow.holds Tryd.pinned (OpenSpec.ofChange glyphBackWrong)

/-- 'wharflaw01.GlyphWhole': WHATEVER THE INPUT: true; the input reads as it did. -/
def glyphWholeSpec : ChangeSpec := { name := "glyphWhole", fn := fun _ => fun
  | [d1, d2] => { results := [.lit (.bool true)], args := [d1, d2] }
  | _ => none }
def glyphWholeRow : OpenClaim := { program := "ytihoimcnaedmfaadoor", sum := "28603e5b5d9d0014378d8de1af515c56060a8ad0bf3d3933450316901fe83f18", func := "wharf/wharflaw01.GlyphWhole", spec := "glyphWhole", inPlace := ["internal/bytealg.IndexByteString", "internal/bytealg.IndexString"], named := ["unicode/utf8.first", "unicode/utf8.acceptRanges", "internal/bytealg.MaxLen"], apart := false, laid := [("unicode/utf8.acceptRanges", laid_unicode_utf8_acceptRanges), ("unicode/utf8.first", laid_unicode_utf8_first)] }
def GlyphWholeSaid : Prop := glyphWholeRow.holds Tryd.pinned (OpenSpec.ofChange glyphWholeSpec)

/-- ITS FALSE NEIGHBOUR: 'it returns false'. Refute it at one input. -/
def glyphWholeWrong : ChangeSpec := { name := "glyphWhole", fn := fun _ => fun
  | [d1, d2] => { results := [.lit (.bool false)], args := [d1, d2] }
  | _ => none }
def GlyphWholeWrongFalsely : Prop := glyphWholeRow.holds Tryd.pinned (OpenSpec.ofChange glyphWholeWrong)

/-- 'wharflaw01.GlyphSame': WHATEVER THE INPUT: true; the input reads as it did. -/
def glyphSameSpec : ChangeSpec := { name := "glyphSame", fn := fun _ => fun
  | [d1, d2] => { results := [.lit (.bool true)], args := [d1, d2] }
  | _ => none }
def glyphSameRow : OpenClaim := { program := "ytihoimcnaedmfaadoor", sum := "28603e5b5d9d0014378d8de1af515c56060a8ad0bf3d3933450316901fe83f18", func := "wharf/wharflaw01.GlyphSame", spec := "glyphSame", inPlace := ["internal/bytealg.IndexByteString", "internal/bytealg.IndexString"], named := ["unicode/utf8.first", "unicode/utf8.acceptRanges", "internal/bytealg.MaxLen"], apart := false, laid := [("unicode/utf8.acceptRanges", laid_unicode_utf8_acceptRanges), ("unicode/utf8.first", laid_unicode_utf8_first)] }
def GlyphSameSaid : Prop := glyphSameRow.holds Tryd.pinned (OpenSpec.ofChange glyphSameSpec)

/-- ITS FALSE NEIGHBOUR: 'it returns false'. Refute it at one input. -/
def glyphSameWrong : ChangeSpec := { name := "glyphSame", fn := fun _ => fun
  | [d1, d2] => { results := [.lit (.bool false)], args := [d1, d2] }
  | _ => none }
def GlyphSameWrongFalsely : Prop := glyphSameRow.holds Tryd.pinned (OpenSpec.ofChange glyphSameWrong)

/-- 'wharflaw01.GlyphHeads': WHATEVER THE INPUT: true; the input reads as it did. -/
def glyphHeadsSpec : ChangeSpec := { name := "glyphHeads", fn := fun _ => fun
  | [d1, d2] => { results := [.lit (.bool true)], args := [d1, d2] }
  | _ => none }
def glyphHeadsRow : OpenClaim := { program := "ytihoimcnaedmfaadoor", sum := "28603e5b5d9d0014378d8de1af515c56060a8ad0bf3d3933450316901fe83f18", func := "wharf/wharflaw01.GlyphHeads", spec := "glyphHeads", inPlace := ["internal/bytealg.IndexByteString", "internal/bytealg.IndexString"], named := ["unicode/utf8.first", "unicode/utf8.acceptRanges", "internal/bytealg.MaxLen"], apart := false, laid := [("unicode/utf8.acceptRanges", laid_unicode_utf8_acceptRanges), ("unicode/utf8.first", laid_unicode_utf8_first)] }
def GlyphHeadsSaid : Prop := glyphHeadsRow.holds Tryd.pinned (OpenSpec.ofChange glyphHeadsSpec)

/-- ITS FALSE NEIGHBOUR: 'it returns false'. Refute it at one input. -/
def glyphHeadsWrong : ChangeSpec := { name := "glyphHeads", fn := fun _ => fun
  | [d1, d2] => { results := [.lit (.bool false)], args := [d1, d2] }
  | _ => none }
def GlyphHeadsWrongFalsely : Prop := glyphHeadsRow.holds Tryd.pinned (OpenSpec.ofChange glyphHeadsWrong)

/-- 'wharflaw01.GlyphOrder': WHATEVER THE INPUT: true; the input reads as it did. -/
def glyphOrderSpec : ChangeSpec := { name := "glyphOrder", fn := fun _ => fun
  | [d1, d2] => { results := [.lit (.bool true)], args := [d1, d2] }
  | _ => none }
def glyphOrderRow : OpenClaim := { program := "ytihoimcnaedmfaadoor", sum := "28603e5b5d9d0014378d8de1af515c56060a8ad0bf3d3933450316901fe83f18", func := "wharf/wharflaw01.GlyphOrder", spec := "glyphOrder", inPlace := ["internal/bytealg.IndexByteString", "internal/bytealg.IndexString"], named := ["unicode/utf8.first", "unicode/utf8.acceptRanges", "internal/bytealg.MaxLen"], apart := false, laid := [("unicode/utf8.acceptRanges", laid_unicode_utf8_acceptRanges), ("unicode/utf8.first", laid_unicode_utf8_first)] }
def GlyphOrderSaid : Prop := glyphOrderRow.holds Tryd.pinned (OpenSpec.ofChange glyphOrderSpec)

/-- ITS FALSE NEIGHBOUR: 'it returns false'. Refute it at one input. -/
def glyphOrderWrong : ChangeSpec := { name := "glyphOrder", fn := fun _ => fun
  | [d1, d2] => { results := [.lit (.bool false)], args := [d1, d2] }
  | _ => none }
def GlyphOrderWrongFalsely : Prop := glyphOrderRow.holds Tryd.pinned (OpenSpec.ofChange glyphOrderWrong)

/-- 'wharflaw01.GlyphCuts': WHATEVER THE INPUT: true; the input reads as it did. -/
def glyphCutsSpec : ChangeSpec := { name := "glyphCuts", fn := fun _ => fun
  | [d1, d2] => { results := [.lit (.bool true)], args := [d1, d2] }
  | _ => none }
def glyphCutsRow : OpenClaim := { program := "ytihoimcnaedmfaadoor", sum := "28603e5b5d9d0014378d8de1af515c56060a8ad0bf3d3933450316901fe83f18", func := "wharf/wharflaw01.GlyphCuts", spec := "glyphCuts", inPlace := ["internal/bytealg.IndexByteString", "internal/bytealg.IndexString"], named := ["unicode/utf8.first", "unicode/utf8.acceptRanges", "internal/bytealg.MaxLen"], apart := false, laid := [("unicode/utf8.acceptRanges", laid_unicode_utf8_acceptRanges), ("unicode/utf8.first", laid_unicode_utf8_first)] }
def GlyphCutsSaid : Prop := glyphCutsRow.holds Tryd.pinned (OpenSpec.ofChange glyphCutsSpec)

/-- ITS FALSE NEIGHBOUR: 'it returns false'. Refute it at one input. -/
def glyphCutsWrong : ChangeSpec := { name := "glyphCuts", fn := fun _ => fun
  | [d1, d2] => { results := [.lit (.bool false)], args := [d1, d2] }
  | _ => none }
def GlyphCutsWrongFalsely : Prop := glyphCutsRow.holds Tryd.pinned (OpenSpec.ofChange glyphCutsWrong)

/- THE SECOND FORM. 'bulk': how many values and letters a reading holds, each counted each time it is reached (what is shared counts as often as it is met; a slice's spare places count too). A statement '..UptoSaid' is the law's where the arguments, and the package variables that the reading takes, are together of bulk at most 1048576: NARROWER than '..Said'. Prove '..Said' where nothing that the law and all that it calls make is longer than what came in: it says more and counts as full. Else prove '..UptoSaid'. A law counts once. -/
mutual
def uptoBulk {H : Type} : DataW H → Nat
  | .lit (.string bytes) => bytes.length + 1
  | .lit _ => 1
  | .nil => 1
  | .ptr d => uptoBulk d + 1
  | .slice elems spare => uptoBulkAll elems + uptoBulkAll spare + 1
  | .agg parts => uptoBulkAll parts + 1
  | .iface _ d => uptoBulk d + 1
  | .map entries => uptoBulkEntries entries + 1
  | .held _ => 1
def uptoBulkAll {H : Type} : List (DataW H) → Nat
  | [] => 0
  | d :: r => uptoBulk d + uptoBulkAll r
def uptoBulkEntries {H : Type} : List (Lit × DataW H) → Nat
  | [] => 0
  | x :: r => uptoBulkEntry x + uptoBulkEntries r
def uptoBulkEntry {H : Type} : Lit × DataW H → Nat
  | (.string bytes, d) => bytes.length + uptoBulk d + 1
  | (_, d) => uptoBulk d + 1
 end
def uptoSmall : (H : Type) → List (DataW H) → Bool := fun _ ds => decide (uptoBulkAll ds ≤ 1048576)
def OpenSpec.upto (s : _root_.Go.ChangeSpec) : _root_.Go.OpenSpec := { _root_.Go.OpenSpec.ofChange s with cond := some uptoSmall }

/-- 'wharflaw01.GlyphFirsts', WHERE WHAT IT READS IS OF BULK AT MOST 1048576: true; the input reads as it did. -/
def glyphFirstsUptoRow : OpenClaim := { program := "ytihoimcnaedmfaadoor", sum := "28603e5b5d9d0014378d8de1af515c56060a8ad0bf3d3933450316901fe83f18", func := "wharf/wharflaw01.GlyphFirsts", spec := "glyphFirsts", inPlace := ["internal/bytealg.IndexByteString", "internal/bytealg.IndexString"], named := ["unicode/utf8.first", "unicode/utf8.acceptRanges", "internal/bytealg.MaxLen"], apart := false, laid := [("unicode/utf8.acceptRanges", laid_unicode_utf8_acceptRanges), ("unicode/utf8.first", laid_unicode_utf8_first)], narrowed := true }
def GlyphFirstsUptoSaid : Prop := glyphFirstsUptoRow.holds Tryd.pinned (OpenSpec.upto glyphFirstsSpec)

/-- 'wharflaw01.GlyphChecks', WHERE WHAT IT READS IS OF BULK AT MOST 1048576: true; the input reads as it did. -/
def glyphChecksUptoRow : OpenClaim := { program := "ytihoimcnaedmfaadoor", sum := "28603e5b5d9d0014378d8de1af515c56060a8ad0bf3d3933450316901fe83f18", func := "wharf/wharflaw01.GlyphChecks", spec := "glyphChecks", inPlace := ["internal/bytealg.IndexByteString", "internal/bytealg.IndexString"], named := ["unicode/utf8.first", "unicode/utf8.acceptRanges", "internal/bytealg.MaxLen"], apart := false, laid := [("unicode/utf8.acceptRanges", laid_unicode_utf8_acceptRanges), ("unicode/utf8.first", laid_unicode_utf8_first)], narrowed := true }
def GlyphChecksUptoSaid : Prop := glyphChecksUptoRow.holds Tryd.pinned (OpenSpec.upto glyphChecksSpec)

/-- 'wharflaw01.GlyphFolds', WHERE WHAT IT READS IS OF BULK AT MOST 1048576: true; the input reads as it did. -/
def glyphFoldsUptoRow : OpenClaim := { program := "ytihoimcnaedmfaadoor", sum := "28603e5b5d9d0014378d8de1af515c56060a8ad0bf3d3933450316901fe83f18", func := "wharf/wharflaw01.GlyphFolds", spec := "glyphFolds", inPlace := ["internal/bytealg.IndexByteString", "internal/bytealg.IndexString"], named := ["unicode/utf8.first", "unicode/utf8.acceptRanges", "internal/bytealg.MaxLen"], apart := false, laid := [("unicode/utf8.acceptRanges", laid_unicode_utf8_acceptRanges), ("unicode/utf8.first", laid_unicode_utf8_first)], narrowed := true }
def GlyphFoldsUptoSaid : Prop := glyphFoldsUptoRow.holds Tryd.pinned (OpenSpec.upto glyphFoldsSpec)

/-- 'wharflaw01.GlyphBack', WHERE WHAT IT READS IS OF BULK AT MOST 1048576: true; the input reads as it did. -/
def glyphBackUptoRow : OpenClaim := { program := "ytihoimcnaedmfaadoor", sum := "28603e5b5d9d0014378d8de1af515c56060a8ad0bf3d3933450316901fe83f18", func := "wharf/wharflaw01.GlyphBack", spec := "glyphBack", inPlace := ["internal/bytealg.IndexByteString", "internal/bytealg.IndexString"], named := ["unicode/utf8.first", "unicode/utf8.acceptRanges", "internal/bytealg.MaxLen"], apart := false, laid := [("unicode/utf8.acceptRanges", laid_unicode_utf8_acceptRanges), ("unicode/utf8.first", laid_unicode_utf8_first)], narrowed := true }
def GlyphBackUptoSaid : Prop := glyphBackUptoRow.holds Tryd.pinned (OpenSpec.upto glyphBackSpec)

/-- 'wharflaw01.GlyphWhole', WHERE WHAT IT READS IS OF BULK AT MOST 1048576: true; the input reads as it did. -/
def glyphWholeUptoRow : OpenClaim := { program := "ytihoimcnaedmfaadoor", sum := "28603e5b5d9d0014378d8de1af515c56060a8ad0bf3d3933450316901fe83f18", func := "wharf/wharflaw01.GlyphWhole", spec := "glyphWhole", inPlace := ["internal/bytealg.IndexByteString", "internal/bytealg.IndexString"], named := ["unicode/utf8.first", "unicode/utf8.acceptRanges", "internal/bytealg.MaxLen"], apart := false, laid := [("unicode/utf8.acceptRanges", laid_unicode_utf8_acceptRanges), ("unicode/utf8.first", laid_unicode_utf8_first)], narrowed := true }
def GlyphWholeUptoSaid : Prop := glyphWholeUptoRow.holds Tryd.pinned (OpenSpec.upto glyphWholeSpec)

/-- 'wharflaw01.GlyphSame', WHERE WHAT IT READS IS OF BULK AT MOST 1048576: true; the input reads as it did. -/
def glyphSameUptoRow : OpenClaim := { program := "ytihoimcnaedmfaadoor", sum := "28603e5b5d9d0014378d8de1af515c56060a8ad0bf3d3933450316901fe83f18", func := "wharf/wharflaw01.GlyphSame", spec := "glyphSame", inPlace := ["internal/bytealg.IndexByteString", "internal/bytealg.IndexString"], named := ["unicode/utf8.first", "unicode/utf8.acceptRanges", "internal/bytealg.MaxLen"], apart := false, laid := [("unicode/utf8.acceptRanges", laid_unicode_utf8_acceptRanges), ("unicode/utf8.first", laid_unicode_utf8_first)], narrowed := true }
def GlyphSameUptoSaid : Prop := glyphSameUptoRow.holds Tryd.pinned (OpenSpec.upto glyphSameSpec)

/-- 'wharflaw01.GlyphHeads', WHERE WHAT IT READS IS OF BULK AT MOST 1048576: true; the input reads as it did. -/
def glyphHeadsUptoRow : OpenClaim := { program := "ytihoimcnaedmfaadoor", sum := "28603e5b5d9d0014378d8de1af515c56060a8ad0bf3d3933450316901fe83f18", func := "wharf/wharflaw01.GlyphHeads", spec := "glyphHeads", inPlace := ["internal/bytealg.IndexByteString", "internal/bytealg.IndexString"], named := ["unicode/utf8.first", "unicode/utf8.acceptRanges", "internal/bytealg.MaxLen"], apart := false, laid := [("unicode/utf8.acceptRanges", laid_unicode_utf8_acceptRanges), ("unicode/utf8.first", laid_unicode_utf8_first)], narrowed := true }
def GlyphHeadsUptoSaid : Prop := glyphHeadsUptoRow.holds Tryd.pinned (OpenSpec.upto glyphHeadsSpec)

/-- 'wharflaw01.GlyphOrder', WHERE WHAT IT READS IS OF BULK AT MOST 1048576: true; the input reads as it did. -/
def glyphOrderUptoRow : OpenClaim := { program := "ytihoimcnaedmfaadoor", sum := "28603e5b5d9d0014378d8de1af515c56060a8ad0bf3d3933450316901fe83f18", func := "wharf/wharflaw01.GlyphOrder", spec := "glyphOrder", inPlace := ["internal/bytealg.IndexByteString", "internal/bytealg.IndexString"], named := ["unicode/utf8.first", "unicode/utf8.acceptRanges", "internal/bytealg.MaxLen"], apart := false, laid := [("unicode/utf8.acceptRanges", laid_unicode_utf8_acceptRanges), ("unicode/utf8.first", laid_unicode_utf8_first)], narrowed := true }
def GlyphOrderUptoSaid : Prop := glyphOrderUptoRow.holds Tryd.pinned (OpenSpec.upto glyphOrderSpec)

/-- 'wharflaw01.GlyphCuts', WHERE WHAT IT READS IS OF BULK AT MOST 1048576: true; the input reads as it did. -/
def glyphCutsUptoRow : OpenClaim := { program := "ytihoimcnaedmfaadoor", sum := "28603e5b5d9d0014378d8de1af515c56060a8ad0bf3d3933450316901fe83f18", func := "wharf/wharflaw01.GlyphCuts", spec := "glyphCuts", inPlace := ["internal/bytealg.IndexByteString", "internal/bytealg.IndexString"], named := ["unicode/utf8.first", "unicode/utf8.acceptRanges", "internal/bytealg.MaxLen"], apart := false, laid := [("unicode/utf8.acceptRanges", laid_unicode_utf8_acceptRanges), ("unicode/utf8.first", laid_unicode_utf8_first)], narrowed := true }
def GlyphCutsUptoSaid : Prop := glyphCutsUptoRow.holds Tryd.pinned (OpenSpec.upto glyphCutsSpec)

end Rows
end Go.Proofs.YtihoimcnaedmfaaDoor
