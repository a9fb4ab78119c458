/-
  NARROWER THAN 'FOR EVERY INPUT', by the rows' own cells (each row's printed sentence says how): ShadeStatuses: laid · ShadeTexts: laid · ShadeBack: laid · ShadeShort: laid · ShadeBits: laid.
  DERIVED. THE GIVEN ROWS OF THIS SEAT. 5 by the template 'for every input the law returns true; each argument reads behind the call as it read before'; 0 by the template 'total and deterministic' (their statements: YtbadoidjdghklaaDoorTotals.lean).
  GIVEN WITH THE SEED: the statements are not yours to turn. If you find one false, say at which input.
  Laid BY PROGRAM, IN A SANDBOX (cutbox-rows.mjs): the forced cells as the released guide's own fill.sh prints them over the translation 7e78fc7d3d4590e5… (all of the seat's roots in one cut). By AI agents, Wed Nov 11 2026. No macro, syntax, notation, axiom, sorry.
-/
import Derived.Test.YtbadoidjdghklaaDoorChecked
import GoSem.PinnedTables
import GoSem.Claim
import GoSem.ClaimJoined
import GoSem.ClaimMapViews
import Derived.JoinedTies
import Derived.KernelRfl
namespace Go.Proofs.YtbadoidjdghklaaDoor
/- THE CELL 'sum', in the pinned program and in every row, IS THE sha256 OF THE DUMP (.gsa) THAT YtbadoidjdghklaaDoorProg.lean LOADS. Nothing in Lean hashes anything: it is a label: what it is worth is what the hold of that sum in a sandbox is worth. -/
noncomputable def Tryd.pinned : Pinned := { name := "ytbadoidjdghklaadoor", sum := "7e78fc7d3d4590e535d7f8dad46f23a0d855a2fdbeadb3c24bc90d4ebe11f301", checked := Tryd.checked }
namespace Rows
def none {H : Type} : Left H := { results := [], args := [] }

/- WHAT THE LISTED PACKAGE-LEVEL VARIABLES READ AS WHEN THE CALL BEGINS. Each datum BY PROGRAM (the guide's laid-datum.mjs) off the statement by which the dump's own 'gosem.cut.vars' lays the variable. In a bare row this is a premise. The card (YtbadoidjdghklaaDoorCards.lean) ties it to the program's text. -/
def laid_unicode_utf8_acceptRanges {H : Type} : DataW H := .agg [.agg [.lit (.int .u8 128), .lit (.int .u8 191)], .agg [.lit (.int .u8 160), .lit (.int .u8 191)], .agg [.lit (.int .u8 128), .lit (.int .u8 159)], .agg [.lit (.int .u8 144), .lit (.int .u8 191)], .agg [.lit (.int .u8 128), .lit (.int .u8 143)], .agg [.lit (.int .u8 0), .lit (.int .u8 0)], .agg [.lit (.int .u8 0), .lit (.int .u8 0)], .agg [.lit (.int .u8 0), .lit (.int .u8 0)], .agg [.lit (.int .u8 0), .lit (.int .u8 0)], .agg [.lit (.int .u8 0), .lit (.int .u8 0)], .agg [.lit (.int .u8 0), .lit (.int .u8 0)], .agg [.lit (.int .u8 0), .lit (.int .u8 0)], .agg [.lit (.int .u8 0), .lit (.int .u8 0)], .agg [.lit (.int .u8 0), .lit (.int .u8 0)], .agg [.lit (.int .u8 0), .lit (.int .u8 0)], .agg [.lit (.int .u8 0), .lit (.int .u8 0)]]
def laid_wharf_shade_entities {H : Type} : DataW H := .agg [.agg [.lit (.string [38, 97, 109, 112, 59]), .lit (.string [38])], .agg [.lit (.string [38, 108, 116, 59]), .lit (.string [60])], .agg [.lit (.string [38, 103, 116, 59]), .lit (.string [62])], .agg [.lit (.string [38, 113, 117, 111, 116, 59]), .lit (.string [34])], .agg [.lit (.string [38, 110, 98, 115, 112, 59]), .lit (.string [32])]]
/-- One of Go's own tables, pinned by name: the form's constant. -/
def laid_unicode_utf8_first : DataW Unit := Go.Pinned.utf8First

/-- 'wharflaw16.ShadeStatuses': WHATEVER THE INPUT: true; the input reads as it did. -/
def shadeStatusesSpec : ChangeSpec := { name := "shadeStatuses", fn := fun _ => fun
  | [d1, d2, d3] => { results := [.lit (.bool true)], args := [d1, d2, d3] }
  | _ => none }
def shadeStatusesRow : OpenClaim := { program := "ytbadoidjdghklaadoor", sum := "7e78fc7d3d4590e535d7f8dad46f23a0d855a2fdbeadb3c24bc90d4ebe11f301", func := "wharf/wharflaw16.ShadeStatuses", spec := "shadeStatuses", inPlace := ["internal/abi.NoEscape", "internal/bytealg.IndexByteString"], unfollowed := true, recurses := true, named := ["unicode/utf8.first", "unicode/utf8.acceptRanges", "wharf/shade.entities"], apart := false, laid := [("unicode/utf8.acceptRanges", laid_unicode_utf8_acceptRanges), ("wharf/shade.entities", laid_wharf_shade_entities), ("unicode/utf8.first", laid_unicode_utf8_first)] }
def ShadeStatusesSaid : Prop := shadeStatusesRow.holds Tryd.pinned (OpenSpec.ofChange shadeStatusesSpec)

/-- ITS FALSE NEIGHBOUR: 'it returns false'. Refute it at one input. -/
def shadeStatusesWrong : ChangeSpec := { name := "shadeStatuses", fn := fun _ => fun
  | [d1, d2, d3] => { results := [.lit (.bool false)], args := [d1, d2, d3] }
  | _ => none }
def ShadeStatusesWrongFalsely : Prop := shadeStatusesRow.holds Tryd.pinned (OpenSpec.ofChange shadeStatusesWrong)

/-- 'wharflaw16.ShadeTexts': WHATEVER THE INPUT: true; the input reads as it did. -/
def shadeTextsSpec : ChangeSpec := { name := "shadeTexts", fn := fun _ => fun
  | [d1, d2] => { results := [.lit (.bool true)], args := [d1, d2] }
  | _ => none }
def shadeTextsRow : OpenClaim := { program := "ytbadoidjdghklaadoor", sum := "7e78fc7d3d4590e535d7f8dad46f23a0d855a2fdbeadb3c24bc90d4ebe11f301", func := "wharf/wharflaw16.ShadeTexts", spec := "shadeTexts", inPlace := ["internal/abi.NoEscape", "internal/bytealg.IndexByteString"], unfollowed := true, recurses := true, named := ["unicode/utf8.first", "unicode/utf8.acceptRanges", "wharf/shade.entities"], apart := false, laid := [("unicode/utf8.acceptRanges", laid_unicode_utf8_acceptRanges), ("wharf/shade.entities", laid_wharf_shade_entities), ("unicode/utf8.first", laid_unicode_utf8_first)] }
def ShadeTextsSaid : Prop := shadeTextsRow.holds Tryd.pinned (OpenSpec.ofChange shadeTextsSpec)

/-- ITS FALSE NEIGHBOUR: 'it returns false'. Refute it at one input. -/
def shadeTextsWrong : ChangeSpec := { name := "shadeTexts", fn := fun _ => fun
  | [d1, d2] => { results := [.lit (.bool false)], args := [d1, d2] }
  | _ => none }
def ShadeTextsWrongFalsely : Prop := shadeTextsRow.holds Tryd.pinned (OpenSpec.ofChange shadeTextsWrong)

/-- 'wharflaw16.ShadeBack': WHATEVER THE INPUT: true; the input reads as it did. -/
def shadeBackSpec : ChangeSpec := { name := "shadeBack", fn := fun _ => fun
  | [d1, d2, d3] => { results := [.lit (.bool true)], args := [d1, d2, d3] }
  | _ => none }
def shadeBackRow : OpenClaim := { program := "ytbadoidjdghklaadoor", sum := "7e78fc7d3d4590e535d7f8dad46f23a0d855a2fdbeadb3c24bc90d4ebe11f301", func := "wharf/wharflaw16.ShadeBack", spec := "shadeBack", inPlace := ["internal/abi.NoEscape", "internal/bytealg.IndexByteString"], unfollowed := true, recurses := true, named := ["unicode/utf8.first", "unicode/utf8.acceptRanges", "wharf/shade.entities"], apart := false, laid := [("unicode/utf8.acceptRanges", laid_unicode_utf8_acceptRanges), ("wharf/shade.entities", laid_wharf_shade_entities), ("unicode/utf8.first", laid_unicode_utf8_first)] }
def ShadeBackSaid : Prop := shadeBackRow.holds Tryd.pinned (OpenSpec.ofChange shadeBackSpec)

/-- ITS FALSE NEIGHBOUR: 'it returns false'. Refute it at one input. -/
def shadeBackWrong : ChangeSpec := { name := "shadeBack", fn := fun _ => fun
  | [d1, d2, d3] => { results := [.lit (.bool false)], args := [d1, d2, d3] }
  | _ => none }
def ShadeBackWrongFalsely : Prop := shadeBackRow.holds Tryd.pinned (OpenSpec.ofChange shadeBackWrong)

/-- 'wharflaw16.ShadeShort': WHATEVER THE INPUT: true; the input reads as it did. -/
def shadeShortSpec : ChangeSpec := { name := "shadeShort", fn := fun _ => fun
  | [d1, d2, d3] => { results := [.lit (.bool true)], args := [d1, d2, d3] }
  | _ => none }
def shadeShortRow : OpenClaim := { program := "ytbadoidjdghklaadoor", sum := "7e78fc7d3d4590e535d7f8dad46f23a0d855a2fdbeadb3c24bc90d4ebe11f301", func := "wharf/wharflaw16.ShadeShort", spec := "shadeShort", inPlace := ["internal/abi.NoEscape", "internal/bytealg.IndexByteString"], unfollowed := true, recurses := true, named := ["unicode/utf8.first", "unicode/utf8.acceptRanges", "wharf/shade.entities"], apart := false, laid := [("unicode/utf8.acceptRanges", laid_unicode_utf8_acceptRanges), ("wharf/shade.entities", laid_wharf_shade_entities), ("unicode/utf8.first", laid_unicode_utf8_first)] }
def ShadeShortSaid : Prop := shadeShortRow.holds Tryd.pinned (OpenSpec.ofChange shadeShortSpec)

/-- ITS FALSE NEIGHBOUR: 'it returns false'. Refute it at one input. -/
def shadeShortWrong : ChangeSpec := { name := "shadeShort", fn := fun _ => fun
  | [d1, d2, d3] => { results := [.lit (.bool false)], args := [d1, d2, d3] }
  | _ => none }
def ShadeShortWrongFalsely : Prop := shadeShortRow.holds Tryd.pinned (OpenSpec.ofChange shadeShortWrong)

/-- 'wharflaw16.ShadeBits': WHATEVER THE INPUT: true; the input reads as it did. -/
def shadeBitsSpec : ChangeSpec := { name := "shadeBits", fn := fun _ => fun
  | [d1, d2] => { results := [.lit (.bool true)], args := [d1, d2] }
  | _ => none }
def shadeBitsRow : OpenClaim := { program := "ytbadoidjdghklaadoor", sum := "7e78fc7d3d4590e535d7f8dad46f23a0d855a2fdbeadb3c24bc90d4ebe11f301", func := "wharf/wharflaw16.ShadeBits", spec := "shadeBits", inPlace := ["internal/abi.NoEscape", "internal/bytealg.IndexByteString"], unfollowed := true, recurses := true, named := ["unicode/utf8.first", "unicode/utf8.acceptRanges", "wharf/shade.entities"], apart := false, laid := [("unicode/utf8.acceptRanges", laid_unicode_utf8_acceptRanges), ("wharf/shade.entities", laid_wharf_shade_entities), ("unicode/utf8.first", laid_unicode_utf8_first)] }
def ShadeBitsSaid : Prop := shadeBitsRow.holds Tryd.pinned (OpenSpec.ofChange shadeBitsSpec)

/-- ITS FALSE NEIGHBOUR: 'it returns false'. Refute it at one input. -/
def shadeBitsWrong : ChangeSpec := { name := "shadeBits", fn := fun _ => fun
  | [d1, d2] => { results := [.lit (.bool false)], args := [d1, d2] }
  | _ => none }
def ShadeBitsWrongFalsely : Prop := shadeBitsRow.holds Tryd.pinned (OpenSpec.ofChange shadeBitsWrong)

/- THE SECOND FORM. 'bulk': how many values and letters a reading holds, each counted each time it is reached (what is shared counts as often as it is met; a slice's spare places count too). A statement '..UptoSaid' is the law's where the arguments, and the package variables that the reading takes, are together of bulk at most 1048576: NARROWER than '..Said'. Prove '..Said' where nothing that the law and all that it calls make is longer than what came in: it says more and counts as full. Else prove '..UptoSaid'. A law counts once. -/
mutual
def uptoBulk {H : Type} : DataW H → Nat
  | .lit (.string bytes) => bytes.length + 1
  | .lit _ => 1
  | .nil => 1
  | .ptr d => uptoBulk d + 1
  | .slice elems spare => uptoBulkAll elems + uptoBulkAll spare + 1
  | .agg parts => uptoBulkAll parts + 1
  | .iface _ d => uptoBulk d + 1
  | .map entries => uptoBulkEntries entries + 1
  | .held _ => 1
def uptoBulkAll {H : Type} : List (DataW H) → Nat
  | [] => 0
  | d :: r => uptoBulk d + uptoBulkAll r
def uptoBulkEntries {H : Type} : List (Lit × DataW H) → Nat
  | [] => 0
  | x :: r => uptoBulkEntry x + uptoBulkEntries r
def uptoBulkEntry {H : Type} : Lit × DataW H → Nat
  | (.string bytes, d) => bytes.length + uptoBulk d + 1
  | (_, d) => uptoBulk d + 1
 end
def uptoSmall : (H : Type) → List (DataW H) → Bool := fun _ ds => decide (uptoBulkAll ds ≤ 1048576)
def OpenSpec.upto (s : _root_.Go.ChangeSpec) : _root_.Go.OpenSpec := { _root_.Go.OpenSpec.ofChange s with cond := some uptoSmall }

/-- 'wharflaw16.ShadeStatuses', WHERE WHAT IT READS IS OF BULK AT MOST 1048576: true; the input reads as it did. -/
def shadeStatusesUptoRow : OpenClaim := { program := "ytbadoidjdghklaadoor", sum := "7e78fc7d3d4590e535d7f8dad46f23a0d855a2fdbeadb3c24bc90d4ebe11f301", func := "wharf/wharflaw16.ShadeStatuses", spec := "shadeStatuses", inPlace := ["internal/abi.NoEscape", "internal/bytealg.IndexByteString"], unfollowed := true, recurses := true, named := ["unicode/utf8.first", "unicode/utf8.acceptRanges", "wharf/shade.entities"], apart := false, laid := [("unicode/utf8.acceptRanges", laid_unicode_utf8_acceptRanges), ("wharf/shade.entities", laid_wharf_shade_entities), ("unicode/utf8.first", laid_unicode_utf8_first)], narrowed := true }
def ShadeStatusesUptoSaid : Prop := shadeStatusesUptoRow.holds Tryd.pinned (OpenSpec.upto shadeStatusesSpec)

/-- 'wharflaw16.ShadeTexts', WHERE WHAT IT READS IS OF BULK AT MOST 1048576: true; the input reads as it did. -/
def shadeTextsUptoRow : OpenClaim := { program := "ytbadoidjdghklaadoor", sum := "7e78fc7d3d4590e535d7f8dad46f23a0d855a2fdbeadb3c24bc90d4ebe11f301", func := "wharf/wharflaw16.ShadeTexts", spec := "shadeTexts", inPlace := ["internal/abi.NoEscape", "internal/bytealg.IndexByteString"], unfollowed := true, recurses := true, named := ["unicode/utf8.first", "unicode/utf8.acceptRanges", "wharf/shade.entities"], apart := false, laid := [("unicode/utf8.acceptRanges", laid_unicode_utf8_acceptRanges), ("wharf/shade.entities", laid_wharf_shade_entities), ("unicode/utf8.first", laid_unicode_utf8_first)], narrowed := true }
def ShadeTextsUptoSaid : Prop := shadeTextsUptoRow.holds Tryd.pinned (OpenSpec.upto shadeTextsSpec)

/-- 'wharflaw16.ShadeBack', WHERE WHAT IT READS IS OF BULK AT MOST 1048576: true; the input reads as it did. -/
def shadeBackUptoRow : OpenClaim := { program := "ytbadoidjdghklaadoor", sum := "7e78fc7d3d4590e535d7f8dad46f23a0d855a2fdbeadb3c24bc90d4ebe11f301", func := "wharf/wharflaw16.ShadeBack", spec := "shadeBack", inPlace := ["internal/abi.NoEscape", "internal/bytealg.IndexByteString"], unfollowed := true, recurses := true, named := ["unicode/utf8.first", "unicode/utf8.acceptRanges", "wharf/shade.entities"], apart := false, laid := [("unicode/utf8.acceptRanges", laid_unicode_utf8_acceptRanges), ("wharf/shade.entities", laid_wharf_shade_entities), ("unicode/utf8.first", laid_unicode_utf8_first)], narrowed := true }
def ShadeBackUptoSaid : Prop := shadeBackUptoRow.holds Tryd.pinned (OpenSpec.upto shadeBackSpec)

/-- 'wharflaw16.ShadeShort', WHERE WHAT IT READS IS OF BULK AT MOST 1048576: true; the input reads as it did. -/
def shadeShortUptoRow : OpenClaim := { program := "ytbadoidjdghklaadoor", sum := "7e78fc7d3d4590e535d7f8dad46f23a0d855a2fdbeadb3c24bc90d4ebe11f301", func := "wharf/wharflaw16.ShadeShort", spec := "shadeShort", inPlace := ["internal/abi.NoEscape", "internal/bytealg.IndexByteString"], unfollowed := true, recurses := true, named := ["unicode/utf8.first", "unicode/utf8.acceptRanges", "wharf/shade.entities"], apart := false, laid := [("unicode/utf8.acceptRanges", laid_unicode_utf8_acceptRanges), ("wharf/shade.entities", laid_wharf_shade_entities), ("unicode/utf8.first", laid_unicode_utf8_first)], narrowed := true }
def ShadeShortUptoSaid : Prop := shadeShortUptoRow.holds Tryd.pinned (OpenSpec.upto shadeShortSpec)

/-- 'wharflaw16.ShadeBits', WHERE WHAT IT READS IS OF BULK AT MOST 1048576: true; the input reads as it did. -/
def shadeBitsUptoRow : OpenClaim := { program := "ytbadoidjdghklaadoor", sum := "7e78fc7d3d4590e535d7f8dad46f23a0d855a2fdbeadb3c24bc90d4ebe11f301", func := "wharf/wharflaw16.ShadeBits", spec := "shadeBits", inPlace := ["internal/abi.NoEscape", "internal/bytealg.IndexByteString"], unfollowed := true, recurses := true, named := ["unicode/utf8.first", "unicode/utf8.acceptRanges", "wharf/shade.entities"], apart := false, laid := [("unicode/utf8.acceptRanges", laid_unicode_utf8_acceptRanges), ("wharf/shade.entities", laid_wharf_shade_entities), ("unicode/utf8.first", laid_unicode_utf8_first)], narrowed := true }
def ShadeBitsUptoSaid : Prop := shadeBitsUptoRow.holds Tryd.pinned (OpenSpec.upto shadeBitsSpec)

end Rows
end Go.Proofs.YtbadoidjdghklaaDoor
