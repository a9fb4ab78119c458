/-
  DERIVED. GIVEN WITH THE SEED: THE CARDS: each row of YtihoimcnaedmfaaDoorRows.lean that lists a variable, with what it lists TIED to the program's text (the seventh form; the later family's looks); each row that meets fmt, with fmt's text TOLD by the authors' own Lean function (tested against real Go, not proved from fmt's source: count such statements apart). THE CARD IS WHAT COUNTS. Prove the row's statement (the work); the ties are given (YtihoimcnaedmfaaDoorTie.lean); close each card by the builder's one call (the guide's Derived/Test/ToyasCard.lean, 'card_holds'). Laid BY PROGRAM, IN A SANDBOX (cutbox-door.mjs). By AI agents, Wed Nov 11 2026. No macro, syntax, notation, axiom, sorry.
-/
import Derived.Test.YtihoimcnaedmfaaDoorRows
import GoSem.ClaimSeven
namespace Go.Proofs.YtihoimcnaedmfaaDoor
namespace Rows

/-- THE TIED CARD OF 'wharflaw01.GlyphFirsts'. -/
def glyphFirstsCard : Claim7 := { stood := { row := glyphFirstsRow, standIns := [], harness := (true, "87105c4df1851e2f8107b19e2ff13bb6fa655f6c8cea77ad1e15513a04f8c8ac"), looks := false }, kinds := [], alts := [], laidByText := true, laidKinds := [.data, .pinned], laidTests := true, laidLooks := .later }
def GlyphFirstsCardSaid : Prop := Claim7.holds Tryd.pinned (.plain (OpenSpec.ofChange glyphFirstsSpec)) glyphFirstsCard

/-- THE TIED CARD OF 'wharflaw01.GlyphChecks'. -/
def glyphChecksCard : Claim7 := { stood := { row := glyphChecksRow, standIns := [], harness := (true, "87105c4df1851e2f8107b19e2ff13bb6fa655f6c8cea77ad1e15513a04f8c8ac"), looks := false }, kinds := [], alts := [], laidByText := true, laidKinds := [.data, .pinned], laidTests := true, laidLooks := .later }
def GlyphChecksCardSaid : Prop := Claim7.holds Tryd.pinned (.plain (OpenSpec.ofChange glyphChecksSpec)) glyphChecksCard

/-- THE TIED CARD OF 'wharflaw01.GlyphFolds'. -/
def glyphFoldsCard : Claim7 := { stood := { row := glyphFoldsRow, standIns := [], harness := (true, "87105c4df1851e2f8107b19e2ff13bb6fa655f6c8cea77ad1e15513a04f8c8ac"), looks := false }, kinds := [], alts := [], laidByText := true, laidKinds := [.data, .pinned], laidTests := true, laidLooks := .later }
def GlyphFoldsCardSaid : Prop := Claim7.holds Tryd.pinned (.plain (OpenSpec.ofChange glyphFoldsSpec)) glyphFoldsCard

/-- THE TIED CARD OF 'wharflaw01.GlyphBack'. -/
def glyphBackCard : Claim7 := { stood := { row := glyphBackRow, standIns := [], harness := (true, "87105c4df1851e2f8107b19e2ff13bb6fa655f6c8cea77ad1e15513a04f8c8ac"), looks := false }, kinds := [], alts := [], laidByText := true, laidKinds := [.data, .pinned], laidTests := true, laidLooks := .later }
def GlyphBackCardSaid : Prop := Claim7.holds Tryd.pinned (.plain (OpenSpec.ofChange glyphBackSpec)) glyphBackCard

/-- THE TIED CARD OF 'wharflaw01.GlyphWhole'. -/
def glyphWholeCard : Claim7 := { stood := { row := glyphWholeRow, standIns := [], harness := (true, "87105c4df1851e2f8107b19e2ff13bb6fa655f6c8cea77ad1e15513a04f8c8ac"), looks := false }, kinds := [], alts := [], laidByText := true, laidKinds := [.data, .pinned], laidTests := true, laidLooks := .later }
def GlyphWholeCardSaid : Prop := Claim7.holds Tryd.pinned (.plain (OpenSpec.ofChange glyphWholeSpec)) glyphWholeCard

/-- THE TIED CARD OF 'wharflaw01.GlyphSame'. -/
def glyphSameCard : Claim7 := { stood := { row := glyphSameRow, standIns := [], harness := (true, "87105c4df1851e2f8107b19e2ff13bb6fa655f6c8cea77ad1e15513a04f8c8ac"), looks := false }, kinds := [], alts := [], laidByText := true, laidKinds := [.data, .pinned], laidTests := true, laidLooks := .later }
def GlyphSameCardSaid : Prop := Claim7.holds Tryd.pinned (.plain (OpenSpec.ofChange glyphSameSpec)) glyphSameCard

/-- THE TIED CARD OF 'wharflaw01.GlyphHeads'. -/
def glyphHeadsCard : Claim7 := { stood := { row := glyphHeadsRow, standIns := [], harness := (true, "87105c4df1851e2f8107b19e2ff13bb6fa655f6c8cea77ad1e15513a04f8c8ac"), looks := false }, kinds := [], alts := [], laidByText := true, laidKinds := [.data, .pinned], laidTests := true, laidLooks := .later }
def GlyphHeadsCardSaid : Prop := Claim7.holds Tryd.pinned (.plain (OpenSpec.ofChange glyphHeadsSpec)) glyphHeadsCard

/-- THE TIED CARD OF 'wharflaw01.GlyphOrder'. -/
def glyphOrderCard : Claim7 := { stood := { row := glyphOrderRow, standIns := [], harness := (true, "87105c4df1851e2f8107b19e2ff13bb6fa655f6c8cea77ad1e15513a04f8c8ac"), looks := false }, kinds := [], alts := [], laidByText := true, laidKinds := [.data, .pinned], laidTests := true, laidLooks := .later }
def GlyphOrderCardSaid : Prop := Claim7.holds Tryd.pinned (.plain (OpenSpec.ofChange glyphOrderSpec)) glyphOrderCard

/-- THE TIED CARD OF 'wharflaw01.GlyphCuts'. -/
def glyphCutsCard : Claim7 := { stood := { row := glyphCutsRow, standIns := [], harness := (true, "87105c4df1851e2f8107b19e2ff13bb6fa655f6c8cea77ad1e15513a04f8c8ac"), looks := false }, kinds := [], alts := [], laidByText := true, laidKinds := [.data, .pinned], laidTests := true, laidLooks := .later }
def GlyphCutsCardSaid : Prop := Claim7.holds Tryd.pinned (.plain (OpenSpec.ofChange glyphCutsSpec)) glyphCutsCard

/-- THE SECOND FORM's CARD OF 'wharflaw01.GlyphFirsts'. -/
def glyphFirstsUptoCard : Claim7 := { stood := { row := glyphFirstsUptoRow, standIns := [], harness := (true, "87105c4df1851e2f8107b19e2ff13bb6fa655f6c8cea77ad1e15513a04f8c8ac"), looks := false }, kinds := [], alts := [], laidByText := true, laidKinds := [.data, .pinned], laidTests := true, laidLooks := .later }
def GlyphFirstsUptoCardSaid : Prop := Claim7.holds Tryd.pinned (.plain (OpenSpec.upto glyphFirstsSpec)) glyphFirstsUptoCard

/-- THE SECOND FORM's CARD OF 'wharflaw01.GlyphChecks'. -/
def glyphChecksUptoCard : Claim7 := { stood := { row := glyphChecksUptoRow, standIns := [], harness := (true, "87105c4df1851e2f8107b19e2ff13bb6fa655f6c8cea77ad1e15513a04f8c8ac"), looks := false }, kinds := [], alts := [], laidByText := true, laidKinds := [.data, .pinned], laidTests := true, laidLooks := .later }
def GlyphChecksUptoCardSaid : Prop := Claim7.holds Tryd.pinned (.plain (OpenSpec.upto glyphChecksSpec)) glyphChecksUptoCard

/-- THE SECOND FORM's CARD OF 'wharflaw01.GlyphFolds'. -/
def glyphFoldsUptoCard : Claim7 := { stood := { row := glyphFoldsUptoRow, standIns := [], harness := (true, "87105c4df1851e2f8107b19e2ff13bb6fa655f6c8cea77ad1e15513a04f8c8ac"), looks := false }, kinds := [], alts := [], laidByText := true, laidKinds := [.data, .pinned], laidTests := true, laidLooks := .later }
def GlyphFoldsUptoCardSaid : Prop := Claim7.holds Tryd.pinned (.plain (OpenSpec.upto glyphFoldsSpec)) glyphFoldsUptoCard

/-- THE SECOND FORM's CARD OF 'wharflaw01.GlyphBack'. -/
def glyphBackUptoCard : Claim7 := { stood := { row := glyphBackUptoRow, standIns := [], harness := (true, "87105c4df1851e2f8107b19e2ff13bb6fa655f6c8cea77ad1e15513a04f8c8ac"), looks := false }, kinds := [], alts := [], laidByText := true, laidKinds := [.data, .pinned], laidTests := true, laidLooks := .later }
def GlyphBackUptoCardSaid : Prop := Claim7.holds Tryd.pinned (.plain (OpenSpec.upto glyphBackSpec)) glyphBackUptoCard

/-- THE SECOND FORM's CARD OF 'wharflaw01.GlyphWhole'. -/
def glyphWholeUptoCard : Claim7 := { stood := { row := glyphWholeUptoRow, standIns := [], harness := (true, "87105c4df1851e2f8107b19e2ff13bb6fa655f6c8cea77ad1e15513a04f8c8ac"), looks := false }, kinds := [], alts := [], laidByText := true, laidKinds := [.data, .pinned], laidTests := true, laidLooks := .later }
def GlyphWholeUptoCardSaid : Prop := Claim7.holds Tryd.pinned (.plain (OpenSpec.upto glyphWholeSpec)) glyphWholeUptoCard

/-- THE SECOND FORM's CARD OF 'wharflaw01.GlyphSame'. -/
def glyphSameUptoCard : Claim7 := { stood := { row := glyphSameUptoRow, standIns := [], harness := (true, "87105c4df1851e2f8107b19e2ff13bb6fa655f6c8cea77ad1e15513a04f8c8ac"), looks := false }, kinds := [], alts := [], laidByText := true, laidKinds := [.data, .pinned], laidTests := true, laidLooks := .later }
def GlyphSameUptoCardSaid : Prop := Claim7.holds Tryd.pinned (.plain (OpenSpec.upto glyphSameSpec)) glyphSameUptoCard

/-- THE SECOND FORM's CARD OF 'wharflaw01.GlyphHeads'. -/
def glyphHeadsUptoCard : Claim7 := { stood := { row := glyphHeadsUptoRow, standIns := [], harness := (true, "87105c4df1851e2f8107b19e2ff13bb6fa655f6c8cea77ad1e15513a04f8c8ac"), looks := false }, kinds := [], alts := [], laidByText := true, laidKinds := [.data, .pinned], laidTests := true, laidLooks := .later }
def GlyphHeadsUptoCardSaid : Prop := Claim7.holds Tryd.pinned (.plain (OpenSpec.upto glyphHeadsSpec)) glyphHeadsUptoCard

/-- THE SECOND FORM's CARD OF 'wharflaw01.GlyphOrder'. -/
def glyphOrderUptoCard : Claim7 := { stood := { row := glyphOrderUptoRow, standIns := [], harness := (true, "87105c4df1851e2f8107b19e2ff13bb6fa655f6c8cea77ad1e15513a04f8c8ac"), looks := false }, kinds := [], alts := [], laidByText := true, laidKinds := [.data, .pinned], laidTests := true, laidLooks := .later }
def GlyphOrderUptoCardSaid : Prop := Claim7.holds Tryd.pinned (.plain (OpenSpec.upto glyphOrderSpec)) glyphOrderUptoCard

/-- THE SECOND FORM's CARD OF 'wharflaw01.GlyphCuts'. -/
def glyphCutsUptoCard : Claim7 := { stood := { row := glyphCutsUptoRow, standIns := [], harness := (true, "87105c4df1851e2f8107b19e2ff13bb6fa655f6c8cea77ad1e15513a04f8c8ac"), looks := false }, kinds := [], alts := [], laidByText := true, laidKinds := [.data, .pinned], laidTests := true, laidLooks := .later }
def GlyphCutsUptoCardSaid : Prop := Claim7.holds Tryd.pinned (.plain (OpenSpec.upto glyphCutsSpec)) glyphCutsUptoCard
end Rows
end Go.Proofs.YtihoimcnaedmfaaDoor
