/-
  DERIVED. GIVEN WITH THE SEED: THE CARDS: each row of YtnoabinodojkiaaDoorRows.lean that lists a variable, with what it lists TIED to the program's text (the seventh form; the later family's looks); each row that meets fmt, with fmt's text TOLD by the authors' own Lean function (tested against real Go, not proved from fmt's source: count such statements apart). THE CARD IS WHAT COUNTS. Prove the row's statement (the work); the ties are given (YtnoabinodojkiaaDoorTie.lean); close each card by the builder's one call (the guide's Derived/Test/ToyasCard.lean, 'card_holds'). Laid BY PROGRAM, IN A SANDBOX (cutbox-door.mjs). By AI agents, Wed Nov 11 2026. No macro, syntax, notation, axiom, sorry.
-/
import Derived.Test.YtnoabinodojkiaaDoorRows
import GoSem.ClaimSeven
namespace Go.Proofs.YtnoabinodojkiaaDoor
namespace Rows

/-- THE TIED CARD OF 'wharflaw07.DigestMd5'. -/
def digestMd5Card : Claim7 := { stood := { row := digestMd5Row, standIns := [], harness := (true, "1a5c7fce3c536a72d76fafff342e0530bd6e094ad2da56bc5ead5d52db3aaafb"), looks := false }, kinds := [], alts := [], laidByText := true, laidKinds := [.data, .data], laidTests := true, laidLooks := .later }
def DigestMd5CardSaid : Prop := Claim7.holds Tryd.pinned (.plain (OpenSpec.ofChange digestMd5Spec)) digestMd5Card

/-- THE TIED CARD OF 'wharflaw07.DigestSha1'. -/
def digestSha1Card : Claim7 := { stood := { row := digestSha1Row, standIns := [], harness := (true, "1a5c7fce3c536a72d76fafff342e0530bd6e094ad2da56bc5ead5d52db3aaafb"), looks := false }, kinds := [], alts := [], laidByText := true, laidKinds := [.data, .data], laidTests := true, laidLooks := .later }
def DigestSha1CardSaid : Prop := Claim7.holds Tryd.pinned (.plain (OpenSpec.ofChange digestSha1Spec)) digestSha1Card

/-- THE TIED CARD OF 'wharflaw07.DigestSalted'. -/
def digestSaltedCard : Claim7 := { stood := { row := digestSaltedRow, standIns := [], harness := (true, "1a5c7fce3c536a72d76fafff342e0530bd6e094ad2da56bc5ead5d52db3aaafb"), looks := false }, kinds := [], alts := [], laidByText := true, laidKinds := [.data, .data], laidTests := true, laidLooks := .later }
def DigestSaltedCardSaid : Prop := Claim7.holds Tryd.pinned (.plain (OpenSpec.ofChange digestSaltedSpec)) digestSaltedCard

/-- THE TIED CARD OF 'wharflaw07.DigestLengths'. -/
def digestLengthsCard : Claim7 := { stood := { row := digestLengthsRow, standIns := [], harness := (true, "1a5c7fce3c536a72d76fafff342e0530bd6e094ad2da56bc5ead5d52db3aaafb"), looks := false }, kinds := [], alts := [], laidByText := true, laidKinds := [.data, .data], laidTests := true, laidLooks := .later }
def DigestLengthsCardSaid : Prop := Claim7.holds Tryd.pinned (.plain (OpenSpec.ofChange digestLengthsSpec)) digestLengthsCard

/-- THE SECOND FORM's CARD OF 'wharflaw07.DigestMd5'. -/
def digestMd5UptoCard : Claim7 := { stood := { row := digestMd5UptoRow, standIns := [], harness := (true, "1a5c7fce3c536a72d76fafff342e0530bd6e094ad2da56bc5ead5d52db3aaafb"), looks := false }, kinds := [], alts := [], laidByText := true, laidKinds := [.data, .data], laidTests := true, laidLooks := .later }
def DigestMd5UptoCardSaid : Prop := Claim7.holds Tryd.pinned (.plain (OpenSpec.upto digestMd5Spec)) digestMd5UptoCard

/-- THE SECOND FORM's CARD OF 'wharflaw07.DigestSha1'. -/
def digestSha1UptoCard : Claim7 := { stood := { row := digestSha1UptoRow, standIns := [], harness := (true, "1a5c7fce3c536a72d76fafff342e0530bd6e094ad2da56bc5ead5d52db3aaafb"), looks := false }, kinds := [], alts := [], laidByText := true, laidKinds := [.data, .data], laidTests := true, laidLooks := .later }
def DigestSha1UptoCardSaid : Prop := Claim7.holds Tryd.pinned (.plain (OpenSpec.upto digestSha1Spec)) digestSha1UptoCard

/-- THE SECOND FORM's CARD OF 'wharflaw07.DigestSalted'. -/
def digestSaltedUptoCard : Claim7 := { stood := { row := digestSaltedUptoRow, standIns := [], harness := (true, "1a5c7fce3c536a72d76fafff342e0530bd6e094ad2da56bc5ead5d52db3aaafb"), looks := false }, kinds := [], alts := [], laidByText := true, laidKinds := [.data, .data], laidTests := true, laidLooks := .later }
def DigestSaltedUptoCardSaid : Prop := Claim7.holds Tryd.pinned (.plain (OpenSpec.upto digestSaltedSpec)) digestSaltedUptoCard

/-- THE SECOND FORM's CARD OF 'wharflaw07.DigestLengths'. -/
def digestLengthsUptoCard : Claim7 := { stood := { row := digestLengthsUptoRow, standIns := [], harness := (true, "1a5c7fce3c536a72d76fafff342e0530bd6e094ad2da56bc5ead5d52db3aaafb"), looks := false }, kinds := [], alts := [], laidByText := true, laidKinds := [.data, .data], laidTests := true, laidLooks := .later }
def DigestLengthsUptoCardSaid : Prop := Claim7.holds Tryd.pinned (.plain (OpenSpec.upto digestLengthsSpec)) digestLengthsUptoCard
end Rows
end Go.Proofs.YtnoabinodojkiaaDoor
