/-
  DERIVED. GIVEN WITH THE SEED: THE CARDS: each row of YtlklmoohoobjjaaGreatDoorRows.lean that lists a variable, with what it lists TIED to the program's text (the seventh form; the later family's looks); each row that meets fmt, with fmt's text TOLD by the authors' own Lean function (tested against real Go, not proved from fmt's source: count such statements apart). THE CARD IS WHAT COUNTS. Prove the row's statement (the work); the ties are given (YtlklmoohoobjjaaGreatDoorTie.lean); close each card by the builder's one call (the guide's Derived/Test/ToyasCard.lean, 'card_holds'). Laid BY PROGRAM, IN A SANDBOX (cutbox-door.mjs). By AI agents, Wed Nov 11 2026. No macro, syntax, notation, axiom, sorry.
-/
import Derived.Test.YtlklmoohoobjjaaGreatDoorRows
import GoSem.ClaimSeven
namespace Go.Proofs.YtlklmoohoobjjaaGreatDoor
namespace Rows

/-- THE TIED CARD OF 'wharflaw10.PayloadPuts'. -/
def payloadPutsCard : Claim7 := { stood := { row := payloadPutsRow, standIns := [], harness := (true, "ad905eeedc1e7c92e06bead0e1d47b8347e051c6769b635cf54ad659325d459e"), looks := false }, kinds := [], alts := [], laidByText := true, laidKinds := [.data, .data, .data, .data, .data, .pinned], laidTests := true, laidLooks := .later }
def PayloadPutsCardSaid : Prop := Claim7.holds Tryz.pinned (.plain (OpenSpec.ofChange payloadPutsSpec)) payloadPutsCard

/-- THE TIED CARD OF 'wharflaw10.PayloadBack'. -/
def payloadBackCard : Claim7 := { stood := { row := payloadBackRow, standIns := [], harness := (true, "ad905eeedc1e7c92e06bead0e1d47b8347e051c6769b635cf54ad659325d459e"), looks := false }, kinds := [], alts := [], laidByText := true, laidKinds := [.data, .data, .data, .data, .data, .pinned], laidTests := true, laidLooks := .later }
def PayloadBackCardSaid : Prop := Claim7.holds Tryz.pinned (.plain (OpenSpec.ofChange payloadBackSpec)) payloadBackCard

/-- THE SECOND FORM's CARD OF 'wharflaw10.PayloadPuts'. -/
def payloadPutsUptoCard : Claim7 := { stood := { row := payloadPutsUptoRow, standIns := [], harness := (true, "ad905eeedc1e7c92e06bead0e1d47b8347e051c6769b635cf54ad659325d459e"), looks := false }, kinds := [], alts := [], laidByText := true, laidKinds := [.data, .data, .data, .data, .data, .pinned], laidTests := true, laidLooks := .later }
def PayloadPutsUptoCardSaid : Prop := Claim7.holds Tryz.pinned (.plain (OpenSpec.upto payloadPutsSpec)) payloadPutsUptoCard

/-- THE SECOND FORM's CARD OF 'wharflaw10.PayloadBack'. -/
def payloadBackUptoCard : Claim7 := { stood := { row := payloadBackUptoRow, standIns := [], harness := (true, "ad905eeedc1e7c92e06bead0e1d47b8347e051c6769b635cf54ad659325d459e"), looks := false }, kinds := [], alts := [], laidByText := true, laidKinds := [.data, .data, .data, .data, .data, .pinned], laidTests := true, laidLooks := .later }
def PayloadBackUptoCardSaid : Prop := Claim7.holds Tryz.pinned (.plain (OpenSpec.upto payloadBackSpec)) payloadBackUptoCard
end Rows
end Go.Proofs.YtlklmoohoobjjaaGreatDoor
