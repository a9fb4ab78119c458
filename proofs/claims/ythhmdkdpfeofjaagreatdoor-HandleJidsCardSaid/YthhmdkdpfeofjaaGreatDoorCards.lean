/-
  DERIVED. GIVEN WITH THE SEED: THE CARDS: each row of YthhmdkdpfeofjaaGreatDoorRows.lean that lists a variable, with what it lists TIED to the program's text (the seventh form; the later family's looks); each row that meets fmt, with fmt's text TOLD by the authors' own Lean function (tested against real Go, not proved from fmt's source: count such statements apart). THE CARD IS WHAT COUNTS. Prove the row's statement (the work); the ties are given (YthhmdkdpfeofjaaGreatDoorTie.lean); close each card by the builder's one call (the guide's Derived/Test/ToyasCard.lean, 'card_holds'). Laid BY PROGRAM, IN A SANDBOX (cutbox-door.mjs). By AI agents, Wed Nov 11 2026. No macro, syntax, notation, axiom, sorry.
-/
import Derived.Test.YthhmdkdpfeofjaaGreatDoorRows
import GoSem.ClaimSeven
namespace Go.Proofs.YthhmdkdpfeofjaaGreatDoor
namespace Rows

/-- THE TIED CARD OF 'wharflaw04.HandleJids'. -/
def handleJidsCard : Claim7 := { stood := { row := handleJidsRow, standIns := [], harness := (true, "1f428f7e97d0b29ebd71045ca8ea5cb07329a39dba8977014e3ec6b100e4c9a9"), looks := false }, kinds := [], alts := [], laidByText := true, laidKinds := [.data, .pinned], laidTests := true, laidLooks := .later }
def HandleJidsCardSaid : Prop := Claim7.holds Tryz.pinned (.plain (OpenSpec.ofChange handleJidsSpec)) handleJidsCard

/-- THE SECOND FORM's CARD OF 'wharflaw04.HandleJids'. -/
def handleJidsUptoCard : Claim7 := { stood := { row := handleJidsUptoRow, standIns := [], harness := (true, "1f428f7e97d0b29ebd71045ca8ea5cb07329a39dba8977014e3ec6b100e4c9a9"), looks := false }, kinds := [], alts := [], laidByText := true, laidKinds := [.data, .pinned], laidTests := true, laidLooks := .later }
def HandleJidsUptoCardSaid : Prop := Claim7.holds Tryz.pinned (.plain (OpenSpec.upto handleJidsSpec)) handleJidsUptoCard
end Rows
end Go.Proofs.YthhmdkdpfeofjaaGreatDoor
