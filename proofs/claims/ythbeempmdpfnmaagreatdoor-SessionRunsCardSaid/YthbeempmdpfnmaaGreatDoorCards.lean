/-
  DERIVED. GIVEN WITH THE SEED: THE CARDS: each row of YthbeempmdpfnmaaGreatDoorRows.lean that lists a variable, with what it lists TIED to the program's text (the seventh form; the later family's looks); each row that meets fmt, with fmt's text TOLD by the authors' own Lean function (tested against real Go, not proved from fmt's source: count such statements apart). THE CARD IS WHAT COUNTS. Prove the row's statement (the work); the ties are given (YthbeempmdpfnmaaGreatDoorTie.lean); close each card by the builder's one call (the guide's Derived/Test/ToyasCard.lean, 'card_holds'). Laid BY PROGRAM, IN A SANDBOX (cutbox-door.mjs). By AI agents, Wed Nov 11 2026. No macro, syntax, notation, axiom, sorry.
-/
import Derived.Test.YthbeempmdpfnmaaGreatDoorRows
import GoSem.ClaimSeven
namespace Go.Proofs.YthbeempmdpfnmaaGreatDoor
namespace Rows

/-- THE TIED CARD OF 'wharflaw15.SessionRuns'. -/
def sessionRunsCard : Claim7 := { stood := { row := sessionRunsRow, standIns := [], harness := (true, "0e410d1d0a85db85a2dcf50956a4fea3576452800fdfa04a85b81eb6d7211a66"), looks := false }, kinds := [], alts := [], laidByText := true, laidKinds := [.data, .data, .data, .data, .pinned], laidTests := true, laidLooks := .later }
def SessionRunsCardSaid : Prop := Claim7.holds Tryz.pinned (.plain (OpenSpec.ofChange sessionRunsSpec)) sessionRunsCard

/-- THE TIED CARD OF 'wharflaw15.SessionStands'. -/
def sessionStandsCard : Claim7 := { stood := { row := sessionStandsRow, standIns := [], harness := (true, "0e410d1d0a85db85a2dcf50956a4fea3576452800fdfa04a85b81eb6d7211a66"), looks := false }, kinds := [], alts := [], laidByText := true, laidKinds := [.data, .data, .data, .data, .pinned], laidTests := true, laidLooks := .later }
def SessionStandsCardSaid : Prop := Claim7.holds Tryz.pinned (.plain (OpenSpec.ofChange sessionStandsSpec)) sessionStandsCard

/-- THE SECOND FORM's CARD OF 'wharflaw15.SessionRuns'. -/
def sessionRunsUptoCard : Claim7 := { stood := { row := sessionRunsUptoRow, standIns := [], harness := (true, "0e410d1d0a85db85a2dcf50956a4fea3576452800fdfa04a85b81eb6d7211a66"), looks := false }, kinds := [], alts := [], laidByText := true, laidKinds := [.data, .data, .data, .data, .pinned], laidTests := true, laidLooks := .later }
def SessionRunsUptoCardSaid : Prop := Claim7.holds Tryz.pinned (.plain (OpenSpec.upto sessionRunsSpec)) sessionRunsUptoCard

/-- THE SECOND FORM's CARD OF 'wharflaw15.SessionStands'. -/
def sessionStandsUptoCard : Claim7 := { stood := { row := sessionStandsUptoRow, standIns := [], harness := (true, "0e410d1d0a85db85a2dcf50956a4fea3576452800fdfa04a85b81eb6d7211a66"), looks := false }, kinds := [], alts := [], laidByText := true, laidKinds := [.data, .data, .data, .data, .pinned], laidTests := true, laidLooks := .later }
def SessionStandsUptoCardSaid : Prop := Claim7.holds Tryz.pinned (.plain (OpenSpec.upto sessionStandsSpec)) sessionStandsUptoCard
end Rows
end Go.Proofs.YthbeempmdpfnmaaGreatDoor
