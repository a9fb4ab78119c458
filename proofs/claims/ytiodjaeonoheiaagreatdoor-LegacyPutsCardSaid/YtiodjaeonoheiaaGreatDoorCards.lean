/-
  DERIVED. GIVEN WITH THE SEED: THE CARDS: each row of YtiodjaeonoheiaaGreatDoorRows.lean that lists a variable, with what it lists TIED to the program's text (the seventh form; the later family's looks); each row that meets fmt, with fmt's text TOLD by the authors' own Lean function (tested against real Go, not proved from fmt's source: count such statements apart). THE CARD IS WHAT COUNTS. Prove the row's statement (the work); the ties are given (YtiodjaeonoheiaaGreatDoorTie.lean); close each card by the builder's one call (the guide's Derived/Test/ToyasCard.lean, 'card_holds'). Laid BY PROGRAM, IN A SANDBOX (cutbox-door.mjs). By AI agents, Wed Nov 11 2026. No macro, syntax, notation, axiom, sorry.
-/
import Derived.Test.YtiodjaeonoheiaaGreatDoorRows
import GoSem.ClaimSeven
namespace Go.Proofs.YtiodjaeonoheiaaGreatDoor
namespace Rows

/-- THE TIED CARD OF 'wharflaw14.LegacyPuts'. -/
def legacyPutsCard : Claim7 := { stood := { row := legacyPutsRow, standIns := [], harness := (true, "63c8a625d73dd337cdef5273290f40670069c2571971f05a348d375aee37a464"), looks := false }, kinds := [], alts := [], laidByText := true, laidKinds := [.data, .data], laidTests := true, laidLooks := .later }
def LegacyPutsCardSaid : Prop := Claim7.holds Tryz.pinned (.plain (OpenSpec.ofChange legacyPutsSpec)) legacyPutsCard

/-- THE TIED CARD OF 'wharflaw14.LegacyReads'. -/
def legacyReadsCard : Claim7 := { stood := { row := legacyReadsRow, standIns := [], harness := (true, "63c8a625d73dd337cdef5273290f40670069c2571971f05a348d375aee37a464"), looks := false }, kinds := [], alts := [], laidByText := true, laidKinds := [.data, .data], laidTests := true, laidLooks := .later }
def LegacyReadsCardSaid : Prop := Claim7.holds Tryz.pinned (.plain (OpenSpec.ofChange legacyReadsSpec)) legacyReadsCard

/-- THE SECOND FORM's CARD OF 'wharflaw14.LegacyPuts'. -/
def legacyPutsUptoCard : Claim7 := { stood := { row := legacyPutsUptoRow, standIns := [], harness := (true, "63c8a625d73dd337cdef5273290f40670069c2571971f05a348d375aee37a464"), looks := false }, kinds := [], alts := [], laidByText := true, laidKinds := [.data, .data], laidTests := true, laidLooks := .later }
def LegacyPutsUptoCardSaid : Prop := Claim7.holds Tryz.pinned (.plain (OpenSpec.upto legacyPutsSpec)) legacyPutsUptoCard

/-- THE SECOND FORM's CARD OF 'wharflaw14.LegacyReads'. -/
def legacyReadsUptoCard : Claim7 := { stood := { row := legacyReadsUptoRow, standIns := [], harness := (true, "63c8a625d73dd337cdef5273290f40670069c2571971f05a348d375aee37a464"), looks := false }, kinds := [], alts := [], laidByText := true, laidKinds := [.data, .data], laidTests := true, laidLooks := .later }
def LegacyReadsUptoCardSaid : Prop := Claim7.holds Tryz.pinned (.plain (OpenSpec.upto legacyReadsSpec)) legacyReadsUptoCard
end Rows
end Go.Proofs.YtiodjaeonoheiaaGreatDoor
