/-
  DERIVED. GIVEN WITH THE SEED: THE CARDS: each row of YtclkehfnakhljaaDoorRows.lean that lists a variable, with what it lists TIED to the program's text (the seventh form; the later family's looks); each row that meets fmt, with fmt's text TOLD by the authors' own Lean function (tested against real Go, not proved from fmt's source: count such statements apart). THE CARD IS WHAT COUNTS. Prove the row's statement (the work); the ties are given (YtclkehfnakhljaaDoorTie.lean); close each card by the builder's one call (the guide's Derived/Test/ToyasCard.lean, 'card_holds'). Laid BY PROGRAM, IN A SANDBOX (cutbox-door.mjs). By AI agents, Wed Nov 11 2026. No macro, syntax, notation, axiom, sorry.
-/
import Derived.Test.YtclkehfnakhljaaDoorRows
import GoSem.ClaimSeven
namespace Go.Proofs.YtclkehfnakhljaaDoor
namespace Rows

/-- THE TIED CARD OF 'wharflaw14.LegacyBack'. -/
def legacyBackCard : Claim7 := { stood := { row := legacyBackRow, standIns := [], harness := (true, "507a922faf7d20da427a664ce3efcfba13afa43e18cab581b15dcbe278744e2e"), looks := false }, kinds := [], alts := [], laidByText := true, laidKinds := [.data, .data], laidTests := true, laidLooks := .later }
def LegacyBackCardSaid : Prop := Claim7.holds Tryd.pinned (.plain (OpenSpec.ofChange legacyBackSpec)) legacyBackCard

/-- THE TIED CARD OF 'wharflaw14.LegacyCut'. -/
def legacyCutCard : Claim7 := { stood := { row := legacyCutRow, standIns := [], harness := (true, "507a922faf7d20da427a664ce3efcfba13afa43e18cab581b15dcbe278744e2e"), looks := false }, kinds := [], alts := [], laidByText := true, laidKinds := [.data, .data], laidTests := true, laidLooks := .later }
def LegacyCutCardSaid : Prop := Claim7.holds Tryd.pinned (.plain (OpenSpec.ofChange legacyCutSpec)) legacyCutCard

/-- THE TIED CARD OF 'wharflaw14.LegacyClasses'. -/
def legacyClassesCard : Claim7 := { stood := { row := legacyClassesRow, standIns := [], harness := (true, "507a922faf7d20da427a664ce3efcfba13afa43e18cab581b15dcbe278744e2e"), looks := false }, kinds := [], alts := [], laidByText := true, laidKinds := [.data, .data], laidTests := true, laidLooks := .later }
def LegacyClassesCardSaid : Prop := Claim7.holds Tryd.pinned (.plain (OpenSpec.ofChange legacyClassesSpec)) legacyClassesCard

/-- THE SECOND FORM's CARD OF 'wharflaw14.LegacyBack'. -/
def legacyBackUptoCard : Claim7 := { stood := { row := legacyBackUptoRow, standIns := [], harness := (true, "507a922faf7d20da427a664ce3efcfba13afa43e18cab581b15dcbe278744e2e"), looks := false }, kinds := [], alts := [], laidByText := true, laidKinds := [.data, .data], laidTests := true, laidLooks := .later }
def LegacyBackUptoCardSaid : Prop := Claim7.holds Tryd.pinned (.plain (OpenSpec.upto legacyBackSpec)) legacyBackUptoCard

/-- THE SECOND FORM's CARD OF 'wharflaw14.LegacyCut'. -/
def legacyCutUptoCard : Claim7 := { stood := { row := legacyCutUptoRow, standIns := [], harness := (true, "507a922faf7d20da427a664ce3efcfba13afa43e18cab581b15dcbe278744e2e"), looks := false }, kinds := [], alts := [], laidByText := true, laidKinds := [.data, .data], laidTests := true, laidLooks := .later }
def LegacyCutUptoCardSaid : Prop := Claim7.holds Tryd.pinned (.plain (OpenSpec.upto legacyCutSpec)) legacyCutUptoCard

/-- THE SECOND FORM's CARD OF 'wharflaw14.LegacyClasses'. -/
def legacyClassesUptoCard : Claim7 := { stood := { row := legacyClassesUptoRow, standIns := [], harness := (true, "507a922faf7d20da427a664ce3efcfba13afa43e18cab581b15dcbe278744e2e"), looks := false }, kinds := [], alts := [], laidByText := true, laidKinds := [.data, .data], laidTests := true, laidLooks := .later }
def LegacyClassesUptoCardSaid : Prop := Claim7.holds Tryd.pinned (.plain (OpenSpec.upto legacyClassesSpec)) legacyClassesUptoCard
end Rows
end Go.Proofs.YtclkehfnakhljaaDoor
