/-
  DERIVED. GIVEN WITH THE SEED: THE CARDS: each row of YtccpdfcmhggleaaGreatDoorRows.lean that lists a variable, with what it lists TIED to the program's text (the seventh form; the later family's looks); each row that meets fmt, with fmt's text TOLD by the authors' own Lean function (tested against real Go, not proved from fmt's source: count such statements apart). THE CARD IS WHAT COUNTS. Prove the row's statement (the work); the ties are given (YtccpdfcmhggleaaGreatDoorTie.lean); close each card by the builder's one call (the guide's Derived/Test/ToyasCard.lean, 'card_holds'). Laid BY PROGRAM, IN A SANDBOX (cutbox-door.mjs). By AI agents, Wed Nov 11 2026. No macro, syntax, notation, axiom, sorry.
-/
import Derived.Test.YtccpdfcmhggleaaGreatDoorRows
import GoSem.ClaimSeven
namespace Go.Proofs.YtccpdfcmhggleaaGreatDoor
namespace Rows

/-- THE TIED CARD OF 'wharflaw09.StanzaBack'. -/
def stanzaBackCard : Claim7 := { stood := { row := stanzaBackRow, standIns := [], harness := (true, "8898b41f9bbbc69d96f4ebeee98fff62d65b747d4f6cbad711f9f781b2cc0814"), looks := false }, kinds := [], alts := [], laidByText := true, laidKinds := [.data, .pinned], laidTests := true, laidLooks := .later }
def StanzaBackCardSaid : Prop := Claim7.holds Tryz.pinned (.plain (OpenSpec.ofChange stanzaBackSpec)) stanzaBackCard

/-- THE TIED CARD OF 'wharflaw09.StanzaTurns'. -/
def stanzaTurnsCard : Claim7 := { stood := { row := stanzaTurnsRow, standIns := [], harness := (true, "8898b41f9bbbc69d96f4ebeee98fff62d65b747d4f6cbad711f9f781b2cc0814"), looks := false }, kinds := [], alts := [], laidByText := true, laidKinds := [.data, .pinned], laidTests := true, laidLooks := .later }
def StanzaTurnsCardSaid : Prop := Claim7.holds Tryz.pinned (.plain (OpenSpec.ofChange stanzaTurnsSpec)) stanzaTurnsCard

/-- THE TIED CARD OF 'wharflaw09.StanzaFaults'. -/
def stanzaFaultsCard : Claim7 := { stood := { row := stanzaFaultsRow, standIns := [], harness := (true, "8898b41f9bbbc69d96f4ebeee98fff62d65b747d4f6cbad711f9f781b2cc0814"), looks := false }, kinds := [], alts := [], laidByText := true, laidKinds := [.data, .pinned], laidTests := true, laidLooks := .later }
def StanzaFaultsCardSaid : Prop := Claim7.holds Tryz.pinned (.plain (OpenSpec.ofChange stanzaFaultsSpec)) stanzaFaultsCard

/-- THE SECOND FORM's CARD OF 'wharflaw09.StanzaBack'. -/
def stanzaBackUptoCard : Claim7 := { stood := { row := stanzaBackUptoRow, standIns := [], harness := (true, "8898b41f9bbbc69d96f4ebeee98fff62d65b747d4f6cbad711f9f781b2cc0814"), looks := false }, kinds := [], alts := [], laidByText := true, laidKinds := [.data, .pinned], laidTests := true, laidLooks := .later }
def StanzaBackUptoCardSaid : Prop := Claim7.holds Tryz.pinned (.plain (OpenSpec.upto stanzaBackSpec)) stanzaBackUptoCard

/-- THE SECOND FORM's CARD OF 'wharflaw09.StanzaTurns'. -/
def stanzaTurnsUptoCard : Claim7 := { stood := { row := stanzaTurnsUptoRow, standIns := [], harness := (true, "8898b41f9bbbc69d96f4ebeee98fff62d65b747d4f6cbad711f9f781b2cc0814"), looks := false }, kinds := [], alts := [], laidByText := true, laidKinds := [.data, .pinned], laidTests := true, laidLooks := .later }
def StanzaTurnsUptoCardSaid : Prop := Claim7.holds Tryz.pinned (.plain (OpenSpec.upto stanzaTurnsSpec)) stanzaTurnsUptoCard

/-- THE SECOND FORM's CARD OF 'wharflaw09.StanzaFaults'. -/
def stanzaFaultsUptoCard : Claim7 := { stood := { row := stanzaFaultsUptoRow, standIns := [], harness := (true, "8898b41f9bbbc69d96f4ebeee98fff62d65b747d4f6cbad711f9f781b2cc0814"), looks := false }, kinds := [], alts := [], laidByText := true, laidKinds := [.data, .pinned], laidTests := true, laidLooks := .later }
def StanzaFaultsUptoCardSaid : Prop := Claim7.holds Tryz.pinned (.plain (OpenSpec.upto stanzaFaultsSpec)) stanzaFaultsUptoCard
end Rows
end Go.Proofs.YtccpdfcmhggleaaGreatDoor
