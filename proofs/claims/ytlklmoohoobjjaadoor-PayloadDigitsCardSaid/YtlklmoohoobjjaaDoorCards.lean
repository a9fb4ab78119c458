/-
  DERIVED. GIVEN WITH THE SEED: THE CARDS: each row of YtlklmoohoobjjaaDoorRows.lean that lists a variable, with what it lists TIED to the program's text (the seventh form; the later family's looks); each row that meets fmt, with fmt's text TOLD by the authors' own Lean function (tested against real Go, not proved from fmt's source: count such statements apart). THE CARD IS WHAT COUNTS. Prove the row's statement (the work); the ties are given (YtlklmoohoobjjaaDoorTie.lean); close each card by the builder's one call (the guide's Derived/Test/ToyasCard.lean, 'card_holds'). Laid BY PROGRAM, IN A SANDBOX (cutbox-door.mjs). By AI agents, Wed Nov 11 2026. No macro, syntax, notation, axiom, sorry.
-/
import Derived.Test.YtlklmoohoobjjaaDoorRows
import GoSem.ClaimSeven
namespace Go.Proofs.YtlklmoohoobjjaaDoor
namespace Rows

/-- THE TIED CARD OF 'wharflaw10.PayloadDigits'. -/
def payloadDigitsCard : Claim7 := { stood := { row := payloadDigitsRow, standIns := [], harness := (true, "7fe4a233d53cdd10012088d895b5ce5a70ab9dafa72df3f978ee2378087caafe"), looks := false }, kinds := [], alts := [], laidByText := true, laidKinds := [.data, .data, .data, .data, .data, .pinned], laidTests := true, laidLooks := .later }
def PayloadDigitsCardSaid : Prop := Claim7.holds Tryd.pinned (.plain (OpenSpec.ofChange payloadDigitsSpec)) payloadDigitsCard

/-- THE SECOND FORM's CARD OF 'wharflaw10.PayloadDigits'. -/
def payloadDigitsUptoCard : Claim7 := { stood := { row := payloadDigitsUptoRow, standIns := [], harness := (true, "7fe4a233d53cdd10012088d895b5ce5a70ab9dafa72df3f978ee2378087caafe"), looks := false }, kinds := [], alts := [], laidByText := true, laidKinds := [.data, .data, .data, .data, .data, .pinned], laidTests := true, laidLooks := .later }
def PayloadDigitsUptoCardSaid : Prop := Claim7.holds Tryd.pinned (.plain (OpenSpec.upto payloadDigitsSpec)) payloadDigitsUptoCard
end Rows
end Go.Proofs.YtlklmoohoobjjaaDoor
