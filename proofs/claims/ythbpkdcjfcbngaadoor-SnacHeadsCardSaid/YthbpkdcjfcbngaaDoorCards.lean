/-
  DERIVED. GIVEN WITH THE SEED: THE CARDS: each row of YthbpkdcjfcbngaaDoorRows.lean that lists a variable, with what it lists TIED to the program's text (the seventh form; the later family's looks); each row that meets fmt, with fmt's text TOLD by the authors' own Lean function (tested against real Go, not proved from fmt's source: count such statements apart). THE CARD IS WHAT COUNTS. Prove the row's statement (the work); the ties are given (YthbpkdcjfcbngaaDoorTie.lean); close each card by the builder's one call (the guide's Derived/Test/ToyasCard.lean, 'card_holds'). Laid BY PROGRAM, IN A SANDBOX (cutbox-door.mjs). By AI agents, Wed Nov 11 2026. No macro, syntax, notation, axiom, sorry.
-/
import Derived.Test.YthbpkdcjfcbngaaDoorRows
import GoSem.ClaimSeven
namespace Go.Proofs.YthbpkdcjfcbngaaDoor
namespace Rows

/-- THE TIED CARD OF 'wharflaw13.SnacPuts'. -/
def snacPutsCard : Claim7 := { stood := { row := snacPutsRow, standIns := [], harness := (true, "c12d459dc6d49ca18249b15acb995eedf0e4566e89f443032137ebb436d62bce"), looks := false }, kinds := [], alts := [], laidByText := true, laidKinds := [.data], laidTests := true, laidLooks := .later }
def SnacPutsCardSaid : Prop := Claim7.holds Tryd.pinned (.plain (OpenSpec.ofChange snacPutsSpec)) snacPutsCard

/-- THE TIED CARD OF 'wharflaw13.SnacBack'. -/
def snacBackCard : Claim7 := { stood := { row := snacBackRow, standIns := [], harness := (true, "c12d459dc6d49ca18249b15acb995eedf0e4566e89f443032137ebb436d62bce"), looks := false }, kinds := [], alts := [], laidByText := true, laidKinds := [.data], laidTests := true, laidLooks := .later }
def SnacBackCardSaid : Prop := Claim7.holds Tryd.pinned (.plain (OpenSpec.ofChange snacBackSpec)) snacBackCard

/-- THE TIED CARD OF 'wharflaw13.SnacApart'. -/
def snacApartCard : Claim7 := { stood := { row := snacApartRow, standIns := [], harness := (true, "c12d459dc6d49ca18249b15acb995eedf0e4566e89f443032137ebb436d62bce"), looks := false }, kinds := [], alts := [], laidByText := true, laidKinds := [.data], laidTests := true, laidLooks := .later }
def SnacApartCardSaid : Prop := Claim7.holds Tryd.pinned (.plain (OpenSpec.ofChange snacApartSpec)) snacApartCard

/-- THE TIED CARD OF 'wharflaw13.SnacHeads'. -/
def snacHeadsCard : Claim7 := { stood := { row := snacHeadsRow, standIns := [], harness := (true, "c12d459dc6d49ca18249b15acb995eedf0e4566e89f443032137ebb436d62bce"), looks := false }, kinds := [], alts := [], laidByText := true, laidKinds := [.data], laidTests := true, laidLooks := .later }
def SnacHeadsCardSaid : Prop := Claim7.holds Tryd.pinned (.plain (OpenSpec.ofChange snacHeadsSpec)) snacHeadsCard

/-- THE SECOND FORM's CARD OF 'wharflaw13.SnacPuts'. -/
def snacPutsUptoCard : Claim7 := { stood := { row := snacPutsUptoRow, standIns := [], harness := (true, "c12d459dc6d49ca18249b15acb995eedf0e4566e89f443032137ebb436d62bce"), looks := false }, kinds := [], alts := [], laidByText := true, laidKinds := [.data], laidTests := true, laidLooks := .later }
def SnacPutsUptoCardSaid : Prop := Claim7.holds Tryd.pinned (.plain (OpenSpec.upto snacPutsSpec)) snacPutsUptoCard

/-- THE SECOND FORM's CARD OF 'wharflaw13.SnacBack'. -/
def snacBackUptoCard : Claim7 := { stood := { row := snacBackUptoRow, standIns := [], harness := (true, "c12d459dc6d49ca18249b15acb995eedf0e4566e89f443032137ebb436d62bce"), looks := false }, kinds := [], alts := [], laidByText := true, laidKinds := [.data], laidTests := true, laidLooks := .later }
def SnacBackUptoCardSaid : Prop := Claim7.holds Tryd.pinned (.plain (OpenSpec.upto snacBackSpec)) snacBackUptoCard

/-- THE SECOND FORM's CARD OF 'wharflaw13.SnacApart'. -/
def snacApartUptoCard : Claim7 := { stood := { row := snacApartUptoRow, standIns := [], harness := (true, "c12d459dc6d49ca18249b15acb995eedf0e4566e89f443032137ebb436d62bce"), looks := false }, kinds := [], alts := [], laidByText := true, laidKinds := [.data], laidTests := true, laidLooks := .later }
def SnacApartUptoCardSaid : Prop := Claim7.holds Tryd.pinned (.plain (OpenSpec.upto snacApartSpec)) snacApartUptoCard

/-- THE SECOND FORM's CARD OF 'wharflaw13.SnacHeads'. -/
def snacHeadsUptoCard : Claim7 := { stood := { row := snacHeadsUptoRow, standIns := [], harness := (true, "c12d459dc6d49ca18249b15acb995eedf0e4566e89f443032137ebb436d62bce"), looks := false }, kinds := [], alts := [], laidByText := true, laidKinds := [.data], laidTests := true, laidLooks := .later }
def SnacHeadsUptoCardSaid : Prop := Claim7.holds Tryd.pinned (.plain (OpenSpec.upto snacHeadsSpec)) snacHeadsUptoCard
end Rows
end Go.Proofs.YthbpkdcjfcbngaaDoor
