/-
  DERIVED. GIVEN WITH THE SEED: THE CARDS: each row of YtbadoidjdghklaaDoorRows.lean that lists a variable, with what it lists TIED to the program's text (the seventh form; the later family's looks); each row that meets fmt, with fmt's text TOLD by the authors' own Lean function (tested against real Go, not proved from fmt's source: count such statements apart). THE CARD IS WHAT COUNTS. Prove the row's statement (the work); the ties are given (YtbadoidjdghklaaDoorTie.lean); close each card by the builder's one call (the guide's Derived/Test/ToyasCard.lean, 'card_holds'). Laid BY PROGRAM, IN A SANDBOX (cutbox-door.mjs). By AI agents, Wed Nov 11 2026. No macro, syntax, notation, axiom, sorry.
-/
import Derived.Test.YtbadoidjdghklaaDoorRows
import GoSem.ClaimSeven
namespace Go.Proofs.YtbadoidjdghklaaDoor
namespace Rows

/-- THE TIED CARD OF 'wharflaw16.ShadeStatuses'. -/
def shadeStatusesCard : Claim7 := { stood := { row := shadeStatusesRow, standIns := [], harness := (true, "7eb3c55f7007588d6e717562913e94864b2a62e1d2986f03c04340a70b353498"), looks := false }, kinds := [], alts := [], laidByText := true, laidKinds := [.data, .data, .pinned], laidTests := true, laidLooks := .later }
def ShadeStatusesCardSaid : Prop := Claim7.holds Tryd.pinned (.plain (OpenSpec.ofChange shadeStatusesSpec)) shadeStatusesCard

/-- THE TIED CARD OF 'wharflaw16.ShadeTexts'. -/
def shadeTextsCard : Claim7 := { stood := { row := shadeTextsRow, standIns := [], harness := (true, "7eb3c55f7007588d6e717562913e94864b2a62e1d2986f03c04340a70b353498"), looks := false }, kinds := [], alts := [], laidByText := true, laidKinds := [.data, .data, .pinned], laidTests := true, laidLooks := .later }
def ShadeTextsCardSaid : Prop := Claim7.holds Tryd.pinned (.plain (OpenSpec.ofChange shadeTextsSpec)) shadeTextsCard

/-- THE TIED CARD OF 'wharflaw16.ShadeBack'. -/
def shadeBackCard : Claim7 := { stood := { row := shadeBackRow, standIns := [], harness := (true, "7eb3c55f7007588d6e717562913e94864b2a62e1d2986f03c04340a70b353498"), looks := false }, kinds := [], alts := [], laidByText := true, laidKinds := [.data, .data, .pinned], laidTests := true, laidLooks := .later }
def ShadeBackCardSaid : Prop := Claim7.holds Tryd.pinned (.plain (OpenSpec.ofChange shadeBackSpec)) shadeBackCard

/-- THE TIED CARD OF 'wharflaw16.ShadeShort'. -/
def shadeShortCard : Claim7 := { stood := { row := shadeShortRow, standIns := [], harness := (true, "7eb3c55f7007588d6e717562913e94864b2a62e1d2986f03c04340a70b353498"), looks := false }, kinds := [], alts := [], laidByText := true, laidKinds := [.data, .data, .pinned], laidTests := true, laidLooks := .later }
def ShadeShortCardSaid : Prop := Claim7.holds Tryd.pinned (.plain (OpenSpec.ofChange shadeShortSpec)) shadeShortCard

/-- THE TIED CARD OF 'wharflaw16.ShadeBits'. -/
def shadeBitsCard : Claim7 := { stood := { row := shadeBitsRow, standIns := [], harness := (true, "7eb3c55f7007588d6e717562913e94864b2a62e1d2986f03c04340a70b353498"), looks := false }, kinds := [], alts := [], laidByText := true, laidKinds := [.data, .data, .pinned], laidTests := true, laidLooks := .later }
def ShadeBitsCardSaid : Prop := Claim7.holds Tryd.pinned (.plain (OpenSpec.ofChange shadeBitsSpec)) shadeBitsCard

/-- THE SECOND FORM's CARD OF 'wharflaw16.ShadeStatuses'. -/
def shadeStatusesUptoCard : Claim7 := { stood := { row := shadeStatusesUptoRow, standIns := [], harness := (true, "7eb3c55f7007588d6e717562913e94864b2a62e1d2986f03c04340a70b353498"), looks := false }, kinds := [], alts := [], laidByText := true, laidKinds := [.data, .data, .pinned], laidTests := true, laidLooks := .later }
def ShadeStatusesUptoCardSaid : Prop := Claim7.holds Tryd.pinned (.plain (OpenSpec.upto shadeStatusesSpec)) shadeStatusesUptoCard

/-- THE SECOND FORM's CARD OF 'wharflaw16.ShadeTexts'. -/
def shadeTextsUptoCard : Claim7 := { stood := { row := shadeTextsUptoRow, standIns := [], harness := (true, "7eb3c55f7007588d6e717562913e94864b2a62e1d2986f03c04340a70b353498"), looks := false }, kinds := [], alts := [], laidByText := true, laidKinds := [.data, .data, .pinned], laidTests := true, laidLooks := .later }
def ShadeTextsUptoCardSaid : Prop := Claim7.holds Tryd.pinned (.plain (OpenSpec.upto shadeTextsSpec)) shadeTextsUptoCard

/-- THE SECOND FORM's CARD OF 'wharflaw16.ShadeBack'. -/
def shadeBackUptoCard : Claim7 := { stood := { row := shadeBackUptoRow, standIns := [], harness := (true, "7eb3c55f7007588d6e717562913e94864b2a62e1d2986f03c04340a70b353498"), looks := false }, kinds := [], alts := [], laidByText := true, laidKinds := [.data, .data, .pinned], laidTests := true, laidLooks := .later }
def ShadeBackUptoCardSaid : Prop := Claim7.holds Tryd.pinned (.plain (OpenSpec.upto shadeBackSpec)) shadeBackUptoCard

/-- THE SECOND FORM's CARD OF 'wharflaw16.ShadeShort'. -/
def shadeShortUptoCard : Claim7 := { stood := { row := shadeShortUptoRow, standIns := [], harness := (true, "7eb3c55f7007588d6e717562913e94864b2a62e1d2986f03c04340a70b353498"), looks := false }, kinds := [], alts := [], laidByText := true, laidKinds := [.data, .data, .pinned], laidTests := true, laidLooks := .later }
def ShadeShortUptoCardSaid : Prop := Claim7.holds Tryd.pinned (.plain (OpenSpec.upto shadeShortSpec)) shadeShortUptoCard

/-- THE SECOND FORM's CARD OF 'wharflaw16.ShadeBits'. -/
def shadeBitsUptoCard : Claim7 := { stood := { row := shadeBitsUptoRow, standIns := [], harness := (true, "7eb3c55f7007588d6e717562913e94864b2a62e1d2986f03c04340a70b353498"), looks := false }, kinds := [], alts := [], laidByText := true, laidKinds := [.data, .data, .pinned], laidTests := true, laidLooks := .later }
def ShadeBitsUptoCardSaid : Prop := Claim7.holds Tryd.pinned (.plain (OpenSpec.upto shadeBitsSpec)) shadeBitsUptoCard
end Rows
end Go.Proofs.YtbadoidjdghklaaDoor
