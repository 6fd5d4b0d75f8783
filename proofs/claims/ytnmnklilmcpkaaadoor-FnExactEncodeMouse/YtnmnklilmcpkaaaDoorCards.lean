/-
  DERIVED. GIVEN WITH THE SEED: THE CARDS: each row of YtnmnklilmcpkaaaDoorRows.lean that lists a variable, with what it lists TIED to the program's text (the seventh form; the later family's looks); each row that meets fmt, with fmt's text TOLD by the authors' own Lean function (tested against real Go, not proved from fmt's source: count such statements apart). THE CARD IS WHAT COUNTS. Prove the row's statement (the work); the ties are given (YtnmnklilmcpkaaaDoorTie.lean); close each card by the builder's one call (the guide's Derived/Test/ToyasCard.lean, 'card_holds'). Laid BY PROGRAM, IN A SANDBOX (cutbox-door.mjs). By AI agents, Wed Nov 11 2026. No macro, syntax, notation, axiom, sorry.
-/
import Derived.Test.YtnmnklilmcpkaaaDoorRows
import GoSem.ClaimSeven
namespace Go.Proofs.YtnmnklilmcpkaaaDoor
namespace Rows

/-- THE TIED CARD OF 'laws.FnEncodes'. -/
def fnEncodesCard : Claim7 := { stood := { row := fnEncodesRow, standIns := [], harness := (true, "f2997eb8371284c72da73bb2580be56e5ec670fb7953f740f8377cefd442e7dd"), looks := true }, kinds := [], alts := [], laidByText := true, laidKinds := [.data, .data, .data], laidTests := true, laidLooks := .later }
def FnEncodesCardSaid : Prop := Claim7.holds Tryd.pinned (.plain (OpenSpec.ofChange fnEncodesSpec)) fnEncodesCard

/-- THE TIED CARD OF 'laws.FnExactEncodeKey'. -/
def fnExactEncodeKeyCard : Claim7 := { stood := { row := fnExactEncodeKeyRow, standIns := [], harness := (true, "f2997eb8371284c72da73bb2580be56e5ec670fb7953f740f8377cefd442e7dd"), looks := true }, kinds := [], alts := [], laidByText := true, laidKinds := [.data, .data, .data], laidTests := true, laidLooks := .later }
def FnExactEncodeKeyCardSaid : Prop := Claim7.holds Tryd.pinned (.plain (OpenSpec.ofChange fnExactEncodeKeySpec)) fnExactEncodeKeyCard

/-- THE TIED CARD OF 'laws.FnExactEncodeMouse'. -/
def fnExactEncodeMouseCard : Claim7 := { stood := { row := fnExactEncodeMouseRow, standIns := [], harness := (true, "f2997eb8371284c72da73bb2580be56e5ec670fb7953f740f8377cefd442e7dd"), looks := true }, kinds := [], alts := [], laidByText := true, laidKinds := [.data, .data, .data], laidTests := true, laidLooks := .later }
def FnExactEncodeMouseCardSaid : Prop := Claim7.holds Tryd.pinned (.plain (OpenSpec.ofChange fnExactEncodeMouseSpec)) fnExactEncodeMouseCard

/-- THE TIED CARD OF 'laws.FnExactEncodeEvent'. -/
def fnExactEncodeEventCard : Claim7 := { stood := { row := fnExactEncodeEventRow, standIns := [], harness := (true, "f2997eb8371284c72da73bb2580be56e5ec670fb7953f740f8377cefd442e7dd"), looks := true }, kinds := [], alts := [], laidByText := true, laidKinds := [.data, .data, .data], laidTests := true, laidLooks := .later }
def FnExactEncodeEventCardSaid : Prop := Claim7.holds Tryd.pinned (.plain (OpenSpec.ofChange fnExactEncodeEventSpec)) fnExactEncodeEventCard

/-- THE SECOND FORM's CARD OF 'laws.FnEncodes'. -/
def fnEncodesUptoCard : Claim7 := { stood := { row := fnEncodesUptoRow, standIns := [], harness := (true, "f2997eb8371284c72da73bb2580be56e5ec670fb7953f740f8377cefd442e7dd"), looks := true }, kinds := [], alts := [], laidByText := true, laidKinds := [.data, .data, .data], laidTests := true, laidLooks := .later }
def FnEncodesUptoCardSaid : Prop := Claim7.holds Tryd.pinned (.plain (OpenSpec.upto fnEncodesSpec)) fnEncodesUptoCard

/-- THE SECOND FORM's CARD OF 'laws.FnExactEncodeKey'. -/
def fnExactEncodeKeyUptoCard : Claim7 := { stood := { row := fnExactEncodeKeyUptoRow, standIns := [], harness := (true, "f2997eb8371284c72da73bb2580be56e5ec670fb7953f740f8377cefd442e7dd"), looks := true }, kinds := [], alts := [], laidByText := true, laidKinds := [.data, .data, .data], laidTests := true, laidLooks := .later }
def FnExactEncodeKeyUptoCardSaid : Prop := Claim7.holds Tryd.pinned (.plain (OpenSpec.upto fnExactEncodeKeySpec)) fnExactEncodeKeyUptoCard

/-- THE SECOND FORM's CARD OF 'laws.FnExactEncodeMouse'. -/
def fnExactEncodeMouseUptoCard : Claim7 := { stood := { row := fnExactEncodeMouseUptoRow, standIns := [], harness := (true, "f2997eb8371284c72da73bb2580be56e5ec670fb7953f740f8377cefd442e7dd"), looks := true }, kinds := [], alts := [], laidByText := true, laidKinds := [.data, .data, .data], laidTests := true, laidLooks := .later }
def FnExactEncodeMouseUptoCardSaid : Prop := Claim7.holds Tryd.pinned (.plain (OpenSpec.upto fnExactEncodeMouseSpec)) fnExactEncodeMouseUptoCard

/-- THE SECOND FORM's CARD OF 'laws.FnExactEncodeEvent'. -/
def fnExactEncodeEventUptoCard : Claim7 := { stood := { row := fnExactEncodeEventUptoRow, standIns := [], harness := (true, "f2997eb8371284c72da73bb2580be56e5ec670fb7953f740f8377cefd442e7dd"), looks := true }, kinds := [], alts := [], laidByText := true, laidKinds := [.data, .data, .data], laidTests := true, laidLooks := .later }
def FnExactEncodeEventUptoCardSaid : Prop := Claim7.holds Tryd.pinned (.plain (OpenSpec.upto fnExactEncodeEventSpec)) fnExactEncodeEventUptoCard
end Rows
end Go.Proofs.YtnmnklilmcpkaaaDoor
