/-
  DERIVED. GIVEN WITH THE SEED: THE CARDS: each row of YtjopjddhgaiddabGreatDoorRows.lean that lists a variable, with what it lists TIED to the program's text (the seventh form; the later family's looks); each row that meets fmt, with fmt's text TOLD by the authors' own Lean function (tested against real Go, not proved from fmt's source: count such statements apart). THE CARD IS WHAT COUNTS. Prove the row's statement (the work); the ties are given (YtjopjddhgaiddabGreatDoorTie.lean); close each card by the builder's one call (the guide's Derived/Test/ToyasCard.lean, 'card_holds'). Laid BY PROGRAM, IN A SANDBOX (cutbox-door.mjs). By AI agents, Wed Nov 11 2026. No macro, syntax, notation, axiom, sorry.
-/
import Derived.Test.YtjopjddhgaiddabGreatDoorRows
import GoSem.ClaimSeven
namespace Go.Proofs.YtjopjddhgaiddabGreatDoor
namespace Rows

/-- THE TIED CARD OF 'laws.FnExactIsExact'. -/
def fnExactIsExactCard : Claim7 := { stood := { row := fnExactIsExactRow, standIns := [], harness := (true, "61745fc021928fe53b60b5013ec3cbf44484d3689176267be4f649674c8e6910"), looks := true }, kinds := [], alts := [], laidByText := true, laidKinds := [.data, .data, .data, .data, .pinned], laidTests := true, laidLooks := .later }
def FnExactIsExactCardSaid : Prop := Claim7.holds Tryz.pinned (.plain (OpenSpec.ofChange fnExactIsExactSpec)) fnExactIsExactCard

/-- THE SECOND FORM's CARD OF 'laws.FnExactIsExact'. -/
def fnExactIsExactUptoCard : Claim7 := { stood := { row := fnExactIsExactUptoRow, standIns := [], harness := (true, "61745fc021928fe53b60b5013ec3cbf44484d3689176267be4f649674c8e6910"), looks := true }, kinds := [], alts := [], laidByText := true, laidKinds := [.data, .data, .data, .data, .pinned], laidTests := true, laidLooks := .later }
def FnExactIsExactUptoCardSaid : Prop := Claim7.holds Tryz.pinned (.plain (OpenSpec.upto fnExactIsExactSpec)) fnExactIsExactUptoCard
end Rows
end Go.Proofs.YtjopjddhgaiddabGreatDoor
