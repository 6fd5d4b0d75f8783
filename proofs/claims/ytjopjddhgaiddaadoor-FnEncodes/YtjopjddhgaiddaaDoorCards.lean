/-
  DERIVED. GIVEN WITH THE SEED: THE CARDS: each row of YtjopjddhgaiddaaDoorRows.lean that lists a variable, with what it lists TIED to the program's text (the seventh form; the later family's looks); each row that meets fmt, with fmt's text TOLD by the authors' own Lean function (tested against real Go, not proved from fmt's source: count such statements apart). THE CARD IS WHAT COUNTS. Prove the row's statement (the work); the ties are given (YtjopjddhgaiddaaDoorTie.lean); close each card by the builder's one call (the guide's Derived/Test/ToyasCard.lean, 'card_holds'). Laid BY PROGRAM, IN A SANDBOX (cutbox-door.mjs). By AI agents, Wed Nov 11 2026. No macro, syntax, notation, axiom, sorry.
-/
import Derived.Test.YtjopjddhgaiddaaDoorRows
import GoSem.ClaimSeven
namespace Go.Proofs.YtjopjddhgaiddaaDoor
namespace Rows

/-- THE TIED CARD OF 'laws.FnEncodes'. -/
def fnEncodesCard : Claim7 := { stood := { row := fnEncodesRow, standIns := [], harness := (true, "6ee5bfe5c95641d4b5c94946e496a38a2ae409c1b008b0086223dbde8337dffc"), looks := true }, kinds := [], alts := [], laidByText := true, laidKinds := [.data, .data, .data], laidTests := true, laidLooks := .later }
def FnEncodesCardSaid : Prop := Claim7.holds Tryd.pinned (.plain (OpenSpec.ofChange fnEncodesSpec)) fnEncodesCard

/-- THE SECOND FORM's CARD OF 'laws.FnEncodes'. -/
def fnEncodesUptoCard : Claim7 := { stood := { row := fnEncodesUptoRow, standIns := [], harness := (true, "6ee5bfe5c95641d4b5c94946e496a38a2ae409c1b008b0086223dbde8337dffc"), looks := true }, kinds := [], alts := [], laidByText := true, laidKinds := [.data, .data, .data], laidTests := true, laidLooks := .later }
def FnEncodesUptoCardSaid : Prop := Claim7.holds Tryd.pinned (.plain (OpenSpec.upto fnEncodesSpec)) fnEncodesUptoCard
end Rows
end Go.Proofs.YtjopjddhgaiddaaDoor
