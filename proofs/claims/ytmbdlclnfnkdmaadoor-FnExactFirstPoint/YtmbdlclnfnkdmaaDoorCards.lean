/-
  DERIVED. GIVEN WITH THE SEED: THE CARDS: each row of YtmbdlclnfnkdmaaDoorRows.lean that lists a variable, with what it lists TIED to the program's text (the seventh form; the later family's looks); each row that meets fmt, with fmt's text TOLD by the authors' own Lean function (tested against real Go, not proved from fmt's source: count such statements apart). THE CARD IS WHAT COUNTS. Prove the row's statement (the work); the ties are given (YtmbdlclnfnkdmaaDoorTie.lean); close each card by the builder's one call (the guide's Derived/Test/ToyasCard.lean, 'card_holds'). Laid BY PROGRAM, IN A SANDBOX (cutbox-door.mjs). By AI agents, Wed Nov 11 2026. No macro, syntax, notation, axiom, sorry.
-/
import Derived.Test.YtmbdlclnfnkdmaaDoorRows
import GoSem.ClaimSeven
namespace Go.Proofs.YtmbdlclnfnkdmaaDoor
namespace Rows

/-- THE TIED CARD OF 'laws.FnPoints'. -/
def fnPointsCard : Claim7 := { stood := { row := fnPointsRow, standIns := [], harness := (true, "909211aebb64e52c5e596e630b1b80e323bdc4edee8f27fb71e83bf6a10a0126"), looks := false }, kinds := [], alts := [], laidByText := true, laidKinds := [.data, .pinned], laidTests := true, laidLooks := .later }
def FnPointsCardSaid : Prop := Claim7.holds Tryd.pinned (.plain (OpenSpec.ofChange fnPointsSpec)) fnPointsCard

/-- THE TIED CARD OF 'laws.FnExactFirstPoint'. -/
def fnExactFirstPointCard : Claim7 := { stood := { row := fnExactFirstPointRow, standIns := [], harness := (true, "909211aebb64e52c5e596e630b1b80e323bdc4edee8f27fb71e83bf6a10a0126"), looks := false }, kinds := [], alts := [], laidByText := true, laidKinds := [.data, .pinned], laidTests := true, laidLooks := .later }
def FnExactFirstPointCardSaid : Prop := Claim7.holds Tryd.pinned (.plain (OpenSpec.ofChange fnExactFirstPointSpec)) fnExactFirstPointCard

/-- THE SECOND FORM's CARD OF 'laws.FnPoints'. -/
def fnPointsUptoCard : Claim7 := { stood := { row := fnPointsUptoRow, standIns := [], harness := (true, "909211aebb64e52c5e596e630b1b80e323bdc4edee8f27fb71e83bf6a10a0126"), looks := false }, kinds := [], alts := [], laidByText := true, laidKinds := [.data, .pinned], laidTests := true, laidLooks := .later }
def FnPointsUptoCardSaid : Prop := Claim7.holds Tryd.pinned (.plain (OpenSpec.upto fnPointsSpec)) fnPointsUptoCard

/-- THE SECOND FORM's CARD OF 'laws.FnExactFirstPoint'. -/
def fnExactFirstPointUptoCard : Claim7 := { stood := { row := fnExactFirstPointUptoRow, standIns := [], harness := (true, "909211aebb64e52c5e596e630b1b80e323bdc4edee8f27fb71e83bf6a10a0126"), looks := false }, kinds := [], alts := [], laidByText := true, laidKinds := [.data, .pinned], laidTests := true, laidLooks := .later }
def FnExactFirstPointUptoCardSaid : Prop := Claim7.holds Tryd.pinned (.plain (OpenSpec.upto fnExactFirstPointSpec)) fnExactFirstPointUptoCard
end Rows
end Go.Proofs.YtmbdlclnfnkdmaaDoor
