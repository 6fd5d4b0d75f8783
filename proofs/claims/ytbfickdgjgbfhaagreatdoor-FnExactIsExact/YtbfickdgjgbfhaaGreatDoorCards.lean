/-
  DERIVED. GIVEN WITH THE SEED: THE CARDS: each row of YtbfickdgjgbfhaaGreatDoorRows.lean that lists a variable, with what it lists TIED to the program's text (the seventh form; the later family's looks); each row that meets fmt, with fmt's text TOLD by the authors' own Lean function (tested against real Go, not proved from fmt's source: count such statements apart). THE CARD IS WHAT COUNTS. Prove the row's statement (the work); the ties are given (YtbfickdgjgbfhaaGreatDoorTie.lean); close each card by the builder's one call (the guide's Derived/Test/ToyasCard.lean, 'card_holds'). Laid BY PROGRAM, IN A SANDBOX (cutbox-door.mjs). By AI agents, Wed Nov 11 2026. No macro, syntax, notation, axiom, sorry.
-/
import Derived.Test.YtbfickdgjgbfhaaGreatDoorRows
import GoSem.ClaimSeven
namespace Go.Proofs.YtbfickdgjgbfhaaGreatDoor
namespace Rows

/-- THE TIED CARD OF 'laws.FnDecodes'. -/
def fnDecodesCard : Claim7 := { stood := { row := fnDecodesRow, standIns := [], harness := (true, "e91e5e0b2534f2219356b345dd5275b81814fa976bd77d4ab2b77c4089941b64"), looks := true }, kinds := [], alts := [], laidByText := true, laidKinds := [.data, .pinned], laidTests := true, laidLooks := .later }
def FnDecodesCardSaid : Prop := Claim7.holds Tryz.pinned (.plain (OpenSpec.ofChange fnDecodesSpec)) fnDecodesCard

/-- THE TIED CARD OF 'laws.FnTicks'. -/
def fnTicksCard : Claim7 := { stood := { row := fnTicksRow, standIns := [], harness := (true, "e91e5e0b2534f2219356b345dd5275b81814fa976bd77d4ab2b77c4089941b64"), looks := true }, kinds := [], alts := [], laidByText := true, laidKinds := [.data, .pinned], laidTests := true, laidLooks := .later }
def FnTicksCardSaid : Prop := Claim7.holds Tryz.pinned (.plain (OpenSpec.ofChange fnTicksSpec)) fnTicksCard

/-- THE TIED CARD OF 'laws.FnExacts'. -/
def fnExactsCard : Claim7 := { stood := { row := fnExactsRow, standIns := [], harness := (true, "e91e5e0b2534f2219356b345dd5275b81814fa976bd77d4ab2b77c4089941b64"), looks := true }, kinds := [], alts := [], laidByText := true, laidKinds := [.data, .data, .data, .data, .pinned], laidTests := true, laidLooks := .later }
def FnExactsCardSaid : Prop := Claim7.holds Tryz.pinned (.plain (OpenSpec.ofChange fnExactsSpec)) fnExactsCard

/-- THE TIED CARD OF 'laws.FnExactDecodeAll'. -/
def fnExactDecodeAllCard : Claim7 := { stood := { row := fnExactDecodeAllRow, standIns := [], harness := (true, "e91e5e0b2534f2219356b345dd5275b81814fa976bd77d4ab2b77c4089941b64"), looks := true }, kinds := [], alts := [], laidByText := true, laidKinds := [.data, .pinned], laidTests := true, laidLooks := .later }
def FnExactDecodeAllCardSaid : Prop := Claim7.holds Tryz.pinned (.plain (OpenSpec.ofChange fnExactDecodeAllSpec)) fnExactDecodeAllCard

/-- THE TIED CARD OF 'laws.FnExactIsExact'. -/
def fnExactIsExactCard : Claim7 := { stood := { row := fnExactIsExactRow, standIns := [], harness := (true, "e91e5e0b2534f2219356b345dd5275b81814fa976bd77d4ab2b77c4089941b64"), looks := true }, kinds := [], alts := [], laidByText := true, laidKinds := [.data, .data, .data, .data, .pinned], laidTests := true, laidLooks := .later }
def FnExactIsExactCardSaid : Prop := Claim7.holds Tryz.pinned (.plain (OpenSpec.ofChange fnExactIsExactSpec)) fnExactIsExactCard

/-- THE SECOND FORM's CARD OF 'laws.FnDecodes'. -/
def fnDecodesUptoCard : Claim7 := { stood := { row := fnDecodesUptoRow, standIns := [], harness := (true, "e91e5e0b2534f2219356b345dd5275b81814fa976bd77d4ab2b77c4089941b64"), looks := true }, kinds := [], alts := [], laidByText := true, laidKinds := [.data, .pinned], laidTests := true, laidLooks := .later }
def FnDecodesUptoCardSaid : Prop := Claim7.holds Tryz.pinned (.plain (OpenSpec.upto fnDecodesSpec)) fnDecodesUptoCard

/-- THE SECOND FORM's CARD OF 'laws.FnTicks'. -/
def fnTicksUptoCard : Claim7 := { stood := { row := fnTicksUptoRow, standIns := [], harness := (true, "e91e5e0b2534f2219356b345dd5275b81814fa976bd77d4ab2b77c4089941b64"), looks := true }, kinds := [], alts := [], laidByText := true, laidKinds := [.data, .pinned], laidTests := true, laidLooks := .later }
def FnTicksUptoCardSaid : Prop := Claim7.holds Tryz.pinned (.plain (OpenSpec.upto fnTicksSpec)) fnTicksUptoCard

/-- THE SECOND FORM's CARD OF 'laws.FnExacts'. -/
def fnExactsUptoCard : Claim7 := { stood := { row := fnExactsUptoRow, standIns := [], harness := (true, "e91e5e0b2534f2219356b345dd5275b81814fa976bd77d4ab2b77c4089941b64"), looks := true }, kinds := [], alts := [], laidByText := true, laidKinds := [.data, .data, .data, .data, .pinned], laidTests := true, laidLooks := .later }
def FnExactsUptoCardSaid : Prop := Claim7.holds Tryz.pinned (.plain (OpenSpec.upto fnExactsSpec)) fnExactsUptoCard

/-- THE SECOND FORM's CARD OF 'laws.FnExactDecodeAll'. -/
def fnExactDecodeAllUptoCard : Claim7 := { stood := { row := fnExactDecodeAllUptoRow, standIns := [], harness := (true, "e91e5e0b2534f2219356b345dd5275b81814fa976bd77d4ab2b77c4089941b64"), looks := true }, kinds := [], alts := [], laidByText := true, laidKinds := [.data, .pinned], laidTests := true, laidLooks := .later }
def FnExactDecodeAllUptoCardSaid : Prop := Claim7.holds Tryz.pinned (.plain (OpenSpec.upto fnExactDecodeAllSpec)) fnExactDecodeAllUptoCard

/-- THE SECOND FORM's CARD OF 'laws.FnExactIsExact'. -/
def fnExactIsExactUptoCard : Claim7 := { stood := { row := fnExactIsExactUptoRow, standIns := [], harness := (true, "e91e5e0b2534f2219356b345dd5275b81814fa976bd77d4ab2b77c4089941b64"), looks := true }, kinds := [], alts := [], laidByText := true, laidKinds := [.data, .data, .data, .data, .pinned], laidTests := true, laidLooks := .later }
def FnExactIsExactUptoCardSaid : Prop := Claim7.holds Tryz.pinned (.plain (OpenSpec.upto fnExactIsExactSpec)) fnExactIsExactUptoCard
end Rows
end Go.Proofs.YtbfickdgjgbfhaaGreatDoor
