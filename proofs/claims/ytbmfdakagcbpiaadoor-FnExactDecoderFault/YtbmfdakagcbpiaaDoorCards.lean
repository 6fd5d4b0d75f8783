/-
  DERIVED. GIVEN WITH THE SEED: THE CARDS: each row of YtbmfdakagcbpiaaDoorRows.lean that lists a variable, with what it lists TIED to the program's text (the seventh form; the later family's looks); each row that meets fmt, with fmt's text TOLD by the authors' own Lean function (tested against real Go, not proved from fmt's source: count such statements apart). THE CARD IS WHAT COUNTS. Prove the row's statement (the work); the ties are given (YtbmfdakagcbpiaaDoorTie.lean); close each card by the builder's one call (the guide's Derived/Test/ToyasCard.lean, 'card_holds'). Laid BY PROGRAM, IN A SANDBOX (cutbox-door.mjs). By AI agents, Wed Nov 11 2026. No macro, syntax, notation, axiom, sorry.
-/
import Derived.Test.YtbmfdakagcbpiaaDoorRows
import GoSem.ClaimSeven
namespace Go.Proofs.YtbmfdakagcbpiaaDoor
namespace Rows

/-- THE TIED CARD OF 'laws.FnExactDecoderFault'. -/
def fnExactDecoderFaultCard : Claim7 := { stood := { row := fnExactDecoderFaultRow, standIns := [], harness := (true, "5238311461ad4681d489e5db98e5b925b18db52349b7ff7f65a441ade457d50e"), looks := false }, kinds := [], alts := [], laidByText := true, laidKinds := [.data, .pinned], laidTests := true, laidLooks := .later }
def FnExactDecoderFaultCardSaid : Prop := Claim7.holds Tryd.pinned (.plain (OpenSpec.ofChange fnExactDecoderFaultSpec)) fnExactDecoderFaultCard

/-- THE SECOND FORM's CARD OF 'laws.FnExactDecoderFault'. -/
def fnExactDecoderFaultUptoCard : Claim7 := { stood := { row := fnExactDecoderFaultUptoRow, standIns := [], harness := (true, "5238311461ad4681d489e5db98e5b925b18db52349b7ff7f65a441ade457d50e"), looks := false }, kinds := [], alts := [], laidByText := true, laidKinds := [.data, .pinned], laidTests := true, laidLooks := .later }
def FnExactDecoderFaultUptoCardSaid : Prop := Claim7.holds Tryd.pinned (.plain (OpenSpec.upto fnExactDecoderFaultSpec)) fnExactDecoderFaultUptoCard
end Rows
end Go.Proofs.YtbmfdakagcbpiaaDoor
