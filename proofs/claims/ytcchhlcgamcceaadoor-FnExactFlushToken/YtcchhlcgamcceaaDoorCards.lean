/-
  DERIVED. GIVEN WITH THE SEED: THE CARDS: each row of YtcchhlcgamcceaaDoorRows.lean that lists a variable, with what it lists TIED to the program's text (the seventh form; the later family's looks); each row that meets fmt, with fmt's text TOLD by the authors' own Lean function (tested against real Go, not proved from fmt's source: count such statements apart). THE CARD IS WHAT COUNTS. Prove the row's statement (the work); the ties are given (YtcchhlcgamcceaaDoorTie.lean); close each card by the builder's one call (the guide's Derived/Test/ToyasCard.lean, 'card_holds'). Laid BY PROGRAM, IN A SANDBOX (cutbox-door.mjs). By AI agents, Wed Nov 11 2026. No macro, syntax, notation, axiom, sorry.
-/
import Derived.Test.YtcchhlcgamcceaaDoorRows
import GoSem.ClaimSeven
namespace Go.Proofs.YtcchhlcgamcceaaDoor
namespace Rows

/-- THE TIED CARD OF 'laws.FnExactFirstToken'. -/
def fnExactFirstTokenCard : Claim7 := { stood := { row := fnExactFirstTokenRow, standIns := [], harness := (true, "d516fb33e36715bf3debb8dec86de890b3b4fa9185efff163b249a6aac61f6df"), looks := false }, kinds := [], alts := [], laidByText := true, laidKinds := [.data, .pinned], laidTests := true, laidLooks := .later }
def FnExactFirstTokenCardSaid : Prop := Claim7.holds Tryd.pinned (.plain (OpenSpec.ofChange fnExactFirstTokenSpec)) fnExactFirstTokenCard

/-- THE TIED CARD OF 'laws.FnExactFlushToken'. -/
def fnExactFlushTokenCard : Claim7 := { stood := { row := fnExactFlushTokenRow, standIns := [], harness := (true, "d516fb33e36715bf3debb8dec86de890b3b4fa9185efff163b249a6aac61f6df"), looks := false }, kinds := [], alts := [], laidByText := true, laidKinds := [.data, .pinned], laidTests := true, laidLooks := .later }
def FnExactFlushTokenCardSaid : Prop := Claim7.holds Tryd.pinned (.plain (OpenSpec.ofChange fnExactFlushTokenSpec)) fnExactFlushTokenCard

/-- THE SECOND FORM's CARD OF 'laws.FnExactFirstToken'. -/
def fnExactFirstTokenUptoCard : Claim7 := { stood := { row := fnExactFirstTokenUptoRow, standIns := [], harness := (true, "d516fb33e36715bf3debb8dec86de890b3b4fa9185efff163b249a6aac61f6df"), looks := false }, kinds := [], alts := [], laidByText := true, laidKinds := [.data, .pinned], laidTests := true, laidLooks := .later }
def FnExactFirstTokenUptoCardSaid : Prop := Claim7.holds Tryd.pinned (.plain (OpenSpec.upto fnExactFirstTokenSpec)) fnExactFirstTokenUptoCard

/-- THE SECOND FORM's CARD OF 'laws.FnExactFlushToken'. -/
def fnExactFlushTokenUptoCard : Claim7 := { stood := { row := fnExactFlushTokenUptoRow, standIns := [], harness := (true, "d516fb33e36715bf3debb8dec86de890b3b4fa9185efff163b249a6aac61f6df"), looks := false }, kinds := [], alts := [], laidByText := true, laidKinds := [.data, .pinned], laidTests := true, laidLooks := .later }
def FnExactFlushTokenUptoCardSaid : Prop := Claim7.holds Tryd.pinned (.plain (OpenSpec.upto fnExactFlushTokenSpec)) fnExactFlushTokenUptoCard
end Rows
end Go.Proofs.YtcchhlcgamcceaaDoor
