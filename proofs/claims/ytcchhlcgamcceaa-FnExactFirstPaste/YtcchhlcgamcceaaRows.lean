/-
  No cell of these rows narrows 'for every input' (looked for: loops, veiled, ifaces, maps, wideKeys, modest, calm, conditions, laid).
  DERIVED. THE GIVEN ROWS OF THIS SEAT. 4 by the template 'for every input the law returns true; each argument reads behind the call as it read before'; 0 by the template 'total and deterministic' (their statements: YtcchhlcgamcceaaTotals.lean).
  GIVEN WITH THE SEED: the statements are not yours to turn. If you find one false, say at which input.
  Laid BY PROGRAM, IN A SANDBOX (cutbox-rows.mjs): the forced cells as the released guide's own fill.sh prints them over the translation 513eabbe4a2dccee… (all of the seat's roots in one cut). By AI agents, Wed Nov 11 2026. No macro, syntax, notation, axiom, sorry.
-/
import Derived.Test.YtcchhlcgamcceaaChecked
import GoSem.Claim
import GoSem.ClaimJoined
import GoSem.ClaimMapViews
import Derived.JoinedTies
import Derived.KernelRfl
namespace Go.Proofs.Ytcchhlcgamcceaa
/- THE CELL 'sum', in the pinned program and in every row, IS THE sha256 OF THE DUMP (.gsa) THAT YtcchhlcgamcceaaProg.lean LOADS. Nothing in Lean hashes anything: it is a label: what it is worth is what the hold of that sum in a sandbox is worth. -/
noncomputable def Try.pinned : Pinned := { name := "ytcchhlcgamcceaa", sum := "513eabbe4a2dccee6281591aa836796cbb5e9fb85e397dc2f5c646cce12da2e9", checked := Try.checked }
namespace Rows
def none {H : Type} : Left H := { results := [], args := [] }

/-- 'laws.FnKeys': WHATEVER THE INPUT: true; the input reads as it did. -/
def fnKeysSpec : ChangeSpec := { name := "fnKeys", fn := fun _ => fun
  | [d] => { results := [.lit (.bool true)], args := [d] }
  | _ => none }
def fnKeysRow : OpenClaim := { program := "ytcchhlcgamcceaa", sum := "513eabbe4a2dccee6281591aa836796cbb5e9fb85e397dc2f5c646cce12da2e9", func := "loop.example/g00804/laws.FnKeys", spec := "fnKeys", unfollowed := true, recurses := true, apart := false }
def FnKeysSaid : Prop := fnKeysRow.holds Try.pinned (OpenSpec.ofChange fnKeysSpec)

/-- ITS FALSE NEIGHBOUR: 'it returns false'. Refute it at one input. -/
def fnKeysWrong : ChangeSpec := { name := "fnKeys", fn := fun _ => fun
  | [d] => { results := [.lit (.bool false)], args := [d] }
  | _ => none }
def FnKeysWrongFalsely : Prop := fnKeysRow.holds Try.pinned (OpenSpec.ofChange fnKeysWrong)

/-- 'laws.FnExactKeyOfByte': WHATEVER THE INPUT: true; the input reads as it did. -/
def fnExactKeyOfByteSpec : ChangeSpec := { name := "fnExactKeyOfByte", fn := fun _ => fun
  | [d] => { results := [.lit (.bool true)], args := [d] }
  | _ => none }
def fnExactKeyOfByteRow : OpenClaim := { program := "ytcchhlcgamcceaa", sum := "513eabbe4a2dccee6281591aa836796cbb5e9fb85e397dc2f5c646cce12da2e9", func := "loop.example/g00804/laws.FnExactKeyOfByte", spec := "fnExactKeyOfByte", apart := false }
def FnExactKeyOfByteSaid : Prop := fnExactKeyOfByteRow.holds Try.pinned (OpenSpec.ofChange fnExactKeyOfByteSpec)

/-- ITS FALSE NEIGHBOUR: 'it returns false'. Refute it at one input. -/
def fnExactKeyOfByteWrong : ChangeSpec := { name := "fnExactKeyOfByte", fn := fun _ => fun
  | [d] => { results := [.lit (.bool false)], args := [d] }
  | _ => none }
def FnExactKeyOfByteWrongFalsely : Prop := fnExactKeyOfByteRow.holds Try.pinned (OpenSpec.ofChange fnExactKeyOfByteWrong)

/-- 'laws.FnExactMouseOfParts': WHATEVER THE INPUT: true; the input reads as it did. -/
def fnExactMouseOfPartsSpec : ChangeSpec := { name := "fnExactMouseOfParts", fn := fun _ => fun
  | [d] => { results := [.lit (.bool true)], args := [d] }
  | _ => none }
def fnExactMouseOfPartsRow : OpenClaim := { program := "ytcchhlcgamcceaa", sum := "513eabbe4a2dccee6281591aa836796cbb5e9fb85e397dc2f5c646cce12da2e9", func := "loop.example/g00804/laws.FnExactMouseOfParts", spec := "fnExactMouseOfParts", apart := false }
def FnExactMouseOfPartsSaid : Prop := fnExactMouseOfPartsRow.holds Try.pinned (OpenSpec.ofChange fnExactMouseOfPartsSpec)

/-- ITS FALSE NEIGHBOUR: 'it returns false'. Refute it at one input. -/
def fnExactMouseOfPartsWrong : ChangeSpec := { name := "fnExactMouseOfParts", fn := fun _ => fun
  | [d] => { results := [.lit (.bool false)], args := [d] }
  | _ => none }
def FnExactMouseOfPartsWrongFalsely : Prop := fnExactMouseOfPartsRow.holds Try.pinned (OpenSpec.ofChange fnExactMouseOfPartsWrong)

/-- 'laws.FnExactFirstPaste': WHATEVER THE INPUT: true; the input reads as it did. -/
def fnExactFirstPasteSpec : ChangeSpec := { name := "fnExactFirstPaste", fn := fun _ => fun
  | [d] => { results := [.lit (.bool true)], args := [d] }
  | _ => none }
def fnExactFirstPasteRow : OpenClaim := { program := "ytcchhlcgamcceaa", sum := "513eabbe4a2dccee6281591aa836796cbb5e9fb85e397dc2f5c646cce12da2e9", func := "loop.example/g00804/laws.FnExactFirstPaste", spec := "fnExactFirstPaste", unfollowed := true, recurses := true, apart := false }
def FnExactFirstPasteSaid : Prop := fnExactFirstPasteRow.holds Try.pinned (OpenSpec.ofChange fnExactFirstPasteSpec)

/-- ITS FALSE NEIGHBOUR: 'it returns false'. Refute it at one input. -/
def fnExactFirstPasteWrong : ChangeSpec := { name := "fnExactFirstPaste", fn := fun _ => fun
  | [d] => { results := [.lit (.bool false)], args := [d] }
  | _ => none }
def FnExactFirstPasteWrongFalsely : Prop := fnExactFirstPasteRow.holds Try.pinned (OpenSpec.ofChange fnExactFirstPasteWrong)

/- THE SECOND FORM. 'bulk': how many values and letters a reading holds, each counted each time it is reached (what is shared counts as often as it is met; a slice's spare places count too). A statement '..UptoSaid' is the law's where the arguments, and the package variables that the reading takes, are together of bulk at most 1048576: NARROWER than '..Said'. Prove '..Said' where nothing that the law and all that it calls make is longer than what came in: it says more and counts as full. Else prove '..UptoSaid'. A law counts once. -/
mutual
def uptoBulk {H : Type} : DataW H → Nat
  | .lit (.string bytes) => bytes.length + 1
  | .lit _ => 1
  | .nil => 1
  | .ptr d => uptoBulk d + 1
  | .slice elems spare => uptoBulkAll elems + uptoBulkAll spare + 1
  | .agg parts => uptoBulkAll parts + 1
  | .iface _ d => uptoBulk d + 1
  | .map entries => uptoBulkEntries entries + 1
  | .held _ => 1
def uptoBulkAll {H : Type} : List (DataW H) → Nat
  | [] => 0
  | d :: r => uptoBulk d + uptoBulkAll r
def uptoBulkEntries {H : Type} : List (Lit × DataW H) → Nat
  | [] => 0
  | x :: r => uptoBulkEntry x + uptoBulkEntries r
def uptoBulkEntry {H : Type} : Lit × DataW H → Nat
  | (.string bytes, d) => bytes.length + uptoBulk d + 1
  | (_, d) => uptoBulk d + 1
 end
def uptoSmall : (H : Type) → List (DataW H) → Bool := fun _ ds => decide (uptoBulkAll ds ≤ 1048576)
def OpenSpec.upto (s : _root_.Go.ChangeSpec) : _root_.Go.OpenSpec := { _root_.Go.OpenSpec.ofChange s with cond := some uptoSmall }

/-- 'laws.FnKeys', WHERE WHAT IT READS IS OF BULK AT MOST 1048576: true; the input reads as it did. -/
def fnKeysUptoRow : OpenClaim := { program := "ytcchhlcgamcceaa", sum := "513eabbe4a2dccee6281591aa836796cbb5e9fb85e397dc2f5c646cce12da2e9", func := "loop.example/g00804/laws.FnKeys", spec := "fnKeys", unfollowed := true, recurses := true, apart := false, narrowed := true }
def FnKeysUptoSaid : Prop := fnKeysUptoRow.holds Try.pinned (OpenSpec.upto fnKeysSpec)

/-- 'laws.FnExactKeyOfByte', WHERE WHAT IT READS IS OF BULK AT MOST 1048576: true; the input reads as it did. -/
def fnExactKeyOfByteUptoRow : OpenClaim := { program := "ytcchhlcgamcceaa", sum := "513eabbe4a2dccee6281591aa836796cbb5e9fb85e397dc2f5c646cce12da2e9", func := "loop.example/g00804/laws.FnExactKeyOfByte", spec := "fnExactKeyOfByte", apart := false, narrowed := true }
def FnExactKeyOfByteUptoSaid : Prop := fnExactKeyOfByteUptoRow.holds Try.pinned (OpenSpec.upto fnExactKeyOfByteSpec)

/-- 'laws.FnExactMouseOfParts', WHERE WHAT IT READS IS OF BULK AT MOST 1048576: true; the input reads as it did. -/
def fnExactMouseOfPartsUptoRow : OpenClaim := { program := "ytcchhlcgamcceaa", sum := "513eabbe4a2dccee6281591aa836796cbb5e9fb85e397dc2f5c646cce12da2e9", func := "loop.example/g00804/laws.FnExactMouseOfParts", spec := "fnExactMouseOfParts", apart := false, narrowed := true }
def FnExactMouseOfPartsUptoSaid : Prop := fnExactMouseOfPartsUptoRow.holds Try.pinned (OpenSpec.upto fnExactMouseOfPartsSpec)

/-- 'laws.FnExactFirstPaste', WHERE WHAT IT READS IS OF BULK AT MOST 1048576: true; the input reads as it did. -/
def fnExactFirstPasteUptoRow : OpenClaim := { program := "ytcchhlcgamcceaa", sum := "513eabbe4a2dccee6281591aa836796cbb5e9fb85e397dc2f5c646cce12da2e9", func := "loop.example/g00804/laws.FnExactFirstPaste", spec := "fnExactFirstPaste", unfollowed := true, recurses := true, apart := false, narrowed := true }
def FnExactFirstPasteUptoSaid : Prop := fnExactFirstPasteUptoRow.holds Try.pinned (OpenSpec.upto fnExactFirstPasteSpec)

end Rows
end Go.Proofs.Ytcchhlcgamcceaa
