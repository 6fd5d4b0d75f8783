/-
  No cell of these rows narrows 'for every input' (looked for: loops, veiled, ifaces, maps, wideKeys, modest, calm, conditions, laid).
  DERIVED. THE GIVEN ROWS OF THIS SEAT. 7 by the template 'for every input the law returns true; each argument reads behind the call as it read before'; 0 by the template 'total and deterministic' (their statements: YtbfickdgjgbfhaaTotals.lean).
  GIVEN WITH THE SEED: the statements are not yours to turn. If you find one false, say at which input.
  Laid BY PROGRAM, IN A SANDBOX (cutbox-rows.mjs): the forced cells as the released guide's own fill.sh prints them over the translation 44be33870b3c9f7d… (all of the seat's roots in one cut). By AI agents, Wed Nov 11 2026. No macro, syntax, notation, axiom, sorry.
-/
import Derived.Test.YtbfickdgjgbfhaaChecked
import GoSem.Claim
import GoSem.ClaimJoined
import GoSem.ClaimMapViews
import Derived.JoinedTies
import Derived.KernelRfl
namespace Go.Proofs.Ytbfickdgjgbfhaa
/- THE CELL 'sum', in the pinned program and in every row, IS THE sha256 OF THE DUMP (.gsa) THAT YtbfickdgjgbfhaaProg.lean LOADS. Nothing in Lean hashes anything: it is a label: what it is worth is what the hold of that sum in a sandbox is worth. -/
noncomputable def Try.pinned : Pinned := { name := "ytbfickdgjgbfhaa", sum := "44be33870b3c9f7d50c9a9d3daf3f9f7178c8a2dc540371e5c0af1de594259e8", checked := Try.checked }
namespace Rows
def none {H : Type} : Left H := { results := [], args := [] }

/-- 'laws.FnExactSplitPane': WHATEVER THE INPUT: true; the input reads as it did. -/
def fnExactSplitPaneSpec : ChangeSpec := { name := "fnExactSplitPane", fn := fun _ => fun
  | [d1, d2, d3, d4] => { results := [.lit (.bool true)], args := [d1, d2, d3, d4] }
  | _ => none }
def fnExactSplitPaneRow : OpenClaim := { program := "ytbfickdgjgbfhaa", sum := "44be33870b3c9f7d50c9a9d3daf3f9f7178c8a2dc540371e5c0af1de594259e8", func := "loop.example/g00804/laws.FnExactSplitPane", spec := "fnExactSplitPane", recurses := true, apart := false }
def FnExactSplitPaneSaid : Prop := fnExactSplitPaneRow.holds Try.pinned (OpenSpec.ofChange fnExactSplitPaneSpec)

/-- ITS FALSE NEIGHBOUR: 'it returns false'. Refute it at one input. -/
def fnExactSplitPaneWrong : ChangeSpec := { name := "fnExactSplitPane", fn := fun _ => fun
  | [d1, d2, d3, d4] => { results := [.lit (.bool false)], args := [d1, d2, d3, d4] }
  | _ => none }
def FnExactSplitPaneWrongFalsely : Prop := fnExactSplitPaneRow.holds Try.pinned (OpenSpec.ofChange fnExactSplitPaneWrong)

/-- 'laws.FnExactKillPane': WHATEVER THE INPUT: true; the input reads as it did. -/
def fnExactKillPaneSpec : ChangeSpec := { name := "fnExactKillPane", fn := fun _ => fun
  | [d1, d2] => { results := [.lit (.bool true)], args := [d1, d2] }
  | _ => none }
def fnExactKillPaneRow : OpenClaim := { program := "ytbfickdgjgbfhaa", sum := "44be33870b3c9f7d50c9a9d3daf3f9f7178c8a2dc540371e5c0af1de594259e8", func := "loop.example/g00804/laws.FnExactKillPane", spec := "fnExactKillPane", unfollowed := true, recurses := true, apart := false }
def FnExactKillPaneSaid : Prop := fnExactKillPaneRow.holds Try.pinned (OpenSpec.ofChange fnExactKillPaneSpec)

/-- ITS FALSE NEIGHBOUR: 'it returns false'. Refute it at one input. -/
def fnExactKillPaneWrong : ChangeSpec := { name := "fnExactKillPane", fn := fun _ => fun
  | [d1, d2] => { results := [.lit (.bool false)], args := [d1, d2] }
  | _ => none }
def FnExactKillPaneWrongFalsely : Prop := fnExactKillPaneRow.holds Try.pinned (OpenSpec.ofChange fnExactKillPaneWrong)

/-- 'laws.FnExactResizePane': WHATEVER THE INPUT: true; the input reads as it did. -/
def fnExactResizePaneSpec : ChangeSpec := { name := "fnExactResizePane", fn := fun _ => fun
  | [d1, d2, d3] => { results := [.lit (.bool true)], args := [d1, d2, d3] }
  | _ => none }
def fnExactResizePaneRow : OpenClaim := { program := "ytbfickdgjgbfhaa", sum := "44be33870b3c9f7d50c9a9d3daf3f9f7178c8a2dc540371e5c0af1de594259e8", func := "loop.example/g00804/laws.FnExactResizePane", spec := "fnExactResizePane", unfollowed := true, recurses := true, apart := false }
def FnExactResizePaneSaid : Prop := fnExactResizePaneRow.holds Try.pinned (OpenSpec.ofChange fnExactResizePaneSpec)

/-- ITS FALSE NEIGHBOUR: 'it returns false'. Refute it at one input. -/
def fnExactResizePaneWrong : ChangeSpec := { name := "fnExactResizePane", fn := fun _ => fun
  | [d1, d2, d3] => { results := [.lit (.bool false)], args := [d1, d2, d3] }
  | _ => none }
def FnExactResizePaneWrongFalsely : Prop := fnExactResizePaneRow.holds Try.pinned (OpenSpec.ofChange fnExactResizePaneWrong)

/-- 'laws.FnExactNextPane': WHATEVER THE INPUT: true; the input reads as it did. -/
def fnExactNextPaneSpec : ChangeSpec := { name := "fnExactNextPane", fn := fun _ => fun
  | [d1, d2] => { results := [.lit (.bool true)], args := [d1, d2] }
  | _ => none }
def fnExactNextPaneRow : OpenClaim := { program := "ytbfickdgjgbfhaa", sum := "44be33870b3c9f7d50c9a9d3daf3f9f7178c8a2dc540371e5c0af1de594259e8", func := "loop.example/g00804/laws.FnExactNextPane", spec := "fnExactNextPane", unfollowed := true, recurses := true, apart := false }
def FnExactNextPaneSaid : Prop := fnExactNextPaneRow.holds Try.pinned (OpenSpec.ofChange fnExactNextPaneSpec)

/-- ITS FALSE NEIGHBOUR: 'it returns false'. Refute it at one input. -/
def fnExactNextPaneWrong : ChangeSpec := { name := "fnExactNextPane", fn := fun _ => fun
  | [d1, d2] => { results := [.lit (.bool false)], args := [d1, d2] }
  | _ => none }
def FnExactNextPaneWrongFalsely : Prop := fnExactNextPaneRow.holds Try.pinned (OpenSpec.ofChange fnExactNextPaneWrong)

/-- 'laws.FnExactTidyLayout': WHATEVER THE INPUT: true; the input reads as it did. -/
def fnExactTidyLayoutSpec : ChangeSpec := { name := "fnExactTidyLayout", fn := fun _ => fun
  | [d] => { results := [.lit (.bool true)], args := [d] }
  | _ => none }
def fnExactTidyLayoutRow : OpenClaim := { program := "ytbfickdgjgbfhaa", sum := "44be33870b3c9f7d50c9a9d3daf3f9f7178c8a2dc540371e5c0af1de594259e8", func := "loop.example/g00804/laws.FnExactTidyLayout", spec := "fnExactTidyLayout", recurses := true, apart := false }
def FnExactTidyLayoutSaid : Prop := fnExactTidyLayoutRow.holds Try.pinned (OpenSpec.ofChange fnExactTidyLayoutSpec)

/-- ITS FALSE NEIGHBOUR: 'it returns false'. Refute it at one input. -/
def fnExactTidyLayoutWrong : ChangeSpec := { name := "fnExactTidyLayout", fn := fun _ => fun
  | [d] => { results := [.lit (.bool false)], args := [d] }
  | _ => none }
def FnExactTidyLayoutWrongFalsely : Prop := fnExactTidyLayoutRow.holds Try.pinned (OpenSpec.ofChange fnExactTidyLayoutWrong)

/-- 'laws.FnSplits': WHATEVER THE INPUT: true; the input reads as it did. -/
def fnSplitsSpec : ChangeSpec := { name := "fnSplits", fn := fun _ => fun
  | [d] => { results := [.lit (.bool true)], args := [d] }
  | _ => none }
def fnSplitsRow : OpenClaim := { program := "ytbfickdgjgbfhaa", sum := "44be33870b3c9f7d50c9a9d3daf3f9f7178c8a2dc540371e5c0af1de594259e8", func := "loop.example/g00804/laws.FnSplits", spec := "fnSplits", unfollowed := true, recurses := true, apart := false }
def FnSplitsSaid : Prop := fnSplitsRow.holds Try.pinned (OpenSpec.ofChange fnSplitsSpec)

/-- ITS FALSE NEIGHBOUR: 'it returns false'. Refute it at one input. -/
def fnSplitsWrong : ChangeSpec := { name := "fnSplits", fn := fun _ => fun
  | [d] => { results := [.lit (.bool false)], args := [d] }
  | _ => none }
def FnSplitsWrongFalsely : Prop := fnSplitsRow.holds Try.pinned (OpenSpec.ofChange fnSplitsWrong)

/-- 'laws.FnRects': WHATEVER THE INPUT: true; the input reads as it did. -/
def fnRectsSpec : ChangeSpec := { name := "fnRects", fn := fun _ => fun
  | [d] => { results := [.lit (.bool true)], args := [d] }
  | _ => none }
def fnRectsRow : OpenClaim := { program := "ytbfickdgjgbfhaa", sum := "44be33870b3c9f7d50c9a9d3daf3f9f7178c8a2dc540371e5c0af1de594259e8", func := "loop.example/g00804/laws.FnRects", spec := "fnRects", recurses := true, apart := false }
def FnRectsSaid : Prop := fnRectsRow.holds Try.pinned (OpenSpec.ofChange fnRectsSpec)

/-- ITS FALSE NEIGHBOUR: 'it returns false'. Refute it at one input. -/
def fnRectsWrong : ChangeSpec := { name := "fnRects", fn := fun _ => fun
  | [d] => { results := [.lit (.bool false)], args := [d] }
  | _ => none }
def FnRectsWrongFalsely : Prop := fnRectsRow.holds Try.pinned (OpenSpec.ofChange fnRectsWrong)

/- THE SECOND FORM. 'bulk': how many values and letters a reading holds, each counted each time it is reached (what is shared counts as often as it is met; a slice's spare places count too). A statement '..UptoSaid' is the law's where the arguments, and the package variables that the reading takes, are together of bulk at most 1048576: NARROWER than '..Said'. Prove '..Said' where nothing that the law and all that it calls make is longer than what came in: it says more and counts as full. Else prove '..UptoSaid'. A law counts once. -/
mutual
def uptoBulk {H : Type} : DataW H → Nat
  | .lit (.string bytes) => bytes.length + 1
  | .lit _ => 1
  | .nil => 1
  | .ptr d => uptoBulk d + 1
  | .slice elems spare => uptoBulkAll elems + uptoBulkAll spare + 1
  | .agg parts => uptoBulkAll parts + 1
  | .iface _ d => uptoBulk d + 1
  | .map entries => uptoBulkEntries entries + 1
  | .held _ => 1
def uptoBulkAll {H : Type} : List (DataW H) → Nat
  | [] => 0
  | d :: r => uptoBulk d + uptoBulkAll r
def uptoBulkEntries {H : Type} : List (Lit × DataW H) → Nat
  | [] => 0
  | x :: r => uptoBulkEntry x + uptoBulkEntries r
def uptoBulkEntry {H : Type} : Lit × DataW H → Nat
  | (.string bytes, d) => bytes.length + uptoBulk d + 1
  | (_, d) => uptoBulk d + 1
 end
def uptoSmall : (H : Type) → List (DataW H) → Bool := fun _ ds => decide (uptoBulkAll ds ≤ 1048576)
def OpenSpec.upto (s : _root_.Go.ChangeSpec) : _root_.Go.OpenSpec := { _root_.Go.OpenSpec.ofChange s with cond := some uptoSmall }

/-- 'laws.FnExactSplitPane', WHERE WHAT IT READS IS OF BULK AT MOST 1048576: true; the input reads as it did. -/
def fnExactSplitPaneUptoRow : OpenClaim := { program := "ytbfickdgjgbfhaa", sum := "44be33870b3c9f7d50c9a9d3daf3f9f7178c8a2dc540371e5c0af1de594259e8", func := "loop.example/g00804/laws.FnExactSplitPane", spec := "fnExactSplitPane", recurses := true, apart := false, narrowed := true }
def FnExactSplitPaneUptoSaid : Prop := fnExactSplitPaneUptoRow.holds Try.pinned (OpenSpec.upto fnExactSplitPaneSpec)

/-- 'laws.FnExactKillPane', WHERE WHAT IT READS IS OF BULK AT MOST 1048576: true; the input reads as it did. -/
def fnExactKillPaneUptoRow : OpenClaim := { program := "ytbfickdgjgbfhaa", sum := "44be33870b3c9f7d50c9a9d3daf3f9f7178c8a2dc540371e5c0af1de594259e8", func := "loop.example/g00804/laws.FnExactKillPane", spec := "fnExactKillPane", unfollowed := true, recurses := true, apart := false, narrowed := true }
def FnExactKillPaneUptoSaid : Prop := fnExactKillPaneUptoRow.holds Try.pinned (OpenSpec.upto fnExactKillPaneSpec)

/-- 'laws.FnExactResizePane', WHERE WHAT IT READS IS OF BULK AT MOST 1048576: true; the input reads as it did. -/
def fnExactResizePaneUptoRow : OpenClaim := { program := "ytbfickdgjgbfhaa", sum := "44be33870b3c9f7d50c9a9d3daf3f9f7178c8a2dc540371e5c0af1de594259e8", func := "loop.example/g00804/laws.FnExactResizePane", spec := "fnExactResizePane", unfollowed := true, recurses := true, apart := false, narrowed := true }
def FnExactResizePaneUptoSaid : Prop := fnExactResizePaneUptoRow.holds Try.pinned (OpenSpec.upto fnExactResizePaneSpec)

/-- 'laws.FnExactNextPane', WHERE WHAT IT READS IS OF BULK AT MOST 1048576: true; the input reads as it did. -/
def fnExactNextPaneUptoRow : OpenClaim := { program := "ytbfickdgjgbfhaa", sum := "44be33870b3c9f7d50c9a9d3daf3f9f7178c8a2dc540371e5c0af1de594259e8", func := "loop.example/g00804/laws.FnExactNextPane", spec := "fnExactNextPane", unfollowed := true, recurses := true, apart := false, narrowed := true }
def FnExactNextPaneUptoSaid : Prop := fnExactNextPaneUptoRow.holds Try.pinned (OpenSpec.upto fnExactNextPaneSpec)

/-- 'laws.FnExactTidyLayout', WHERE WHAT IT READS IS OF BULK AT MOST 1048576: true; the input reads as it did. -/
def fnExactTidyLayoutUptoRow : OpenClaim := { program := "ytbfickdgjgbfhaa", sum := "44be33870b3c9f7d50c9a9d3daf3f9f7178c8a2dc540371e5c0af1de594259e8", func := "loop.example/g00804/laws.FnExactTidyLayout", spec := "fnExactTidyLayout", recurses := true, apart := false, narrowed := true }
def FnExactTidyLayoutUptoSaid : Prop := fnExactTidyLayoutUptoRow.holds Try.pinned (OpenSpec.upto fnExactTidyLayoutSpec)

/-- 'laws.FnSplits', WHERE WHAT IT READS IS OF BULK AT MOST 1048576: true; the input reads as it did. -/
def fnSplitsUptoRow : OpenClaim := { program := "ytbfickdgjgbfhaa", sum := "44be33870b3c9f7d50c9a9d3daf3f9f7178c8a2dc540371e5c0af1de594259e8", func := "loop.example/g00804/laws.FnSplits", spec := "fnSplits", unfollowed := true, recurses := true, apart := false, narrowed := true }
def FnSplitsUptoSaid : Prop := fnSplitsUptoRow.holds Try.pinned (OpenSpec.upto fnSplitsSpec)

/-- 'laws.FnRects', WHERE WHAT IT READS IS OF BULK AT MOST 1048576: true; the input reads as it did. -/
def fnRectsUptoRow : OpenClaim := { program := "ytbfickdgjgbfhaa", sum := "44be33870b3c9f7d50c9a9d3daf3f9f7178c8a2dc540371e5c0af1de594259e8", func := "loop.example/g00804/laws.FnRects", spec := "fnRects", recurses := true, apart := false, narrowed := true }
def FnRectsUptoSaid : Prop := fnRectsUptoRow.holds Try.pinned (OpenSpec.upto fnRectsSpec)

end Rows
end Go.Proofs.Ytbfickdgjgbfhaa
