/-
  No cell of these rows narrows 'for every input' (looked for: loops, veiled, ifaces, maps, wideKeys, modest, calm, conditions, laid).
  DERIVED. THE GIVEN ROWS OF THIS SEAT. 7 by the template 'for every input the law returns true; each argument reads behind the call as it read before'; 0 by the template 'total and deterministic' (their statements: YtjopjddhgaiddaaTotals.lean).
  GIVEN WITH THE SEED: the statements are not yours to turn. If you find one false, say at which input.
  Laid BY PROGRAM, IN A SANDBOX (cutbox-rows.mjs): the forced cells as the released guide's own fill.sh prints them over the translation 6e047ef1cf0fc981… (all of the seat's roots in one cut). By AI agents, Wed Nov 11 2026. No macro, syntax, notation, axiom, sorry.
-/
import Derived.Test.YtjopjddhgaiddaaChecked
import GoSem.Claim
import GoSem.ClaimJoined
import GoSem.ClaimMapViews
import Derived.JoinedTies
import Derived.KernelRfl
namespace Go.Proofs.Ytjopjddhgaiddaa
/- THE CELL 'sum', in the pinned program and in every row, IS THE sha256 OF THE DUMP (.gsa) THAT YtjopjddhgaiddaaProg.lean LOADS. Nothing in Lean hashes anything: it is a label: what it is worth is what the hold of that sum in a sandbox is worth. -/
noncomputable def Try.pinned : Pinned := { name := "ytjopjddhgaiddaa", sum := "6e047ef1cf0fc9815aed7bc7bce773aa96776acfd2cb549e89092ae2b75f22da", checked := Try.checked }
namespace Rows
def none {H : Type} : Left H := { results := [], args := [] }

/-- 'laws.FnExactSameLayouts': WHATEVER THE INPUT: true; the input reads as it did. -/
def fnExactSameLayoutsSpec : ChangeSpec := { name := "fnExactSameLayouts", fn := fun _ => fun
  | [d1, d2] => { results := [.lit (.bool true)], args := [d1, d2] }
  | _ => none }
def fnExactSameLayoutsRow : OpenClaim := { program := "ytjopjddhgaiddaa", sum := "6e047ef1cf0fc9815aed7bc7bce773aa96776acfd2cb549e89092ae2b75f22da", func := "loop.example/g00804/laws.FnExactSameLayouts", spec := "fnExactSameLayouts", apart := false }
def FnExactSameLayoutsSaid : Prop := fnExactSameLayoutsRow.holds Try.pinned (OpenSpec.ofChange fnExactSameLayoutsSpec)

/-- ITS FALSE NEIGHBOUR: 'it returns false'. Refute it at one input. -/
def fnExactSameLayoutsWrong : ChangeSpec := { name := "fnExactSameLayouts", fn := fun _ => fun
  | [d1, d2] => { results := [.lit (.bool false)], args := [d1, d2] }
  | _ => none }
def FnExactSameLayoutsWrongFalsely : Prop := fnExactSameLayoutsRow.holds Try.pinned (OpenSpec.ofChange fnExactSameLayoutsWrong)

/-- 'laws.FnExactLayoutFault': WHATEVER THE INPUT: true; the input reads as it did. -/
def fnExactLayoutFaultSpec : ChangeSpec := { name := "fnExactLayoutFault", fn := fun _ => fun
  | [d] => { results := [.lit (.bool true)], args := [d] }
  | _ => none }
def fnExactLayoutFaultRow : OpenClaim := { program := "ytjopjddhgaiddaa", sum := "6e047ef1cf0fc9815aed7bc7bce773aa96776acfd2cb549e89092ae2b75f22da", func := "loop.example/g00804/laws.FnExactLayoutFault", spec := "fnExactLayoutFault", recurses := true, apart := false }
def FnExactLayoutFaultSaid : Prop := fnExactLayoutFaultRow.holds Try.pinned (OpenSpec.ofChange fnExactLayoutFaultSpec)

/-- ITS FALSE NEIGHBOUR: 'it returns false'. Refute it at one input. -/
def fnExactLayoutFaultWrong : ChangeSpec := { name := "fnExactLayoutFault", fn := fun _ => fun
  | [d] => { results := [.lit (.bool false)], args := [d] }
  | _ => none }
def FnExactLayoutFaultWrongFalsely : Prop := fnExactLayoutFaultRow.holds Try.pinned (OpenSpec.ofChange fnExactLayoutFaultWrong)

/-- 'laws.FnExactRectsOf': WHATEVER THE INPUT: true; the input reads as it did. -/
def fnExactRectsOfSpec : ChangeSpec := { name := "fnExactRectsOf", fn := fun _ => fun
  | [d] => { results := [.lit (.bool true)], args := [d] }
  | _ => none }
def fnExactRectsOfRow : OpenClaim := { program := "ytjopjddhgaiddaa", sum := "6e047ef1cf0fc9815aed7bc7bce773aa96776acfd2cb549e89092ae2b75f22da", func := "loop.example/g00804/laws.FnExactRectsOf", spec := "fnExactRectsOf", recurses := true, apart := false }
def FnExactRectsOfSaid : Prop := fnExactRectsOfRow.holds Try.pinned (OpenSpec.ofChange fnExactRectsOfSpec)

/-- ITS FALSE NEIGHBOUR: 'it returns false'. Refute it at one input. -/
def fnExactRectsOfWrong : ChangeSpec := { name := "fnExactRectsOf", fn := fun _ => fun
  | [d] => { results := [.lit (.bool false)], args := [d] }
  | _ => none }
def FnExactRectsOfWrongFalsely : Prop := fnExactRectsOfRow.holds Try.pinned (OpenSpec.ofChange fnExactRectsOfWrong)

/-- 'laws.FnExactRectOf': WHATEVER THE INPUT: true; the input reads as it did. -/
def fnExactRectOfSpec : ChangeSpec := { name := "fnExactRectOf", fn := fun _ => fun
  | [d1, d2] => { results := [.lit (.bool true)], args := [d1, d2] }
  | _ => none }
def fnExactRectOfRow : OpenClaim := { program := "ytjopjddhgaiddaa", sum := "6e047ef1cf0fc9815aed7bc7bce773aa96776acfd2cb549e89092ae2b75f22da", func := "loop.example/g00804/laws.FnExactRectOf", spec := "fnExactRectOf", recurses := true, apart := false }
def FnExactRectOfSaid : Prop := fnExactRectOfRow.holds Try.pinned (OpenSpec.ofChange fnExactRectOfSpec)

/-- ITS FALSE NEIGHBOUR: 'it returns false'. Refute it at one input. -/
def fnExactRectOfWrong : ChangeSpec := { name := "fnExactRectOf", fn := fun _ => fun
  | [d1, d2] => { results := [.lit (.bool false)], args := [d1, d2] }
  | _ => none }
def FnExactRectOfWrongFalsely : Prop := fnExactRectOfRow.holds Try.pinned (OpenSpec.ofChange fnExactRectOfWrong)

/-- 'laws.FnExactHitAt': WHATEVER THE INPUT: true; the input reads as it did. -/
def fnExactHitAtSpec : ChangeSpec := { name := "fnExactHitAt", fn := fun _ => fun
  | [d1, d2, d3] => { results := [.lit (.bool true)], args := [d1, d2, d3] }
  | _ => none }
def fnExactHitAtRow : OpenClaim := { program := "ytjopjddhgaiddaa", sum := "6e047ef1cf0fc9815aed7bc7bce773aa96776acfd2cb549e89092ae2b75f22da", func := "loop.example/g00804/laws.FnExactHitAt", spec := "fnExactHitAt", recurses := true, apart := false }
def FnExactHitAtSaid : Prop := fnExactHitAtRow.holds Try.pinned (OpenSpec.ofChange fnExactHitAtSpec)

/-- ITS FALSE NEIGHBOUR: 'it returns false'. Refute it at one input. -/
def fnExactHitAtWrong : ChangeSpec := { name := "fnExactHitAt", fn := fun _ => fun
  | [d1, d2, d3] => { results := [.lit (.bool false)], args := [d1, d2, d3] }
  | _ => none }
def FnExactHitAtWrongFalsely : Prop := fnExactHitAtRow.holds Try.pinned (OpenSpec.ofChange fnExactHitAtWrong)

/-- 'laws.FnExactHasPane': WHATEVER THE INPUT: true; the input reads as it did. -/
def fnExactHasPaneSpec : ChangeSpec := { name := "fnExactHasPane", fn := fun _ => fun
  | [d1, d2] => { results := [.lit (.bool true)], args := [d1, d2] }
  | _ => none }
def fnExactHasPaneRow : OpenClaim := { program := "ytjopjddhgaiddaa", sum := "6e047ef1cf0fc9815aed7bc7bce773aa96776acfd2cb549e89092ae2b75f22da", func := "loop.example/g00804/laws.FnExactHasPane", spec := "fnExactHasPane", recurses := true, apart := false }
def FnExactHasPaneSaid : Prop := fnExactHasPaneRow.holds Try.pinned (OpenSpec.ofChange fnExactHasPaneSpec)

/-- ITS FALSE NEIGHBOUR: 'it returns false'. Refute it at one input. -/
def fnExactHasPaneWrong : ChangeSpec := { name := "fnExactHasPane", fn := fun _ => fun
  | [d1, d2] => { results := [.lit (.bool false)], args := [d1, d2] }
  | _ => none }
def FnExactHasPaneWrongFalsely : Prop := fnExactHasPaneRow.holds Try.pinned (OpenSpec.ofChange fnExactHasPaneWrong)

/-- 'laws.FnRects': WHATEVER THE INPUT: true; the input reads as it did. -/
def fnRectsSpec : ChangeSpec := { name := "fnRects", fn := fun _ => fun
  | [d] => { results := [.lit (.bool true)], args := [d] }
  | _ => none }
def fnRectsRow : OpenClaim := { program := "ytjopjddhgaiddaa", sum := "6e047ef1cf0fc9815aed7bc7bce773aa96776acfd2cb549e89092ae2b75f22da", func := "loop.example/g00804/laws.FnRects", spec := "fnRects", recurses := true, apart := false }
def FnRectsSaid : Prop := fnRectsRow.holds Try.pinned (OpenSpec.ofChange fnRectsSpec)

/-- ITS FALSE NEIGHBOUR: 'it returns false'. Refute it at one input. -/
def fnRectsWrong : ChangeSpec := { name := "fnRects", fn := fun _ => fun
  | [d] => { results := [.lit (.bool false)], args := [d] }
  | _ => none }
def FnRectsWrongFalsely : Prop := fnRectsRow.holds Try.pinned (OpenSpec.ofChange fnRectsWrong)

/- THE SECOND FORM. 'bulk': how many values and letters a reading holds, each counted each time it is reached (what is shared counts as often as it is met; a slice's spare places count too). A statement '..UptoSaid' is the law's where the arguments, and the package variables that the reading takes, are together of bulk at most 1048576: NARROWER than '..Said'. Prove '..Said' where nothing that the law and all that it calls make is longer than what came in: it says more and counts as full. Else prove '..UptoSaid'. A law counts once. -/
mutual
def uptoBulk {H : Type} : DataW H → Nat
  | .lit (.string bytes) => bytes.length + 1
  | .lit _ => 1
  | .nil => 1
  | .ptr d => uptoBulk d + 1
  | .slice elems spare => uptoBulkAll elems + uptoBulkAll spare + 1
  | .agg parts => uptoBulkAll parts + 1
  | .iface _ d => uptoBulk d + 1
  | .map entries => uptoBulkEntries entries + 1
  | .held _ => 1
def uptoBulkAll {H : Type} : List (DataW H) → Nat
  | [] => 0
  | d :: r => uptoBulk d + uptoBulkAll r
def uptoBulkEntries {H : Type} : List (Lit × DataW H) → Nat
  | [] => 0
  | x :: r => uptoBulkEntry x + uptoBulkEntries r
def uptoBulkEntry {H : Type} : Lit × DataW H → Nat
  | (.string bytes, d) => bytes.length + uptoBulk d + 1
  | (_, d) => uptoBulk d + 1
 end
def uptoSmall : (H : Type) → List (DataW H) → Bool := fun _ ds => decide (uptoBulkAll ds ≤ 1048576)
def OpenSpec.upto (s : _root_.Go.ChangeSpec) : _root_.Go.OpenSpec := { _root_.Go.OpenSpec.ofChange s with cond := some uptoSmall }

/-- 'laws.FnExactSameLayouts', WHERE WHAT IT READS IS OF BULK AT MOST 1048576: true; the input reads as it did. -/
def fnExactSameLayoutsUptoRow : OpenClaim := { program := "ytjopjddhgaiddaa", sum := "6e047ef1cf0fc9815aed7bc7bce773aa96776acfd2cb549e89092ae2b75f22da", func := "loop.example/g00804/laws.FnExactSameLayouts", spec := "fnExactSameLayouts", apart := false, narrowed := true }
def FnExactSameLayoutsUptoSaid : Prop := fnExactSameLayoutsUptoRow.holds Try.pinned (OpenSpec.upto fnExactSameLayoutsSpec)

/-- 'laws.FnExactLayoutFault', WHERE WHAT IT READS IS OF BULK AT MOST 1048576: true; the input reads as it did. -/
def fnExactLayoutFaultUptoRow : OpenClaim := { program := "ytjopjddhgaiddaa", sum := "6e047ef1cf0fc9815aed7bc7bce773aa96776acfd2cb549e89092ae2b75f22da", func := "loop.example/g00804/laws.FnExactLayoutFault", spec := "fnExactLayoutFault", recurses := true, apart := false, narrowed := true }
def FnExactLayoutFaultUptoSaid : Prop := fnExactLayoutFaultUptoRow.holds Try.pinned (OpenSpec.upto fnExactLayoutFaultSpec)

/-- 'laws.FnExactRectsOf', WHERE WHAT IT READS IS OF BULK AT MOST 1048576: true; the input reads as it did. -/
def fnExactRectsOfUptoRow : OpenClaim := { program := "ytjopjddhgaiddaa", sum := "6e047ef1cf0fc9815aed7bc7bce773aa96776acfd2cb549e89092ae2b75f22da", func := "loop.example/g00804/laws.FnExactRectsOf", spec := "fnExactRectsOf", recurses := true, apart := false, narrowed := true }
def FnExactRectsOfUptoSaid : Prop := fnExactRectsOfUptoRow.holds Try.pinned (OpenSpec.upto fnExactRectsOfSpec)

/-- 'laws.FnExactRectOf', WHERE WHAT IT READS IS OF BULK AT MOST 1048576: true; the input reads as it did. -/
def fnExactRectOfUptoRow : OpenClaim := { program := "ytjopjddhgaiddaa", sum := "6e047ef1cf0fc9815aed7bc7bce773aa96776acfd2cb549e89092ae2b75f22da", func := "loop.example/g00804/laws.FnExactRectOf", spec := "fnExactRectOf", recurses := true, apart := false, narrowed := true }
def FnExactRectOfUptoSaid : Prop := fnExactRectOfUptoRow.holds Try.pinned (OpenSpec.upto fnExactRectOfSpec)

/-- 'laws.FnExactHitAt', WHERE WHAT IT READS IS OF BULK AT MOST 1048576: true; the input reads as it did. -/
def fnExactHitAtUptoRow : OpenClaim := { program := "ytjopjddhgaiddaa", sum := "6e047ef1cf0fc9815aed7bc7bce773aa96776acfd2cb549e89092ae2b75f22da", func := "loop.example/g00804/laws.FnExactHitAt", spec := "fnExactHitAt", recurses := true, apart := false, narrowed := true }
def FnExactHitAtUptoSaid : Prop := fnExactHitAtUptoRow.holds Try.pinned (OpenSpec.upto fnExactHitAtSpec)

/-- 'laws.FnExactHasPane', WHERE WHAT IT READS IS OF BULK AT MOST 1048576: true; the input reads as it did. -/
def fnExactHasPaneUptoRow : OpenClaim := { program := "ytjopjddhgaiddaa", sum := "6e047ef1cf0fc9815aed7bc7bce773aa96776acfd2cb549e89092ae2b75f22da", func := "loop.example/g00804/laws.FnExactHasPane", spec := "fnExactHasPane", recurses := true, apart := false, narrowed := true }
def FnExactHasPaneUptoSaid : Prop := fnExactHasPaneUptoRow.holds Try.pinned (OpenSpec.upto fnExactHasPaneSpec)

/-- 'laws.FnRects', WHERE WHAT IT READS IS OF BULK AT MOST 1048576: true; the input reads as it did. -/
def fnRectsUptoRow : OpenClaim := { program := "ytjopjddhgaiddaa", sum := "6e047ef1cf0fc9815aed7bc7bce773aa96776acfd2cb549e89092ae2b75f22da", func := "loop.example/g00804/laws.FnRects", spec := "fnRects", recurses := true, apart := false, narrowed := true }
def FnRectsUptoSaid : Prop := fnRectsUptoRow.holds Try.pinned (OpenSpec.upto fnRectsSpec)

end Rows
end Go.Proofs.Ytjopjddhgaiddaa
