/- Decoders as data; the law's own helpers over them; SameDecoders of the model and of the program. -/
import Derived.Test.YtbmfdakagcbpiaaDoorQFaultToSpecFault
import Derived.Test.YtbmfdakagcbpiaaDoorQPutToMarks
import Derived.Test.YtbmfdakagcbpiaaDoorQBytesToCells
import Derived.Deep.QuietTactic
namespace Go.Proofs.YtbmfdakagcbpiaaDoor
open Go.RowKit
set_option linter.unusedVariables false

/-- a decoder as data -/
structure Dc where
  pend : List UInt8
  paste : Bool
  due : Int

/-- a decoder as a value: its bytes lie at p -/
def dcV (d : Dc) (p : Option Addr) (c : Nat) : Value := .agg #[.slice p d.pend.length c, .bool d.paste, .int .i64 d.due]
/-- its cells -/
def dcL (d : Dc) (p : Option Addr) (c : Nat) : List Value := [.slice p d.pend.length c, .bool d.paste, .int .i64 d.due]

theorem AtL.three {w : World} {b : Nat} {v0 v1 v2 : Value} (h : AtL w b [v0, v1, v2]) : w.cell? ⟨b, 0, none⟩ = some v0 ∧ w.cell? ⟨b, 1, none⟩ = some v1 ∧ w.cell? ⟨b, 2, none⟩ = some v2 :=
  ⟨h.get 0 rfl, h.get 1 rfl, h.get 2 rfl⟩

set_option maxRecDepth 100000 in
set_option maxHeartbeats 800000 in
theorem szDecoder_any (d : Dc) (p : Option Addr) (c : Nat) (left : Int) (w : World) (hn : d.pend.length ≤ 9223372036854775807) (h0 : 0 ≤ left) (h1 : left ≤ 1048576) :
    Calls Tryd.prog 4 #[dcV d p c, .int .i64 left] w fun en w' => en = .returned (.int .i64 (leftOf left d.pend.length)) ∧ Below w.heap.size w w' := by
  unfold dcV
  by_cases h : leftOf left d.pend.length < 0
  · have HN := Lib.hid (leftOf_neg h)
    go_enter Tryd.func4, Tryd.ntmps4
    go_wp2_with (go_at_call 9; refine (szByteS_any _ _ _ _ _ hn h0 h1).mono ?_; rintro en w1 ⟨rfl, rfl⟩)
    go_ret
    exact ⟨ret_int HN.out.symm, (Below.refl _ _).alloc (Nat.le_refl _) _⟩
  · go_enter Tryd.func4, Tryd.ntmps4
    go_wp2_with (go_at_call 9; refine (szByteS_any _ _ _ _ _ hn h0 h1).mono ?_; rintro en w1 ⟨rfl, rfl⟩)
    go_ret
    exact ⟨rfl, (Below.refl _ _).alloc (Nat.le_refl _) _⟩

/-- what a call leaves that hands back a decoder of its own -/
def NewDc (w : World) (d : Dc) (en : Ending) (w' : World) : Prop :=
  ∃ p, en = .returned (dcV d p d.pend.length) ∧ Own w' w.heap.size (.slice p d.pend.length d.pend.length) d.pend ∧ Below w.heap.size w w'

set_option maxRecDepth 100000 in
set_option maxHeartbeats 2000000 in
theorem toDecoder_any (d : Dc) (p : Option Addr) (c : Nat) (w : World) (h : Bs w w.heap.size p d.pend) (hl : d.pend.length ≤ 1048576) :
    Calls Tryd.prog 6 #[dcV d p c] w (NewDc w d) := by
  unfold dcV
  go_enter Tryd.func6, Tryd.ntmps6
  go_wp2_with fail
  refine (toByteS_any _ _ _ _ (((h.alloc _).alloc _).alloc _) hl).mono ?_
  rintro en w1 ⟨rfl, rfl⟩
  go_wp2
  refine bodyPost_ret (v := dcV d (some ⟨w.heap.size + 1 + 1 + 1, 0, none⟩) d.pend.length) (by simp [results, Tryd.results6, dcV, go_sem]) rfl ⟨_, rfl, (own_lit _ _ _ _ _ (by simp) rfl rfl hl).lower (by simp; omega), ?_⟩
  exact ((((Below.refl _ _).alloc (Nat.le_refl _) _).alloc (by simp) _).alloc (by simp; omega) _).alloc (by simp; omega) _

set_option maxRecDepth 100000 in
set_option maxHeartbeats 2000000 in
theorem eqDecoder_same (e : Dc) (p q : Option Addr) (c d : Nat) (w : World) (h : Bs w w.heap.size p e.pend) (k : Bs w w.heap.size q e.pend) (hl : e.pend.length ≤ 1048576) :
    Calls Tryd.prog 8 #[dcV e p c, dcV e q d] w fun en w' => en = .returned (.bool true) ∧ Below w.heap.size w w' := by
  have h1 : (e.paste != e.paste) = false := by simp
  have h2 : (e.due != e.due) = false := by simp
  unfold dcV
  go_enter Tryd.func8, Tryd.ntmps8
  go_wp2_with fail
  refine (eqByteS_same _ _ _ _ _ _ ((h.alloc _).alloc _) ((k.alloc _).alloc _) hl).mono ?_
  rintro en w1 ⟨rfl, hb⟩
  obtain ⟨hc, hf⟩ := bcell hb
  go_wp2
  go_ret
  exact ⟨rfl, below_on (((Below.refl _ _).alloc (Nat.le_refl _) _).alloc (by simp) _) hb⟩

/-- two decoders are the same -/
def dcEq (a b : Dc) : Bool := (a.pend == b.pend) && ((a.paste == b.paste) && (a.due == b.due))
theorem dcEq_refl (a : Dc) : dcEq a a = true := by simp [dcEq]



end Go.Proofs.YtbmfdakagcbpiaaDoor
