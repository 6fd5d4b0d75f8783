/- Pastes: tokenWithin of the program, FirstPaste of the model. -/
import Derived.Test.YtcchhlcgamcceaaDoorQPaste2ToRaw
import Derived.WalkLawsBesides
namespace Go.Proofs.YtcchhlcgamcceaaDoor
open Go.RowKit

theorem ends_iff (l : List UInt8) : pre endB (l.drop (unt l)) = decide (unt l + 6 ≤ l.length) := by
  by_cases h : unt l + 6 ≤ l.length
  · have h1 := unt_stops l (by omega)
    rw [stops_ge _ (by simp; omega)] at h1
    simp only [h, decide_true]
    exact h1
  · rw [pre_long (by simp [endB]; omega)]
    simp [h]

theorem firstPaste_none : firstPaste [] = badTk 4 := rfl
theorem firstPaste_long {l : List UInt8} (h0 : l ≠ []) (h : 32 ≤ unt l) : firstPaste l = pasteTk (l.take 32) := by unfold firstPaste; rw [if_neg h0, if_pos h]
theorem firstPaste_full {l : List UInt8} (h0 : l ≠ []) (h : ¬ 32 ≤ unt l) (h6 : l.length < unt l + 6) : firstPaste l = badTk 6 := by unfold firstPaste; rw [if_neg h0, if_neg h, if_pos h6]
theorem firstPaste_some {l : List UInt8} (h0 : l ≠ []) (h : ¬ 32 ≤ unt l) (h6 : ¬ l.length < unt l + 6) (hp : 0 < unt l) : firstPaste l = pasteTk (l.take (unt l)) := by unfold firstPaste; rw [if_neg h0, if_neg h, if_neg h6, if_pos hp]
theorem firstPaste_end {l : List UInt8} (h0 : l ≠ []) (h : ¬ 32 ≤ unt l) (h6 : ¬ l.length < unt l + 6) (hp : ¬ 0 < unt l) : firstPaste l = ⟨0, noEv, 6, false, true⟩ := by unfold firstPaste; rw [if_neg h0, if_neg h, if_neg h6, if_neg hp]

theorem l3Pasted_cut (p : Option Addr) (c k : Nat) (l : List UInt8) (w : World) (h : Bs w w.heap.size p l) (hk : k ≤ l.length) (hc : l.length ≤ c) (hl : l.length ≤ 1048576) :
    Calls Tryd.prog 26 #[.slice p k c] w (NewTk w (pasteTk (l.take (min 32 k)))) := by
  have := l3Pasted_any p c (l.take k) w (h.head k) (by simp; omega) (by simp; omega)
  rw [show (l.take k).length = k by simp; omega, List.take_take] at this
  exact this



end Go.Proofs.YtcchhlcgamcceaaDoor

/- Pastes: tokenWithin of the program. -/
namespace Go.Proofs.YtcchhlcgamcceaaDoor
open Go.RowKit

/-- the panic of what has not arrived -/
def waitPanic : List PanicEntry := [{ v := .iface 9 (.string ⟨#[116, 104, 101, 32, 116, 111, 107, 101, 110, 32, 105, 115, 32, 105, 110, 99, 111, 109, 112, 108, 101, 116, 101]⟩), recovered := false }]
/-- what a call leaves that waits -/
def Waits (w : World) (e : Ending) (w' : World) : Prop := e = .panicked waitPanic ∧ Below w.heap.size w w'

theorem pasteToken_cut (p : Option Addr) (c k : Nat) (l : List UInt8) (w : World) (h : Bs w w.heap.size p l) (hk : k ≤ l.length) (h0 : 0 < k) (hl : l.length ≤ 1048576) :
    Calls Tryd.prog 28 #[.slice p k c] w (NewTok w (pasteEv (l.take k)) k true false) := by
  have e : (l.take k).length = k := by simp; omega
  have := pasteToken_any p c (l.take k) w (h.head k) (by simp; omega) (by intro e'; rw [e'] at e; simp at e; omega)
  rw [e] at this
  exact this











end Go.Proofs.YtcchhlcgamcceaaDoor
