/- Modes as data; ModesFault of the program and of the model; the law's toModes. -/
import Derived.Test.YtjopjddhgaiddaaDoorQNumsToIsSpecial
import Derived.Test.YtjopjddhgaiddaaDoorQBytesToCells
namespace Go.Proofs.YtjopjddhgaiddaaDoor
open Go.RowKit
set_option linter.unusedVariables false

structure Md where
  cursor : Bool
  coded : Bool
  mouse : Int
  sgr : Bool
  paste : Bool
def mdV (m : Md) : Value := .agg #[.bool m.cursor, .bool m.coded, .int .i64 m.mouse, .bool m.sgr, .bool m.paste]
def mdL (m : Md) : List Value := [.bool m.cursor, .bool m.coded, .int .i64 m.mouse, .bool m.sgr, .bool m.paste]
def Md.fault (m : Md) : Int := if inR m.mouse 0 3 = true then 0 else 3

set_option maxHeartbeats 1000000 in
theorem implModesFault_any (m : Md) (w : World) : Calls Tryd.prog 35 #[mdV m] w fun e w' => e = .returned (.int .i64 m.fault) ∧ Below w.heap.size w w' := by
  unfold mdV
  cases hi : inR m.mouse 0 3
  · have HF : Hid (m.fault = 3) := by simp [Hid, Md.fault, hi]
    go_enter Tryd.func35, Tryd.ntmps35
    go_wp2_with (go_at_call 55; refine (isWithin_two _ _ _ _ _ _ (by simp)).mono ?_; rintro e w' ⟨rfl, rfl⟩; rw [hi])
    go_ret
    rw [HF.out]
    exact ⟨rfl, below_on (below_mk _ _) (below_mk _ _)⟩
  · have HF : Hid (m.fault = 0) := by simp [Hid, Md.fault, hi]
    go_enter Tryd.func35, Tryd.ntmps35
    go_wp2_with (go_at_call 55; refine (isWithin_two _ _ _ _ _ _ (by simp)).mono ?_; rintro e w' ⟨rfl, rfl⟩; rw [hi])
    go_ret
    rw [HF.out]
    exact ⟨rfl, below_on (below_mk _ _) (below_mk _ _)⟩

set_option maxHeartbeats 1000000 in
theorem specModesFault_any (m : Md) (w : World) : Calls Tryd.prog 46 #[mdV m] w fun e w' => e = .returned (.int .i64 m.fault) ∧ Below w.heap.size w w' := by
  unfold mdV
  cases hi : inR m.mouse 0 3
  · have HF : Hid (m.fault = 3) := by simp [Hid, Md.fault, hi]
    go_enter Tryd.func46, Tryd.ntmps46
    go_wp2_with (go_at_call 66; refine (l1In_any _ _ _ _).mono ?_; rintro e w' ⟨rfl, rfl⟩; rw [hi])
    go_ret
    rw [HF.out]
    exact ⟨rfl, below_mk _ _⟩
  · have HF : Hid (m.fault = 0) := by simp [Hid, Md.fault, hi]
    go_enter Tryd.func46, Tryd.ntmps46
    go_wp2_with (go_at_call 66; refine (l1In_any _ _ _ _).mono ?_; rintro e w' ⟨rfl, rfl⟩; rw [hi])
    go_ret
    rw [HF.out]
    exact ⟨rfl, below_mk _ _⟩



end Go.Proofs.YtjopjddhgaiddaaDoor
