/- Modes as data; ModesFault of the program and of the model; the law's toModes. -/
import Derived.Test.YtnmnklilmcpkaaaDoorQNumsToIsSpecial
import Derived.Test.YtnmnklilmcpkaaaDoorQBytesToCells
namespace Go.Proofs.YtnmnklilmcpkaaaDoor
open Go.RowKit
set_option linter.unusedVariables false

structure Md where
  cursor : Bool
  coded : Bool
  mouse : Int
  sgr : Bool
  paste : Bool
def mdV (m : Md) : Value := .agg #[.bool m.cursor, .bool m.coded, .int .i64 m.mouse, .bool m.sgr, .bool m.paste]
def mdL (m : Md) : List Value := [.bool m.cursor, .bool m.coded, .int .i64 m.mouse, .bool m.sgr, .bool m.paste]
def Md.fault (m : Md) : Int := if inR m.mouse 0 3 = true then 0 else 3

set_option maxHeartbeats 1000000 in
theorem implModesFault_any (m : Md) (w : World) : Calls Tryd.prog 51 #[mdV m] w fun e w' => e = .returned (.int .i64 m.fault) ∧ Below w.heap.size w w' := by
  unfold mdV
  cases hi : inR m.mouse 0 3
  · have HF : Hid (m.fault = 3) := by simp [Hid, Md.fault, hi]
    go_enter Tryd.func51, Tryd.ntmps51
    go_wp2_with (go_at_call 71; refine (isWithin_two _ _ _ _ _ _ (by simp)).mono ?_; rintro e w' ⟨rfl, rfl⟩; rw [hi])
    go_ret
    rw [HF.out]
    exact ⟨rfl, below_on (below_mk _ _) (below_mk _ _)⟩
  · have HF : Hid (m.fault = 0) := by simp [Hid, Md.fault, hi]
    go_enter Tryd.func51, Tryd.ntmps51
    go_wp2_with (go_at_call 71; refine (isWithin_two _ _ _ _ _ _ (by simp)).mono ?_; rintro e w' ⟨rfl, rfl⟩; rw [hi])
    go_ret
    rw [HF.out]
    exact ⟨rfl, below_on (below_mk _ _) (below_mk _ _)⟩

set_option maxHeartbeats 1000000 in
theorem specModesFault_any (m : Md) (w : World) : Calls Tryd.prog 62 #[mdV m] w fun e w' => e = .returned (.int .i64 m.fault) ∧ Below w.heap.size w w' := by
  unfold mdV
  cases hi : inR m.mouse 0 3
  · have HF : Hid (m.fault = 3) := by simp [Hid, Md.fault, hi]
    go_enter Tryd.func62, Tryd.ntmps62
    go_wp2_with (go_at_call 82; refine (l1In_any _ _ _ _).mono ?_; rintro e w' ⟨rfl, rfl⟩; rw [hi])
    go_ret
    rw [HF.out]
    exact ⟨rfl, below_mk _ _⟩
  · have HF : Hid (m.fault = 0) := by simp [Hid, Md.fault, hi]
    go_enter Tryd.func62, Tryd.ntmps62
    go_wp2_with (go_at_call 82; refine (l1In_any _ _ _ _).mono ?_; rintro e w' ⟨rfl, rfl⟩; rw [hi])
    go_ret
    rw [HF.out]
    exact ⟨rfl, below_mk _ _⟩

set_option maxRecDepth 100000 in
set_option maxHeartbeats 1000000 in
theorem toModes_any (m : Md) (w : World) : Calls Tryd.prog 19 #[mdV m] w fun e w' => e = .returned (mdV m) ∧ Below w.heap.size w w' := by
  unfold mdV
  go_enter Tryd.func19, Tryd.ntmps19
  go_wp2
  refine bodyPost_ret (v := mdV m) (by simp [results, Tryd.results19, mdV, go_sem]) rfl ⟨rfl, ?_⟩
  exact (((Below.refl _ _).alloc (Nat.le_refl _) _).alloc (by simp) _).alloc (by simp; omega) _

end Go.Proofs.YtnmnklilmcpkaaaDoor
