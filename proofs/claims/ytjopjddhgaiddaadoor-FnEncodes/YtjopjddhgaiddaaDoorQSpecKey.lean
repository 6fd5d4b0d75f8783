/- The key of parts, by the model: l3Letter, l3Tilde, l3Coded, l3Mods, l3Named, KeyOfParts. -/
import Derived.Test.YtjopjddhgaiddaaDoorQKeyParts
import Derived.Test.YtjopjddhgaiddaaDoorQBytesToCells
namespace Go.Proofs.YtjopjddhgaiddaaDoor
open Go.RowKit

set_option maxRecDepth 100000 in
set_option maxHeartbeats 1000000 in
theorem l3Letter_any (c : Int) (w : World) : Calls Tryd.prog 69 #[.int .u8 c] w fun e w' => e = .returned (.int .i64 (letterK c)) ∧ w = w' := by
  unfold letterK
  repeat' split
  all_goals
    go_enter Tryd.func69, Tryd.ntmps69
    go_wp2
    go_ret
    exact ⟨rfl, rfl⟩

set_option maxRecDepth 100000 in
set_option maxHeartbeats 1000000 in
theorem l3Tilde_no (n : Int) (w : World) (hn : inR n 1 6 = false) : Calls Tryd.prog 70 #[.int .i64 n] w fun e w' => e = .returned (.int .i64 0) ∧ Below w.heap.size w w' := by
  go_enter Tryd.func70, Tryd.ntmps70
  go_wp2_with (go_at_call 66; refine (l1In_any _ _ _ _).mono ?_; rintro e w' ⟨rfl, rfl⟩; rw [hn])
  go_ret
  exact ⟨rfl, below_mk _ _⟩

set_option maxRecDepth 100000 in
set_option maxHeartbeats 1000000 in
theorem l3Tilde_any (n : Int) (w : World) : Calls Tryd.prog 70 #[.int .i64 n] w fun e w' => e = .returned (.int .i64 (tildeK n)) ∧ Below w.heap.size w w' := by
  by_cases h : 1 ≤ n ∧ n ≤ 6
  · have : n = 1 ∨ n = 2 ∨ n = 3 ∨ n = 4 ∨ n = 5 ∨ n = 6 := by omega
    rcases this with rfl | rfl | rfl | rfl | rfl | rfl
    all_goals
      go_enter Tryd.func70, Tryd.ntmps70
      go_wp2_with (go_at_call 66; refine (l1In_any _ _ _ _).mono ?_; rintro e w' ⟨rfl, rfl⟩)
      go_ret
      exact ⟨rfl, below_mk _ _⟩
  · have e : tildeK n = 0 := by
      unfold tildeK
      repeat (rw [if_neg (by omega)])
    rw [e]
    exact l3Tilde_no n w (by simp [inR]; omega)







end Go.Proofs.YtjopjddhgaiddaaDoor
