/- The walks of IsSpecial, of the model's and of the program's, and of the law over both. -/
import Derived.Test.YtbdomjggedgfaaaNums
namespace Go.Proofs.Ytbdomjggedgfaaa
open Go.RowKit

def special (c : Int) : Bool := inR c 2000001 2000014

set_option maxHeartbeats 400000 in
theorem specIsSpecial_any (c : Int) (w : World) :
    Calls Try.prog 72 #[.int .i64 c] w fun e w' => e = .returned (.bool (special c)) ∧ w = w' := by
  go_enter Try.func72, Try.ntmps72
  go_wp2_with (go_at_call 57; refine (l1In_any _ _ _ _).mono ?_; rintro e w' ⟨rfl, rfl⟩)
  go_ret
  exact ⟨rfl, rfl⟩

set_option maxHeartbeats 400000 in
theorem implIsSpecial_any (c : Int) (w : World) :
    Calls Try.prog 70 #[.int .i64 c] w fun e w' => e = .returned (.bool (special c)) ∧ Below w.heap.size w w' := by
  go_enter Try.func70, Try.ntmps70
  go_wp2_with (go_at_call 34; refine (isWithin_two _ _ _ _ _ _ (by simp)).mono ?_; rintro e w' ⟨rfl, rfl⟩)
  go_ret
  exact ⟨rfl, (Below.refl _ _).alloc (Nat.le_refl _) _⟩


end Go.Proofs.Ytbdomjggedgfaaa
