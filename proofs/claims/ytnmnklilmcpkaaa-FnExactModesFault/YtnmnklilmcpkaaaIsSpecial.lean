/- The walks of IsSpecial, of the model's and of the program's, and of the law over both. -/
import Derived.Test.YtnmnklilmcpkaaaNums
namespace Go.Proofs.Ytnmnklilmcpkaaa
open Go.RowKit

def special (c : Int) : Bool := inR c 2000001 2000014

set_option maxHeartbeats 400000 in
theorem specIsSpecial_any (c : Int) (w : World) :
    Calls Try.prog 67 #[.int .i64 c] w fun e w' => e = .returned (.bool (special c)) ∧ w = w' := by
  go_enter Try.func67, Try.ntmps67
  go_wp2_with (go_at_call 43; refine (l1In_any _ _ _ _).mono ?_; rintro e w' ⟨rfl, rfl⟩)
  go_ret
  exact ⟨rfl, rfl⟩

set_option maxHeartbeats 400000 in
theorem implIsSpecial_any (c : Int) (w : World) :
    Calls Try.prog 64 #[.int .i64 c] w fun e w' => e = .returned (.bool (special c)) ∧ Below w.heap.size w w' := by
  go_enter Try.func64, Try.ntmps64
  go_wp2_with (go_at_call 32; refine (isWithin_two _ _ _ _ _ _ (by simp)).mono ?_; rintro e w' ⟨rfl, rfl⟩)
  go_ret
  exact ⟨rfl, (Below.refl _ _).alloc (Nat.le_refl _) _⟩


end Go.Proofs.Ytnmnklilmcpkaaa
