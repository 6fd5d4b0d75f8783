/- The walk of the law over NumberOf. -/
import Derived.Test.YtjmfmdebnobogaaNumb
import Derived.Test.YtjmfmdebnobogaaCells
namespace Go.Proofs.Ytjmfmdebnobogaa
open Go.RowKit

set_option maxHeartbeats 1000000 in
theorem lawNumberOf_any (p : Option Addr) (c : Nat) (a : List UInt8) (w : World) (h : Bs w w.heap.size p a) :
    Calls Try.prog 3 #[.slice p a.length c] w fun e w' => e = .returned (.bool true) ∧ Below w.heap.size w w' := by
  by_cases ha1 : (1048576 : Int) < (a.length : Int)
  · go_enter Try.func3, Try.ntmps3
    go_wp2
    go_ret
    exact ⟨rfl, Below.refl _ _⟩
  go_enter Try.func3, Try.ntmps3
  go_wp2_with fail
  refine (toByteS_new _ _ _ _ h (by omega)).mono ?_
  rintro e w1 ⟨p1, rfl, n1, b1⟩
  go_wp2_with fail
  refine (specNumberOf_any _ _ _ _ n1 (by omega)).mono ?_
  rintro e w2 ⟨rfl, b2⟩
  unfold irV
  have B2 := below_mk w2 (.cells #[.int .i64 (numCode a), .int .i64 (numRes a)] 24)
  have X2 := AtL.new w2 [.int .i64 (numCode a), .int .i64 (numRes a)] 24
  have b13 := below_on (below_on b1 b2) B2
  go_wp2_with fail
  refine (toByteS_new _ _ _ _ (h.on b13) (by omega)).mono ?_
  rintro e w3 ⟨p3, rfl, n3, b3⟩
  go_wp2_with fail
  refine (implNumberOf_any _ _ _ _ n3 (by omega)).mono ?_
  rintro e w4 ⟨rfl, b4⟩
  unfold irV
  have B4 := below_mk w4 (.cells #[.int .i64 (numCode a), .int .i64 (numRes a)] 24)
  have X4 := ((X2.on b3).on b4).on B4
  have b14 := below_on (below_on (below_on b13 b3) b4) B4
  have z0 := X4.get 0 rfl
  have z1 := X4.get 1 rfl
  clear X2 X4
  go_wp2_with fail
  refine (eqIntResult_same (numCode a) (numRes a) _).mono ?_
  rintro e w5 ⟨rfl, b5⟩
  have b15 := below_on b14 b5
  clear z0 z1
  go_wp2_with fail
  refine (toByteS_new _ _ _ _ (h.on b15) (by omega)).mono ?_
  rintro e w6 ⟨p6, rfl, n6, b6⟩
  go_wp2_with fail
  refine (eqByteS_same _ _ _ _ _ _ ((((n3.on b4).on B4).on b5).on b6) n6 (by omega)).mono ?_
  rintro e w7 ⟨rfl, b7⟩
  go_wp2_with fail
  go_ret
  exact ⟨rfl, below_on (below_on b15 b6) b7⟩

end Go.Proofs.Ytjmfmdebnobogaa
