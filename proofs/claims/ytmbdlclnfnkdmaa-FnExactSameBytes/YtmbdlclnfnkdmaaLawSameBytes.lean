/- The walk of the law over SameBytes. -/
import Derived.Test.YtmbdlclnfnkdmaaBytes
namespace Go.Proofs.Ytmbdlclnfnkdmaa
open Go.RowKit

set_option maxHeartbeats 1000000 in
theorem lawSameBytes_any (p q : Option Addr) (c d : Nat) (a b : List UInt8) (w : World) (h : Bs w w.heap.size p a) (k : Bs w w.heap.size q b) :
    Calls Try.prog 7 #[.slice p a.length c, .slice q b.length d] w fun e w' => e = .returned (.bool true) ∧ Below w.heap.size w w' := by
  by_cases ha1 : (1048576 : Int) < (a.length : Int)
  · go_enter Try.func7, Try.ntmps7
    go_wp2
    go_ret
    exact ⟨rfl, Below.refl _ _⟩
  by_cases hb1 : (1048576 : Int) < (b.length : Int)
  · go_enter Try.func7, Try.ntmps7
    go_wp2
    go_ret
    exact ⟨rfl, Below.refl _ _⟩
  have hne : ((a == b) != (a == b)) = false := by simp
  go_enter Try.func7, Try.ntmps7
  go_wp2_with fail
  refine (toByteS_new _ _ _ _ h (by omega)).mono ?_
  rintro e w1 ⟨p1, rfl, n1, b1⟩
  go_wp2_with fail
  refine (toByteS_new _ _ _ _ (k.on b1) (by omega)).mono ?_
  rintro e w2 ⟨p2, rfl, n2, b2⟩
  go_wp2_with fail
  refine (specSameBytes_any _ _ _ _ _ _ _ (n1.on b2) n2).mono ?_
  rintro e w2' ⟨rfl, rfl⟩
  have b12 := below_on b1 b2
  go_wp2_with fail
  refine (toByteS_new _ _ _ _ (h.on b12) (by omega)).mono ?_
  rintro e w3 ⟨p3, rfl, n3, b3⟩
  go_wp2_with fail
  refine (toByteS_new _ _ _ _ ((k.on b12).on b3) (by omega)).mono ?_
  rintro e w4 ⟨p4, rfl, n4, b4⟩
  go_wp2_with fail
  refine (implSameBytes_any _ _ _ _ _ _ _ (n3.on b4) n4).mono ?_
  rintro e w4' ⟨rfl, rfl⟩
  have b14 := below_on (below_on b12 b3) b4
  go_wp2_with fail
  refine (toByteS_new _ _ _ _ (h.on b14) (by omega)).mono ?_
  rintro e w5 ⟨p5, rfl, n5, b5⟩
  go_wp2_with fail
  refine (eqByteS_same _ _ _ _ _ _ ((n3.on b4).on b5) n5 (by omega)).mono ?_
  rintro e w6 ⟨rfl, b6⟩
  have b16 := below_on (below_on b14 b5) b6
  go_wp2_with fail
  refine (toByteS_new _ _ _ _ (k.on b16) (by omega)).mono ?_
  rintro e w7 ⟨p7, rfl, n7, b7⟩
  go_wp2_with fail
  refine (eqByteS_same _ _ _ _ _ _ (((n4.on b5).on b6).on b7) n7 (by omega)).mono ?_
  rintro e w8 ⟨rfl, b8⟩
  go_wp2_with fail
  go_ret
  exact ⟨rfl, below_on (below_on b16 b7) b8⟩

end Go.Proofs.Ytmbdlclnfnkdmaa
