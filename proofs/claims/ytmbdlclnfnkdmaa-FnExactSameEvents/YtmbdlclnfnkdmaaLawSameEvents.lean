/- The walk of the law over SameEvents. -/
import Derived.Test.YtmbdlclnfnkdmaaEvs4
namespace Go.Proofs.Ytmbdlclnfnkdmaa
open Go.RowKit

set_option maxHeartbeats 4000000 in
theorem lawSameEvents_any (p q : Option Addr) (c d : Nat) (x y : List Ev) (w : World) (h : Es w w.heap.size p x) (k : Es w w.heap.size q y)
    (hx : x.length ≤ 9223372036854775807) (hy : y.length ≤ 9223372036854775807) (hdx : ∀ e ∈ x, e.data.length ≤ 9223372036854775807) (hdy : ∀ e ∈ y, e.data.length ≤ 9223372036854775807) :
    Calls Try.prog 6 #[.slice p x.length c, .slice q y.length d] w fun e w' => e = .returned (.bool true) ∧ Below w.heap.size w w' := by
  have HX := Lib.hid hdx
  have HY := Lib.hid hdy
  clear hdx hdy
  have hne : (sameEvs x y != sameEvs x y) = false := by simp
  go_enter Try.func6, Try.ntmps6
  go_wp2_with fail
  refine (szEventS_any p c x 1048576 _ h hx HX.out (by omega) (by omega)).mono ?_
  rintro e w1 ⟨r1, rfl, hr1, b1⟩
  have HR1 := Lib.hid hr1
  clear hr1
  by_cases hn1 : r1 < 0
  · go_wp2_with fail
    go_ret
    exact ⟨rfl, b1⟩
  have hn1' : 0 ≤ r1 := by omega
  obtain ⟨hle1, hlx, hdx⟩ := HR1.out hn1'
  have DX := Lib.hid hdx
  clear hdx
  go_wp2_with fail
  refine (szEventS_any q d y r1 _ (k.on b1) hy HY.out hn1' (by omega)).mono ?_
  rintro e w2 ⟨r2, rfl, hr2, b2⟩
  have HR2 := Lib.hid hr2
  clear hr2
  have b12 := below_on b1 b2
  by_cases hn2 : r2 < 0
  · go_wp2_with fail
    go_ret
    exact ⟨rfl, b12⟩
  have hn2' : 0 ≤ r2 := by omega
  obtain ⟨hle2, hly, hdy⟩ := HR2.out hn2'
  have DY := Lib.hid hdy
  clear hdy
  go_wp2_with fail
  refine (toEventS_any p c x _ (h.on b12) hlx DX.out).mono ?_
  rintro e w3 ⟨p3, rfl, n3, b3⟩
  have b13 := below_on b12 b3
  go_wp2_with fail
  refine (toEventS_any q d y _ (k.on b13) hly DY.out).mono ?_
  rintro e w4 ⟨p4, rfl, n4, b4⟩
  have b14 := below_on b13 b4
  go_wp2_with fail
  refine (specSameEvents_any _ _ _ _ x y _ (n3.on b4) n4 hlx).mono ?_
  rintro e w5 ⟨rfl, b5⟩
  have b15 := below_on b14 b5
  go_wp2_with fail
  refine (toEventS_any p c x _ (h.on b15) hlx DX.out).mono ?_
  rintro e w6 ⟨p6, rfl, n6, b6⟩
  have b16 := below_on b15 b6
  go_wp2_with fail
  refine (toEventS_any q d y _ (k.on b16) hly DY.out).mono ?_
  rintro e w7 ⟨p7, rfl, n7, b7⟩
  have b17 := below_on b16 b7
  go_wp2_with fail
  refine (implSameEvents_any _ _ _ _ x y _ (n6.on b7) n7 hlx).mono ?_
  rintro e w8 ⟨rfl, b8⟩
  have b18 := below_on b17 b8
  have n68 := (n6.on b7).on b8
  have n78 := n7.on b8
  clear n3 n4 n6 n7
  go_wp2_with fail
  refine (toEventS_any p c x _ (h.on b18) hlx DX.out).mono ?_
  rintro e w9 ⟨p9, rfl, n9, b9⟩
  go_wp2_with fail
  refine (eqEventS_same _ _ _ _ x _ (n68.on b9) n9 hlx DX.out).mono ?_
  rintro e w10 ⟨rfl, b10⟩
  have b110 := below_on (below_on b18 b9) b10
  go_wp2_with fail
  refine (toEventS_any q d y _ (k.on b110) hly DY.out).mono ?_
  rintro e w11 ⟨p11, rfl, n11, b11⟩
  go_wp2_with fail
  refine (eqEventS_same _ _ _ _ y _ (((n78.on b9).on b10).on b11) n11 hly DY.out).mono ?_
  rintro e w12 ⟨rfl, b12'⟩
  go_wp2_with fail
  go_ret
  exact ⟨rfl, below_on (below_on b110 b11) b12'⟩

end Go.Proofs.Ytmbdlclnfnkdmaa
