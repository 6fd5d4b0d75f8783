/- The walk of the law over EventFault. -/
import Derived.Test.YtmbdlclnfnkdmaaSpecFault
import Derived.Test.YtmbdlclnfnkdmaaEvOps
import Derived.Deep.RegionWith
namespace Go.Proofs.Ytmbdlclnfnkdmaa
open Go.RowKit

theorem EvAt.on {w w' : World} {b off : Nat} {e : Ev} {p : Option Addr} {c : Nat} (h : EvAt w b off e p c) (hb : Below w.heap.size w w') : EvAt w' b off e p c := h.below hb h.lt

set_option maxHeartbeats 4000000 in
theorem lawEventFault_any (hform : FormSaid) (e : Ev) (p : Option Addr) (c : Nat) (w : World) (h : Bs w w.heap.size p e.data) (hn : e.data.length ≤ 9223372036854775807) :
    Calls Try.prog 5 #[evV e p c] w fun en w' => en = .returned (.bool true) ∧ Below w.heap.size w w' := by
  have HA := EvAt.new w e p c 30
  unfold evC at HA
  by_cases hs : leftOf 1048576 e.data.length < 0
  · unfold evV
    go_enter Try.func5, Try.ntmps5
    go_wp2_with (go_at_call 15; refine (szEvent_any e p c _ _ hn (by omega) (by omega)).mono ?_; rintro en w1 ⟨rfl, b1⟩)
    go_ret
    exact ⟨rfl, below_on ((Below.refl _ _).alloc (Nat.le_refl _) _) b1⟩
  have hs0 : 0 ≤ leftOf 1048576 e.data.length := by omega
  have hl : e.data.length ≤ 1048576 := by have := (leftOf_le hs0).2; omega
  have hne : (e.fault != e.fault) = false := by simp
  have b0 : Below w.heap.size w (w.alloc (.cells (evC e p c) 30)) := (Below.refl _ _).alloc (Nat.le_refl _) _
  unfold evC at b0
  unfold evV
  go_enter Try.func5, Try.ntmps5
  go_wp2_with fail
  refine (szEvent_any e p c _ _ hn (by omega) (by omega)).mono ?_
  rintro en w1 ⟨rfl, b1⟩
  have b01 := below_on b0 b1
  obtain ⟨c0, c1, c2, c3, c4, c5, c6, c7⟩ := HA.on b1
  go_wp2_with fail
  refine (toEvent_any e p c _ (h.on b01) hl).mono ?_
  rintro en w2 ⟨p2, rfl, n2, b2⟩
  unfold evV
  go_wp2_with fail
  refine (specEventFault_any hform e _ _ _).mono ?_
  rintro en w3 ⟨rfl, b3⟩
  have b13 := below_on b2 b3
  have b03 := below_on b01 b13
  clear c0 c1 c2 c3 c4 c5 c6 c7
  obtain ⟨c0, c1, c2, c3, c4, c5, c6, c7⟩ := (HA.on b1).on b13
  go_wp2_with fail
  refine (toEvent_any e p c _ (h.on b03) hl).mono ?_
  rintro en w4 ⟨p4, rfl, n4, b4⟩
  unfold evV
  go_wp2_with fail
  refine (implEventFault_any e _ _ _).mono ?_
  rintro en w5 ⟨rfl, b5⟩
  have HX := (EvAt.new w4 e p4 e.data.length 33)
  unfold evC at HX
  replace HX := HX.on b5
  have bx : Below w4.heap.size w4 (w4.alloc (.cells (evC e p4 e.data.length) 33)) := (Below.refl _ _).alloc (Nat.le_refl _) _
  unfold evC at bx
  have b45 := below_on bx b5
  have b35 := below_on b4 b45
  have b05 := (below_on b03 b35).drew
  have HA5 := ((HA.on b1).on b13).on b35
  have n45 := n4.on b45
  clear c0 c1 c2 c3 c4 c5 c6 c7
  obtain ⟨c0, c1, c2, c3, c4, c5, c6, c7⟩ := HA5
  obtain ⟨x0, x1, x2, x3, x4, x5, x6, x7⟩ := id HX
  have HX5 : EvAt w5.drew w4.heap.size 0 e p4 e.data.length := HX.keep fun _ => rfl
  have n5 : Bs w5.drew w5.drew.heap.size p4 e.data := n45.keep (Nat.le_refl _) fun _ _ => rfl
  clear b0 b1 b01 b2 b3 b13 b03 b4 b5 bx b45 b35 n2 n4 n45 HX HA
  go_wp2_with fail
  go_region_with (first
    | (go_at_call 17; refine (toEvent_any e p c _ (h.on b05) hl).mono ?_; rintro en w6 ⟨p6, rfl, n6, b6⟩; obtain ⟨y0, y1, y2, y3, y4, y5, y6, y7⟩ := HX5.on b6; unfold evV)
    | (go_at_call 19; refine (eqEvent_same e _ _ _ _ _ (n5.on b6) n6 hl).mono ?_; rintro en w7 ⟨rfl, b7⟩))
  all_goals
    go_wp2
    go_ret
    exact ⟨rfl, below_on (below_on b05 b6) b7⟩

end Go.Proofs.Ytmbdlclnfnkdmaa
