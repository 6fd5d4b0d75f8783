/- FnExactModesFault: the law's walk. -/
import Derived.Test.YtnmnklilmcpkaaaMd
namespace Go.Proofs.Ytnmnklilmcpkaaa
open Go.RowKit
set_option linter.unusedVariables false

set_option maxRecDepth 100000 in
set_option maxHeartbeats 1000000 in
theorem lawModesFault_any (m : Md) (w : World) : Calls Try.prog 4 #[mdV m] w fun e w' => e = .returned (.bool true) ∧ Below w.heap.size w w' := by
  have HT := Lib.hid (toModes_any m)
  have HS := Lib.hid (specModesFault_any m)
  have HI := Lib.hid (implModesFault_any m)
  generalize m.fault = k at *
  obtain ⟨cu, co, mo, sg, pa⟩ := m
  unfold mdV at *
  go_enter Try.func4, Try.ntmps4
  have hc := AtL.new w [.bool cu, .bool co, .int .i64 mo, .bool sg, .bool pa] 40
  go_wp2_with fail
  refine (HT.out _).mono ?_
  rintro e w1 ⟨rfl, b1⟩
  go_wp2_with fail
  refine (HS.out _).mono ?_
  rintro e w2 ⟨rfl, b2⟩
  have b12 := below_on b1 b2
  have hc2 := hc.on b12
  have B2 := Lib.hid (below_on (below_mk w _) b12)
  clear b1 b2 b12 hc
  obtain ⟨r0, r1, r2, r3, r4⟩ := hc2.five
  go_wp2_with fail
  refine (HT.out _).mono ?_
  rintro e w3 ⟨rfl, b3⟩
  go_wp2_with fail
  refine (HI.out _).mono ?_
  rintro e w4 ⟨rfl, b4⟩
  have B4 := Lib.hid (below_on (below_on B2.out b3) b4)
  clear b3 b4
  go_wp2_with fail
  go_ret
  exact ⟨rfl, B4.out⟩

end Go.Proofs.Ytnmnklilmcpkaaa
