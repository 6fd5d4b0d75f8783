/- What FnRects' walk wants besides. -/
import Derived.Test.YtbfickdgjgbfhaaQLyDr3ToLyDr5
import Derived.Test.YtbfickdgjgbfhaaQLyHitToLyHit2
import Derived.Test.YtbfickdgjgbfhaaQQOpsToLwLy
import Derived.Test.YtbfickdgjgbfhaaQFaultToLws
import Derived.Test.YtbfickdgjgbfhaaQQMarksToRSt
namespace Go.Proofs.Ytbfickdgjgbfhaa
open Go.RowKit
set_option linter.unusedVariables false
set_option linter.unusedSimpArgs false

theorem rrOf_code (x : Ly) : (rrOf x).1 = lyFault x := by
  unfold rrOf
  split
  · rename_i h; rw [h]
  · rfl
theorem qEq_self (a : Q) : qEq a a = true := by simp [qEq]
theorem sameQ_self : ∀ l : List Q, sameQ l l = true
  | [] => rfl
  | a :: t => by simp [sameQ, qEq_self, sameQ_self t]
theorem lwRects_same (p q : Option Addr) (c d : Nat) (x : List Q) (w : World) (h : Qs w w.heap.size p x) (k : Qs w w.heap.size q x) (hx : x.length ≤ 1048576) :
    Calls Try.prog 35 #[.slice p x.length c, .slice q x.length d] w fun e w' => e = .returned (.bool true) ∧ Below w.heap.size w w' := by
  have := lwRects_any p q c d x x w h k hx
  rwa [sameQ_self] at this
/-- what is hit, where the code is 0 -/
theorem hit_law (x : Ly) (c d : Int) (h : (lyHit x c d).1 = 0) : rrOf x = (0, lyRects x) ∧ (∀ r ∈ lyRects x, inQ r c d = true → (lyHit x c d).2 = r.x0) ∧ hitN (lyRects x) c d ≤ 1 ∧ (hitN (lyRects x) c d = 0 → (lyHit x c d).2 = -1) ∧ ∀ r ∈ lyRects x, Good r := by
  by_cases hf : lyFault x = 0
  · have hr : rrOf x = (0, lyRects x) := by unfold rrOf; rw [if_pos hf]
    by_cases hi : inR c 0 (x.wide - 1) = true ∧ inR d 0 (x.high - 1) = true
    · have e := hit_in hf hi.1 hi.2
      rw [e]
      have ha := rects_apart hf c d
      exact ⟨hr, fun r hm hc => hit_one c d _ ha r hm hc, hitN_le c d _ ha, fun h0 => hitN_zero c d _ h0, rects_good hf⟩
    · rw [hit_out hf hi] at h; simp at h
  · rw [hit_fault hf] at h
    exact absurd h hf

theorem fld_rrS (x : Int) (p : Option Addr) (n c : Nat) (w : World) : (Instr.field 60 (.agg #[.int .i64 x, .slice p n c]) 1).run Try.prog w = .ok (.slice p n c) w := by kernel_rfl
theorem irGuard : Try.prog.eqGuardType Try.prog.depth 43 = false := by kernel_rfl
theorem run_neq_ir (a b : Int) (w : World) : (binOp .neq 43 (.agg #[.int .i64 a, .int .i64 b]) (.agg #[.int .i64 a, .int .i64 b])).run Try.prog w = .ok (.bool false) w := by
  have hS : Try.prog.underlying 43 = some (.struct (Try.prog.fieldsOf 43)) := by kernel_rfl
  have hp : Try.prog.stoodInHeld 43 = false := by kernel_rfl
  have u3 := Try.underlying2
  have a3 := Try.isAgg2
  have z3 := Try.sizeOf2
  rw [run_neq_struct, show (10000 : Nat) = 9999 + 1 from rfl, run_equalIn_agg w 9999 43 _ _ hS hp]
  simp only [Program.fieldsOf, Try.underlying43]
  go_simp
theorem run_eql_ir (a b : Int) (w : World) : (binOp .eql 43 (.agg #[.int .i64 a, .int .i64 b]) (.agg #[.int .i64 a, .int .i64 b])).run Try.prog w = .ok (.bool true) w := by
  have hS : Try.prog.underlying 43 = some (.struct (Try.prog.fieldsOf 43)) := by kernel_rfl
  have hp : Try.prog.stoodInHeld 43 = false := by kernel_rfl
  have u3 := Try.underlying2
  have a3 := Try.isAgg2
  have z3 := Try.sizeOf2
  rw [run_eql_struct, show (10000 : Nat) = 9999 + 1 from rfl, run_equalIn_agg w 9999 43 _ _ hS hp]
  simp only [Program.fieldsOf, Try.underlying43]
  go_simp

end Go.Proofs.Ytbfickdgjgbfhaa
