/- The program's small functions over layouts: isSplit, rangeUnless, roomOf, hasCell, nodeFault. -/
import Derived.Test.YtbfickdgjgbfhaaQQOpsToLwLy
import Derived.Test.YtbfickdgjgbfhaaQTakesToMem
import Derived.IntWalk
namespace Go.Proofs.Ytbfickdgjgbfhaa
open Go.RowKit
set_option linter.unusedVariables false

set_option maxRecDepth 100000 in
set_option maxHeartbeats 1000000 in
theorem isSplit_any (q : Q) (w : World) : Calls Try.prog 103 #[.agg #[.int .i64 q.x0, .int .i64 q.x1, .int .i64 q.x2, .int .i64 q.x3, .int .i64 q.x4]] w fun e w' => e = .returned (.bool (isSplitB q)) ∧ Below w.heap.size w w' := by
  cases h2 : (q.x0 == 2)
  · cases h3 : (q.x0 == 3)
    all_goals
      go_enter Try.func103, Try.ntmps103
      go_wp2
      go_ret
      exact ⟨ret_bool (by simp [isSplitB, h2, h3]), below_mk _ _⟩
  · go_enter Try.func103, Try.ntmps103
    go_wp2
    go_ret
    exact ⟨ret_bool (by simp [isSplitB, h2]), below_mk _ _⟩

set_option maxHeartbeats 400000 in
theorem rangeUnless_any (b : Bool) (w : World) : Calls Try.prog 110 #[.bool b] w fun e w' => e = .returned (.int .i64 (if b = true then 0 else 3)) ∧ w = w' := by
  cases b
  all_goals
    go_enter Try.func110, Try.ntmps110
    go_wp2
    go_ret
    exact ⟨rfl, rfl⟩

set_option maxRecDepth 100000 in
set_option maxHeartbeats 1000000 in
theorem roomOf_any (r : Q) (k : Int) (w : World) : Calls Try.prog 59 #[.agg #[.int .i64 r.x0, .int .i64 r.x1, .int .i64 r.x2, .int .i64 r.x3, .int .i64 r.x4], .int .i64 k] w fun e w' => e = .returned (.int .i64 (roomQ r k)) ∧ Below w.heap.size w w' := by
  cases h2 : (k == 2)
  all_goals
    go_enter Try.func59, Try.ntmps59
    go_wp2
    go_ret
    exact ⟨ret_int (by simp at h2; simp [roomQ, h2]), below_mk _ _⟩

set_option maxRecDepth 100000 in
set_option maxHeartbeats 2000000 in
theorem hasCell_any (r : Q) (c d : Int) (w : World) (hg : Good r) : Calls Try.prog 112 #[.agg #[.int .i64 r.x0, .int .i64 r.x1, .int .i64 r.x2, .int .i64 r.x3, .int .i64 r.x4], .int .i64 c, .int .i64 d] w fun e w' => e = .returned (.bool (inQ r c d)) ∧ Below w.heap.size w w' := by
  obtain ⟨g1, g2, g3, g4, g5, g6, g7, g8⟩ := hg
  have b2 := fun o1 o2 => below_on (below_mk w o1) (below_mk (w.alloc o1) o2)
  have b3 := fun o1 o2 o3 => below_on (b2 o1 o2) (below_mk ((w.alloc o1).alloc o2) o3)
  have B2 := Lib.hid b2
  have B3 := Lib.hid b3
  clear b2 b3
  cases h1 : inR c r.x1 (r.x1 + r.x3 - 1)
  · go_enter Try.func112, Try.ntmps112
    go_wp2_with (go_at_call 74; refine (isWithin_two _ _ _ _ _ _ (by simp)).mono ?_; rw [h1]; rintro e w' ⟨rfl, rfl⟩)
    go_ret
    exact ⟨ret_bool (by simp [inQ, h1]), B2.out _ _⟩
  · cases h2 : inR d r.x2 (r.x2 + r.x4 - 1)
    all_goals
      go_enter Try.func112, Try.ntmps112
      go_wp2_with (go_at_call 74; refine (isWithin_two _ _ _ _ _ _ (by simp)).mono ?_; (first | rw [h1] | rw [h2]); rintro e w' ⟨rfl, rfl⟩)
      go_ret
      exact ⟨ret_bool (by simp [inQ, h1, h2]), B3.out _ _ _⟩

theorem cells_threeL (w : World) (x y z : Int) (t : TypeId) :
    ∀ i, i < 3 → (w.alloc (.cells #[.int .i64 x, .int .i64 y, .int .i64 z] t)).cell? ⟨w.heap.size, 0 + i, none⟩ = some (.int .i64 ([x, y, z].getD i 0)) := by
  intro i hi
  match i, hi with
  | 0, _ => simp
  | 1, _ => simp
  | 2, _ => simp
theorem areZero_threeL (a b c : Int) (w : World) (t : TypeId) (g : Nat) (hg : g = w.heap.size) :
    Calls Try.prog 109 #[.slice (some ⟨g, 0, none⟩) 3 3] (w.alloc (.cells #[.int .i64 a, .int .i64 b, .int .i64 c] t))
      fun e w' => e = .returned (.bool (zeros [a, b, c])) ∧ w.alloc (.cells #[.int .i64 a, .int .i64 b, .int .i64 c] t) = w' := by
  subst hg
  exact areZero_any _ 0 3 3 [a, b, c] _ rfl (by omega) (cells_threeL w a b c t)

set_option maxRecDepth 100000 in
set_option maxHeartbeats 2000000 in
theorem nodeFault_any (q : Q) (i m : Nat) (w : World) (hi : i ≤ 100) (hm : m ≤ 100) :
    Calls Try.prog 85 #[.agg #[.int .i64 q.x0, .int .i64 q.x1, .int .i64 q.x2, .int .i64 q.x3, .int .i64 q.x4], .int .i64 i, .int .i64 m] w fun e w' => e = .returned (.int .i64 (ndFault q i m)) ∧ Below w.heap.size w w' := by
  have hi0 : (0 : Int) ≤ i := by omega
  have hm0 : (0 : Int) ≤ m := by omega
  obtain ⟨x0, x1, x2, x3, x4⟩ := q
  dsimp only
  have b2 := fun o1 o2 => below_on (below_mk w o1) (below_mk (w.alloc o1) o2)
  have b3 := fun o1 o2 o3 => below_on (b2 o1 o2) (below_mk ((w.alloc o1).alloc o2) o3)
  have B2 := Lib.hid b2
  have B3 := Lib.hid b3
  clear b2 b3
  by_cases h1 : x0 = 1
  · subst h1
    cases hz : zeros [x2, x3, x4]
    · have HR := Lib.hid (show ndFault ⟨1, x1, x2, x3, x4⟩ i m = 1 by unfold ndFault; simp only [if_true]; rw [if_neg (by simp [zeros] at hz; intro h; exact absurd h.2.2 (hz h.1 h.2.1))])
      go_enter Try.func85, Try.ntmps85
      go_wp2_with (first
        | (go_at_call 109; refine (areZero_threeL _ _ _ _ _ _ (by simp)).mono ?_; rw [hz]; rintro e w' ⟨rfl, rfl⟩)
        | (go_at_call 103; refine (isSplit_any ⟨1, x1, x2, x3, x4⟩ _).mono ?_; rw [show isSplitB ⟨1, x1, x2, x3, x4⟩ = false from rfl]; rintro e w' ⟨rfl, hbs⟩))
      go_ret
      exact ⟨ret_int HR.out.symm, below_on (B2.out _ _) hbs⟩
    · cases h5 : inR x1 0 5
      all_goals
        have HR := Lib.hid (show ndFault ⟨1, x1, x2, x3, x4⟩ i m = _ by unfold ndFault; simp only [if_true]; rw [if_pos (by simp [zeros] at hz; exact hz), h5])
        go_enter Try.func85, Try.ntmps85
        go_wp2_with (first
          | (go_at_call 109; refine (areZero_threeL _ _ _ _ _ _ (by simp)).mono ?_; rw [hz]; rintro e w' ⟨rfl, rfl⟩)
          | (go_at_call 74; refine (isWithin_two _ _ _ _ _ _ (by simp)).mono ?_; rw [h5]; rintro e w' ⟨rfl, rfl⟩)
          | (go_at_call 110; refine (rangeUnless_any _ _).mono ?_; rintro e w' ⟨rfl, rfl⟩))
        go_ret
        exact ⟨ret_int (by rw [HR.out]; simp), B3.out _ _ _⟩
  · have e1 : (x0 == 1) = false := by simpa using h1
    cases hs : isSplitB ⟨x0, x1, x2, x3, x4⟩
    · have HR := Lib.hid (show ndFault ⟨x0, x1, x2, x3, x4⟩ i m = 1 by unfold ndFault; dsimp only; rw [if_neg h1, if_neg (by simp [isSplitB] at hs; omega)])
      clear h1
      go_enter Try.func85, Try.ntmps85
      go_wp2_with (go_at_call 103; refine (isSplit_any ⟨x0, x1, x2, x3, x4⟩ _).mono ?_; rw [hs]; rintro e w' ⟨rfl, hbs⟩)
      go_ret
      exact ⟨ret_int HR.out.symm, below_on (below_mk _ _) hbs⟩
    · have h2 : x0 = 2 ∨ x0 = 3 := by simpa [isSplitB] using hs
      cases h3 : (x1 == 0)
      · have HR := Lib.hid (show ndFault ⟨x0, x1, x2, x3, x4⟩ i m = 1 by unfold ndFault; dsimp only; rw [if_neg h1, if_pos h2, if_neg (by simpa using h3)])
        clear h1 h2
        go_enter Try.func85, Try.ntmps85
        go_wp2_with fail
        refine (isSplit_any ⟨x0, x1, x2, x3, x4⟩ _).mono ?_
        rw [hs]
        rintro e w1 ⟨rfl, hbs⟩
        obtain ⟨hc, hf⟩ := bcell hbs
        have HB := Lib.hid (below_on (below_mk _ _) hbs)
        clear hbs
        go_wp2
        go_ret
        exact ⟨ret_int HR.out.symm, HB.out⟩
      · have HR := Lib.hid (show ndFault ⟨x0, x1, x2, x3, x4⟩ i m = (if inR x3 (i + 1) (m - 1) = true ∧ inR x4 (i + 1) (m - 1) = true then 0 else 3) by unfold ndFault; dsimp only; rw [if_neg h1, if_pos h2, if_pos (by simpa using h3)])
        clear h1 h2
        cases g3 : inR x3 (i + 1) (m - 1) <;> cases g4 : inR x4 (i + 1) (m - 1)
        all_goals
          rw [g3, g4] at HR
          go_enter Try.func85, Try.ntmps85
          go_wp2_with fail
          refine (isSplit_any ⟨x0, x1, x2, x3, x4⟩ _).mono ?_
          rw [hs]
          rintro e w1 ⟨rfl, hbs⟩
          have X := (AtL.new w [.int .i64 x0, .int .i64 x1, .int .i64 x2, .int .i64 x3, .int .i64 x4] 76).on hbs
          have HB := Lib.hid (below_on (below_mk _ _) hbs)
          have hlt := X.1
          obtain ⟨d0, d1, d2, d3, d4⟩ := X.five
          clear hbs X
          go_wp2_with (first
            | (go_at_call 74; refine (isWithin_two _ _ _ _ _ _ (by simp)).mono ?_; (first | rw [g3] | rw [g4]); rintro e w' ⟨rfl, rfl⟩)
            | (go_at_call 110; refine (rangeUnless_any _ _).mono ?_; rintro e w' ⟨rfl, rfl⟩))
          go_ret
          exact ⟨ret_int (by rw [HR.out]; simp), by first | exact below_on HB.out (below_mk _ _) | exact below_on (below_on HB.out (below_mk _ _)) (below_mk _ _)⟩

end Go.Proofs.Ytbfickdgjgbfhaa
