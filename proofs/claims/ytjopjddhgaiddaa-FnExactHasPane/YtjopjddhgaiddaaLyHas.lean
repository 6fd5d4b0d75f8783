/- HasPane of the program and of the model. -/
import Derived.Test.YtjopjddhgaiddaaLyRes2
namespace Go.Proofs.Ytjopjddhgaiddaa
open Go.RowKit
set_option linter.unusedVariables false

theorem fld_rr (x : Int) (v : Value) (w : World) : (Instr.field 36 (.agg #[.int .i64 x, v]) 0).run Try.prog w = .ok (.int .i64 x) w := by kernel_rfl
theorem findQ_any (pn : Int) : ∀ L : List Q, (findQ pn L).isEmpty = !(L.any fun r => r.x0 == pn)
  | [] => rfl
  | r :: t => by
    unfold findQ
    by_cases h : (r.x0 == pn) = true
    · simp [h]
    · rw [if_neg h, findQ_any pn t]; simp [h]
theorem has_ro (x : Ly) (pn : Int) : ((roOf x pn).1 == 0) = lyHas x pn := by
  unfold roOf lyHas
  by_cases hf : lyFault x = 0
  · rw [if_pos hf]
    obtain ⟨R, hr, ht, hi⟩ := run_of_fault hf
    have h1 := has_leaf hi ht.okay ht.uses ht.n0 pn
    rw [← ht.rects hr] at h1
    have h2 := findQ_any pn (lyRects x)
    rw [h1] at h2
    rw [h2]
    cases hasB x.nodes pn <;> simp [hf]
  · rw [if_neg hf]; simp [hf]

set_option maxRecDepth 100000 in
set_option maxHeartbeats 1000000 in
theorem implHasPane_any (x : Ly) (pn : Int) (p : Option Addr) (c : Nat) (w : World) (h : Qs w w.heap.size p x.nodes) (hl : x.nodes.length ≤ 1048576) :
    Calls Try.prog 29 #[.agg #[.int .i64 x.wide, .int .i64 x.high, .slice p x.nodes.length c], .int .i64 pn] w fun e w' => e = .returned (.bool (lyHas x pn)) ∧ Below w.heap.size w w' := by
  have HC := Lib.hid (implRectOf_any x pn p c _ (h.on (below_mk w (.cells #[.int .i64 x.wide, .int .i64 x.high, .slice p x.nodes.length c] 29))) hl)
  have HE := Lib.hid (has_ro x pn)
  clear h
  generalize roOf x pn = ro at *
  have hfd : ∀ v w, (Instr.field 36 (.agg #[.int .i64 ro.1, v]) 0).run Try.prog w = .ok (.int .i64 ro.1) w := fun v w => fld_rr ro.1 v w
  go_enter Try.func29, Try.ntmps29
  go_wp2_with fail
  refine HC.out.mono ?_
  rintro e w1 ⟨v, rfl, ov, b1⟩
  have HB := Lib.hid (below_on (below_mk w _) b1)
  unfold rrV
  clear ov b1
  go_wp2
  go_ret
  exact ⟨ret_bool HE.out, HB.out⟩

theorem hasB_drop (ns : List Q) (pn : Int) (j : Nat) (h : j < ns.length) : hasB (ns.drop j) pn = (((nth ns j).x0 == 1 && (nth ns j).x1 == pn) || hasB (ns.drop (j + 1)) pn) := by
  unfold hasB
  rw [List.drop_eq_getElem_cons h, List.any_cons, nth_eq h]

set_option maxRecDepth 100000 in
set_option maxHeartbeats 2000000 in
theorem l6Has_any (x : Ly) (pn : Int) (p : Option Addr) (c b : Nat) (w : World) (h : LyAt w b x p c) (hl : x.nodes.length ≤ 1048576) :
    Calls Try.prog 56 #[.pointer (some ⟨b, 0, none⟩), .int .i64 pn] w fun e w' => e = .returned (.bool (hasB x.nodes pn)) ∧ w = w' := by
  obtain ⟨x0, x1, x2⟩ := h.cells.tri
  have hbl := h.cells.1
  have H := Lib.hid h.nodes
  clear h
  obtain ⟨wide, high, ns⟩ := x
  dsimp only at *
  go_enter Try.func56, Try.ntmps56
  go_wp2
  go_loop [5, 11] (fun _ i => ∃ j : Nat, j ≤ ns.length ∧ i = .int .i64 j ∧ hasB ns pn = hasB (ns.drop j) pn) (fun _ i => ns.length - (intOf i).toNat)
  case atStart => exact ⟨0, by omega, rfl, rfl⟩
  case round =>
    obtain ⟨j, hj, rfl, hs⟩ := hrel
    have HS := Lib.hid hs
    clear hs
    by_cases hlt : j < ns.length
    · obtain ⟨bn, off, rfl, _, hbn, hc⟩ := H.out (by intro e; simp [e] at hlt)
      obtain ⟨c0, c1, c2, c3, c4⟩ := hc j hlt
      have HD := Lib.hid (hasB_drop ns pn j hlt)
      have i3 : (j : Int) < (ns.length : Int) := by omega
      have i0 : (0 : Int) ≤ (j : Int) := by omega
      clear hc
      cases h1 : ((nth ns j).x0 == 1)
      · go_wp2
        exact ⟨⟨j + 1, by omega, by go_num, by rw [HS.out, HD.out, h1]; rfl⟩, by simp [intOf]; omega⟩
      · cases h2 : ((nth ns j).x1 == pn)
        · go_wp2
          exact ⟨⟨j + 1, by omega, by go_num, by rw [HS.out, HD.out, h1, h2]; rfl⟩, by simp [intOf]; omega⟩
        · go_wp2
          go_ret
          exact ⟨ret_bool (by rw [HS.out, HD.out, h1, h2]; rfl), rfl⟩
    · obtain rfl : j = ns.length := by omega
      go_wp2
      go_ret
      exact ⟨ret_bool (by rw [HS.out, List.drop_length]; rfl), rfl⟩

set_option maxRecDepth 100000 in
set_option maxHeartbeats 1000000 in
theorem specHasPane_any (x : Ly) (pn : Int) (p : Option Addr) (c : Nat) (w : World) (h : Qs w w.heap.size p x.nodes) (hl : x.nodes.length ≤ 1048576) :
    Calls Try.prog 28 #[.agg #[.int .i64 x.wide, .int .i64 x.high, .slice p x.nodes.length c], .int .i64 pn] w fun e w' => e = .returned (.bool (lyHas x pn)) ∧ Below w.heap.size w w' := by
  have HX := Lib.hid (LyAt.new w x p c 29 h)
  unfold lyL at HX
  have HC := Lib.hid (specLayoutFault_any x p c _ HX.out.nodes hl)
  have HB0 := Lib.hid (below_mk w (.cells #[.int .i64 x.wide, .int .i64 x.high, .slice p x.nodes.length c] 29))
  have HE : Hid (lyHas x pn = (decide (lyFault x = 0) && hasB x.nodes pn)) := Lib.hid rfl
  clear h
  by_cases hf : lyFault x = 0
  · have HE2 := Lib.hid (show lyHas x pn = hasB x.nodes pn by rw [HE.out]; simp [hf])
    rw [hf] at HC
    clear hf HE
    go_enter Try.func28, Try.ntmps28
    go_wp2_with fail
    refine HC.out.mono ?_
    rintro e w1 ⟨rfl, b1⟩
    have HX1 := Lib.hid (HX.out.on b1)
    have HB := Lib.hid (below_on HB0.out b1)
    clear b1
    go_wp2_with fail
    refine (l6Has_any x pn p c w.heap.size w1 HX1.out hl).mono ?_
    rintro e w2 ⟨rfl, rfl⟩
    go_wp2
    go_ret
    exact ⟨ret_bool HE2.out.symm, HB.out⟩
  · have HE2 := Lib.hid (show lyHas x pn = false by rw [HE.out]; simp [hf])
    have hf2 : (lyFault x == 0) = false := by simpa using hf
    clear hf HE
    generalize lyFault x = k at *
    go_enter Try.func28, Try.ntmps28
    go_wp2_with fail
    refine HC.out.mono ?_
    rintro e w1 ⟨rfl, b1⟩
    have HB := Lib.hid (below_on HB0.out b1)
    clear b1
    go_wp2
    go_ret
    exact ⟨ret_bool HE2.out.symm, HB.out⟩

end Go.Proofs.Ytjopjddhgaiddaa
