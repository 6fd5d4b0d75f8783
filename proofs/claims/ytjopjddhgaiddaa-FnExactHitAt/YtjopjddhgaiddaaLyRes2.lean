/- RectOf of the program and of the model. -/
import Derived.Test.YtjopjddhgaiddaaLyRes
namespace Go.Proofs.Ytjopjddhgaiddaa
open Go.RowKit
set_option linter.unusedVariables false

theorem OwnQ.cap {T : TypeId} {w : World} {base : Nat} {p : Option Addr} {n c : Nat} {l : List Q} (h : OwnQ T w base (.slice p n c) l) : l.length ≤ c := by
  rcases h.2 with ⟨e, hn⟩ | ⟨g, cap, cur, e, hb, hh, hc, _⟩
  · simp at e; omega
  · simp at e; omega
theorem qx_row {w wr : World} {lo : Nat} {bn off : Nat} {L : List Q} {j : Nat} {u0 u1 : Value} (h : Qx wr lo wr.heap.size (some ⟨bn, off, none⟩) L) (hj : j < L.length) (h1 : w.heap.size + 1 < lo) (h2 : w.heap.size ≤ lo) :
    Qx ((wr.setCell ⟨w.heap.size + 1, 0, none⟩ u0).setCell ⟨w.heap.size + 1, 1, none⟩ u1) w.heap.size ((wr.setCell ⟨w.heap.size + 1, 0, none⟩ u0).setCell ⟨w.heap.size + 1, 1, none⟩ u1).heap.size (some ⟨bn, off + j * 5, none⟩) [nth L j] := by
  intro _
  obtain ⟨b, o, e, hlo, hhi, hc⟩ := h (by intro e; simp [e] at hj)
  simp at e
  obtain ⟨rfl, rfl⟩ := e
  refine ⟨bn, off + j * 5, rfl, by omega, by simpa using hhi, fun i hi => ?_⟩
  obtain rfl : i = 0 := by simpa using hi
  have hq := hc j hj
  refine QAt.keep (w := wr) (by simpa [nth] using hq) fun o => ?_
  exact (World.cell?_setCell_far _ _ _ _ (by simp; omega)).trans (World.cell?_setCell_far _ _ _ _ (by simp; omega))
theorem findQ_drop (pn : Int) (L : List Q) (j : Nat) (h : j < L.length) : findQ pn (L.drop j) = if (nth L j).x0 == pn then [nth L j] else findQ pn (L.drop (j + 1)) := by
  rw [List.drop_eq_getElem_cons h, findQ, nth_eq h]
theorem ro_found {x : Ly} {pn : Int} {r : Q} (hf : lyFault x = 0) (h : findQ pn (lyRects x) = [r]) : roOf x pn = (0, [r]) := by unfold roOf; rw [if_pos hf, h]; rfl
theorem ro_none {x : Ly} {pn : Int} (hf : lyFault x = 0) (h : findQ pn (lyRects x) = []) : roOf x pn = (4, []) := by unfold roOf; rw [if_pos hf, h]; rfl
theorem ro_fault {x : Ly} {pn : Int} (hf : lyFault x ≠ 0) : roOf x pn = (lyFault x, []) := by unfold roOf; rw [if_neg hf]

set_option maxRecDepth 100000 in
set_option maxHeartbeats 4000000 in
theorem implRectOf_any (x : Ly) (pn : Int) (p : Option Addr) (c : Nat) (w : World) (h : Qs w w.heap.size p x.nodes) (hl : x.nodes.length ≤ 1048576) :
    Calls Try.prog 24 #[.agg #[.int .i64 x.wide, .int .i64 x.high, .slice p x.nodes.length c], .int .i64 pn] w (NewRr w (roOf x pn)) := by
  have HX := Lib.hid (TwoAt.start w x p c 29 36 h)
  have HF := Lib.hid (fun W h => implLayoutFault_any x p c W h hl)
  clear h
  by_cases hf : lyFault x = 0
  · have HRF := Lib.hid (fun r => ro_found (x := x) (pn := pn) (r := r) hf)
    have HRN := Lib.hid (ro_none (x := x) (pn := pn) hf)
    rw [hf] at HF
    obtain ⟨R, hr, ht, -⟩ := run_of_fault hf
    have HP := Lib.hid (fun W h => paneRects_any x p c W h ht R hr)
    have hrl := rcOf_len x.nodes x.nodes.length 0 (whole x.wide x.high)
    have hpow : 2 ^ x.nodes.length ≤ 2 ^ 11 := Nat.pow_le_pow_right (by omega) ht.n1
    have hpow2 : (2 : Nat) ^ 11 = 2048 := by decide
    have hll : (lyRects x).length ≤ 2048 := by unfold lyRects; omega
    clear hf hr ht hrl hpow hpow2
    generalize lyRects x = L at *
    generalize roOf x pn = ro at *
    go_enter Try.func24, Try.ntmps24
    go_wp2_with fail
    refine (HF.out _ HX.out.ly.nodes).mono ?_
    rintro e w1 ⟨rfl, b1⟩
    have HX1 := Lib.hid (HX.out.on b1)
    obtain ⟨x0, x1, x2⟩ := HX1.out.ly.cells.tri
    clear b1 HX
    go_wp2_with fail
    refine (HP.out w1 HX1.out.ly.nodes).mono ?_
    rintro e w2 ⟨v, rfl, ov, b2⟩
    have HX2 := Lib.hid (HX1.out.on b2)
    have hsz := HX1.out.res.cells.1
    have hsz2 := b2.size
    obtain ⟨pv, cv, rfl⟩ := ov.slice
    have HV := Lib.hid ov.bs.2
    clear b2 ov x0 x1 x2 HX1 HP
    go_wp2
    go_loopw [7, 17] (fun _ i wr => ∃ j : Nat, j ≤ L.length ∧ i = .int .i64 j ∧ findQ pn L = findQ pn (L.drop j) ∧ Below w2.heap.size w2 wr) (fun _ i _ => L.length - (intOf i).toNat)
    case atStart => exact ⟨0, by omega, rfl, rfl, Below.refl _ _⟩
    case round =>
      obtain ⟨j, hj, rfl, hs, hb⟩ := hrel
      have HS := Lib.hid hs
      have HB := Lib.hid hb
      clear hs hb
      by_cases hlt : j < L.length
      · obtain ⟨bn, off, rfl, _, hbn, hc⟩ := (HV.out.on HB.out) (by intro e; simp [e] at hlt)
        obtain ⟨c0, c1, c2, c3, c4⟩ := hc j hlt
        have i3 : (j : Int) < (L.length : Int) := by omega
        have i0 : (0 : Int) ≤ (j : Int) := by omega
        have HD := Lib.hid (findQ_drop pn L j hlt)
        clear hc
        cases hq : ((nth L j).x0 == pn)
        · go_wp2
          exact ⟨⟨j + 1, by omega, by go_num, by rw [HS.out, HD.out, hq]; rfl, below_on HB.out (below_mk _ _)⟩, by simp [intOf]; omega⟩
        · have HE := Lib.hid (HRF.out (nth L j) (by rw [HS.out, HD.out, hq]; rfl))
          have hX3 := (HX2.out.on HB.out).on (below_on (below_mk wr (.cells #[.int .i64 (nth L j).x0, .int .i64 (nth L j).x1, .int .i64 (nth L j).x2, .int .i64 (nth L j).x3, .int .i64 (nth L j).x4] 59)) (below_mk _ (.cells #[.int .i64 (nth L j).x0, .int .i64 (nth L j).x1, .int .i64 (nth L j).x2, .int .i64 (nth L j).x3, .int .i64 (nth L j).x4] 59)))
          have hO := ownQ_one 59 (wr.alloc (.cells #[.int .i64 (nth L j).x0, .int .i64 (nth L j).x1, .int .i64 (nth L j).x2, .int .i64 (nth L j).x3, .int .i64 (nth L j).x4] 59)) (nth L j) (Nat.le_refl _) rfl
          rw [World.size_alloc] at hO
          have HX3 := Lib.hid hX3
          have HO := Lib.hid hO
          obtain ⟨z0, z1⟩ := hX3.res.cells.two
          have zf := hX3.res.free
          have hsz3 := HB.out.size
          clear hX3 hO
          go_wp2
          rw [HE.out]
          obtain ⟨q1, q2⟩ := rr_own (w := w) HO.out (by omega) HX3.out.below (.int .i64 0) (.slice (some ⟨wr.heap.size + 1, 0, none⟩) 1 1)
          exact bodyPost_ret (v := rrV 0 (.slice (some ⟨wr.heap.size + 1, 0, none⟩) 1 1)) (by simp [results, Try.results24, rrV, go_sem, z0, z1]) rfl ⟨_, rfl, q1, q2⟩
      · obtain rfl : j = L.length := by omega
        have HE := Lib.hid (HRN.out (by rw [HS.out, List.drop_length]; rfl))
        have HX3 := Lib.hid (HX2.out.on HB.out)
        obtain ⟨z0, z1⟩ := HX3.out.res.cells.two
        have zf := HX3.out.res.free
        go_wp2
        rw [HE.out]
        exact bodyPost_ret (v := rrV 4 (.slice none 0 0)) (by simp [results, Try.results24, rrV, go_sem, z0, z1]) rfl ⟨_, rfl, ownQ_nil _ _ _, rr_low HX3.out.below _ _⟩
  · rw [ro_fault hf]
    have hf2 : (lyFault x != 0) = true := by simpa using hf
    clear hf
    generalize lyFault x = k at *
    go_enter Try.func24, Try.ntmps24
    go_wp2_with fail
    refine (HF.out _ HX.out.ly.nodes).mono ?_
    rintro e w1 ⟨rfl, b1⟩
    have HX1 := Lib.hid (HX.out.on b1)
    obtain ⟨z0, z1⟩ := HX1.out.res.cells.two
    have zf := HX1.out.res.free
    clear b1 HX
    go_wp2
    exact bodyPost_ret (v := rrV k (.slice none 0 0)) (by simp [results, Try.results24, rrV, go_sem, z0, z1]) rfl ⟨_, rfl, ownQ_nil _ _ _, rr_low HX1.out.below _ _⟩

set_option maxRecDepth 100000 in
set_option maxHeartbeats 4000000 in
theorem specRectOf_any (x : Ly) (pn : Int) (p : Option Addr) (c : Nat) (w : World) (h : Qs w w.heap.size p x.nodes) (hl : x.nodes.length ≤ 1048576) :
    Calls Try.prog 23 #[.agg #[.int .i64 x.wide, .int .i64 x.high, .slice p x.nodes.length c], .int .i64 pn] w (NewRx w (roOf x pn)) := by
  have HX := Lib.hid (TwoAt.start w x p c 29 36 h)
  have HF := Lib.hid (fun W h => specLayoutFault_any x p c W h hl)
  clear h
  by_cases hf : lyFault x = 0
  · have HRF := Lib.hid (fun r => ro_found (x := x) (pn := pn) (r := r) hf)
    have HRN := Lib.hid (ro_none (x := x) (pn := pn) hf)
    rw [hf] at HF
    obtain ⟨R, hr, ht, -⟩ := run_of_fault hf
    have HP := Lib.hid (fun b W h => l6All_any x p c b W h ht.n0 ht.n1 ht.okay ht.wide ht.high)
    have hrl := rcOf_len x.nodes x.nodes.length 0 (whole x.wide x.high)
    have hpow : 2 ^ x.nodes.length ≤ 2 ^ 11 := Nat.pow_le_pow_right (by omega) ht.n1
    have hpow2 : (2 : Nat) ^ 11 = 2048 := by decide
    have hll : (lyRects x).length ≤ 2048 := by unfold lyRects; omega
    clear hf hr ht hrl hpow hpow2
    generalize lyRects x = L at *
    generalize roOf x pn = ro at *
    go_enter Try.func23, Try.ntmps23
    go_wp2_with fail
    refine (HF.out _ HX.out.ly.nodes).mono ?_
    rintro e w1 ⟨rfl, b1⟩
    have HX1 := Lib.hid (HX.out.on b1)
    obtain ⟨x0, x1, x2⟩ := HX1.out.ly.cells.tri
    clear b1 HX
    go_wp2_with fail
    refine (HP.out _ w1 HX1.out.ly).mono ?_
    rintro e w2 ⟨v, rfl, ov, b2⟩
    have HX2 := Lib.hid (HX1.out.on b2)
    have hsz := HX1.out.res.cells.1
    have hsz2 := b2.size
    obtain ⟨pv, cv, rfl⟩ := ov.slice
    have HV := Lib.hid ov.qx.2
    have hcv := ov.cap
    clear b2 ov x0 x1 x2 HX1 HP
    go_wp2
    go_loopw [8, 21] (fun _ i wr => ∃ j : Nat, j ≤ L.length ∧ i = .int .i64 j ∧ findQ pn L = findQ pn (L.drop j) ∧ Below w2.heap.size w2 wr) (fun _ i _ => L.length - (intOf i).toNat)
    case atStart => exact ⟨0, by omega, rfl, rfl, Below.refl _ _⟩
    case round =>
      obtain ⟨j, hj, rfl, hs, hb⟩ := hrel
      have HS := Lib.hid hs
      have HB := Lib.hid hb
      clear hs hb
      by_cases hlt : j < L.length
      · obtain ⟨bn, off, rfl, _, hbn, hc⟩ := (HV.out.on HB.out) (by intro e; simp [e] at hlt)
        obtain ⟨c0, c1, c2, c3, c4⟩ := hc j hlt
        have i3 : (j : Int) < (L.length : Int) := by omega
        have i0 : (0 : Int) ≤ (j : Int) := by omega
        have HD := Lib.hid (findQ_drop pn L j hlt)
        clear hc
        cases hq : ((nth L j).x0 == pn)
        · go_wp2
          exact ⟨⟨j + 1, by omega, by go_num, by rw [HS.out, HD.out, hq]; rfl, HB.out⟩, by simp [intOf]; omega⟩
        · have HE := Lib.hid (HRF.out (nth L j) (by rw [HS.out, HD.out, hq]; rfl))
          have HX3 := Lib.hid (HX2.out.on HB.out)
          obtain ⟨z0, z1⟩ := HX3.out.res.cells.two
          have zf := HX3.out.res.free
          have hsz3 := HB.out.size
          have i5 : (j : Int) + 1 ≤ (cv : Int) := by omega
          have i6 : ¬ cv = j := by omega
          have i7 : j + 1 ≤ cv := by omega
          have hcell := HV.out.on HB.out
          have HCC := Lib.hid hcell
          clear hcell
          go_wp2
          rw [HE.out]
          refine bodyPost_ret (v := rrV 0 (.slice (some ⟨bn, off + j * 5, none⟩) 1 (cv - j))) (by simp [results, Try.results23, rrV, go_sem, z0, z1]) rfl ⟨_, _, rfl, ?_, rr_low HX3.out.below _ _⟩
          exact qx_row HCC.out hlt (by omega) (by omega)
      · obtain rfl : j = L.length := by omega
        have HE := Lib.hid (HRN.out (by rw [HS.out, List.drop_length]; rfl))
        have HX3 := Lib.hid (HX2.out.on HB.out)
        obtain ⟨z0, z1⟩ := HX3.out.res.cells.two
        have zf := HX3.out.res.free
        go_wp2
        rw [HE.out]
        exact bodyPost_ret (v := rrV 4 (.slice none 0 0)) (by simp [results, Try.results23, rrV, go_sem, z0, z1]) rfl ⟨_, _, rfl, qx_nil _ _ _ _, rr_low HX3.out.below _ _⟩
  · rw [ro_fault hf]
    have hf2 : (lyFault x != 0) = true := by simpa using hf
    clear hf
    generalize lyFault x = k at *
    go_enter Try.func23, Try.ntmps23
    go_wp2_with fail
    refine (HF.out _ HX.out.ly.nodes).mono ?_
    rintro e w1 ⟨rfl, b1⟩
    have HX1 := Lib.hid (HX.out.on b1)
    obtain ⟨z0, z1⟩ := HX1.out.res.cells.two
    have zf := HX1.out.res.free
    clear b1 HX
    go_wp2
    exact bodyPost_ret (v := rrV k (.slice none 0 0)) (by simp [results, Try.results23, rrV, go_sem, z0, z1]) rfl ⟨_, _, rfl, qx_nil _ _ _ _, rr_low HX1.out.below _ _⟩

end Go.Proofs.Ytjopjddhgaiddaa
