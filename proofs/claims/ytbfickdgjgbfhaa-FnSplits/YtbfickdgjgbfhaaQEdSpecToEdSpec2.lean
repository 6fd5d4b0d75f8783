/- The model's l7Done, l7At, l7Up, l7Asked, TidyLayout. -/
import Derived.Test.YtbfickdgjgbfhaaQEdDataToEdKill
import Derived.Test.YtbfickdgjgbfhaaQLyImpl5ToLyIn
namespace Go.Proofs.Ytbfickdgjgbfhaa
open Go.RowKit
set_option linter.unusedVariables false
set_option linter.unusedSimpArgs false

theorem lrs_ly {W : World} {b r : Nat} {L : List Value} (h : AtL W b L) (hne : b ≠ r) (u0 u1 u2 u3 : Value) : AtL ((((W.setCell ⟨r, 0, none⟩ u0).setCell ⟨r, 1, none⟩ u1).setCell ⟨r, 2, none⟩ u2).setCell ⟨r, 3, none⟩ u3) b L :=
  (((h.other hne _ _).other hne _ _).other hne _ _).other hne _ _
theorem lrs_low {w W : World} {r : Nat} (hb : Below w.heap.size w W) (hr : w.heap.size ≤ r) (u0 u1 u2 u3 : Value) : Below w.heap.size w ((((W.setCell ⟨r, 0, none⟩ u0).setCell ⟨r, 1, none⟩ u1).setCell ⟨r, 2, none⟩ u2).setCell ⟨r, 3, none⟩ u3) :=
  (((hb.setCell (by exact hr) u0).setCell (by exact hr) u1).setCell (by exact hr) u2).setCell (by exact hr) u3
theorem lrs_own {W : World} {v : Value} {l : List Q} {B r : Nat} (ho : OwnQ 76 W B v l) (hB : r < B) (u0 u1 u2 u3 : Value) :
    OwnQ 76 ((((W.setCell ⟨r, 0, none⟩ u0).setCell ⟨r, 1, none⟩ u1).setCell ⟨r, 2, none⟩ u2).setCell ⟨r, 3, none⟩ u3) B v l :=
  (((ho.setBelow (by exact hB) u0).setBelow (by exact hB) u1).setBelow (by exact hB) u2).setBelow (by exact hB) u3

set_option maxRecDepth 100000 in
set_option maxHeartbeats 4000000 in
theorem l7Done_any (x : Ly) (p : Option Addr) (c b : Nat) (ns : List Q) (q : Option Addr) (d : Nat) (w : World) (hx : LyAt w b x p c) (hn : Qs w w.heap.size q ns) (hm : ns.length ≤ 13) (h0 : 0 < ns.length) (ho : Okay ns) :
    Calls Try.prog 56 #[.pointer (some ⟨b, 0, none⟩), .slice q ns.length d, .int .i64 0] w (NewLr w 0 ⟨x.wide, x.high, num (trOf ns ns.length 0) 0⟩) := by
  have hR := AtM.new w [.int .i64 0, .int .i64 0, .int .i64 0, .slice none 0 0] 30
  have b0 := below_mk w (.cells #[.int .i64 0, .int .i64 0, .int .i64 0, .slice none 0 0] 30)
  have hbl := hx.cells.1
  have HT := Lib.hid (fun W h => l7Tidy_any ns q d hm ho ns.length 0 0 W hm (by have h1 : 2 ^ (ns.length + 1) ≤ 2 ^ 14 := Nat.pow_le_pow_right (by omega) (by omega); have h2 : (2 : Nat) ^ 14 = 16384 := (by decide); omega) (by omega) h0 h)
  have hXd := (hx.on b0).on (below_drewN (Below.refl _ _) 1)
  have HXd := Lib.hid hXd
  have HRd := Lib.hid (hR.on (below_drewN (Below.refl _ _) 1))
  have HNd := Lib.hid ((hn.on b0).on (below_drewN (Below.refl _ _) 1))
  have HB0 := Lib.hid (below_on b0 (below_drewN (Below.refl _ _) 1))
  have hS0 := hXd.cells
  unfold lyL at hS0
  clear hx hn hR b0 hXd
  generalize num (trOf ns ns.length 0) 0 = tn at *
  go_enter Try.func56, Try.ntmps56
  go_upto_region 1 with (fail)
  refine wp_region_noPanic ?_
  refine wp_region_held_drew (S := fun W' => AtL W' b [.int .i64 x.wide, .int .i64 x.high, .slice p x.nodes.length c]) (by kernel_rfl) hS0 (fun hHeld => ?_)
  refine takeA 0 7 (.pointer (some ⟨b, 0, none⟩)) hHeld ?_
  simp only [Act.put, sa, s0, ss]
  refine takeA 1 8 (.pointer (some ⟨b, 0, none⟩)) hHeld ?_
  simp only [Act.put, sa, s0, ss]
  refine takeA 2 9 (.pointer (some ⟨b, 0, none⟩)) hHeld ?_
  simp only [Act.put, sa, s0, ss]
  refine takeB 3 10 (.int .i64 x.wide) (fun w o hSw ho => ?_) hHeld ?_
  · obtain rfl := Option.some.inj ho; (obtain ⟨z0, z1, z2⟩ := AtL.tri hSw; go_simp)
  simp only [Act.put, sa, s0, ss]
  refine takeA 4 11 (.pointer (some ⟨b, 0, none⟩)) hHeld ?_
  simp only [Act.put, sa, s0, ss]
  refine takeA 5 12 (.pointer (some ⟨b, 0, none⟩)) hHeld ?_
  simp only [Act.put, sa, s0, ss]
  refine takeA 6 13 (.pointer (some ⟨b, 1, none⟩)) hHeld ?_
  simp only [Act.put, sa, s0, ss]
  refine takeB 7 14 (.int .i64 x.high) (fun w o hSw ho => ?_) hHeld ?_
  · obtain rfl := Option.some.inj ho; (obtain ⟨z0, z1, z2⟩ := AtL.tri hSw; go_simp)
  simp only [Act.put, sa, s0, ss]
  refine takeA 8 15 (.slice q ns.length d) hHeld ?_
  simp only [Act.put, sa, s0, ss]
  refine takeA 9 16 (.int .i64 0) hHeld ?_
  simp only [Act.put, sa, s0, ss]
  refine oneR 10 (by kernel_rfl) (by kernel_rfl) (fun o ho K' hK => ?_)
  obtain rfl := Option.some.inj ho
  clear ho
  go_simp
  refine (HT.out _ HNd.out).mono ?_
  rintro e w2 ⟨v, rfl, ov, b2⟩
  have hS2 := (HXd.out.on b2).cells
  unfold lyL at hS2
  have HR2 := Lib.hid (HRd.out.on b2)
  have HB2 := Lib.hid (below_on HB0.out b2)
  have hz2 := b2.size
  obtain ⟨pv, cv, rfl⟩ := ov.slice
  have HV := Lib.hid ov
  clear hHeld b2 ov HXd HRd HNd HT
  go_wp2_with fail
  refine hK.out _ _ (hS2) (fun hHeld => ?_)
  clear hK K'
  try simp only [Act.put, sa, s0, ss]
  refine takeA 11 18 (.agg #[.int .i64 x.wide, .int .i64 x.high, .slice pv tn.length cv]) hHeld ?_
  simp only [Act.put, sa, s0, ss]
  refine takeA 12 19 (.agg #[.int .i64 0, .int .i64 x.wide, .int .i64 x.high, .slice pv tn.length cv]) hHeld ?_
  simp only [Act.put, sa, s0, ss]
  obtain ⟨z0, z1, z2, z3⟩ := HR2.out.cells.four
  have zf := HR2.out.free
  have hbr := HR2.out.cells.1
  refine oneR 13 (by kernel_rfl) (by kernel_rfl) (fun o ho K' hK => ?_)
  obtain rfl := Option.some.inj ho
  clear ho
  go_simp
  have hSE := lrs_ly (r := w.heap.size) hS2 (by omega) (.int .i64 0) (.int .i64 x.wide) (.int .i64 x.high) (.slice pv tn.length cv)
  have hOE := lrs_own (r := w.heap.size) HV.out (by simp) (.int .i64 0) (.int .i64 x.wide) (.int .i64 x.high) (.slice pv tn.length cv)
  have hLE := lrs_low (r := w.heap.size) HB2.out (Nat.le_refl _) (.int .i64 0) (.int .i64 x.wide) (.int .i64 x.high) (.slice pv tn.length cv)
  have HE := Lib.hid (And.intro (hOE.lower (base' := w.heap.size) (by simp)) hLE)
  clear hHeld hOE hLE hS2 HB2
  refine hK.out _ _ (hSE) (fun hHeld => ?_)
  clear hK K'
  try simp only [Act.put, sa, s0, ss]
  refine wpAnyH_done (by kernel_rfl) ?_ _
  refine NoPanic.normal ?_
  clear hHeld hSE
  go_wp2
  exact bodyPost_ret (v := lrV 0 ⟨x.wide, x.high, tn⟩ (.slice pv tn.length cv)) (by simp [results, Try.results56, lrV, go_sem, z0, z1, z2, z3]) rfl ⟨_, rfl, HE.out.1, HE.out.2⟩

set_option maxRecDepth 100000 in
set_option maxHeartbeats 4000000 in
theorem l7At_any (x : Ly) (pn : Int) (p : Option Addr) (c b : Nat) (w : World) (h : LyAt w b x p c) (hl : x.nodes.length ≤ 1048576) (hh : hasB x.nodes pn = true) :
    Calls Try.prog 55 #[.pointer (some ⟨b, 0, none⟩), .int .i64 pn] w fun e w' => e = .returned (.int .i64 (idxQ (paneM pn) 0 x.nodes)) ∧ w = w' := by
  obtain ⟨x0, x1, x2⟩ := h.cells.tri
  have hbl := h.cells.1
  have H := Lib.hid h.nodes
  obtain ⟨i, hi, hidx, -, -⟩ := at_of hh
  have HIDX := Lib.hid hidx
  clear h hh hidx
  obtain ⟨wide, high, ns⟩ := x
  dsimp only at *
  go_enter Try.func55, Try.ntmps55
  go_wp2
  go_loop [5, 11] (fun _ i => ∃ j : Nat, j ≤ ns.length ∧ i = .int .i64 j ∧ idxQ (paneM pn) 0 ns = idxQ (paneM pn) j (ns.drop j)) (fun _ i => ns.length - (intOf i).toNat)
  case atStart => exact ⟨0, by omega, rfl, rfl⟩
  case round =>
    obtain ⟨j, hj, rfl, hs⟩ := hrel
    have HS := Lib.hid hs
    clear hs
    by_cases hlt : j < ns.length
    · obtain ⟨bn, off, rfl, _, hbn, hc⟩ := H.out (by intro e; simp [e] at hlt)
      obtain ⟨c0, c1, c2, c3, c4⟩ := hc j hlt
      have HD := Lib.hid (idxQ_drop (paneM pn) ns j hlt)
      have HP : Hid (paneM pn (nth ns j) = ((nth ns j).x0 == 1 && (nth ns j).x1 == pn)) := Lib.hid rfl
      have i3 : (j : Int) < (ns.length : Int) := by omega
      have i0 : (0 : Int) ≤ (j : Int) := by omega
      clear hc
      cases h1 : ((nth ns j).x0 == 1)
      · go_wp2
        exact ⟨⟨j + 1, by omega, by go_num, by rw [HS.out, HD.out, HP.out, h1]; rfl⟩, by simp [intOf]; omega⟩
      · cases h2 : ((nth ns j).x1 == pn)
        · go_wp2
          exact ⟨⟨j + 1, by omega, by go_num, by rw [HS.out, HD.out, HP.out, h1, h2]; rfl⟩, by simp [intOf]; omega⟩
        · go_wp2
          go_ret
          exact ⟨by rw [HS.out, HD.out, HP.out, h1, h2]; rfl, rfl⟩
    · exfalso
      obtain rfl : j = ns.length := by omega
      have h1 := HS.out
      rw [HIDX.out, idxQ_end] at h1
      omega

set_option maxRecDepth 100000 in
set_option maxHeartbeats 4000000 in
theorem l7Up_any (x : Ly) (a : Int) (p : Option Addr) (c b : Nat) (w : World) (h : LyAt w b x p c) (hl : x.nodes.length ≤ 1048576) :
    Calls Try.prog 69 #[.pointer (some ⟨b, 0, none⟩), .int .i64 a] w fun e w' => e = .returned (.int .i64 (idxQ (overM a) 0 x.nodes)) ∧ w = w' := by
  obtain ⟨x0, x1, x2⟩ := h.cells.tri
  have hbl := h.cells.1
  have H := Lib.hid h.nodes
  clear h
  obtain ⟨wide, high, ns⟩ := x
  dsimp only at *
  go_enter Try.func69, Try.ntmps69
  go_wp2
  go_loop [5, 6, 12] (fun _ _ i => ∃ j : Nat, j ≤ ns.length ∧ i = .int .i64 j ∧ idxQ (overM a) 0 ns = idxQ (overM a) j (ns.drop j)) (fun _ _ i => ns.length - (intOf i).toNat)
  case atStart => exact ⟨0, by omega, rfl, rfl⟩
  case round =>
    obtain ⟨j, hj, rfl, hs⟩ := hrel
    have HS := Lib.hid hs
    clear hs
    by_cases hlt : j < ns.length
    · obtain ⟨bn, off, rfl, _, hbn, hc⟩ := H.out (by intro e; simp [e] at hlt)
      obtain ⟨c0, c1, c2, c3, c4⟩ := hc j hlt
      have HD := Lib.hid (idxQ_drop (overM a) ns j hlt)
      have HP : Hid (overM a (nth ns j) = ((nth ns j).x0 != 1 && ((nth ns j).x3 == a || (nth ns j).x4 == a))) := Lib.hid rfl
      have i3 : (j : Int) < (ns.length : Int) := by omega
      have i0 : (0 : Int) ≤ (j : Int) := by omega
      clear hc
      cases h1 : ((nth ns j).x0 != 1)
      · go_wp2
        exact ⟨⟨j + 1, by omega, by go_num, by rw [HS.out, HD.out, HP.out, h1]; rfl⟩, by simp [intOf]; omega⟩
      · cases h2 : ((nth ns j).x3 == a)
        · cases h3 : ((nth ns j).x4 == a)
          · go_wp2
            exact ⟨⟨j + 1, by omega, by go_num, by rw [HS.out, HD.out, HP.out, h1, h2, h3]; rfl⟩, by simp [intOf]; omega⟩
          · go_wp2
            go_ret
            exact ⟨by rw [HS.out, HD.out, HP.out, h1, h2, h3]; rfl, rfl⟩
        · go_wp2
          go_ret
          exact ⟨by rw [HS.out, HD.out, HP.out, h1, h2]; rfl, rfl⟩
    · obtain rfl : j = ns.length := by omega
      have HE := Lib.hid (idxQ_end (overM a) ns)
      go_wp2
      go_ret
      exact ⟨by rw [HS.out, HE.out]; rfl, rfl⟩
end Go.Proofs.Ytbfickdgjgbfhaa

/- The model's TidyLayout and l7Asked. -/
namespace Go.Proofs.Ytbfickdgjgbfhaa
open Go.RowKit
set_option linter.unusedVariables false
set_option linter.unusedSimpArgs false

theorem tidyR_small (x : Ly) : (tidyR x).2.nodes.length ≤ 2048 := by
  unfold tidyR
  split
  · rename_i hf
    have := (tree_of_fault hf).1.tidy.n1
    simp only; omega
  · simp [ly0]

set_option maxRecDepth 100000 in
set_option maxHeartbeats 2000000 in
theorem specTidy_any (x : Ly) (p : Option Addr) (c : Nat) (w : World) (h : Qs w w.heap.size p x.nodes) (hl : x.nodes.length ≤ 1048576) :
    Calls Try.prog 26 #[.agg #[.int .i64 x.wide, .int .i64 x.high, .slice p x.nodes.length c]] w (NewLr w (tidyR x).1 (tidyR x).2) := by
  have HX := Lib.hid (LrAt.start w x p c 28 30 h)
  have HF := Lib.hid (fun W h => specLayoutFault_any x p c W h hl)
  clear h
  by_cases hf : lyFault x = 0
  · have e : tidyR x = (0, x.tidy) := by unfold tidyR; rw [if_pos hf]
    rw [e]
    rw [hf] at HF
    obtain ⟨ht, -⟩ := tree_of_fault hf
    have n1 := ht.n1
    have n0 := ht.n0
    have HT := Lib.hid (fun W (hx : LyAt W w.heap.size x p c) => l7Done_any x p c w.heap.size x.nodes p c W hx hx.nodes (by omega) n0 ht.okay)
    have HTW : Hid (x.tidy = ⟨x.wide, x.high, num (trOf x.nodes x.nodes.length 0) 0⟩) := Lib.hid rfl
    dsimp only
    rw [HTW.out]
    clear hf e ht HTW
    generalize num (trOf x.nodes x.nodes.length 0) 0 = tn at *
    go_enter Try.func26, Try.ntmps26
    go_wp2_with fail
    refine (HF.out _ HX.out.ly.nodes).mono ?_
    rintro e w1 ⟨rfl, b1⟩
    have HX1 := Lib.hid (HX.out.on b1)
    obtain ⟨x0, x1, x2⟩ := HX1.out.ly.cells.tri
    have hz := HX1.out.res.cells.1
    clear b1 HX HF
    go_wp2_with fail
    refine (HT.out _ HX1.out.ly).mono ?_
    rintro e w2 ⟨v, rfl, ov, b2⟩
    have HX2 := Lib.hid (HX1.out.on b2)
    have hz2 := b2.size
    clear b2 x0 x1 x2
    obtain ⟨pv, cv, rfl⟩ := ov.slice
    have HV := Lib.hid ov
    clear ov
    obtain ⟨z0, z1, z2, z3⟩ := HX2.out.res.cells.four
    have zf := HX2.out.res.free
    have HB2 := Lib.hid HX2.out.below
    unfold lrV
    go_wp2
    exact bodyPost_ret (v := lrV 0 ⟨x.wide, x.high, tn⟩ (.slice pv tn.length cv)) (by simp [results, Try.results26, lrV, go_sem, z0, z1, z2, z3]) rfl ⟨_, rfl, lr_own HV.out hz _ _ _ _, lr_low HB2.out _ _ _ _⟩
  · have e : tidyR x = (lyFault x, ly0) := by unfold tidyR; rw [if_neg hf]
    rw [e]
    have hf2 : (lyFault x == 0) = false := by simpa using hf
    clear hf e
    generalize lyFault x = k at *
    go_enter Try.func26, Try.ntmps26
    go_wp2_with fail
    refine (HF.out _ HX.out.ly.nodes).mono ?_
    rintro e w1 ⟨rfl, b1⟩
    have HX1 := Lib.hid (HX.out.on b1)
    obtain ⟨z0, z1, z2, z3⟩ := HX1.out.res.cells.four
    have zf := HX1.out.res.free
    clear b1 HX
    go_wp2
    exact bodyPost_ret (v := lrV k ly0 (.slice none 0 0)) (by simp [results, Try.results26, lrV, ly0, go_sem, z0, z1, z2, z3]) rfl ⟨_, rfl, ownQ_nil _ _ _, lr_low HX1.out.below _ _ _ _⟩

set_option maxRecDepth 100000 in
set_option maxHeartbeats 2000000 in
theorem l7Asked_any (x : Ly) (pn : Int) (p : Option Addr) (c b : Nat) (w : World) (h : LyAt w b x p c) (hl : x.nodes.length ≤ 1048576) :
    Calls Try.prog 68 #[.pointer (some ⟨b, 0, none⟩), .int .i64 pn] w fun e w' => e = .returned (.int .i64 (paneC x pn)) ∧ Below w.heap.size w w' := by
  obtain ⟨x0, x1, x2⟩ := h.cells.tri
  have hbl := h.cells.1
  have HC := Lib.hid (specLayoutFault_any x p c w h.nodes hl)
  have HX := Lib.hid h
  clear h
  by_cases hf : lyFault x = 0
  · have HP : Hid (paneC x pn = if hasB x.nodes pn = true then 0 else 4) := Lib.hid (by unfold paneC; rw [if_pos hf])
    rw [HP.out]
    rw [hf] at HC
    have HH := Lib.hid (fun W (hx : LyAt W b x p c) => l6Has_any x pn p c b W hx hl)
    clear hf HP
    cases hh : hasB x.nodes pn
    all_goals rw [hh] at HH
    all_goals
      go_enter Try.func68, Try.ntmps68
      go_wp2_with fail
      refine HC.out.mono ?_
      rintro e w1 ⟨rfl, b1⟩
      have HX1 := Lib.hid (HX.out.on b1)
      have HB := Lib.hid b1
      clear b1 x0 x1 x2
      go_wp2_with fail
      refine (HH.out w1 HX1.out).mono ?_
      rintro e w2 ⟨rfl, rfl⟩
      go_wp2
      go_ret
      exact ⟨rfl, HB.out⟩
  · have HP : Hid (paneC x pn = lyFault x) := Lib.hid (by unfold paneC; rw [if_neg hf])
    rw [HP.out]
    have hf2 : (lyFault x == 0) = false := by simpa using hf
    clear hf HP
    generalize lyFault x = k at *
    go_enter Try.func68, Try.ntmps68
    go_wp2_with fail
    refine HC.out.mono ?_
    rintro e w1 ⟨rfl, b1⟩
    have HB := Lib.hid b1
    clear b1 x0 x1 x2
    go_wp2
    go_ret
    exact ⟨rfl, HB.out⟩
end Go.Proofs.Ytbfickdgjgbfhaa
