/- The model's KillPane. -/
import Derived.Test.YtbfickdgjgbfhaaQEdSpecToEdSpec2
import Derived.Test.YtbfickdgjgbfhaaQEdDataToEdKill
import Derived.Test.YtbfickdgjgbfhaaQLyImpl4
import Derived.Test.YtbfickdgjgbfhaaQLyImpl5ToLyIn
namespace Go.Proofs.Ytbfickdgjgbfhaa
open Go.RowKit
set_option linter.unusedVariables false
set_option linter.unusedSimpArgs false

/-- the layout boxed, the answer's cell, nodes of the call's own -/
structure KmSt (w : World) (x : Ly) (p : Option Addr) (c g cg : Nat) (ns : List Q) (W : World) : Prop where
  lr : LrAt w x p c W
  own : OwnQ 76 W (w.heap.size + 2) (.slice (some ⟨g, 0, none⟩) ns.length cg) ns
theorem KmSt.on {w : World} {x : Ly} {p : Option Addr} {c g cg : Nat} {ns : List Q} {W W' : World} (h : KmSt w x p c g cg ns W) (hb : Below W.heap.size W W') : KmSt w x p c g cg ns W' := ⟨h.lr.on hb, h.own.on hb⟩
theorem LrAt.far {w W W' : World} {x : Ly} {p : Option Addr} {c g : Nat} (hn : Qs w w.heap.size p x.nodes) (h : LrAt w x p c W) (hg : W.grownBy W' (some g)) (hlo : w.heap.size + 2 ≤ g) : LrAt w x p c W' := by
  have hb : Below w.heap.size w W' := h.below.trans (below_of_grown hg h.below.size (fun g' e => by cases e; omega))
  exact ⟨⟨h.ly.cells.far hg (by intro e; cases e; omega), hn.on hb⟩, h.res.far hg (by intro e; cases e; omega), hb⟩
theorem KmSt.put {w W : World} {x : Ly} {p : Option Addr} {c g cg : Nat} {ns : List Q} (h : KmSt w x p c g cg ns W) (hn : Qs w w.heap.size p x.nodes) (i : Nat) (q : Q) (hi : i < ns.length) (W' : World)
    (hW : W' = ((((W.setCell ⟨g, i * 5, none⟩ (.int .i64 q.x0)).setCell ⟨g, i * 5 + 1, none⟩ (.int .i64 q.x1)).setCell ⟨g, i * 5 + 2, none⟩ (.int .i64 q.x2)).setCell ⟨g, i * 5 + 3, none⟩ (.int .i64 q.x3)).setCell ⟨g, i * 5 + 4, none⟩ (.int .i64 q.x4)) : KmSt w x p c g cg (ns.set i q) W' := by
  have ho := h.own.put i q hi
  rw [← hW] at ho
  exact ⟨LrAt.far hn h.lr ho.2 (h.own.lt g rfl).1, by rw [List.length_set]; exact ho.1⟩

set_option maxRecDepth 100000 in
set_option maxHeartbeats 4000000 in
theorem specKill_any (x : Ly) (pn : Int) (p : Option Addr) (c : Nat) (w : World) (h : Qs w w.heap.size p x.nodes) (hl : x.nodes.length ≤ 1048576) :
    Calls Try.prog 19 #[.agg #[.int .i64 x.wide, .int .i64 x.high, .slice p x.nodes.length c], .int .i64 pn] w (NewLr w (killR x pn).1 (killR x pn).2) := by
  have HX := Lib.hid (LrAt.start w x p c 28 30 h)
  have HF := Lib.hid (fun W (hx : LyAt W w.heap.size x p c) => l7Asked_any x pn p c w.heap.size W hx hl)
  have HQ0 := Lib.hid h
  clear h
  by_cases hf : paneC x pn = 0
  · obtain ⟨hf0, hh⟩ := paneC_zero hf
    obtain ⟨ht, -⟩ := tree_of_fault hf0
    obtain ⟨i, hi, hidx, hs, hp⟩ := at_of hh
    have HAT := Lib.hid (fun W (hx : LyAt W w.heap.size x p c) => l7At_any x pn p c w.heap.size W hx hl hh)
    rw [hidx] at HAT
    have HUP := Lib.hid (fun W (hx : LyAt W w.heap.size x p c) => l7Up_any x (i : Int) p c w.heap.size W hx hl)
    rw [hf] at HF
    by_cases h1 : x.nodes.length = 1
    · have e : killR x pn = (7, ly0) := by unfold killR partC; rw [if_pos hf, if_pos h1, if_neg (by omega)]
      rw [e]
      rw [up_none ht h1] at HUP
      clear hf e ht hf0 hh h1 hs hp hidx
      go_enter Try.func19, Try.ntmps19
      go_wp2_with fail
      refine (HF.out _ HX.out.ly).mono ?_
      rintro e w1 ⟨rfl, b1⟩
      have HX1 := Lib.hid (HX.out.on b1)
      clear b1 HX
      go_wp2_with fail
      refine (HAT.out _ HX1.out.ly).mono ?_
      rintro e w2 ⟨rfl, rfl⟩
      go_wp2_with fail
      refine (HUP.out _ HX1.out.ly).mono ?_
      rintro e w2 ⟨rfl, rfl⟩
      obtain ⟨z0, z1, z2, z3⟩ := HX1.out.res.cells.four
      have zf := HX1.out.res.free
      go_wp2
      exact bodyPost_ret (v := lrV 7 ly0 (.slice none 0 0)) (by simp [results, Try.results19, lrV, ly0, go_sem, z0, z1, z2, z3]) rfl ⟨_, rfl, ownQ_nil _ _ _, lr_low HX1.out.below _ _ _ _⟩
    · have hpc : partC x pn = 0 := by unfold partC; rw [if_pos hf, if_neg h1]
      have e : killR x pn = (0, ⟨x.wide, x.high, num (kill pn x.tr) 0⟩) := by unfold killR; rw [if_pos hpc]
      rw [e]
      obtain ⟨uu, hu, huidx, hov⟩ := up_of ht hi hs h1
      rw [huidx] at HUP
      obtain ⟨hsu, -⟩ := over_kid hov
      obtain ⟨-, -, g3, g4, g5, g6⟩ := (ht.okay uu hu).split hsu
      have hpn := parts_ne ht.okay ht.uses hu hsu
      obtain ⟨ia, ha⟩ := Int.eq_ofNat_of_zero_le (show 0 ≤ (nth x.nodes uu).x3 by omega)
      obtain ⟨ib, hb⟩ := Int.eq_ofNat_of_zero_le (show 0 ≤ (nth x.nodes uu).x4 by omega)
      have hxx : (ia = i ∧ ib ≠ i) ∨ (ib = i ∧ ia ≠ i) := by
        simp only [over, Bool.and_eq_true, Bool.or_eq_true, beq_iff_eq] at hov
        rcases hov.2 with h | h
        · exact .inl ⟨by omega, by omega⟩
        · exact .inr ⟨by omega, by omega⟩
      obtain ⟨ot, hot⟩ : ∃ ot : Nat, (ot : Int) = (ia : Int) + (ib : Int) - (i : Int) := ⟨ia + ib - i, by omega⟩
      have hotl : ot < x.nodes.length := by omega
      have hup : uu < ot := by omega
      have hk := trOf_kill ht.okay ht.uses ht.once hi hs hp hu hov (other := ot) (by rw [ha, hb]; omega) x.nodes.length 0 (by omega) ht.n0
      have hokk := okay_kill ht.okay hu hotl hup
      have n11 := ht.n1
      have n0 := ht.n0
      have HLD := Lib.hid (fun W q d (hx : LyAt W w.heap.size x p c) (hn : Qs W W.heap.size q (x.nodes.set uu (nth x.nodes ot))) => l7Done_any x p c w.heap.size (x.nodes.set uu (nth x.nodes ot)) q d W hx hn (by simp; omega) (by simp; omega) hokk)
      simp only [List.length_set] at HLD
      rw [hk] at HLD
      have HTR : Hid (trOf x.nodes x.nodes.length 0 = x.tr) := Lib.hid rfl
      rw [HTR.out] at HLD
      have HA := Lib.hid ha
      have HB := Lib.hid hb
      have hii : i < 11 := by omega
      have hia : ia < 11 := by omega
      have hib : ib < 11 := by omega
      dsimp only
      clear hf e ht hf0 hh h1 hs hp hidx hk hokk hpc huidx hov hsu g3 g4 g5 g6 hpn hxx ha hb HTR
      generalize num (kill pn x.tr) 0 = tn at *
      obtain ⟨i0r, hi0r, hz0, hz1, hz2⟩ := info_parts Try.info_nodeD
      have HI := Lib.hid (And.intro hi0r (And.intro hz0 (And.intro hz1 hz2)))
      clear hi0r hz0 hz1 hz2
      go_enter Try.func19, Try.ntmps19
      go_wp2_with fail
      refine (HF.out _ HX.out.ly).mono ?_
      rintro e w1 ⟨rfl, b1⟩
      have HX1 := Lib.hid (HX.out.on b1)
      clear b1 HX
      go_wp2_with fail
      refine (HAT.out _ HX1.out.ly).mono ?_
      rintro e w2 ⟨rfl, rfl⟩
      go_wp2_with fail
      refine (HUP.out _ HX1.out.ly).mono ?_
      rintro e w2 ⟨rfl, rfl⟩
      obtain ⟨x0, x1, x2⟩ := HX1.out.ly.cells.tri
      have hz := HX1.out.res.cells.1
      have hzl := HX1.out.ly.cells.1
      have HX2 := Lib.hid (HX1.out.on (below_mk w1 (.cells #[] 76)))
      have O2 := World.ownsRow_made (e := 76) (size := 5) (base := w.heap.size + 2) w1 #[] 0 (by omega) (by simp [maxLen]) (by simp)
      have HO := Lib.hid O2
      obtain ⟨bn, off, rfl, _, _, hqn⟩ := HX1.out.ly.nodes (by intro e; simp [e] at n0)
      have HQ := Lib.hid (qs_cells HX2.out.ly.nodes)
      clear O2 hqn HAT HUP HF
      go_wp2_with (at_builtin; refine wpList_append_own _ rfl _ _ 26 rfl (w.heap.size + 2) 76 i0r _ 5 40 Try.underlying26 HI.out.1 HI.out.2.1 HI.out.2.2.1 HI.out.2.2.2 rfl (by decide) _ _ _ rfl HO.out ⟨bn, off, none⟩ x.nodes.length c (x.nodes.flatMap qC) rfl (flatQ_len _) HQ.out (flatQ_one _) (by unfold maxLen; omega) (by omega) (by simp; omega) ?_; intro v' w3 hown hgrow _)
      have hO3 : OwnQ 76 w3 (w.heap.size + 2) v' x.nodes := by unfold OwnQ; simpa using hown
      rcases hO3.form with ⟨-, hx⟩ | ⟨g, cg, rfl, hg0, hg1, -⟩
      · rw [hx] at n0; simp at n0
      have hlr : LrAt w x (some ⟨bn, off, none⟩) c w3 := LrAt.far HQ0.out HX2.out hgrow (World.ownsRow.lt HO.out _ rfl).1
      have HK := Lib.hid (KmSt.mk hlr hO3)
      clear hown hgrow hlr hO3 HO HQ HX2 HX1 x0 x1 x2
      go_upto_region 9 with (fail)
      have hK0 := HK.out.on (below_drewN (Below.refl w3.heap.size w3) 1)
      have i1 : (uu : Int) < (x.nodes.length : Int) := by omega
      have i2 : (ot : Int) < (x.nodes.length : Int) := by omega
      have i3 : (0 : Int) ≤ (uu : Int) := by omega
      have i4 : (0 : Int) ≤ (ot : Int) := by omega
      have HOT := Lib.hid hot
      clear hot HK
      refine wp_region_noPanic ?_
      refine wp_region_held_drew (S := fun W' => KmSt w x (some ⟨bn, off, none⟩) c g cg x.nodes W') (by kernel_rfl) hK0 (fun hHeld => ?_)
      refine takeA 0 27 (.slice (some ⟨g, 0, none⟩) x.nodes.length cg) hHeld ?_
      simp only [Act.put, sa, s0, ss]
      refine takeA 1 28 (.int .i64 (uu : Int)) hHeld ?_
      simp only [Act.put, sa, s0, ss]
      refine takeA 2 29 (.pointer (some ⟨g, uu * 5, none⟩)) hHeld ?_
      simp only [Act.put, sa, s0, ss]
      refine takeA 3 30 (.pointer (some ⟨g, uu * 5 + 3, none⟩)) hHeld ?_
      simp only [Act.put, sa, s0, ss]
      refine takeB 4 31 (.int .i64 (ia : Int)) (fun w o hSw ho => ?_) hHeld ?_
      · obtain rfl := Option.some.inj ho; (obtain ⟨d0, d1, d2, d3, d4⟩ := hSw.own.row.2.1 uu hu; rw [HA.out] at d3; go_simp)
      simp only [Act.put, sa, s0, ss]
      refine takeA 5 32 (.slice (some ⟨g, 0, none⟩) x.nodes.length cg) hHeld ?_
      simp only [Act.put, sa, s0, ss]
      refine takeA 6 33 (.int .i64 (uu : Int)) hHeld ?_
      simp only [Act.put, sa, s0, ss]
      refine takeA 7 34 (.pointer (some ⟨g, uu * 5, none⟩)) hHeld ?_
      simp only [Act.put, sa, s0, ss]
      refine takeA 8 35 (.pointer (some ⟨g, uu * 5 + 4, none⟩)) hHeld ?_
      simp only [Act.put, sa, s0, ss]
      refine takeB 9 36 (.int .i64 (ib : Int)) (fun w o hSw ho => ?_) hHeld ?_
      · obtain rfl := Option.some.inj ho; (obtain ⟨d0, d1, d2, d3, d4⟩ := hSw.own.row.2.1 uu hu; rw [HB.out] at d4; go_simp)
      simp only [Act.put, sa, s0, ss]
      refine takeB 10 37 (.int .i64 ((ia : Int) + (ib : Int))) (fun w o hSw ho => ?_) hHeld ?_
      · obtain rfl := Option.some.inj ho; (go_simp; exact IntWalk.i64_in _ ⟨by omega, by omega⟩)
      simp only [Act.put, sa, s0, ss]
      refine takeA 11 38 (.int .i64 (i : Int)) hHeld ?_
      simp only [Act.put, sa, s0, ss]
      refine takeB 12 39 (.int .i64 (ot : Int)) (fun w o hSw ho => ?_) hHeld ?_
      · obtain rfl := Option.some.inj ho; (rw [HOT.out]; go_simp; exact IntWalk.i64_in _ ⟨by omega, by omega⟩)
      simp only [Act.put, sa, s0, ss]
      refine takeA 13 9 (.int .i64 (ot : Int)) hHeld ?_
      simp only [Act.put, sa, s0, ss]
      refine wpAnyH_done (by kernel_rfl) ?_ _
      refine NoPanic.normal ?_
      refine wp_then (fun W' => KmSt w x (some ⟨bn, off, none⟩) c g cg x.nodes W') hHeld (fun W6 hW6 => ?_)
      clear hHeld hK0
      have HK6 := Lib.hid hW6
      obtain ⟨-, hrow, hfz⟩ := hW6.own.row
      obtain ⟨c0, c1, c2, c3, c4⟩ := hrow ot hotl
      obtain ⟨u0, u1, u2, u3, u4⟩ := hrow uu hu
      clear hrow hW6
      go_upto_region 11 with (fail)
      refine wp_genQ (KmSt w x (some ⟨bn, off, none⟩) c g cg (x.nodes.set uu (nth x.nodes ot))) (HK6.out.put HQ0.out uu (nth x.nodes ot) hu _ rfl) (fun W7 hW7 => ?_)
      have HK7 := Lib.hid hW7
      have hz7 := hW7.lr.res.cells.1
      clear hW7 HK6 c0 c1 c2 c3 c4 u0 u1 u2 u3 u4 hfz
      go_wp2_with fail
      refine (HLD.out _ _ _ HK7.out.lr.ly HK7.out.own.bs.2).mono ?_
      rintro e w8 ⟨v, rfl, ov, b8⟩
      have HX8 := Lib.hid (HK7.out.lr.on b8)
      have hz8 := b8.size
      obtain ⟨pv, cv, rfl⟩ := ov.slice
      have HV := Lib.hid ov
      clear ov b8 HK7 HLD
      obtain ⟨z0, z1, z2, z3⟩ := HX8.out.res.cells.four
      have zf := HX8.out.res.free
      have HB8 := Lib.hid HX8.out.below
      unfold lrV
      go_wp2
      exact bodyPost_ret (v := lrV 0 ⟨x.wide, x.high, tn⟩ (.slice pv tn.length cv)) (by simp [results, Try.results19, lrV, go_sem, z0, z1, z2, z3]) rfl ⟨_, rfl, lr_own HV.out hz7 _ _ _ _, lr_low HB8.out _ _ _ _⟩
  · have e : killR x pn = (paneC x pn, ly0) := by
      have hp : partC x pn = paneC x pn := by unfold partC; rw [if_neg hf]
      unfold killR; rw [hp, if_neg hf]
    rw [e]
    have hf2 : (paneC x pn == 0) = false := by simpa using hf
    clear hf e
    generalize paneC x pn = k at *
    go_enter Try.func19, Try.ntmps19
    go_wp2_with fail
    refine (HF.out _ HX.out.ly).mono ?_
    rintro e w1 ⟨rfl, b1⟩
    have HX1 := Lib.hid (HX.out.on b1)
    obtain ⟨z0, z1, z2, z3⟩ := HX1.out.res.cells.four
    have zf := HX1.out.res.free
    clear b1 HX
    go_wp2
    exact bodyPost_ret (v := lrV k ly0 (.slice none 0 0)) (by simp [results, Try.results19, lrV, ly0, go_sem, z0, z1, z2, z3]) rfl ⟨_, rfl, ownQ_nil _ _ _, lr_low HX1.out.below _ _ _ _⟩
end Go.Proofs.Ytbfickdgjgbfhaa

/- The program's ResizePane. -/
namespace Go.Proofs.Ytbfickdgjgbfhaa
open Go.RowKit
set_option linter.unusedVariables false
set_option linter.unusedSimpArgs false

theorem upd_size (p y : Int) : ∀ t : Tr, (upd p y t).size = t.size
  | .leaf q => rfl
  | .node k f a b => by
    simp only [upd]
    split
    · rfl
    · simp only [Tr.size, upd_size p y a, upd_size p y b]
theorem resizeR_small (x : Ly) (pn y : Int) : (resizeR x pn y).2.nodes.length ≤ 2048 := by
  unfold resizeR
  split
  · rename_i h
    obtain ⟨hf, hh, hl⟩ := partC_zero h
    obtain ⟨ht, -⟩ := tree_of_fault hf
    have h2 := ht.size
    have h3 := ht.n1
    split
    · split
      · simp only [num_len, upd_size]; omega
      · simp [ly0]
    · simp [ly0]
  · simp [ly0]

/-- First of a split lies within the screen -/
theorem first_bd {x : Ly} (h : lyFault x = 0) {i : Nat} (hi : i < x.nodes.length) (hs : isSplitB (nth x.nodes i) = true) : 1 ≤ (nth x.nodes i).x2 ∧ (nth x.nodes i).x2 ≤ 200 := by
  obtain ⟨R, hr, ht, hI⟩ := run_of_fault h
  have hrm := hI.room i hi hi hs
  have hgd := hI.good ht.okay ht.uses ht.wide ht.high i (by omega) hi
  obtain ⟨k1, k2⟩ := inR_iff.1 hrm
  unfold roomQ at k2
  unfold Good at hgd
  by_cases h2 : (nth x.nodes i).x0 = 2
  · rw [if_pos h2] at k2; omega
  · rw [if_neg h2] at k2; omega
theorem KmSt.first {w W : World} {x : Ly} {p : Option Addr} {c g cg : Nat} {ns : List Q} (h : KmSt w x p c g cg ns W) (hn : Qs w w.heap.size p x.nodes) (i : Nat) (v : Int) (hi : i < ns.length) :
    KmSt w x p c g cg (ns.set i ⟨(nth ns i).x0, (nth ns i).x1, v, (nth ns i).x3, (nth ns i).x4⟩) (W.setCell ⟨g, i * 5 + 2, none⟩ (.int .i64 v)) := by
  have ho := h.own.stored i 2 v hi (by omega)
  exact ⟨LrAt.far hn h.lr ho.2 (h.own.lt g rfl).1, by rw [List.length_set]; exact ho.1⟩
theorem over_found {ns : List Q} {a : Int} {k : Nat} (h : idxQ (over a) 0 ns = (k : Int)) : k < ns.length ∧ over a (nth ns k) = true := by
  rcases idxQ_spec (over a) ns 0 with ⟨h1, _⟩ | ⟨i, h1, h2, h3⟩
  · rw [h] at h1; omega
  · rw [h] at h2
    have : k = i := by omega
    subst this
    exact ⟨h1, h3⟩

set_option maxRecDepth 100000 in
set_option maxHeartbeats 4000000 in
theorem implResize_any (x : Ly) (pn y : Int) (p : Option Addr) (c : Nat) (w : World) (h : Qs w w.heap.size p x.nodes) (hl : x.nodes.length ≤ 1048576) :
    Calls Try.prog 22 #[.agg #[.int .i64 x.wide, .int .i64 x.high, .slice p x.nodes.length c], .int .i64 pn, .int .i64 y] w (NewLr w (resizeR x pn y).1 (resizeR x pn y).2) := by
  have HX := Lib.hid (LrAt.start w x p c 28 30 h)
  have HF := Lib.hid (fun W h => partFault_any x pn p c W h hl)
  have HQ0 := Lib.hid h
  clear h
  by_cases hf : partC x pn = 0
  · rw [hf] at HF
    cases hy : inR y (-200) 200
    · have e : resizeR x pn y = (3, ly0) := by unfold resizeR; rw [if_pos hf, if_neg (by simp [hy])]
      rw [e]
      clear hf e
      go_enter Try.func22, Try.ntmps22
      go_wp2_with fail
      refine (HF.out _ HX.out.ly.nodes).mono ?_
      rintro e w1 ⟨rfl, b1⟩
      have HX1 := Lib.hid (HX.out.on b1)
      clear b1 HX
      have HX2 := Lib.hid (HX1.out.on (below_mk w1 (.cells #[.int .i64 (-200), .int .i64 200] 2)))
      obtain ⟨z0, z1, z2, z3⟩ := HX2.out.res.cells.four
      have zf := HX2.out.res.free
      go_wp2_with (go_at_call 74; refine (isWithin_two _ _ _ _ _ _ (by simp)).mono ?_; rw [hy]; rintro e w' ⟨rfl, rfl⟩)
      exact bodyPost_ret (v := lrV 3 ly0 (.slice none 0 0)) (by simp [results, Try.results22, lrV, ly0, go_sem, z0, z1, z2, z3]) rfl ⟨_, rfl, ownQ_nil _ _ _, lr_low HX2.out.below _ _ _ _⟩
    · have hf0 := (partC_zero hf).1
      obtain ⟨ht, -⟩ := tree_of_fault hf0
      obtain ⟨u, S, m, v, en, h1, h2, -, -, h5⟩ := kill_found hf
      have h5 := h5 y
      have HT := Lib.hid (fun W h => tidyNodes_any x p c W h ht)
      have hn11 : x.tidy.nodes.length ≤ 11 := ht.tidy.n1
      have hS : nth x.tidy.nodes u.length = S := by rw [en, nth_app_right (Nat.le_refl _), Nat.sub_self]; rfl
      rw [← hS] at h5
      obtain ⟨hku, hov⟩ := over_found h2
      have hbd := first_bd (x := x.tidy) (by rw [ht.tidy_fault]; exact hf0) hku (over_kid hov).1
      obtain ⟨y0, y1⟩ := inR_iff.1 hy
      have e : resizeR x pn y = if lyFault ⟨x.wide, x.high, num (upd pn y x.tr) 0⟩ = 0 then (0, ⟨x.wide, x.high, num (upd pn y x.tr) 0⟩) else (6, ly0) := by
        unfold resizeR; rw [if_pos hf, if_pos hy]
      have hll : (num (upd pn y x.tr) 0).length ≤ 1048576 := by rw [num_len, upd_size]; have := ht.size; have := ht.n1; omega
      have HLF := Lib.hid (fun q d W h => implLayoutFault_any ⟨x.wide, x.high, num (upd pn y x.tr) 0⟩ q d W h hll)
      rw [e]
      clear hf e ht en hS hf0 hov hll
      generalize hrr : (if lyFault ⟨x.wide, x.high, num (upd pn y x.tr) 0⟩ = 0 then ((0 : Int), (⟨x.wide, x.high, num (upd pn y x.tr) 0⟩ : Ly)) else (6, ly0)) = rr
      have HRR := Lib.hid hrr
      clear hrr
      generalize x.tidy.nodes = tn at *
      generalize num (upd pn y x.tr) 0 = un at *
      generalize u.length + 1 + m.length = ka at *
      generalize u.length = ku at *
      have HUN := Lib.hid h5
      have hunl : un.length = tn.length := by rw [← h5, List.length_set]
      have HUL := Lib.hid hunl
      clear h5 hunl
      have HAT := Lib.hid (fun q d W h => nodeOfPane_any q d tn pn W h (by omega))
      rw [h1] at HAT
      have HOV := Lib.hid (fun q d W h => splitOver_any q d tn ((ka : Nat) : Int) W h (by omega))
      rw [h2] at HOV
      clear h1 h2
      have hbd1 := hbd.1
      have hbd2 := hbd.2
      have i1 : (ku : Int) < (tn.length : Int) := by omega
      have i0 : (0 : Int) ≤ (ku : Int) := by omega
      clear hbd
      have HIW := Lib.hid (fun W => isWithin_two y (-200) 200 W 2 W.heap.size rfl)
      rw [hy] at HIW
      clear hy
      go_enter Try.func22, Try.ntmps22
      go_wp2_with fail
      refine (HF.out _ HX.out.ly.nodes).mono ?_
      rintro e w1 ⟨rfl, b1⟩
      have HX1 := Lib.hid ((HX.out.on b1).on (below_mk w1 (.cells #[.int .i64 (-200), .int .i64 200] 2)))
      obtain ⟨x0, x1, x2⟩ := HX1.out.ly.cells.tri
      have hz := HX1.out.res.cells.1
      clear b1 HX HF
      go_wp2_with fail
      refine (HIW.out _).mono ?_
      rintro e w2 ⟨rfl, rfl⟩
      go_wp2_with fail
      refine (HT.out _ HX1.out.ly.nodes).mono ?_
      rintro e w2 ⟨vt, rfl, ot, b2⟩
      have HX2 := Lib.hid (HX1.out.on b2)
      have hz2 := b2.size
      rcases ot.form with ⟨-, hx⟩ | ⟨g, cg, rfl, hg0, hg1, -⟩
      · rw [hx] at hku; simp at hku
      have HK2 := Lib.hid (KmSt.mk HX2.out (ot.lower (by omega)))
      clear b2 ot x0 x1 x2 HX1 HT HX2 HIW
      go_wp2_with fail
      refine (HAT.out _ _ _ HK2.out.own.bs.2).mono ?_
      rintro e w3 ⟨rfl, b3⟩
      have HK3 := Lib.hid (HK2.out.on b3)
      clear b3 HK2 HAT
      go_wp2_with fail
      refine (HOV.out _ _ _ HK3.out.own.bs.2).mono ?_
      rintro e w4 ⟨rfl, b4⟩
      have HK4 := Lib.hid (HK3.out.on b4)
      obtain ⟨-, hrow, hfz⟩ := HK4.out.own.row
      obtain ⟨d0, d1, d2, d3, d4⟩ := hrow ku hku
      clear b4 HK3 HOV hrow
      have hw : IntKind.i64.wrap ((nth tn ku).x2 + y) = (nth tn ku).x2 + y := IntWalk.i64_in _ ⟨by omega, by omega⟩
      go_upto_region 8 with (fail)
      have hK5 := HK4.out.first HQ0.out ku ((nth tn ku).x2 + y) hku
      rw [HUN.out] at hK5
      refine wp_genQ (KmSt w x p c g cg un) hK5 (fun W5 hW5 => ?_)
      have HK5 := Lib.hid hW5
      clear hW5 hK5 HK4 d0 d1 d2 d3 d4 hfz hw HUN
      rw [← HUL.out]
      have hunl : un.length ≤ 11 := by rw [HUL.out]; exact hn11
      clear HUL i1 i0 hbd1 hbd2 hn11 hku
      obtain ⟨x0, x1, x2⟩ := HK5.out.lr.ly.cells.tri
      go_wp2_with fail
      refine (layoutResult_any x un p _ c cg _ HK5.out.own).mono ?_
      rintro e w6 ⟨rfl, o6, b6⟩
      have HK6 := Lib.hid (KmSt.mk (HK5.out.lr.on b6) o6)
      clear b6 o6 HK5 x0 x1 x2
      have b7 := below_mk w6 (.cells #[.int .i64 0, .int .i64 x.wide, .int .i64 x.high, .slice (some ⟨g, 0, none⟩) un.length cg] 30)
      have HK7 := Lib.hid (HK6.out.on b7)
      have HR7 := Lib.hid (AtL.new w6 [.int .i64 0, .int .i64 x.wide, .int .i64 x.high, .slice (some ⟨g, 0, none⟩) un.length cg] 30)
      clear b7 HK6
      unfold lrV
      go_wp2_with fail
      refine (HLF.out _ _ _ HK7.out.own.bs.2).mono ?_
      rintro e w8 ⟨rfl, b8⟩
      have HK8 := Lib.hid (HK7.out.on b8)
      obtain ⟨r0, r1, r2, r3⟩ := (HR7.out.on b8).four
      obtain ⟨z0, z1, z2, z3⟩ := HK8.out.lr.res.cells.four
      have zf := HK8.out.lr.res.free
      have hrl := HR7.out.1
      clear b8 HK7 HR7 HLF
      have hrr := HRR.out
      by_cases hq : lyFault ⟨x.wide, x.high, un⟩ = 0
      · rw [if_pos hq] at hrr
        subst hrr
        clear HRR
        rw [hq]
        clear hq
        go_wp2
        exact bodyPost_ret (v := lrV 0 ⟨x.wide, x.high, un⟩ (.slice (some ⟨g, 0, none⟩) un.length cg)) (by simp [results, Try.results22, lrV, go_sem, z0, z1, z2, z3]) rfl ⟨_, rfl, lr_own HK8.out.own (by omega) _ _ _ _, lr_low HK8.out.lr.below _ _ _ _⟩
      · rw [if_neg hq] at hrr
        subst hrr
        clear HRR
        have hq2 : (lyFault ⟨x.wide, x.high, un⟩ == 0) = false := by simpa using hq
        clear hq
        generalize lyFault ⟨x.wide, x.high, un⟩ = kq at *
        go_wp2
        exact bodyPost_ret (v := lrV 6 ly0 (.slice none 0 0)) (by simp [results, Try.results22, lrV, ly0, go_sem, z0, z1, z2, z3]) rfl ⟨_, rfl, ownQ_nil _ _ _, lr_low HK8.out.lr.below _ _ _ _⟩
  · have e : resizeR x pn y = (partC x pn, ly0) := by unfold resizeR; rw [if_neg hf]
    rw [e]
    have hf2 : (partC x pn == 0) = false := by simpa using hf
    clear hf e
    generalize partC x pn = k at *
    go_enter Try.func22, Try.ntmps22
    go_wp2_with fail
    refine (HF.out _ HX.out.ly.nodes).mono ?_
    rintro e w1 ⟨rfl, b1⟩
    have HX1 := Lib.hid (HX.out.on b1)
    obtain ⟨z0, z1, z2, z3⟩ := HX1.out.res.cells.four
    have zf := HX1.out.res.free
    clear b1 HX
    go_wp2
    exact bodyPost_ret (v := lrV k ly0 (.slice none 0 0)) (by simp [results, Try.results22, lrV, ly0, go_sem, z0, z1, z2, z3]) rfl ⟨_, rfl, ownQ_nil _ _ _, lr_low HX1.out.below _ _ _ _⟩
end Go.Proofs.Ytbfickdgjgbfhaa

/- The program's SplitPane. -/
namespace Go.Proofs.Ytbfickdgjgbfhaa
open Go.RowKit
set_option linter.unusedVariables false
set_option linter.unusedSimpArgs false

theorem OwnQ.capb {T : TypeId} {w : World} {base g n c : Nat} {l : List Q} (h : OwnQ T w base (.slice (some ⟨g, 0, none⟩) n c) l) : l.length ≤ c ∧ c ≤ 9223372036854775807 := by
  rcases h.2 with ⟨e, _⟩ | ⟨g', cap, cur, e, _, _, h1, h2, _⟩
  · simp at e
  · simp at e
    obtain ⟨-, -, rfl⟩ := e
    unfold maxLen at h2
    exact ⟨h1, by omega⟩
theorem fld_rr1 (x : Int) (p : Option Addr) (n c : Nat) (w : World) : (Instr.field 60 (.agg #[.int .i64 x, .slice p n c]) 1).run Try.prog w = .ok (.slice p n c) w := by kernel_rfl
theorem lyHas_zero {x : Ly} (h : lyFault x = 0) (p : Int) : lyHas x p = hasB x.nodes p := by unfold lyHas; simp [h]
theorem sub_size (p : Int) (n : Tr) : ∀ t : Tr, t.panes.Nodup → (sub p n t).size ≤ t.size + n.size
  | .leaf q, _ => by simp only [sub]; split <;> simp [Tr.size] <;> omega
  | .node k f a b, h => by
    simp only [Tr.panes] at h
    rw [List.nodup_append] at h
    by_cases hp : p ∈ a.panes
    · have hb : p ∉ b.panes := fun hb => h.2.2 p hp p hb rfl
      have := sub_size p n a h.1
      simp only [sub, sub_none hb, Tr.size]; omega
    · have := sub_size p n b h.2.1
      simp only [sub, sub_none hp, Tr.size]; omega
theorem splitC_zero {x : Ly} {p k fr : Int} (h : splitC x p k fr = 0) : lyFault x = 0 ∧ inR k 2 3 = true ∧ inR fr 0 5 = true ∧ hasB x.nodes p = true ∧ hasB x.nodes fr = false := by
  unfold splitC at h
  split at h
  · split at h
    · split at h
      · split at h
        · omega
        · rename_i h1 h2 h3 h4
          exact ⟨h1, h2.1, h2.2, h3, by simpa using h4⟩
      · omega
    · omega
  · exact absurd h ‹_›
theorem splitR_small (x : Ly) (pn k fr : Int) : (splitR x pn k fr).2.nodes.length ≤ 2048 := by
  unfold splitR
  split
  · rename_i h
    obtain ⟨hf, -⟩ := splitC_zero h
    obtain ⟨ht, -⟩ := tree_of_fault hf
    split
    · simp [ly0]
    · have h1 := sub_size pn (.node (decide (k = 2)) (Int.tdiv (roomL x pn k - 1) 2) (.leaf pn) (.leaf fr)) x.tr ht.nodup
      have h2 := ht.size
      have h3 := ht.n1
      simp only [Tr.size] at h1
      simp only [num_len, splitT]; omega
  · simp [ly0]

set_option maxRecDepth 100000 in
set_option maxHeartbeats 4000000 in
theorem splitFault_any (x : Ly) (pn k fr : Int) (p : Option Addr) (c : Nat) (w : World) (h : Qs w w.heap.size p x.nodes) (hl : x.nodes.length ≤ 1048576) :
    Calls Try.prog 58 #[.agg #[.int .i64 x.wide, .int .i64 x.high, .slice p x.nodes.length c], .int .i64 pn, .int .i64 k, .int .i64 fr] w fun e w' => e = .returned (.int .i64 (splitC x pn k fr)) ∧ Below w.heap.size w w' := by
  have HX := Lib.hid (LyAt.new w x p c 28 h)
  unfold lyL at HX
  have HC := Lib.hid (fun W h => implLayoutFault_any x p c W h hl)
  have HB0 := Lib.hid (below_mk w (.cells #[.int .i64 x.wide, .int .i64 x.high, .slice p x.nodes.length c] 28))
  clear h
  by_cases hf : lyFault x = 0
  · have HH := Lib.hid (fun q W h => implHasPane_any x q p c W h hl)
    have HLH := Lib.hid (fun q => lyHas_zero hf q)
    have HS : Hid (splitC x pn k fr = if inR k 2 3 = true ∧ inR fr 0 5 = true then (if hasB x.nodes pn = true then (if hasB x.nodes fr = true then 7 else 0) else 4) else 3) := Lib.hid (by unfold splitC; rw [if_pos hf])
    rw [hf] at HC
    clear hf
    cases hk : inR k 2 3
    · have HE : Hid (splitC x pn k fr = 3) := Lib.hid (by rw [HS.out, if_neg (by simp [hk])])
      rw [HE.out]
      clear HE HS HH HLH
      go_enter Try.func58, Try.ntmps58
      go_wp2_with fail
      refine (HC.out _ HX.out.nodes).mono ?_
      rintro e w1 ⟨rfl, b1⟩
      have HB := Lib.hid (below_on HB0.out b1)
      clear b1 HX
      go_wp2_with (go_at_call 74; refine (isWithin_two _ _ _ _ _ _ (by simp)).mono ?_; rw [hk]; rintro e w' ⟨rfl, rfl⟩)
      go_ret
      exact ⟨rfl, below_on HB.out (below_mk _ _)⟩
    cases hfr : inR fr 0 5
    · have HE : Hid (splitC x pn k fr = 3) := Lib.hid (by rw [HS.out, if_neg (by simp [hfr])])
      rw [HE.out]
      clear HE HS HH HLH
      go_enter Try.func58, Try.ntmps58
      go_wp2_with fail
      refine (HC.out _ HX.out.nodes).mono ?_
      rintro e w1 ⟨rfl, b1⟩
      have HB := Lib.hid (below_on HB0.out b1)
      clear b1 HX
      go_wp2_with (go_at_call 74; refine (isWithin_two _ _ _ _ _ _ (by simp)).mono ?_; (first | rw [hk] | rw [hfr]); rintro e w' ⟨rfl, rfl⟩)
      go_ret
      exact ⟨rfl, below_on (below_on HB.out (below_mk _ _)) (below_mk _ _)⟩
    · have HE : Hid (splitC x pn k fr = if hasB x.nodes pn = true then (if hasB x.nodes fr = true then 7 else 0) else 4) := Lib.hid (by rw [HS.out, if_pos ⟨hk, hfr⟩])
      rw [HE.out]
      have H1 := Lib.hid (fun W h => HH.out pn W h)
      rw [HLH.out] at H1
      have H2 := Lib.hid (fun W h => HH.out fr W h)
      rw [HLH.out] at H2
      clear HE HS HH HLH
      cases hp : hasB x.nodes pn
      · rw [hp] at H1
        go_enter Try.func58, Try.ntmps58
        go_wp2_with fail
        refine (HC.out _ HX.out.nodes).mono ?_
        rintro e w1 ⟨rfl, b1⟩
        have HX1 := Lib.hid ((HX.out.on b1).on (below_on (below_mk w1 (.cells #[.int .i64 2, .int .i64 3] 2)) (below_mk _ (.cells #[.int .i64 0, .int .i64 5] 2))))
        have HB := Lib.hid (below_on (below_on HB0.out b1) (below_on (below_mk w1 (.cells #[.int .i64 2, .int .i64 3] 2)) (below_mk _ (.cells #[.int .i64 0, .int .i64 5] 2))))
        obtain ⟨x0, x1, x2⟩ := HX1.out.cells.tri
        clear b1 HX
        go_wp2_with (go_at_call 74; refine (isWithin_two _ _ _ _ _ _ (by simp)).mono ?_; (first | rw [hk] | rw [hfr]); rintro e w' ⟨rfl, rfl⟩)
        refine (H1.out _ HX1.out.nodes).mono ?_
        rintro e w2 ⟨rfl, b2⟩
        have HB2 := Lib.hid (below_on HB.out b2)
        clear b2
        go_wp2
        go_ret
        exact ⟨rfl, HB2.out⟩
      · rw [hp] at H1
        cases hq : hasB x.nodes fr
        all_goals rw [hq] at H2
        all_goals
          go_enter Try.func58, Try.ntmps58
          go_wp2_with fail
          refine (HC.out _ HX.out.nodes).mono ?_
          rintro e w1 ⟨rfl, b1⟩
          have HX1 := Lib.hid ((HX.out.on b1).on (below_on (below_mk w1 (.cells #[.int .i64 2, .int .i64 3] 2)) (below_mk _ (.cells #[.int .i64 0, .int .i64 5] 2))))
          have HB := Lib.hid (below_on (below_on HB0.out b1) (below_on (below_mk w1 (.cells #[.int .i64 2, .int .i64 3] 2)) (below_mk _ (.cells #[.int .i64 0, .int .i64 5] 2))))
          obtain ⟨x0, x1, x2⟩ := HX1.out.cells.tri
          clear b1 HX
          go_wp2_with (go_at_call 74; refine (isWithin_two _ _ _ _ _ _ (by simp)).mono ?_; (first | rw [hk] | rw [hfr]); rintro e w' ⟨rfl, rfl⟩)
          refine (H1.out _ HX1.out.nodes).mono ?_
          rintro e w2 ⟨rfl, b2⟩
          have HX2 := Lib.hid (HX1.out.on b2)
          obtain ⟨x0, x1, x2⟩ := HX2.out.cells.tri
          have HB2 := Lib.hid (below_on HB.out b2)
          clear b2 HX1 HB
          go_wp2_with fail
          refine (H2.out _ HX2.out.nodes).mono ?_
          rintro e w3 ⟨rfl, b3⟩
          have HB3 := Lib.hid (below_on HB2.out b3)
          clear b3 HB2
          go_wp2
          go_ret
          exact ⟨rfl, HB3.out⟩
  · have HE : Hid (splitC x pn k fr = lyFault x) := Lib.hid (by unfold splitC; rw [if_neg hf])
    rw [HE.out]
    have hf2 : (lyFault x == 0) = false := by simpa using hf
    clear hf HE
    generalize lyFault x = kk at *
    go_enter Try.func58, Try.ntmps58
    go_wp2_with fail
    refine (HC.out _ HX.out.nodes).mono ?_
    rintro e w1 ⟨rfl, b1⟩
    have HB := Lib.hid (below_on HB0.out b1)
    clear b1
    go_wp2
    go_ret
    exact ⟨rfl, HB.out⟩
end Go.Proofs.Ytbfickdgjgbfhaa

/- The program's SplitPane. -/
namespace Go.Proofs.Ytbfickdgjgbfhaa
open Go.RowKit
set_option linter.unusedVariables false
set_option linter.unusedSimpArgs false

theorem ins_one (u v : List Q) (z l : Q) : (u ++ l :: v).take u.length ++ z :: (u ++ l :: v).drop u.length = u ++ z :: l :: v := by
  rw [List.take_left', List.drop_left'] <;> rfl
theorem ins_two (u v : List Q) (z l f : Q) : (u ++ z :: l :: v).take (u.length + 2) ++ f :: (u ++ z :: l :: v).drop (u.length + 2) = u ++ z :: l :: f :: v := by
  have e : u ++ z :: l :: v = (u ++ [z, l]) ++ v := by simp
  rw [e, List.take_left' (by simp), List.drop_left' (by simp)]
  simp

set_option maxRecDepth 100000 in
set_option maxHeartbeats 4000000 in
theorem implSplit_any (x : Ly) (pn k fr : Int) (p : Option Addr) (c : Nat) (w : World) (h : Qs w w.heap.size p x.nodes) (hl : x.nodes.length ≤ 1048576) :
    Calls Try.prog 13 #[.agg #[.int .i64 x.wide, .int .i64 x.high, .slice p x.nodes.length c], .int .i64 pn, .int .i64 k, .int .i64 fr] w (NewLr w (splitR x pn k fr).1 (splitR x pn k fr).2) := by
  have HX := Lib.hid (LrAt.start w x p c 28 30 h)
  have HF := Lib.hid (fun W h => splitFault_any x pn k fr p c W h hl)
  have HQ0 := Lib.hid h
  clear h
  by_cases hf : splitC x pn k fr = 0
  · rw [hf] at HF
    obtain ⟨hf0, hk, hfr, hh, hhf⟩ := splitC_zero hf
    have hpc : paneC x pn = 0 := by unfold paneC; rw [if_pos hf0, if_pos hh]
    obtain ⟨r0, r1, r2⟩ := ro_one hpc
    have HRO := Lib.hid (fun W h => implRectOf_any x pn p c W h hl)
    have hroom : roomL x pn k = roomQ (nth (roOf x pn).2 0) k := rfl
    have hrb : 1 ≤ roomL x pn k ∧ roomL x pn k ≤ 200 := by
      rw [hroom]; unfold roomQ; unfold Good at r2; split <;> omega
    have HRM := Lib.hid (fun W => roomOf_any (nth (roOf x pn).2 0) k W)
    rw [← hroom] at HRM
    generalize hro : roOf x pn = ro at *
    have HR0 := Lib.hid r0
    have HR1 := Lib.hid r1
    clear r0 r1 r2 hro hroom
    by_cases hr : roomL x pn k < 3
    · have e : splitR x pn k fr = (6, ly0) := by unfold splitR; rw [if_pos hf, if_pos hr]
      rw [e]
      have hrl := hrb.1
      clear hf e hf0 hk hfr hh hhf hpc hrb
      generalize roomL x pn k = rm at *
      go_enter Try.func13, Try.ntmps13
      go_wp2_with fail
      refine (HF.out _ HX.out.ly.nodes).mono ?_
      rintro e w1 ⟨rfl, b1⟩
      have HX1 := Lib.hid (HX.out.on b1)
      obtain ⟨x0, x1, x2⟩ := HX1.out.ly.cells.tri
      have hz := HX1.out.res.cells.1
      clear b1 HX HF
      go_wp2_with fail
      refine (HRO.out _ HX1.out.ly.nodes).mono ?_
      rintro e w2 ⟨vr, rfl, or_, b2⟩
      have HX2 := Lib.hid (HX1.out.on b2)
      rcases or_.form with ⟨-, hx⟩ | ⟨gr, cr, rfl, _, _, -⟩
      · have := HR1.out; rw [hx] at this; simp at this
      obtain ⟨c0, c1, c2, c3, c4⟩ := or_.row.2.1 0 (by rw [HR1.out]; omega)
      rw [Nat.zero_mul] at c0 c1 c2 c3 c4
      rw [Nat.zero_add] at c1 c2 c3 c4
      have hfd : ∀ W, (Instr.field 60 (.agg #[.int .i64 ro.1, .slice (some ⟨gr, 0, none⟩) ro.2.length cr]) 1).run Try.prog W = .ok (.slice (some ⟨gr, 0, none⟩) ro.2.length cr) W := fun W => fld_rr1 ro.1 _ _ _ W
      have i1 : (0 : Int) < (ro.2.length : Int) := by rw [HR1.out]; decide
      unfold rrV
      clear or_ b2 x0 x1 x2 HX1 HRO
      go_wp2_with fail
      refine (HRM.out _).mono ?_
      rintro e w3 ⟨rfl, b3⟩
      have HX3 := Lib.hid (HX2.out.on b3)
      clear b3 HX2 c0 c1 c2 c3 c4 hfd i1 HRM
      obtain ⟨z0, z1, z2, z3⟩ := HX3.out.res.cells.four
      have zf := HX3.out.res.free
      go_wp2
      exact bodyPost_ret (v := lrV 6 ly0 (.slice none 0 0)) (by simp [results, Try.results13, lrV, ly0, go_sem, z0, z1, z2, z3]) rfl ⟨_, rfl, ownQ_nil _ _ _, lr_low HX3.out.below _ _ _ _⟩
    · have e : splitR x pn k fr = (0, ⟨x.wide, x.high, num (splitT x pn k fr) 0⟩) := by unfold splitR; rw [if_pos hf, if_neg hr]
      rw [e]
      obtain ⟨ht, -⟩ := tree_of_fault hf0
      obtain ⟨u, v, en, h1, h2⟩ := split_found hf0 hh
      have h2 := h2 k (((roomL x pn k - 1) / 2)) fr hk
      have hT : sub pn (.node (decide (k = 2)) (((roomL x pn k - 1) / 2)) (.leaf pn) (.leaf fr)) x.tr = splitT x pn k fr := by
        have htd : Int.tdiv (roomL x pn k - 1) 2 = (roomL x pn k - 1) / 2 := Int.tdiv_eq_ediv_of_nonneg (by omega)
        unfold splitT; rw [htd]
      rw [hT] at h2
      have HT := Lib.hid (fun W h => tidyNodes_any x p c W h ht)
      have hn11 : x.tidy.nodes.length ≤ 11 := ht.tidy.n1
      have hku : u.length < x.tidy.nodes.length := by rw [en]; simp
      have htn0 : 0 < x.tidy.nodes.length := by omega
      have HEN := Lib.hid en
      have hrl := hrb.1
      have hrh := hrb.2
      clear hf e hf0 hk hfr hh hhf hpc hT ht en hrb
      generalize hrm : roomL x pn k = rm at *
      clear hrm
      generalize splitT x pn k fr = T at *
      generalize x.tidy.nodes = tn at *
      have HAT := Lib.hid (fun q d W h => nodeOfPane_any q d tn pn W h (by omega))
      rw [h1] at HAT
      have HI1 : Hid (∀ (b off d : Nat) (W : World), Qs W W.heap.size (some ⟨b, off, none⟩) tn → tn.length ≤ d → 0 < d → d ≤ 9223372036854775807 → Calls Try.prog 62 #[.slice (some ⟨b, off, none⟩) tn.length d, .int .i64 (u.length : Int), .agg #[.int .i64 k, .int .i64 0, .int .i64 (((rm - 1) / 2)), .int .i64 0, .int .i64 0]] W (NewL W (u ++ ⟨k, 0, ((rm - 1) / 2), 0, 0⟩ :: lfQ pn :: v))) := Lib.hid (fun b off d W h1 h2 h3 h4 => by
        have := inserted_any tn u.length ⟨k, 0, ((rm - 1) / 2), 0, 0⟩ b off d W h1 (by omega) h2 (by omega) h3 h4
        rw [HEN.out, ins_one, ← HEN.out] at this
        exact this)
      have hl1 : (u ++ ⟨k, 0, ((rm - 1) / 2), 0, 0⟩ :: lfQ pn :: v : List Q).length = tn.length + 1 := by rw [HEN.out]; simp; omega
      have HI2 := Lib.hid (fun (b off d : Nat) (W : World) h1 h2 h3 h4 => by
        have := inserted_any (u ++ ⟨k, 0, ((rm - 1) / 2), 0, 0⟩ :: lfQ pn :: v) (u.length + 2) (lfQ fr) b off d W h1 (by rw [hl1]; omega) h2 (by rw [hl1]; omega) h3 h4
        rw [ins_two] at this
        exact this)
      have hl2 : (u ++ ⟨k, 0, ((rm - 1) / 2), 0, 0⟩ :: lfQ pn :: lfQ fr :: v : List Q).length = tn.length + 2 := by rw [HEN.out]; simp; omega
      have HLK := Lib.hid (fun ad d W h => linked_any (u ++ ⟨k, 0, ((rm - 1) / 2), 0, 0⟩ :: lfQ pn :: lfQ fr :: v) T ad d W h (by rw [hl2]; omega) (by rw [hl2]; omega) h2)
      generalize u ++ ⟨k, 0, ((rm - 1) / 2), 0, 0⟩ :: lfQ pn :: v = L1 at *
      generalize u ++ ⟨k, 0, ((rm - 1) / 2), 0, 0⟩ :: lfQ pn :: lfQ fr :: v = L2 at *
      clear h1 h2 HEN
      generalize u.length = ku at *
      unfold lfQ at HI2
      dsimp only at HI2
      have e2 : ((ku + 2 : Nat) : Int) = (ku : Int) + 2 := by omega
      rw [e2] at HI2
      clear e2
      have HL1 := Lib.hid hl1
      have HL2 := Lib.hid hl2
      clear hl1 hl2
      go_enter Try.func13, Try.ntmps13
      go_wp2_with fail
      refine (HF.out _ HX.out.ly.nodes).mono ?_
      rintro e w1 ⟨rfl, b1⟩
      have HX1 := Lib.hid (HX.out.on b1)
      obtain ⟨x0, x1, x2⟩ := HX1.out.ly.cells.tri
      have hz := HX1.out.res.cells.1
      clear b1 HX HF
      go_wp2_with fail
      refine (HRO.out _ HX1.out.ly.nodes).mono ?_
      rintro e w2 ⟨vr, rfl, or_, b2⟩
      have HX2 := Lib.hid (HX1.out.on b2)
      rcases or_.form with ⟨-, hx⟩ | ⟨gr, cr, rfl, _, _, -⟩
      · have := HR1.out; rw [hx] at this; simp at this
      obtain ⟨c0, c1, c2, c3, c4⟩ := or_.row.2.1 0 (by rw [HR1.out]; omega)
      rw [Nat.zero_mul] at c0 c1 c2 c3 c4
      rw [Nat.zero_add] at c1 c2 c3 c4
      have hfd : ∀ W, (Instr.field 60 (.agg #[.int .i64 ro.1, .slice (some ⟨gr, 0, none⟩) ro.2.length cr]) 1).run Try.prog W = .ok (.slice (some ⟨gr, 0, none⟩) ro.2.length cr) W := fun W => fld_rr1 ro.1 _ _ _ W
      have i1 : (0 : Int) < (ro.2.length : Int) := by rw [HR1.out]; decide
      unfold rrV
      clear or_ b2 x0 x1 x2 HX1 HRO
      go_wp2_with fail
      refine (HRM.out _).mono ?_
      rintro e w3 ⟨rfl, b3⟩
      have HX3 := Lib.hid (HX2.out.on b3)
      clear b3 HX2 c0 c1 c2 c3 c4 hfd i1 HRM
      have hr3 : ¬ rm < 3 := by omega
      obtain ⟨x0, x1, x2⟩ := HX3.out.ly.cells.tri
      go_wp2_with fail
      refine (HT.out _ HX3.out.ly.nodes).mono ?_
      rintro e w4 ⟨vt, rfl, ot, b4⟩
      have HX4 := Lib.hid (HX3.out.on b4)
      have hz3 := HX3.out.res.cells.1
      have hz4 := b4.size
      rcases ot.form with ⟨-, hx⟩ | ⟨gt, ct, rfl, _, _, -⟩
      · rw [hx] at htn0; simp at htn0
      have HV4 := Lib.hid ot.bs.2
      have HCP4 := Lib.hid ot.capb
      clear x0 x1 x2 b4 ot HX3 HT
      go_wp2_with fail
      refine (HAT.out _ _ _ HV4.out).mono ?_
      rintro e w5 ⟨rfl, b5⟩
      have HX5 := Lib.hid (HX4.out.on b5)
      have HV5 := Lib.hid (HV4.out.on b5)
      have hz5 := b5.size
      clear b5 HX4 HV4 HAT
      have hw1 : IntKind.i64.wrap (rm - 1) = rm - 1 := IntWalk.i64_in _ ⟨by omega, by omega⟩
      go_wp2_with fail
      refine (HI1.out gt 0 ct w5 HV5.out HCP4.out.1 (by have := HCP4.out.1; omega) HCP4.out.2).mono ?_
      rintro e w6 ⟨v6, rfl, o6, b6⟩
      have HX6 := Lib.hid (HX5.out.on b6)
      have hz6 := b6.size
      rcases o6.form with ⟨-, hx⟩ | ⟨g6, c6, rfl, _, _, -⟩
      · have := HL1.out; rw [hx] at this; simp at this
      have HV6 := Lib.hid o6.bs.2
      have HCP6 := Lib.hid o6.capb
      clear o6 b6 HX5 HV5 HI1 hw1 HCP4
      have hku2 : ku ≤ 20 := by omega
      go_wp2_with fail
      refine (HI2.out g6 0 c6 w6 HV6.out HCP6.out.1 (by have := HCP6.out.1; have := HL1.out; omega) HCP6.out.2).mono ?_
      rintro e w7 ⟨v7, rfl, o7, b7⟩
      have HX7 := Lib.hid (HX6.out.on b7)
      have hz7 := b7.size
      rcases o7.form with ⟨-, hx⟩ | ⟨g7, c7, rfl, _, _, -⟩
      · have := HL2.out; rw [hx] at this; simp at this
      have HV7 := Lib.hid o7.bs.2
      clear o7 b7 HX6 HV6 HI2 HCP6
      go_upto_region 11 with (fail)
      have HXd := Lib.hid (HX7.out.on (below_drewN (Below.refl w7.heap.size w7) 1))
      have HVd := Lib.hid (HV7.out.on (below_drewN (Below.refl w7.heap.size w7) 1))
      have hS0 := HXd.out.ly.cells
      unfold lyL at hS0
      clear HX7 HV7
      refine wp_region_noPanic ?_
      refine wp_region_held_drew (S := fun W' => AtL W' w.heap.size [.int .i64 x.wide, .int .i64 x.high, .slice p x.nodes.length c]) (by kernel_rfl) hS0 (fun hHeld => ?_)
      refine takeB 0 53 (.agg #[.int .i64 x.wide, .int .i64 x.high, .slice p x.nodes.length c]) (fun w o hSw ho => ?_) hHeld ?_
      · obtain rfl := Option.some.inj ho; (obtain ⟨z0, z1, z2⟩ := AtL.tri hSw; go_simp)
      simp only [Act.put, sa, s0, ss]
      refine takeA 1 54 (.slice (some ⟨g7, 0, none⟩) L2.length c7) hHeld ?_
      simp only [Act.put, sa, s0, ss]
      refine oneR 2 (by kernel_rfl) (by kernel_rfl) (fun o ho K' hK => ?_)
      obtain rfl := Option.some.inj ho
      clear ho
      go_simp
      refine (HLK.out _ _ _ HVd.out).mono ?_
      rintro e w8 ⟨v8, rfl, o8, b8⟩
      have HX8 := Lib.hid (HXd.out.on b8)
      have hS8 := HX8.out.ly.cells
      unfold lyL at hS8
      obtain ⟨p8, c8, rfl⟩ := o8.slice
      have HV8 := Lib.hid o8
      clear hHeld b8 o8 HXd HVd hS0 HLK
      go_wp2_with fail
      refine hK.out _ _ (hS8) (fun hHeld => ?_)
      clear hK K'
      try simp only [Act.put, sa, s0, ss]
      refine oneR 3 (by kernel_rfl) (by kernel_rfl) (fun o ho K' hK => ?_)
      obtain rfl := Option.some.inj ho
      clear ho
      go_simp
      refine (layoutResult_any x (num T 0) p p8 c c8 _ HV8.out).mono ?_
      rintro e w9 ⟨rfl, o9, b9⟩
      have HX9 := Lib.hid (HX8.out.on b9)
      have HV9 := Lib.hid o9
      have hS9 := HX9.out.ly.cells
      unfold lyL at hS9
      clear hHeld o9 b9 HX8 HV8 hS8
      unfold lrV
      go_wp2_with fail
      refine hK.out _ _ (hS9) (fun hHeld => ?_)
      clear hK K'
      try simp only [Act.put, sa, s0, ss]
      obtain ⟨z0, z1, z2, z3⟩ := HX9.out.res.cells.four
      have zf := HX9.out.res.free
      clear hHeld
      refine oneR 4 (by kernel_rfl) (by kernel_rfl) (fun o ho K' hK => ?_)
      obtain rfl := Option.some.inj ho
      clear ho
      go_simp
      refine hK.out _ _ ((lr_ly hS9 _ _ _ _)) (fun hHeld => ?_)
      clear hK K'
      try simp only [Act.put, sa, s0, ss]
      refine wpAnyH_done (by kernel_rfl) ?_ _
      refine NoPanic.normal ?_
      have HB9 := Lib.hid HX9.out.below
      have hbs : w.heap.size + 1 < w7.drew.heap.size := by simp; omega
      clear hHeld HX9 hS9
      go_wp2
      exact bodyPost_ret (v := lrV 0 ⟨x.wide, x.high, num T 0⟩ (.slice p8 (num T 0).length c8)) (by simp [results, Try.results13, lrV, go_sem, z0, z1, z2, z3]) rfl ⟨_, rfl, lr_own HV9.out hbs _ _ _ _, lr_low HB9.out _ _ _ _⟩
  · have e : splitR x pn k fr = (splitC x pn k fr, ly0) := by unfold splitR; rw [if_neg hf]
    rw [e]
    have hf2 : (splitC x pn k fr == 0) = false := by simpa using hf
    clear hf e
    generalize splitC x pn k fr = kk at *
    go_enter Try.func13, Try.ntmps13
    go_wp2_with fail
    refine (HF.out _ HX.out.ly.nodes).mono ?_
    rintro e w1 ⟨rfl, b1⟩
    have HX1 := Lib.hid (HX.out.on b1)
    obtain ⟨z0, z1, z2, z3⟩ := HX1.out.res.cells.four
    have zf := HX1.out.res.free
    clear b1 HX
    go_wp2
    exact bodyPost_ret (v := lrV kk ly0 (.slice none 0 0)) (by simp [results, Try.results13, lrV, ly0, go_sem, z0, z1, z2, z3]) rfl ⟨_, rfl, ownQ_nil _ _ _, lr_low HX1.out.below _ _ _ _⟩
end Go.Proofs.Ytbfickdgjgbfhaa

/- The model's ResizePane. -/
namespace Go.Proofs.Ytbfickdgjgbfhaa
open Go.RowKit
set_option linter.unusedVariables false
set_option linter.unusedSimpArgs false

/-- the layout boxed, the answer's cell, the copy of the layout in block b -/
structure RzSt (w : World) (x : Ly) (p : Option Addr) (c b g cg : Nat) (ns : List Q) (W : World) : Prop where
  lr : LrAt w x p c W
  out : AtL W b [.int .i64 x.wide, .int .i64 x.high, .slice (some ⟨g, 0, none⟩) ns.length cg]
  own : OwnQ 76 W (w.heap.size + 2) (.slice (some ⟨g, 0, none⟩) ns.length cg) ns
  lt : g < b
theorem RzSt.on {w : World} {x : Ly} {p : Option Addr} {c b g cg : Nat} {ns : List Q} {W W' : World} (h : RzSt w x p c b g cg ns W) (hb : Below W.heap.size W W') : RzSt w x p c b g cg ns W' := ⟨h.lr.on hb, h.out.on hb, h.own.on hb, h.lt⟩
theorem RzSt.first {w W : World} {x : Ly} {p : Option Addr} {c b g cg : Nat} {ns : List Q} (h : RzSt w x p c b g cg ns W) (hn : Qs w w.heap.size p x.nodes) (i : Nat) (v : Int) (hi : i < ns.length) :
    RzSt w x p c b g cg (ns.set i ⟨(nth ns i).x0, (nth ns i).x1, v, (nth ns i).x3, (nth ns i).x4⟩) (W.setCell ⟨g, i * 5 + 2, none⟩ (.int .i64 v)) := by
  have ho := h.own.stored i 2 v hi (by omega)
  have hlt := h.lt
  refine ⟨LrAt.far hn h.lr ho.2 (h.own.lt g rfl).1, ?_, by rw [List.length_set]; exact ho.1, h.lt⟩
  rw [List.length_set]
  exact h.out.far ho.2 (by intro e; cases e; omega)

set_option maxRecDepth 100000 in
set_option maxHeartbeats 4000000 in
theorem specResize_any (x : Ly) (pn y : Int) (p : Option Addr) (c : Nat) (w : World) (h : Qs w w.heap.size p x.nodes) (hl : x.nodes.length ≤ 1048576) :
    Calls Try.prog 21 #[.agg #[.int .i64 x.wide, .int .i64 x.high, .slice p x.nodes.length c], .int .i64 pn, .int .i64 y] w (NewLr w (resizeR x pn y).1 (resizeR x pn y).2) := by
  have HX := Lib.hid (LrAt.start w x p c 28 30 h)
  have HF := Lib.hid (fun W (hx : LyAt W w.heap.size x p c) => l7Asked_any x pn p c w.heap.size W hx hl)
  have HQ0 := Lib.hid h
  clear h
  by_cases hf : paneC x pn = 0
  · obtain ⟨hf0, hh⟩ := paneC_zero hf
    obtain ⟨ht, -⟩ := tree_of_fault hf0
    obtain ⟨i, hi, hidx, hs, hp⟩ := at_of hh
    have HAT := Lib.hid (fun W (hx : LyAt W w.heap.size x p c) => l7At_any x pn p c w.heap.size W hx hl hh)
    rw [hidx] at HAT
    have HUP := Lib.hid (fun W (hx : LyAt W w.heap.size x p c) => l7Up_any x (i : Int) p c w.heap.size W hx hl)
    rw [hf] at HF
    by_cases h1 : x.nodes.length = 1
    · have e : resizeR x pn y = (7, ly0) := by unfold resizeR partC; rw [if_pos hf, if_pos h1, if_neg (by omega)]
      rw [e]
      rw [up_none ht h1] at HUP
      clear hf e ht hf0 hh h1 hs hp hidx
      go_enter Try.func21, Try.ntmps21
      go_wp2_with fail
      refine (HF.out _ HX.out.ly).mono ?_
      rintro e w1 ⟨rfl, b1⟩
      have HX1 := Lib.hid (HX.out.on b1)
      clear b1 HX
      go_wp2_with fail
      refine (HAT.out _ HX1.out.ly).mono ?_
      rintro e w2 ⟨rfl, rfl⟩
      go_wp2_with fail
      refine (HUP.out _ HX1.out.ly).mono ?_
      rintro e w2 ⟨rfl, rfl⟩
      obtain ⟨z0, z1, z2, z3⟩ := HX1.out.res.cells.four
      have zf := HX1.out.res.free
      go_wp2
      exact bodyPost_ret (v := lrV 7 ly0 (.slice none 0 0)) (by simp [results, Try.results21, lrV, ly0, go_sem, z0, z1, z2, z3]) rfl ⟨_, rfl, ownQ_nil _ _ _, lr_low HX1.out.below _ _ _ _⟩
    · have hpc : partC x pn = 0 := by unfold partC; rw [if_pos hf, if_neg h1]
      obtain ⟨uu, hu, huidx, hov⟩ := up_of ht hi hs h1
      rw [huidx] at HUP
      obtain ⟨hsu, -⟩ := over_kid hov
      have hbd := first_bd hf0 hu hsu
      cases hy : inR y (-200) 200
      · have e : resizeR x pn y = (3, ly0) := by unfold resizeR; rw [if_pos hpc, if_neg (by simp [hy])]
        rw [e]
        clear hf e ht hf0 hh h1 hs hp hidx hpc huidx hov hsu hbd
        go_enter Try.func21, Try.ntmps21
        go_wp2_with fail
        refine (HF.out _ HX.out.ly).mono ?_
        rintro e w1 ⟨rfl, b1⟩
        have HX1 := Lib.hid (HX.out.on b1)
        clear b1 HX
        go_wp2_with fail
        refine (HAT.out _ HX1.out.ly).mono ?_
        rintro e w2 ⟨rfl, rfl⟩
        go_wp2_with fail
        refine (HUP.out _ HX1.out.ly).mono ?_
        rintro e w2 ⟨rfl, rfl⟩
        obtain ⟨z0, z1, z2, z3⟩ := HX1.out.res.cells.four
        have zf := HX1.out.res.free
        go_wp2_with (go_at_call 52; refine (l1In_any _ _ _ _).mono ?_; rw [hy]; rintro e w' ⟨rfl, rfl⟩)
        exact bodyPost_ret (v := lrV 3 ly0 (.slice none 0 0)) (by simp [results, Try.results21, lrV, ly0, go_sem, z0, z1, z2, z3]) rfl ⟨_, rfl, ownQ_nil _ _ _, lr_low HX1.out.below _ _ _ _⟩
      · have hz := ht.upd (y := y) hu hsu
        have htr := over_one_up ht hi hs hp hu hov y
        have hflt := hz.tidy_fault
        have htd : (⟨x.wide, x.high, x.nodes.set uu ⟨(nth x.nodes uu).x0, (nth x.nodes uu).x1, (nth x.nodes uu).x2 + y, (nth x.nodes uu).x3, (nth x.nodes uu).x4⟩⟩ : Ly).tidy = ⟨x.wide, x.high, num (upd pn y x.tr) 0⟩ := by unfold Ly.tidy; rw [htr]
        rw [htd] at hflt
        have e : resizeR x pn y = if lyFault ⟨x.wide, x.high, x.nodes.set uu ⟨(nth x.nodes uu).x0, (nth x.nodes uu).x1, (nth x.nodes uu).x2 + y, (nth x.nodes uu).x3, (nth x.nodes uu).x4⟩⟩ = 0 then (0, ⟨x.wide, x.high, num (upd pn y x.tr) 0⟩) else (6, ly0) := by
          unfold resizeR; rw [if_pos hpc, if_pos hy, hflt]
        rw [e]
        have n11 := ht.n1
        have n0 := ht.n0
        have HLF := Lib.hid (fun q d W h => specLayoutFault_any ⟨x.wide, x.high, x.nodes.set uu ⟨(nth x.nodes uu).x0, (nth x.nodes uu).x1, (nth x.nodes uu).x2 + y, (nth x.nodes uu).x3, (nth x.nodes uu).x4⟩⟩ q d W h (by simp; omega))
        have HLD := Lib.hid (fun b W q d (hx : LyAt W b ⟨x.wide, x.high, x.nodes.set uu ⟨(nth x.nodes uu).x0, (nth x.nodes uu).x1, (nth x.nodes uu).x2 + y, (nth x.nodes uu).x3, (nth x.nodes uu).x4⟩⟩ q d) => l7Done_any _ q d b (x.nodes.set uu ⟨(nth x.nodes uu).x0, (nth x.nodes uu).x1, (nth x.nodes uu).x2 + y, (nth x.nodes uu).x3, (nth x.nodes uu).x4⟩) q d W hx hx.nodes (by simp; omega) (by simp; omega) hz.okay)
        have htr2 : trOf (x.nodes.set uu ⟨(nth x.nodes uu).x0, (nth x.nodes uu).x1, (nth x.nodes uu).x2 + y, (nth x.nodes uu).x3, (nth x.nodes uu).x4⟩) (x.nodes.set uu ⟨(nth x.nodes uu).x0, (nth x.nodes uu).x1, (nth x.nodes uu).x2 + y, (nth x.nodes uu).x3, (nth x.nodes uu).x4⟩).length 0 = upd pn y x.tr := htr
        rw [htr2] at HLD
        simp only [List.length_set] at HLF HLD
        obtain ⟨y0, y1⟩ := inR_iff.1 hy
        have hbd1 := hbd.1
        have hbd2 := hbd.2
        clear hf e ht hf0 hh h1 hs hp hidx hpc huidx hov hsu hbd hz htr hflt htd htr2
        generalize hns : x.nodes.set uu ⟨(nth x.nodes uu).x0, (nth x.nodes uu).x1, (nth x.nodes uu).x2 + y, (nth x.nodes uu).x3, (nth x.nodes uu).x4⟩ = ns at *
        have HNS := Lib.hid hns
        have hnsl : ns.length = x.nodes.length := by rw [← hns, List.length_set]
        rw [← hnsl] at HLF HLD
        have HNL := Lib.hid hnsl
        clear hns hnsl
        generalize num (upd pn y x.tr) 0 = un at *
        generalize hrr : (if lyFault ⟨x.wide, x.high, ns⟩ = 0 then ((0 : Int), (⟨x.wide, x.high, un⟩ : Ly)) else (6, ly0)) = rr
        have HRR := Lib.hid hrr
        clear hrr
        go_enter Try.func21, Try.ntmps21
        go_wp2_with fail
        refine (HF.out _ HX.out.ly).mono ?_
        rintro e w1 ⟨rfl, b1⟩
        have HX1 := Lib.hid (HX.out.on b1)
        clear b1 HX HF
        go_wp2_with fail
        refine (HAT.out _ HX1.out.ly).mono ?_
        rintro e w2 ⟨rfl, rfl⟩
        go_wp2_with fail
        refine (HUP.out _ HX1.out.ly).mono ?_
        rintro e w2 ⟨rfl, rfl⟩
        go_wp2_with fail
        refine (l1In_any _ _ _ _).mono ?_
        rw [hy]
        rintro e w' ⟨rfl, rfl⟩
        obtain ⟨bn, off, rfl, _, _, hqn⟩ := HX1.out.ly.nodes (by intro e; simp [e] at n0)
        have hz := HX1.out.res.cells.1
        clear hy hqn HAT HUP
        go_wp2_with fail
        refine (l6Copy_any w.heap.size x ⟨bn, off, none⟩ c _ HX1.out.ly.cells HX1.out.ly.nodes (by omega)).mono ?_
        rintro e w3 ⟨v, rfl, ov, b3⟩
        rcases ov.form with ⟨-, hx⟩ | ⟨g, cg, rfl, hg0, hg1, -⟩
        · rw [hx] at n0; simp at n0
        have b4 := below_mk w3 (.cells #[.int .i64 x.wide, .int .i64 x.high, .slice (some ⟨g, 0, none⟩) x.nodes.length cg] 28)
        have HR4 : Hid (RzSt w x (some ⟨bn, off, none⟩) c w3.heap.size g cg x.nodes _) := Lib.hid ⟨(HX1.out.on b3).on b4, AtL.new w3 [.int .i64 x.wide, .int .i64 x.high, .slice (some ⟨g, 0, none⟩) x.nodes.length cg] 28, (ov.lower (by omega)).on b4, hg1⟩
        clear ov b3 b4 HX1
        go_upto_region 10 with (fail)
        refine wp_genQ (RzSt w x (some ⟨bn, off, none⟩) c w3.heap.size g cg x.nodes) HR4.out (fun W4 hW4 => ?_)
        clear HR4
        generalize w3.heap.size = b9 at *
        have HR0 := Lib.hid hW4
        have i1 : (uu : Int) < (x.nodes.length : Int) := by omega
        have i3 : (0 : Int) ≤ (uu : Int) := by omega
        have hS0 := (hW4.on (below_drewN (Below.refl W4.heap.size W4) 1)).out
        obtain ⟨-, hrow, hfz⟩ := hW4.own.row
        obtain ⟨d0, d1, d2, d3, d4⟩ := hrow uu hu
        have HX2 := Lib.hid (show -199 ≤ (nth x.nodes uu).x2 + y ∧ (nth x.nodes uu).x2 + y ≤ 400 by omega)
        clear hrow hW4
        refine wp_region_noPanic ?_
        refine wp_region_held_drew (S := fun W' => AtL W' b9 [.int .i64 x.wide, .int .i64 x.high, .slice (some ⟨g, 0, none⟩) x.nodes.length cg]) (by kernel_rfl) hS0 (fun hHeld => ?_)
        refine takeA 0 27 (.pointer (some ⟨b9, 2, none⟩)) hHeld ?_
        simp only [Act.put, sa, s0, ss]
        refine takeB 1 28 (.slice (some ⟨g, 0, none⟩) x.nodes.length cg) (fun w o hSw ho => ?_) hHeld ?_
        · obtain rfl := Option.some.inj ho; (obtain ⟨z0, z1, z2⟩ := AtL.tri hSw; go_simp)
        simp only [Act.put, sa, s0, ss]
        refine takeA 2 29 (.int .i64 (uu : Int)) hHeld ?_
        simp only [Act.put, sa, s0, ss]
        refine takeA 3 30 (.pointer (some ⟨b9, 2, none⟩)) hHeld ?_
        simp only [Act.put, sa, s0, ss]
        refine takeB 4 31 (.slice (some ⟨g, 0, none⟩) x.nodes.length cg) (fun w o hSw ho => ?_) hHeld ?_
        · obtain rfl := Option.some.inj ho; (obtain ⟨z0, z1, z2⟩ := AtL.tri hSw; go_simp)
        simp only [Act.put, sa, s0, ss]
        refine takeA 5 32 (.int .i64 (uu : Int)) hHeld ?_
        simp only [Act.put, sa, s0, ss]
        refine takeA 6 33 (.pointer (some ⟨g, uu * 5, none⟩)) hHeld ?_
        simp only [Act.put, sa, s0, ss]
        refine takeA 7 34 (.pointer (some ⟨g, uu * 5 + 2, none⟩)) hHeld ?_
        simp only [Act.put, sa, s0, ss]
        refine takeA 9 36 (.int .i64 y) hHeld ?_
        simp only [Act.put, sa, s0, ss]
        refine oneR 8 (by kernel_rfl) (by kernel_rfl) (fun o ho K' hK => ?_)
        obtain rfl := Option.some.inj ho
        clear ho
        go_simp
        refine hK.out _ _ (hHeld) (fun hHeld => ?_)
        clear hK K'
        try simp only [Act.put, sa, s0, ss]
        refine takeB 10 37 (.int .i64 ((nth x.nodes uu).x2 + y)) (fun w o hSw ho => ?_) hHeld ?_
        · obtain rfl := Option.some.inj ho; (have z := HX2.out; go_simp; exact IntWalk.i64_in _ ⟨by omega, by omega⟩)
        simp only [Act.put, sa, s0, ss]
        refine takeA 11 38 (.pointer (some ⟨g, uu * 5, none⟩)) hHeld ?_
        simp only [Act.put, sa, s0, ss]
        refine takeA 12 39 (.pointer (some ⟨g, uu * 5 + 2, none⟩)) hHeld ?_
        simp only [Act.put, sa, s0, ss]
        refine oneR 13 (by kernel_rfl) (by kernel_rfl) (fun o ho K' hK => ?_)
        obtain rfl := Option.some.inj ho
        clear ho
        go_simp
        have hR5 := (HR0.out.first HQ0.out uu ((nth x.nodes uu).x2 + y) hu).on (below_drewN (Below.refl _ _) 1)
        have hS5 := hR5.out
        rw [List.length_set] at hS5
        rw [HNS.out] at hR5
        have HR5 := Lib.hid hR5
        clear hHeld hR5 hS0 d0 d1 d2 d3 d4 hfz HR0
        refine hK.out _ _ (hS5) (fun hHeld => ?_)
        clear hK K'
        try simp only [Act.put, sa, s0, ss]
        refine wpAnyH_done (by kernel_rfl) ?_ _
        refine NoPanic.normal ?_
        clear hHeld hS5
        refine wp_then (fun W' => RzSt w x (some ⟨bn, off, none⟩) c b9 g cg ns W') HR5.out (fun W6 hW6 => ?_)
        have HR6 := Lib.hid hW6
        rw [← HNL.out]
        have hnl : ns.length ≤ 11 := by rw [HNL.out]; exact n11
        obtain ⟨x0, x1, x2⟩ := hW6.out.tri
        clear hW6 HR5 HNL HNS n11 n0 HX2 i1
        go_wp2_with fail
        refine (HLF.out _ _ _ HR6.out.own.bs.2).mono ?_
        rintro e w8 ⟨rfl, b8⟩
        have HR8 := Lib.hid (HR6.out.on b8)
        clear b8 HR6 HLF x0 x1 x2
        obtain ⟨x0, x1, x2⟩ := HR8.out.out.tri
        obtain ⟨z0, z1, z2, z3⟩ := HR8.out.lr.res.cells.four
        have zf := HR8.out.lr.res.free
        have hz8 := HR8.out.lr.res.cells.1
        have hrr := HRR.out
        by_cases hq : lyFault ⟨x.wide, x.high, ns⟩ = 0
        · rw [if_pos hq] at hrr
          subst hrr
          clear HRR z0 z1 z2 z3 zf
          rw [hq]
          clear hq
          go_wp2_with fail
          refine (HLD.out b9 _ _ _ ⟨HR8.out.out, HR8.out.own.bs.2⟩).mono ?_
          rintro e w9 ⟨v9, rfl, o9, b9'⟩
          have HR9 := Lib.hid (HR8.out.on b9')
          obtain ⟨p9, c9, rfl⟩ := o9.slice
          have HV := Lib.hid o9
          obtain ⟨z0, z1, z2, z3⟩ := HR9.out.lr.res.cells.four
          have zf := HR9.out.lr.res.free
          clear o9 b9' HR8 x0 x1 x2
          unfold lrV
          go_wp2
          exact bodyPost_ret (v := lrV 0 ⟨x.wide, x.high, un⟩ (.slice p9 un.length c9)) (by simp [results, Try.results21, lrV, go_sem, z0, z1, z2, z3]) rfl ⟨_, rfl, lr_own HV.out hz8 _ _ _ _, lr_low HR9.out.lr.below _ _ _ _⟩
        · rw [if_neg hq] at hrr
          subst hrr
          clear HRR
          have hq2 : (lyFault ⟨x.wide, x.high, ns⟩ == 0) = false := by simpa using hq
          clear hq
          generalize lyFault ⟨x.wide, x.high, ns⟩ = kq at *
          go_wp2
          exact bodyPost_ret (v := lrV 6 ly0 (.slice none 0 0)) (by simp [results, Try.results21, lrV, ly0, go_sem, z0, z1, z2, z3]) rfl ⟨_, rfl, ownQ_nil _ _ _, lr_low HR8.out.lr.below _ _ _ _⟩
  · have e : resizeR x pn y = (paneC x pn, ly0) := by
      have hp : partC x pn = paneC x pn := by unfold partC; rw [if_neg hf]
      unfold resizeR; rw [hp, if_neg hf]
    rw [e]
    have hf2 : (paneC x pn == 0) = false := by simpa using hf
    clear hf e
    generalize paneC x pn = k at *
    go_enter Try.func21, Try.ntmps21
    go_wp2_with fail
    refine (HF.out _ HX.out.ly).mono ?_
    rintro e w1 ⟨rfl, b1⟩
    have HX1 := Lib.hid (HX.out.on b1)
    obtain ⟨z0, z1, z2, z3⟩ := HX1.out.res.cells.four
    have zf := HX1.out.res.free
    clear b1 HX
    go_wp2
    exact bodyPost_ret (v := lrV k ly0 (.slice none 0 0)) (by simp [results, Try.results21, lrV, ly0, go_sem, z0, z1, z2, z3]) rfl ⟨_, rfl, ownQ_nil _ _ _, lr_low HX1.out.below _ _ _ _⟩
end Go.Proofs.Ytbfickdgjgbfhaa
