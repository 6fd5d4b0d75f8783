/- The model's KillPane. -/
import Derived.Test.YtbfickdgjgbfhaaQEdSpecToEdSpec2
import Derived.Test.YtbfickdgjgbfhaaQEdDataToEdTidyM
import Derived.Test.YtbfickdgjgbfhaaQLyImpl4
namespace Go.Proofs.Ytbfickdgjgbfhaa
open Go.RowKit
set_option linter.unusedVariables false
set_option linter.unusedSimpArgs false

/-- the layout boxed, the answer's cell, nodes of the call's own -/
structure KmSt (w : World) (x : Ly) (p : Option Addr) (c g cg : Nat) (ns : List Q) (W : World) : Prop where
  lr : LrAt w x p c W
  own : OwnQ 76 W (w.heap.size + 2) (.slice (some ⟨g, 0, none⟩) ns.length cg) ns
theorem KmSt.on {w : World} {x : Ly} {p : Option Addr} {c g cg : Nat} {ns : List Q} {W W' : World} (h : KmSt w x p c g cg ns W) (hb : Below W.heap.size W W') : KmSt w x p c g cg ns W' := ⟨h.lr.on hb, h.own.on hb⟩
theorem LrAt.far {w W W' : World} {x : Ly} {p : Option Addr} {c g : Nat} (hn : Qs w w.heap.size p x.nodes) (h : LrAt w x p c W) (hg : W.grownBy W' (some g)) (hlo : w.heap.size + 2 ≤ g) : LrAt w x p c W' := by
  have hb : Below w.heap.size w W' := h.below.trans (below_of_grown hg h.below.size (fun g' e => by cases e; omega))
  exact ⟨⟨h.ly.cells.far hg (by intro e; cases e; omega), hn.on hb⟩, h.res.far hg (by intro e; cases e; omega), hb⟩
theorem KmSt.put {w W : World} {x : Ly} {p : Option Addr} {c g cg : Nat} {ns : List Q} (h : KmSt w x p c g cg ns W) (hn : Qs w w.heap.size p x.nodes) (i : Nat) (q : Q) (hi : i < ns.length) (W' : World)
    (hW : W' = ((((W.setCell ⟨g, i * 5, none⟩ (.int .i64 q.x0)).setCell ⟨g, i * 5 + 1, none⟩ (.int .i64 q.x1)).setCell ⟨g, i * 5 + 2, none⟩ (.int .i64 q.x2)).setCell ⟨g, i * 5 + 3, none⟩ (.int .i64 q.x3)).setCell ⟨g, i * 5 + 4, none⟩ (.int .i64 q.x4)) : KmSt w x p c g cg (ns.set i q) W' := by
  have ho := h.own.put i q hi
  rw [← hW] at ho
  exact ⟨LrAt.far hn h.lr ho.2 (h.own.lt g rfl).1, by rw [List.length_set]; exact ho.1⟩

set_option maxRecDepth 100000 in
set_option maxHeartbeats 4000000 in
theorem specKill_any (x : Ly) (pn : Int) (p : Option Addr) (c : Nat) (w : World) (h : Qs w w.heap.size p x.nodes) (hl : x.nodes.length ≤ 1048576) :
    Calls Try.prog 19 #[.agg #[.int .i64 x.wide, .int .i64 x.high, .slice p x.nodes.length c], .int .i64 pn] w (NewLr w (killR x pn).1 (killR x pn).2) := by
  have HX := Lib.hid (LrAt.start w x p c 28 30 h)
  have HF := Lib.hid (fun W (hx : LyAt W w.heap.size x p c) => l7Asked_any x pn p c w.heap.size W hx hl)
  have HQ0 := Lib.hid h
  clear h
  by_cases hf : paneC x pn = 0
  · obtain ⟨hf0, hh⟩ := paneC_zero hf
    obtain ⟨ht, -⟩ := tree_of_fault hf0
    obtain ⟨i, hi, hidx, hs, hp⟩ := at_of hh
    have HAT := Lib.hid (fun W (hx : LyAt W w.heap.size x p c) => l7At_any x pn p c w.heap.size W hx hl hh)
    rw [hidx] at HAT
    have HUP := Lib.hid (fun W (hx : LyAt W w.heap.size x p c) => l7Up_any x (i : Int) p c w.heap.size W hx hl)
    rw [hf] at HF
    by_cases h1 : x.nodes.length = 1
    · have e : killR x pn = (7, ly0) := by unfold killR partC; rw [if_pos hf, if_pos h1, if_neg (by omega)]
      rw [e]
      rw [up_none ht h1] at HUP
      clear hf e ht hf0 hh h1 hs hp hidx
      go_enter Try.func19, Try.ntmps19
      go_wp2_with fail
      refine (HF.out _ HX.out.ly).mono ?_
      rintro e w1 ⟨rfl, b1⟩
      have HX1 := Lib.hid (HX.out.on b1)
      clear b1 HX
      go_wp2_with fail
      refine (HAT.out _ HX1.out.ly).mono ?_
      rintro e w2 ⟨rfl, rfl⟩
      go_wp2_with fail
      refine (HUP.out _ HX1.out.ly).mono ?_
      rintro e w2 ⟨rfl, rfl⟩
      obtain ⟨z0, z1, z2, z3⟩ := HX1.out.res.cells.four
      have zf := HX1.out.res.free
      go_wp2
      exact bodyPost_ret (v := lrV 7 ly0 (.slice none 0 0)) (by simp [results, Try.results19, lrV, ly0, go_sem, z0, z1, z2, z3]) rfl ⟨_, rfl, ownQ_nil _ _ _, lr_low HX1.out.below _ _ _ _⟩
    · have hpc : partC x pn = 0 := by unfold partC; rw [if_pos hf, if_neg h1]
      have e : killR x pn = (0, ⟨x.wide, x.high, num (kill pn x.tr) 0⟩) := by unfold killR; rw [if_pos hpc]
      rw [e]
      obtain ⟨uu, hu, huidx, hov⟩ := up_of ht hi hs h1
      rw [huidx] at HUP
      obtain ⟨hsu, -⟩ := over_kid hov
      obtain ⟨-, -, g3, g4, g5, g6⟩ := (ht.okay uu hu).split hsu
      have hpn := parts_ne ht.okay ht.uses hu hsu
      obtain ⟨ia, ha⟩ := Int.eq_ofNat_of_zero_le (show 0 ≤ (nth x.nodes uu).x3 by omega)
      obtain ⟨ib, hb⟩ := Int.eq_ofNat_of_zero_le (show 0 ≤ (nth x.nodes uu).x4 by omega)
      have hxx : (ia = i ∧ ib ≠ i) ∨ (ib = i ∧ ia ≠ i) := by
        simp only [over, Bool.and_eq_true, Bool.or_eq_true, beq_iff_eq] at hov
        rcases hov.2 with h | h
        · exact .inl ⟨by omega, by omega⟩
        · exact .inr ⟨by omega, by omega⟩
      obtain ⟨ot, hot⟩ : ∃ ot : Nat, (ot : Int) = (ia : Int) + (ib : Int) - (i : Int) := ⟨ia + ib - i, by omega⟩
      have hotl : ot < x.nodes.length := by omega
      have hup : uu < ot := by omega
      have hk := trOf_kill ht.okay ht.uses ht.once hi hs hp hu hov (other := ot) (by rw [ha, hb]; omega) x.nodes.length 0 (by omega) ht.n0
      have hokk := okay_kill ht.okay hu hotl hup
      have n11 := ht.n1
      have n0 := ht.n0
      have HLD := Lib.hid (fun W q d (hx : LyAt W w.heap.size x p c) (hn : Qs W W.heap.size q (x.nodes.set uu (nth x.nodes ot))) => l7Done_any x p c w.heap.size (x.nodes.set uu (nth x.nodes ot)) q d W hx hn (by simp; omega) (by simp; omega) hokk)
      simp only [List.length_set] at HLD
      rw [hk] at HLD
      have HTR : Hid (trOf x.nodes x.nodes.length 0 = x.tr) := Lib.hid rfl
      rw [HTR.out] at HLD
      have HA := Lib.hid ha
      have HB := Lib.hid hb
      have hii : i < 11 := by omega
      have hia : ia < 11 := by omega
      have hib : ib < 11 := by omega
      dsimp only
      clear hf e ht hf0 hh h1 hs hp hidx hk hokk hpc huidx hov hsu g3 g4 g5 g6 hpn hxx ha hb HTR
      generalize num (kill pn x.tr) 0 = tn at *
      obtain ⟨i0r, hi0r, hz0, hz1, hz2⟩ := info_parts Try.info_nodeD
      have HI := Lib.hid (And.intro hi0r (And.intro hz0 (And.intro hz1 hz2)))
      clear hi0r hz0 hz1 hz2
      go_enter Try.func19, Try.ntmps19
      go_wp2_with fail
      refine (HF.out _ HX.out.ly).mono ?_
      rintro e w1 ⟨rfl, b1⟩
      have HX1 := Lib.hid (HX.out.on b1)
      clear b1 HX
      go_wp2_with fail
      refine (HAT.out _ HX1.out.ly).mono ?_
      rintro e w2 ⟨rfl, rfl⟩
      go_wp2_with fail
      refine (HUP.out _ HX1.out.ly).mono ?_
      rintro e w2 ⟨rfl, rfl⟩
      obtain ⟨x0, x1, x2⟩ := HX1.out.ly.cells.tri
      have hz := HX1.out.res.cells.1
      have hzl := HX1.out.ly.cells.1
      have HX2 := Lib.hid (HX1.out.on (below_mk w1 (.cells #[] 76)))
      have O2 := World.ownsRow_made (e := 76) (size := 5) (base := w.heap.size + 2) w1 #[] 0 (by omega) (by simp [maxLen]) (by simp)
      have HO := Lib.hid O2
      obtain ⟨bn, off, rfl, _, _, hqn⟩ := HX1.out.ly.nodes (by intro e; simp [e] at n0)
      have HQ := Lib.hid (qs_cells HX2.out.ly.nodes)
      clear O2 hqn HAT HUP HF
      go_wp2_with (at_builtin; refine wpList_append_own _ rfl _ _ 26 rfl (w.heap.size + 2) 76 i0r _ 5 40 Try.underlying26 HI.out.1 HI.out.2.1 HI.out.2.2.1 HI.out.2.2.2 rfl (by decide) _ _ _ rfl HO.out ⟨bn, off, none⟩ x.nodes.length c (x.nodes.flatMap qC) rfl (flatQ_len _) HQ.out (flatQ_one _) (by unfold maxLen; omega) (by omega) (by simp; omega) ?_; intro v' w3 hown hgrow _)
      have hO3 : OwnQ 76 w3 (w.heap.size + 2) v' x.nodes := by unfold OwnQ; simpa using hown
      rcases hO3.form with ⟨-, hx⟩ | ⟨g, cg, rfl, hg0, hg1, -⟩
      · rw [hx] at n0; simp at n0
      have hlr : LrAt w x (some ⟨bn, off, none⟩) c w3 := LrAt.far HQ0.out HX2.out hgrow (World.ownsRow.lt HO.out _ rfl).1
      have HK := Lib.hid (KmSt.mk hlr hO3)
      clear hown hgrow hlr hO3 HO HQ HX2 HX1 x0 x1 x2
      go_upto_region 9 with (fail)
      have hK0 := HK.out.on (below_drewN (Below.refl w3.heap.size w3) 1)
      have i1 : (uu : Int) < (x.nodes.length : Int) := by omega
      have i2 : (ot : Int) < (x.nodes.length : Int) := by omega
      have i3 : (0 : Int) ≤ (uu : Int) := by omega
      have i4 : (0 : Int) ≤ (ot : Int) := by omega
      have HOT := Lib.hid hot
      clear hot HK
      refine wp_region_noPanic ?_
      refine wp_region_held_drew (S := fun W' => KmSt w x (some ⟨bn, off, none⟩) c g cg x.nodes W') (by kernel_rfl) hK0 (fun hHeld => ?_)
      refine takeA 0 27 (.slice (some ⟨g, 0, none⟩) x.nodes.length cg) hHeld ?_
      simp only [Act.put, sa, s0, ss]
      refine takeA 1 28 (.int .i64 (uu : Int)) hHeld ?_
      simp only [Act.put, sa, s0, ss]
      refine takeA 2 29 (.pointer (some ⟨g, uu * 5, none⟩)) hHeld ?_
      simp only [Act.put, sa, s0, ss]
      refine takeA 3 30 (.pointer (some ⟨g, uu * 5 + 3, none⟩)) hHeld ?_
      simp only [Act.put, sa, s0, ss]
      refine takeB 4 31 (.int .i64 (ia : Int)) (fun w o hSw ho => ?_) hHeld ?_
      · obtain rfl := Option.some.inj ho; (obtain ⟨d0, d1, d2, d3, d4⟩ := hSw.own.row.2.1 uu hu; rw [HA.out] at d3; go_simp)
      simp only [Act.put, sa, s0, ss]
      refine takeA 5 32 (.slice (some ⟨g, 0, none⟩) x.nodes.length cg) hHeld ?_
      simp only [Act.put, sa, s0, ss]
      refine takeA 6 33 (.int .i64 (uu : Int)) hHeld ?_
      simp only [Act.put, sa, s0, ss]
      refine takeA 7 34 (.pointer (some ⟨g, uu * 5, none⟩)) hHeld ?_
      simp only [Act.put, sa, s0, ss]
      refine takeA 8 35 (.pointer (some ⟨g, uu * 5 + 4, none⟩)) hHeld ?_
      simp only [Act.put, sa, s0, ss]
      refine takeB 9 36 (.int .i64 (ib : Int)) (fun w o hSw ho => ?_) hHeld ?_
      · obtain rfl := Option.some.inj ho; (obtain ⟨d0, d1, d2, d3, d4⟩ := hSw.own.row.2.1 uu hu; rw [HB.out] at d4; go_simp)
      simp only [Act.put, sa, s0, ss]
      refine takeB 10 37 (.int .i64 ((ia : Int) + (ib : Int))) (fun w o hSw ho => ?_) hHeld ?_
      · obtain rfl := Option.some.inj ho; (go_simp; exact IntWalk.i64_in _ ⟨by omega, by omega⟩)
      simp only [Act.put, sa, s0, ss]
      refine takeA 11 38 (.int .i64 (i : Int)) hHeld ?_
      simp only [Act.put, sa, s0, ss]
      refine takeB 12 39 (.int .i64 (ot : Int)) (fun w o hSw ho => ?_) hHeld ?_
      · obtain rfl := Option.some.inj ho; (rw [HOT.out]; go_simp; exact IntWalk.i64_in _ ⟨by omega, by omega⟩)
      simp only [Act.put, sa, s0, ss]
      refine takeA 13 9 (.int .i64 (ot : Int)) hHeld ?_
      simp only [Act.put, sa, s0, ss]
      refine wpAnyH_done (by kernel_rfl) ?_ _
      refine NoPanic.normal ?_
      refine wp_then (fun W' => KmSt w x (some ⟨bn, off, none⟩) c g cg x.nodes W') hHeld (fun W6 hW6 => ?_)
      clear hHeld hK0
      have HK6 := Lib.hid hW6
      obtain ⟨-, hrow, hfz⟩ := hW6.own.row
      obtain ⟨c0, c1, c2, c3, c4⟩ := hrow ot hotl
      obtain ⟨u0, u1, u2, u3, u4⟩ := hrow uu hu
      clear hrow hW6
      go_upto_region 11 with (fail)
      refine wp_genQ (KmSt w x (some ⟨bn, off, none⟩) c g cg (x.nodes.set uu (nth x.nodes ot))) (HK6.out.put HQ0.out uu (nth x.nodes ot) hu _ rfl) (fun W7 hW7 => ?_)
      have HK7 := Lib.hid hW7
      have hz7 := hW7.lr.res.cells.1
      clear hW7 HK6 c0 c1 c2 c3 c4 u0 u1 u2 u3 u4 hfz
      go_wp2_with fail
      refine (HLD.out _ _ _ HK7.out.lr.ly HK7.out.own.bs.2).mono ?_
      rintro e w8 ⟨v, rfl, ov, b8⟩
      have HX8 := Lib.hid (HK7.out.lr.on b8)
      have hz8 := b8.size
      obtain ⟨pv, cv, rfl⟩ := ov.slice
      have HV := Lib.hid ov
      clear ov b8 HK7 HLD
      obtain ⟨z0, z1, z2, z3⟩ := HX8.out.res.cells.four
      have zf := HX8.out.res.free
      have HB8 := Lib.hid HX8.out.below
      unfold lrV
      go_wp2
      exact bodyPost_ret (v := lrV 0 ⟨x.wide, x.high, tn⟩ (.slice pv tn.length cv)) (by simp [results, Try.results19, lrV, go_sem, z0, z1, z2, z3]) rfl ⟨_, rfl, lr_own HV.out hz7 _ _ _ _, lr_low HB8.out _ _ _ _⟩
  · have e : killR x pn = (paneC x pn, ly0) := by
      have hp : partC x pn = paneC x pn := by unfold partC; rw [if_neg hf]
      unfold killR; rw [hp, if_neg hf]
    rw [e]
    have hf2 : (paneC x pn == 0) = false := by simpa using hf
    clear hf e
    generalize paneC x pn = k at *
    go_enter Try.func19, Try.ntmps19
    go_wp2_with fail
    refine (HF.out _ HX.out.ly).mono ?_
    rintro e w1 ⟨rfl, b1⟩
    have HX1 := Lib.hid (HX.out.on b1)
    obtain ⟨z0, z1, z2, z3⟩ := HX1.out.res.cells.four
    have zf := HX1.out.res.free
    clear b1 HX
    go_wp2
    exact bodyPost_ret (v := lrV k ly0 (.slice none 0 0)) (by simp [results, Try.results19, lrV, ly0, go_sem, z0, z1, z2, z3]) rfl ⟨_, rfl, ownQ_nil _ _ _, lr_low HX1.out.below _ _ _ _⟩
end Go.Proofs.Ytbfickdgjgbfhaa
