/- The model's SplitPane. -/
import Derived.Test.YtbfickdgjgbfhaaQEdSpec3ToEdSpec4
namespace Go.Proofs.Ytbfickdgjgbfhaa
open Go.RowKit
set_option linter.unusedVariables false
set_option linter.unusedSimpArgs false

set_option maxRecDepth 100000 in
set_option maxHeartbeats 4000000 in
theorem l7Room_any (x : Ly) (pn k : Int) (p : Option Addr) (c b : Nat) (w : World) (h : LyAt w b x p c) (hl : x.nodes.length ≤ 1048576) (hpc : paneC x pn = 0) :
    Calls Try.prog 54 #[.pointer (some ⟨b, 0, none⟩), .int .i64 pn, .int .i64 k] w fun e w' => e = .returned (.int .i64 (roomL x pn k)) ∧ Below w.heap.size w w' := by
  obtain ⟨x0, x1, x2⟩ := h.cells.tri
  have hbl := h.cells.1
  have HRO := Lib.hid (specRectOf_any x pn p c w h.nodes hl)
  obtain ⟨r0, r1, r2⟩ := ro_one hpc
  have hroom : roomL x pn k = if k = 2 then (nth (roOf x pn).2 0).x3 else (nth (roOf x pn).2 0).x4 := rfl
  rw [hroom]
  clear h hpc hroom r0 r2
  generalize roOf x pn = ro at *
  have HR1 := Lib.hid r1
  clear r1
  cases hk : (k == 2)
  all_goals
    first
      | rw [if_neg (show ¬ k = 2 by simpa using hk)]
      | rw [if_pos (show k = 2 by simpa using hk)]
    go_enter Try.func54, Try.ntmps54
    go_wp2_with fail
    refine HRO.out.mono ?_
    rintro e w2 ⟨pr, cr, rfl, or_, b2⟩
    have hne : ro.2 ≠ [] := by intro e; have := HR1.out; rw [e] at this; simp at this
    obtain ⟨gr, og, rfl, _, _, hc⟩ := or_ hne
    obtain ⟨c0, c1, c2, c3, c4⟩ := hc 0 (by rw [HR1.out]; omega)
    rw [Nat.zero_mul] at c0 c1 c2 c3 c4
    rw [Nat.add_zero] at c0 c1 c2 c3 c4
    have hfd : ∀ W, (Instr.field 60 (.agg #[.int .i64 ro.1, .slice (some ⟨gr, og, none⟩) ro.2.length cr]) 1).run Try.prog W = .ok (.slice (some ⟨gr, og, none⟩) ro.2.length cr) W := fun W => fld_rr1 ro.1 _ _ _ W
    have i1 : (0 : Int) < (ro.2.length : Int) := by rw [HR1.out]; decide
    have HB := Lib.hid (below_on b2 (below_mk w2 (.cells #[.int .i64 (nth ro.2 0).x0, .int .i64 (nth ro.2 0).x1, .int .i64 (nth ro.2 0).x2, .int .i64 (nth ro.2 0).x3, .int .i64 (nth ro.2 0).x4] 69)))
    unfold rrV
    clear or_ b2 x0 x1 x2 HRO hc hne
    go_wp2
    go_ret
    exact ⟨rfl, HB.out⟩

theorem two_new (w : World) (a b : Q) (t : TypeId) : ∀ j u, (([a, b] : List Q).flatMap qC)[j]? = some u → (w.alloc (.cells #[.int .i64 a.x0, .int .i64 a.x1, .int .i64 a.x2, .int .i64 a.x3, .int .i64 a.x4, .int .i64 b.x0, .int .i64 b.x1, .int .i64 b.x2, .int .i64 b.x3, .int .i64 b.x4] t)).cell? ((⟨w.heap.size, 0, none⟩ : Addr).add j) = some u := by
  intro j u hj
  have ea : (⟨w.heap.size, 0, none⟩ : Addr).add j = ⟨w.heap.size, j, none⟩ := by simp [Addr.add]; omega
  rw [ea]
  exact (AtL.new w [.int .i64 a.x0, .int .i64 a.x1, .int .i64 a.x2, .int .i64 a.x3, .int .i64 a.x4, .int .i64 b.x0, .int .i64 b.x1, .int .i64 b.x2, .int .i64 b.x3, .int .i64 b.x4] t).get j hj

set_option maxRecDepth 100000 in
set_option maxHeartbeats 4000000 in
theorem specSplit_bad (x : Ly) (pn k fr : Int) (p : Option Addr) (c : Nat) (w : World) (h : Qs w w.heap.size p x.nodes) (hl : x.nodes.length ≤ 1048576) (hf : splitC x pn k fr ≠ 0) :
    Calls Try.prog 11 #[.agg #[.int .i64 x.wide, .int .i64 x.high, .slice p x.nodes.length c], .int .i64 pn, .int .i64 k, .int .i64 fr] w (NewLr w (splitC x pn k fr) ly0) := by
  have HX := Lib.hid (LrAt.start w x p c 28 30 h)
  have HF := Lib.hid (fun W h => specLayoutFault_any x p c W h hl)
  clear h
  by_cases hf0 : lyFault x = 0
  · have HS : Hid (splitC x pn k fr = if inR k 2 3 = true ∧ inR fr 0 5 = true then (if hasB x.nodes pn = true then (if hasB x.nodes fr = true then 7 else 0) else 4) else 3) := Lib.hid (by unfold splitC; rw [if_pos hf0])
    rw [hf0] at HF
    have H1 := Lib.hid (fun W (hx : LyAt W w.heap.size x p c) => l6Has_any x pn p c w.heap.size W hx hl)
    have H2 := Lib.hid (fun W (hx : LyAt W w.heap.size x p c) => l6Has_any x fr p c w.heap.size W hx hl)
    clear hf0
    cases hk : inR k 2 3
    · have HE : Hid (splitC x pn k fr = 3) := Lib.hid (by rw [HS.out, if_neg (by simp [hk])])
      rw [HE.out]
      have hk2 : (k != 2) = true := by simp [inR] at hk ⊢; omega
      have hk3 : (k != 3) = true := by simp [inR] at hk ⊢; omega
      have hk4 : ¬ k = 2 := by simpa using hk2
      have hk5 : ¬ k = 3 := by simpa using hk3
      clear HE HS H1 H2 hf hk
      go_enter Try.func11, Try.ntmps11
      go_wp2_with fail
      refine (HF.out _ HX.out.ly.nodes).mono ?_
      rintro e w1 ⟨rfl, b1⟩
      have HX1 := Lib.hid (HX.out.on b1)
      obtain ⟨z0, z1, z2, z3⟩ := HX1.out.res.cells.four
      have zf := HX1.out.res.free
      clear b1 HX
      go_wp2
      exact bodyPost_ret (v := lrV 3 ly0 (.slice none 0 0)) (by simp [results, Try.results11, lrV, ly0, go_sem, z0, z1, z2, z3]) rfl ⟨_, rfl, ownQ_nil _ _ _, lr_low HX1.out.below _ _ _ _⟩
    have hkk : k = 2 ∨ k = 3 := by simp [inR] at hk; omega
    cases hfr : inR fr 0 5
    · have HE : Hid (splitC x pn k fr = 3) := Lib.hid (by rw [HS.out, if_neg (by simp [hfr])])
      rw [HE.out]
      clear HE HS H1 H2 hf hk
      rcases hkk with rfl | rfl
      all_goals
        go_enter Try.func11, Try.ntmps11
        go_wp2_with fail
        refine (HF.out _ HX.out.ly.nodes).mono ?_
        rintro e w1 ⟨rfl, b1⟩
        have HX1 := Lib.hid (HX.out.on b1)
        obtain ⟨z0, z1, z2, z3⟩ := HX1.out.res.cells.four
        have zf := HX1.out.res.free
        clear b1 HX
        go_wp2_with (go_at_call 52; refine (l1In_any _ _ _ _).mono ?_; rw [hfr]; rintro e w' ⟨rfl, rfl⟩)
        exact bodyPost_ret (v := lrV 3 ly0 (.slice none 0 0)) (by simp [results, Try.results11, lrV, ly0, go_sem, z0, z1, z2, z3]) rfl ⟨_, rfl, ownQ_nil _ _ _, lr_low HX1.out.below _ _ _ _⟩
    · have HE : Hid (splitC x pn k fr = if hasB x.nodes pn = true then (if hasB x.nodes fr = true then 7 else 0) else 4) := Lib.hid (by rw [HS.out, if_pos ⟨hk, hfr⟩])
      cases hp : hasB x.nodes pn
      · have HE2 : Hid (splitC x pn k fr = 4) := Lib.hid (by rw [HE.out, hp]; rfl)
        rw [HE2.out]
        rw [hp] at H1
        clear HE HE2 HS H2 hf hk
        rcases hkk with rfl | rfl
        all_goals
          go_enter Try.func11, Try.ntmps11
          go_wp2_with fail
          refine (HF.out _ HX.out.ly.nodes).mono ?_
          rintro e w1 ⟨rfl, b1⟩
          have HX1 := Lib.hid (HX.out.on b1)
          obtain ⟨z0, z1, z2, z3⟩ := HX1.out.res.cells.four
          have zf := HX1.out.res.free
          clear b1 HX
          go_wp2_with (first
            | (go_at_call 52; refine (l1In_any _ _ _ _).mono ?_; rw [hfr]; rintro e w' ⟨rfl, rfl⟩)
            | (go_at_call 53; refine (H1.out _ HX1.out.ly).mono ?_; rintro e w' ⟨rfl, rfl⟩))
          exact bodyPost_ret (v := lrV 4 ly0 (.slice none 0 0)) (by simp [results, Try.results11, lrV, ly0, go_sem, z0, z1, z2, z3]) rfl ⟨_, rfl, ownQ_nil _ _ _, lr_low HX1.out.below _ _ _ _⟩
      · cases hq : hasB x.nodes fr
        · exfalso
          rw [HE.out, hp, hq] at hf
          exact hf rfl
        · have HE2 : Hid (splitC x pn k fr = 7) := Lib.hid (by rw [HE.out, hp, hq]; rfl)
          rw [HE2.out]
          rw [hp] at H1
          rw [hq] at H2
          clear HE HE2 HS hf hk
          rcases hkk with rfl | rfl
          all_goals
            go_enter Try.func11, Try.ntmps11
            go_wp2_with fail
            refine (HF.out _ HX.out.ly.nodes).mono ?_
            rintro e w1 ⟨rfl, b1⟩
            have HX1 := Lib.hid (HX.out.on b1)
            obtain ⟨z0, z1, z2, z3⟩ := HX1.out.res.cells.four
            have zf := HX1.out.res.free
            clear b1 HX
            go_wp2_with fail
            refine (l1In_any _ _ _ _).mono ?_
            rw [hfr]
            rintro e w' ⟨rfl, rfl⟩
            go_wp2_with fail
            refine (H1.out _ HX1.out.ly).mono ?_
            rintro e w' ⟨rfl, rfl⟩
            go_wp2_with fail
            refine (H2.out _ HX1.out.ly).mono ?_
            rintro e w' ⟨rfl, rfl⟩
            go_wp2
            exact bodyPost_ret (v := lrV 7 ly0 (.slice none 0 0)) (by simp [results, Try.results11, lrV, ly0, go_sem, z0, z1, z2, z3]) rfl ⟨_, rfl, ownQ_nil _ _ _, lr_low HX1.out.below _ _ _ _⟩
  · have HE : Hid (splitC x pn k fr = lyFault x) := Lib.hid (by unfold splitC; rw [if_neg hf0])
    rw [HE.out]
    have hf2 : (lyFault x == 0) = false := by simpa using hf0
    clear hf hf0 HE
    generalize lyFault x = kk at *
    go_enter Try.func11, Try.ntmps11
    go_wp2_with fail
    refine (HF.out _ HX.out.ly.nodes).mono ?_
    rintro e w1 ⟨rfl, b1⟩
    have HX1 := Lib.hid (HX.out.on b1)
    obtain ⟨z0, z1, z2, z3⟩ := HX1.out.res.cells.four
    have zf := HX1.out.res.free
    clear b1 HX
    go_wp2
    exact bodyPost_ret (v := lrV kk ly0 (.slice none 0 0)) (by simp [results, Try.results11, lrV, ly0, go_sem, z0, z1, z2, z3]) rfl ⟨_, rfl, ownQ_nil _ _ _, lr_low HX1.out.below _ _ _ _⟩
end Go.Proofs.Ytbfickdgjgbfhaa

/- The model's SplitPane, where the pane can be split. -/
namespace Go.Proofs.Ytbfickdgjgbfhaa
open Go.RowKit
set_option linter.unusedVariables false
set_option linter.unusedSimpArgs false

set_option maxRecDepth 100000 in
set_option maxHeartbeats 8000000 in
theorem specSplit_good (x : Ly) (pn k fr : Int) (p : Option Addr) (c : Nat) (w : World) (h : Qs w w.heap.size p x.nodes) (hl : x.nodes.length ≤ 1048576) (hf : splitC x pn k fr = 0) :
    Calls Try.prog 11 #[.agg #[.int .i64 x.wide, .int .i64 x.high, .slice p x.nodes.length c], .int .i64 pn, .int .i64 k, .int .i64 fr] w (NewLr w (splitR x pn k fr).1 (splitR x pn k fr).2) := by
  have HX := Lib.hid (LrAt.start w x p c 28 30 h)
  have HF := Lib.hid (fun W h => specLayoutFault_any x p c W h hl)
  have HQ0 := Lib.hid h
  clear h
  obtain ⟨hf0, hk, hfr, hh, hhf⟩ := splitC_zero hf
  have hpc : paneC x pn = 0 := by unfold paneC; rw [if_pos hf0, if_pos hh]
  rw [hf0] at HF
  have H1 := Lib.hid (fun W (hx : LyAt W w.heap.size x p c) => l6Has_any x pn p c w.heap.size W hx hl)
  rw [hh] at H1
  have H2 := Lib.hid (fun W (hx : LyAt W w.heap.size x p c) => l6Has_any x fr p c w.heap.size W hx hl)
  rw [hhf] at H2
  have HRM := Lib.hid (fun W (hx : LyAt W w.heap.size x p c) => l7Room_any x pn k p c w.heap.size W hx hl hpc)
  obtain ⟨r0, r1, r2⟩ := ro_one hpc
  have hrb : 1 ≤ roomL x pn k ∧ roomL x pn k ≤ 200 := by
    have hroom : roomL x pn k = roomQ (nth (roOf x pn).2 0) k := rfl
    rw [hroom]; unfold roomQ; unfold Good at r2; split <;> omega
  clear r0 r1 r2 hpc
  have hrl := hrb.1
  have hrh := hrb.2
  clear hrb
  have hkk : k = 2 ∨ k = 3 := by simp [inR] at hk; omega
  have hkd : kd (decide (k = 2)) = k := by rcases hkk with rfl | rfl <;> simp [kd]
  obtain ⟨f0, f1⟩ := inR_iff.1 hfr
  by_cases hr : roomL x pn k < 3
  · have e : splitR x pn k fr = (6, ly0) := by unfold splitR; rw [if_pos hf, if_pos hr]
    rw [e]
    clear hf e hf0 hk hh hhf hkd HQ0
    generalize roomL x pn k = rm at *
    rcases hkk with rfl | rfl
    all_goals
      go_enter Try.func11, Try.ntmps11
      go_wp2_with fail
      refine (HF.out _ HX.out.ly.nodes).mono ?_
      rintro e w1 ⟨rfl, b1⟩
      have HX1 := Lib.hid (HX.out.on b1)
      clear b1 HX
      go_wp2_with fail
      refine (l1In_any _ _ _ _).mono ?_
      rw [hfr]
      rintro e w' ⟨rfl, rfl⟩
      go_wp2_with fail
      refine (H1.out _ HX1.out.ly).mono ?_
      rintro e w' ⟨rfl, rfl⟩
      go_wp2_with fail
      refine (H2.out _ HX1.out.ly).mono ?_
      rintro e w' ⟨rfl, rfl⟩
      go_wp2_with fail
      refine (HRM.out _ HX1.out.ly).mono ?_
      rintro e w2 ⟨rfl, b2⟩
      have HX2 := Lib.hid (HX1.out.on b2)
      obtain ⟨z0, z1, z2, z3⟩ := HX2.out.res.cells.four
      have zf := HX2.out.res.free
      clear b2 HX1
      go_wp2
      exact bodyPost_ret (v := lrV 6 ly0 (.slice none 0 0)) (by simp [results, Try.results11, lrV, ly0, go_sem, z0, z1, z2, z3]) rfl ⟨_, rfl, ownQ_nil _ _ _, lr_low HX2.out.below _ _ _ _⟩
  · have e : splitR x pn k fr = (0, ⟨x.wide, x.high, num (splitT x pn k fr) 0⟩) := by unfold splitR; rw [if_pos hf, if_neg hr]
    rw [e]
    obtain ⟨ht, -⟩ := tree_of_fault hf0
    obtain ⟨i, hi, hidx, hs, hp⟩ := at_of hh
    have HAT := Lib.hid (fun W (hx : LyAt W w.heap.size x p c) => l7At_any x pn p c w.heap.size W hx hl hh)
    rw [hidx] at HAT
    have hp0 := (ht.okay i hi).leaf hs
    have htr := trOf_split (q := fr) (first := (roomL x pn k - 1) / 2) (k := decide (k = 2)) ht.okay ht.once hi hs hp x.nodes.length 0 (by omega) ht.n0
    have hok := okay_split (p := pn) (q := fr) (first := (roomL x pn k - 1) / 2) (k := decide (k = 2)) ht.okay hi (by omega) ⟨f0, f1⟩
    rw [hkd] at htr hok
    have hT : sub pn (.node (decide (k = 2)) ((roomL x pn k - 1) / 2) (.leaf pn) (.leaf fr)) (trOf x.nodes x.nodes.length 0) = splitT x pn k fr := by
      have htd : Int.tdiv (roomL x pn k - 1) 2 = (roomL x pn k - 1) / 2 := Int.tdiv_eq_ediv_of_nonneg (by omega)
      unfold splitT; rw [htd]; rfl
    rw [hT] at htr
    have n11 := ht.n1
    have n0 := ht.n0
    generalize hrm : roomL x pn k = rm at *
    have hlen2 : ((x.nodes ++ [lfQ pn, lfQ fr]).set i ⟨k, 0, (rm - 1) / 2, ((x.nodes.length : Nat) : Int), ((x.nodes.length + 1 : Nat) : Int)⟩).length = x.nodes.length + 2 := by simp
    have HLD := Lib.hid (fun W q d (hx : LyAt W w.heap.size x p c) (hn : Qs W W.heap.size q ((x.nodes ++ [lfQ pn, lfQ fr]).set i ⟨k, 0, (rm - 1) / 2, ((x.nodes.length : Nat) : Int), ((x.nodes.length + 1 : Nat) : Int)⟩)) => l7Done_any x p c w.heap.size _ q d W hx hn (by rw [hlen2]; omega) (by rw [hlen2]; omega) hok)
    rw [hlen2, htr] at HLD
    clear hf e hf0 hk hh hhf hkd hs hp hidx hp0 htr hok hT ht hrm
    generalize splitT x pn k fr = T at *
    generalize num T 0 = tn at *
    have HPUT := Lib.hid (fun g cg W (hk : KmSt w x p c g cg (x.nodes ++ [lfQ pn, lfQ fr]) W) W' hW => hk.put HQ0.out i ⟨k, 0, (rm - 1) / 2, ((x.nodes.length : Nat) : Int), ((x.nodes.length + 1 : Nat) : Int)⟩ (by simp; omega) W' hW)
    generalize hL3 : (x.nodes ++ [lfQ pn, lfQ fr]).set i ⟨k, 0, (rm - 1) / 2, ((x.nodes.length : Nat) : Int), ((x.nodes.length + 1 : Nat) : Int)⟩ = L3 at *
    have hl3 : L3.length = x.nodes.length + 2 := by rw [← hL3]; simp
    have HL3 := Lib.hid hl3
    clear hL3 hlen2 hl3
    obtain ⟨i0r, hi0r, hz0, hz1, hz2⟩ := info_parts Try.info_nodeD
    have HI := Lib.hid (And.intro hi0r (And.intro hz0 (And.intro hz1 hz2)))
    clear hi0r hz0 hz1 hz2
    have hr3 : ¬ rm < 3 := hr
    rcases hkk with rfl | rfl
    all_goals
      go_enter Try.func11, Try.ntmps11
      go_wp2_with fail
      refine (HF.out _ HX.out.ly.nodes).mono ?_
      rintro e w1 ⟨rfl, b1⟩
      have HX1 := Lib.hid (HX.out.on b1)
      clear b1 HX
      go_wp2_with fail
      refine (l1In_any _ _ _ _).mono ?_
      rw [hfr]
      rintro e w' ⟨rfl, rfl⟩
      go_wp2_with fail
      refine (H1.out _ HX1.out.ly).mono ?_
      rintro e w' ⟨rfl, rfl⟩
      go_wp2_with fail
      refine (H2.out _ HX1.out.ly).mono ?_
      rintro e w' ⟨rfl, rfl⟩
      go_wp2_with fail
      refine (HRM.out _ HX1.out.ly).mono ?_
      rintro e w2 ⟨rfl, b2⟩
      have HX2 := Lib.hid (HX1.out.on b2)
      have hz := HX1.out.res.cells.1
      have hz2 := b2.size
      clear b2 HX1 HRM H1 H2 HF
      obtain ⟨x0, x1, x2⟩ := HX2.out.ly.cells.tri
      have hzl := HX2.out.ly.cells.1
      have HX3 := Lib.hid (HX2.out.on (below_mk w2 (.cells #[] 76)))
      have O3 := World.ownsRow_made (e := 76) (size := 5) (base := w.heap.size + 2) w2 #[] 0 (by omega) (by simp [maxLen]) (by simp)
      have HO := Lib.hid O3
      obtain ⟨bn, off, rfl, _, _, hqn⟩ := HX2.out.ly.nodes (by intro e; simp [e] at n0)
      have HQ := Lib.hid (qs_cells HX3.out.ly.nodes)
      have PREP : Hid (∀ v1 w3, w3.ownsRow (w.heap.size + 2) 76 5 v1 (0 + x.nodes.length) ([] ++ x.nodes.flatMap qC) → (w2.alloc (.cells #[] 76)).grownBy w3 (Value.slice (some ⟨w2.heap.size, 0, none⟩) 0 0).ownBlock →
          ∃ g1 c1, v1 = .slice (some ⟨g1, 0, none⟩) x.nodes.length c1 ∧ OwnQ 76 (w3.alloc (.cells #[.int .i64 1, .int .i64 pn, .int .i64 0, .int .i64 0, .int .i64 0, .int .i64 1, .int .i64 fr, .int .i64 0, .int .i64 0, .int .i64 0] 76)) (w.heap.size + 2) (.slice (some ⟨g1, 0, none⟩) x.nodes.length c1) x.nodes ∧ w.heap.size + 2 ≤ g1 ∧
            LrAt w x (some ⟨bn, off, none⟩) c (w3.alloc (.cells #[.int .i64 1, .int .i64 pn, .int .i64 0, .int .i64 0, .int .i64 0, .int .i64 1, .int .i64 fr, .int .i64 0, .int .i64 0, .int .i64 0] 76)) ∧ w.heap.size + 2 ≤ w3.heap.size) := Lib.hid (fun v1 w3 hown hgrow => by
        have hO3 : OwnQ 76 w3 (w.heap.size + 2) v1 x.nodes := by unfold OwnQ; simpa using hown
        rcases hO3.form with ⟨-, hx⟩ | ⟨g, cg, rfl, hg0, hg1, -⟩
        · rw [hx] at n0; simp at n0
        exact ⟨g, cg, rfl, hO3.on (below_mk _ _), hg0, (LrAt.far HQ0.out HX3.out hgrow (World.ownsRow.lt HO.out _ rfl).1).on (below_mk _ _), by omega⟩)
      have HTW := Lib.hid (fun w3 => two_new w3 (lfQ pn) (lfQ fr) 76)
      clear O3 hqn
      go_wp2_with (at_builtin; first
        | (have hO1 := hOwn1; refine wpList_append_own _ rfl _ _ 26 rfl (w.heap.size + 2) 76 i0r _ 5 40 Try.underlying26 HI.out.1 HI.out.2.1 HI.out.2.2.1 HI.out.2.2.2 rfl (by decide) _ _ _ rfl hO1 ⟨w3.heap.size, 0, none⟩ 2 2 (([lfQ pn, lfQ fr] : List Q).flatMap qC) rfl rfl (HTW.out w3) (flatQ_one _) (by unfold maxLen; omega) (by omega) (by simp; omega) ?_; intro v2 w4 hown2 hgrow2 _)
        | (refine wpList_append_own _ rfl _ _ 26 rfl (w.heap.size + 2) 76 i0r _ 5 40 Try.underlying26 HI.out.1 HI.out.2.1 HI.out.2.2.1 HI.out.2.2.2 rfl (by decide) _ _ _ rfl HO.out ⟨bn, off, none⟩ x.nodes.length c (x.nodes.flatMap qC) rfl (flatQ_len _) HQ.out (flatQ_one _) (by unfold maxLen; omega) (by omega) (by simp; omega) ?_; intro v' w3 hown hgrow _; obtain ⟨g1, c1, rfl, hOwn1, hg1, hLr1, hsz1⟩ := PREP.out v' w3 hown hgrow; clear hown hgrow))
      have hO2 : OwnQ 76 w4 (w.heap.size + 2) v2 (x.nodes ++ [lfQ pn, lfQ fr]) := by
        unfold OwnQ
        rw [List.length_append, List.flatMap_append]
        exact hown2
      have el : (x.nodes ++ [lfQ pn, lfQ fr]).length = x.nodes.length + 2 := by simp
      rcases hO2.form with ⟨-, hx⟩ | ⟨g2, c2, hv2, hg20, hg21, -⟩
      · simp at hx
      rw [hv2] at hO2
      rw [el] at hv2
      subst hv2
      have HK4 := Lib.hid (KmSt.mk (LrAt.far HQ0.out hLr1 hgrow2 hg1) hO2)
      clear hown2 hgrow2 hOwn1 hLr1 hO2 HO HQ HX3 HX2 PREP HTW x0 x1 x2
      refine (HAT.out _ HK4.out.lr.ly).mono ?_
      rintro e w5 ⟨rfl, rfl⟩
      obtain ⟨-, hrow, hfz⟩ := HK4.out.own.row
      obtain ⟨u0, u1, u2, u3, u4⟩ := hrow i (by rw [el]; omega)
      have i1 : (i : Int) < (x.nodes.length : Int) + 2 := by omega
      have i0 : (0 : Int) ≤ (i : Int) := by omega
      have hw1 : IntKind.i64.wrap (rm - 1) = rm - 1 := IntWalk.i64_in _ ⟨by omega, by omega⟩
      clear hrow el
      go_upto_region 16 with (fail)
      refine wp_genQ (KmSt w x (some ⟨bn, off, none⟩) c g2 c2 L3) (HPUT.out g2 c2 _ HK4.out _ rfl) (fun W7 hW7 => ?_)
      have HK7 := Lib.hid hW7
      have hz7 := hW7.lr.res.cells.1
      clear hW7 HK4 u0 u1 u2 u3 u4 hfz HPUT
      go_wp2_with fail
      refine (HLD.out _ _ _ HK7.out.lr.ly HK7.out.own.bs.2).mono ?_
      rintro e w8 ⟨v, rfl, ov, b8⟩
      have HX8 := Lib.hid (HK7.out.lr.on b8)
      obtain ⟨pv, cv, rfl⟩ := ov.slice
      have HV := Lib.hid ov
      clear ov b8 HK7 HLD
      obtain ⟨z0, z1, z2, z3⟩ := HX8.out.res.cells.four
      have zf := HX8.out.res.free
      have HB8 := Lib.hid HX8.out.below
      unfold lrV
      go_wp2
      exact bodyPost_ret (v := lrV 0 ⟨x.wide, x.high, tn⟩ (.slice pv tn.length cv)) (by simp [results, Try.results11, lrV, go_sem, z0, z1, z2, z3]) rfl ⟨_, rfl, lr_own HV.out hz7 _ _ _ _, lr_low HB8.out _ _ _ _⟩
theorem specSplit_any (x : Ly) (pn k fr : Int) (p : Option Addr) (c : Nat) (w : World) (h : Qs w w.heap.size p x.nodes) (hl : x.nodes.length ≤ 1048576) :
    Calls Try.prog 11 #[.agg #[.int .i64 x.wide, .int .i64 x.high, .slice p x.nodes.length c], .int .i64 pn, .int .i64 k, .int .i64 fr] w (NewLr w (splitR x pn k fr).1 (splitR x pn k fr).2) := by
  by_cases hf : splitC x pn k fr = 0
  · exact specSplit_good x pn k fr p c w h hl hf
  · have e : splitR x pn k fr = (splitC x pn k fr, ly0) := by unfold splitR; rw [if_neg hf]
    rw [e]
    exact specSplit_bad x pn k fr p c w h hl hf
end Go.Proofs.Ytbfickdgjgbfhaa
