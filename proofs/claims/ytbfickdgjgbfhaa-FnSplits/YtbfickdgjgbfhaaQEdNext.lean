/- NextPane of the program and of the model. -/
import Derived.Test.YtbfickdgjgbfhaaQEdSpecToEdSpec2
import Derived.Test.YtbfickdgjgbfhaaQLyHitToLyHit2
namespace Go.Proofs.Ytbfickdgjgbfhaa
open Go.RowKit
set_option linter.unusedVariables false
set_option linter.unusedSimpArgs false

def paneIs (p : Int) (r : Q) : Bool := r.x0 == p
/-- the pane behind the pane p, cyclically -/
def nextQ (p : Int) (L : List Q) : Int := (nth L (((idxQ (paneIs p) 0 L).toNat + 1) % L.length)).x0
def nextR (x : Ly) (p : Int) : Int × Int := if paneC x p = 0 then (0, nextQ p (lyRects x)) else (paneC x p, 0)
/-- what the model's loop holds behind j rounds -/
def nextTo (p : Int) (L : List Q) (j : Nat) : Int := if (idxQ (paneIs p) 0 L).toNat < j then (nth L ((idxQ (paneIs p) 0 L).toNat + 1)).x0 else (nth L 0).x0
theorem rects_at {x : Ly} {p : Int} (h : paneC x p = 0) : ∃ i, i < (lyRects x).length ∧ idxQ (paneIs p) 0 (lyRects x) = (i : Int) ∧ (nth (lyRects x) i).x0 = p ∧ ∀ j, j < (lyRects x).length → (nth (lyRects x) j).x0 = p → j = i := by
  obtain ⟨hf, hh⟩ := paneC_zero h
  obtain ⟨ht, -⟩ := tree_of_fault hf
  have hp := rects_panes hf
  have hm : p ∈ (lyRects x).map Q.x0 := by rw [hp]; exact (has_tr ht p).1 hh
  have hn : ((lyRects x).map Q.x0).Nodup := by rw [hp]; exact ht.nodup
  obtain ⟨r, hr, hrp⟩ := List.mem_map.1 hm
  obtain ⟨k, hk, rfl⟩ := List.mem_iff_getElem.1 hr
  have huniq : ∀ i j, i < (lyRects x).length → j < (lyRects x).length → (nth (lyRects x) i).x0 = (nth (lyRects x) j).x0 → i = j := by
    intro i j hi hj e
    rw [nth_eq hi, nth_eq hj] at e
    have e2 : ((lyRects x).map Q.x0)[i]'(by simpa using hi) = ((lyRects x).map Q.x0)[j]'(by simpa using hj) := by simpa using e
    exact (List.getElem_inj hn).1 e2
  rcases idxQ_spec (paneIs p) (lyRects x) 0 with ⟨_, h2⟩ | ⟨i, h1, h2, h3⟩
  · have := h2 k hk
    rw [nth_eq hk] at this
    simp [paneIs, hrp] at this
  · simp only [paneIs, beq_iff_eq] at h3
    exact ⟨i, h1, by rw [h2, Nat.zero_add], h3, fun j hj e => huniq j i hj h1 (by omega)⟩
theorem nextTo_step {p : Int} {L : List Q} {i j : Nat} (hi : idxQ (paneIs p) 0 L = (i : Int)) (hip : (nth L i).x0 = p) (hu : ∀ j, j < L.length → (nth L j).x0 = p → j = i) (hj : j < L.length) :
    nextTo p L (j + 1) = if ((nth L j).x0 == p) = true then (nth L (j + 1)).x0 else nextTo p L j := by
  unfold nextTo
  rw [hi, Int.toNat_natCast]
  by_cases e : (nth L j).x0 = p
  · obtain rfl := hu j hj e
    rw [if_pos (by omega)]
    simp [e]
  · have hne : j ≠ i := fun h => e (h ▸ hip)
    have e2 : ((nth L j).x0 == p) = false := by simpa using e
    rw [e2]
    simp only [Bool.false_eq_true, if_false]
    by_cases h : i < j
    · rw [if_pos (by omega), if_pos h]
    · rw [if_neg (by omega), if_neg h]
theorem nextTo_end {p : Int} {L : List Q} {i : Nat} (hi : idxQ (paneIs p) 0 L = (i : Int)) (hl : i < L.length) : nextTo p L (L.length - 1) = nextQ p L := by
  unfold nextTo nextQ
  rw [hi, Int.toNat_natCast]
  by_cases h : i < L.length - 1
  · rw [if_pos h, Nat.mod_eq_of_lt (by omega)]
  · rw [if_neg h, show i + 1 = L.length by omega, Nat.mod_self]
theorem lyRects_len (x : Ly) (h : x.nodes.length ≤ 11) : (lyRects x).length ≤ 2048 := by
  have h1 := rcOf_len x.nodes x.nodes.length 0 (whole x.wide x.high)
  have hpow : 2 ^ x.nodes.length ≤ 2 ^ 11 := Nat.pow_le_pow_right (by omega) h
  have hpow2 : (2 : Nat) ^ 11 = 2048 := by decide
  unfold lyRects; omega

set_option maxRecDepth 100000 in
set_option maxHeartbeats 1000000 in
theorem nextFn_any (q : Q) (b : Nat) (a : Int) (w : World) (hb : w.cell? ⟨b, 0, none⟩ = some (.int .i64 a)) :
    Calls Try.prog 79 #[.agg #[.int .i64 q.x0, .int .i64 q.x1, .int .i64 q.x2, .int .i64 q.x3, .int .i64 q.x4], .pointer (some ⟨b, 0, none⟩)] w fun e w' => e = .returned (.bool (paneIs a q)) ∧ Below w.heap.size w w' := by
  have hlt := World.block_lt_of_cell? _ _ hb
  dsimp only at hlt
  have HB0 := Lib.hid (below_mk w (.cells #[.int .i64 q.x0, .int .i64 q.x1, .int .i64 q.x2, .int .i64 q.x3, .int .i64 q.x4] 69))
  have ca := (HB0.out.cell (p := ⟨b, 0, none⟩) hlt).trans hb
  clear hb
  go_enter Try.func79, Try.ntmps79
  go_wp2
  go_ret
  exact ⟨ret_bool rfl, HB0.out⟩

set_option maxRecDepth 100000 in
set_option maxHeartbeats 4000000 in
theorem rectIndexFunc_any (p : Option Addr) (c b : Nat) (a : Int) (x : List Q) (w : World) (h : Qs w w.heap.size p x) (hx : x.length ≤ 1048576) (ha : w.cell? ⟨b, 0, none⟩ = some (.int .i64 a)) :
    Calls Try.prog 78 #[.slice p x.length c, .func (.func 79) #[] #[.pointer (some ⟨b, 0, none⟩)]] w fun e w' => e = .returned (.int .i64 (idxQ (paneIs a) 0 x)) ∧ Below w.heap.size w w' := by
  have hlt := World.block_lt_of_cell? _ _ ha
  dsimp only at hlt
  have H := Lib.hid h
  have HA := Lib.hid (fun W' (hb : Below w.heap.size w W') => (hb.cell (p := ⟨b, 0, none⟩) hlt).trans ha)
  clear h ha
  go_enter Try.func78, Try.ntmps78
  go_wp2
  go_loopw [5, 8] (fun _ i wr => ∃ j : Nat, j ≤ x.length ∧ i = .int .i64 j ∧ idxQ (paneIs a) 0 x = idxQ (paneIs a) j (x.drop j) ∧ Below w.heap.size w wr) (fun _ i _ => x.length - (intOf i).toNat)
  case atStart => exact ⟨0, by omega, rfl, rfl, Below.refl _ _⟩
  case round =>
    obtain ⟨j, hj, rfl, hs, hb⟩ := hrel
    have HS := Lib.hid hs
    have HB := Lib.hid hb
    clear hs hb
    by_cases hlt : j < x.length
    · obtain ⟨bb, off, rfl, _, _, hc⟩ := (H.out.on HB.out) (by intro e; simp [e] at hlt)
      obtain ⟨c0, c1, c2, c3, c4⟩ := hc j hlt
      have HD := Lib.hid (idxQ_drop (paneIs a) x j hlt)
      have HF := Lib.hid (fun W' (hb : Below w.heap.size w W') => nextFn_any (nth x j) b a W' (HA.out _ hb))
      have i1 : (j : Int) < (x.length : Int) := by omega
      have i0 : (0 : Int) ≤ (j : Int) := by omega
      clear hc
      cases hq : paneIs a (nth x j)
      all_goals rw [hq] at HF
      · go_wp2_with fail
        refine (HF.out _ HB.out).mono ?_
        rintro e w1 ⟨rfl, b1⟩
        have HB1 := Lib.hid (below_on HB.out b1)
        clear b1
        go_wp2
        exact ⟨⟨j + 1, by omega, by go_num, by rw [HS.out, HD.out, hq]; rfl, HB1.out⟩, by simp [intOf]; omega⟩
      · go_wp2_with fail
        refine (HF.out _ HB.out).mono ?_
        rintro e w1 ⟨rfl, b1⟩
        have HB1 := Lib.hid (below_on HB.out b1)
        clear b1
        go_wp2
        go_ret
        exact ⟨by rw [HS.out, HD.out, hq]; rfl, HB1.out⟩
    · obtain rfl : j = x.length := by omega
      have HE := Lib.hid (idxQ_end (paneIs a) x)
      go_wp2
      go_ret
      exact ⟨by rw [HS.out, HE.out]; rfl, HB.out⟩

structure NxSt (w : World) (x : Ly) (p : Option Addr) (c : Nat) (pn : Int) (W : World) : Prop where
  ly : LyAt W w.heap.size x p c
  pc : AtL W (w.heap.size + 1) [.int .i64 pn]
  res : AtM W (w.heap.size + 2) [.int .i64 0, .int .i64 0]
  below : Below w.heap.size w W
theorem NxSt.on {w W W' : World} {x : Ly} {p : Option Addr} {c : Nat} {pn : Int} (h : NxSt w x p c pn W) (hb : Below W.heap.size W W') : NxSt w x p c pn W' := ⟨h.ly.on hb, h.pc.on hb, h.res.on hb, below_on h.below hb⟩
theorem NxSt.start (w : World) (x : Ly) (p : Option Addr) (c : Nat) (pn : Int) (t t1 t' : TypeId) (h : Qs w w.heap.size p x.nodes) : NxSt w x p c pn (((w.alloc (.cells #[.int .i64 x.wide, .int .i64 x.high, .slice p x.nodes.length c] t)).alloc (.cells #[.int .i64 pn] t1)).alloc (.cells #[.int .i64 0, .int .i64 0] t')) := by
  have b2 := below_mk ((w.alloc (.cells #[.int .i64 x.wide, .int .i64 x.high, .slice p x.nodes.length c] t)).alloc (.cells #[.int .i64 pn] t1)) (.cells #[.int .i64 0, .int .i64 0] t')
  have b1 := below_mk (w.alloc (.cells #[.int .i64 x.wide, .int .i64 x.high, .slice p x.nodes.length c] t)) (.cells #[.int .i64 pn] t1)
  have hX := ((LyAt.new w x p c t h).on b1).on b2
  have hP := (AtL.new (w.alloc (.cells #[.int .i64 x.wide, .int .i64 x.high, .slice p x.nodes.length c] t)) [.int .i64 pn] t1).on b2
  have hR := AtM.new ((w.alloc (.cells #[.int .i64 x.wide, .int .i64 x.high, .slice p x.nodes.length c] t)).alloc (.cells #[.int .i64 pn] t1)) [.int .i64 0, .int .i64 0] t'
  rw [World.size_alloc] at hP hR
  rw [World.size_alloc] at hR
  exact ⟨hX, hP, hR, below_on (below_on (below_mk _ _) b1) b2⟩
theorem nx_low {w W : World} {r : Nat} (hb : Below w.heap.size w W) (hr : w.heap.size ≤ r) (u0 u1 : Value) : Below w.heap.size w ((W.setCell ⟨r, 0, none⟩ u0).setCell ⟨r, 1, none⟩ u1) :=
  (hb.setCell (by exact hr) u0).setCell (by exact hr) u1

set_option maxRecDepth 100000 in
set_option maxHeartbeats 4000000 in
theorem implNext_any (x : Ly) (pn : Int) (p : Option Addr) (c : Nat) (w : World) (h : Qs w w.heap.size p x.nodes) (hl : x.nodes.length ≤ 1048576) :
    Calls Try.prog 24 #[.agg #[.int .i64 x.wide, .int .i64 x.high, .slice p x.nodes.length c], .int .i64 pn] w fun e w' => e = .returned (.agg #[.int .i64 (nextR x pn).1, .int .i64 (nextR x pn).2]) ∧ Below w.heap.size w w' := by
  have HX := Lib.hid (NxSt.start w x p c pn 28 2 43 h)
  have HF := Lib.hid (fun W h => paneFault_any x pn p c W h hl)
  clear h
  by_cases hf : paneC x pn = 0
  · have e : nextR x pn = (0, nextQ pn (lyRects x)) := by unfold nextR; rw [if_pos hf]
    rw [e]
    rw [hf] at HF
    obtain ⟨i, hi, hidx, -, -⟩ := rects_at hf
    obtain ⟨R, hr, ht, -⟩ := run_of_fault (paneC_zero hf).1
    have HP := Lib.hid (fun W h => paneRects_any x p c W h ht R hr)
    have hlen := lyRects_len x ht.n1
    have HQ : Hid (nextQ pn (lyRects x) = (nth (lyRects x) ((i + 1) % (lyRects x).length)).x0) := Lib.hid (by unfold nextQ; rw [hidx, Int.toNat_natCast])
    have HIX := Lib.hid hidx
    have hm : (i + 1) % (lyRects x).length < (lyRects x).length := Nat.mod_lt _ (by omega)
    dsimp only
    rw [HQ.out]
    clear hf e hr ht hidx HQ
    generalize lyRects x = L at *
    have HI := Lib.hid (fun q d W h hc => rectIndexFunc_any q d (w.heap.size + 1) pn L W h (by omega) hc)
    rw [HIX.out] at HI
    have hi2 : i ≤ 2048 := by omega
    go_enter Try.func24, Try.ntmps24
    go_wp2_with fail
    refine (HF.out _ HX.out.ly.nodes).mono ?_
    rintro e w1 ⟨rfl, b1⟩
    have HX1 := Lib.hid (HX.out.on b1)
    obtain ⟨x0, x1, x2⟩ := HX1.out.ly.cells.tri
    clear b1 HX HF
    go_wp2_with fail
    refine (HP.out _ HX1.out.ly.nodes).mono ?_
    rintro e w2 ⟨v, rfl, ov, b2⟩
    have HX2 := Lib.hid (HX1.out.on b2)
    clear b2 x0 x1 x2 HX1 HP
    rcases ov.form with ⟨-, hx⟩ | ⟨g, cg, rfl, hg0, hg1, -⟩
    · rw [hx] at hi; simp at hi
    have HV := Lib.hid ov
    clear ov
    go_wp2_with fail
    refine (HI.out _ _ _ HV.out.bs.2 (HX2.out.pc.get 0 rfl)).mono ?_
    rintro e w3 ⟨rfl, b3⟩
    have HX3 := Lib.hid (HX2.out.on b3)
    have hrow := (HV.out.on b3).row.2.1 ((i + 1) % L.length) hm
    have HB3 := Lib.hid HX3.out.below
    obtain ⟨z0, z1⟩ := HX3.out.res.cells.two
    have zf := HX3.out.res.free
    clear b3 HX2 HV HI HX3
    obtain ⟨d0, d1, d2, d3, d4⟩ := hrow
    have hrem : Int.tmod ((i : Int) + 1) (L.length : Int) = (((i + 1) % L.length : Nat) : Int) := by
      rw [show (i : Int) + 1 = ((i + 1 : Nat) : Int) by omega]; rfl
    have hne : ¬ (L.length : Int) = 0 := by omega
    generalize hmm : (i + 1) % L.length = m at *
    have HMM := Lib.hid hmm
    clear hmm
    have i1 : (m : Int) < (L.length : Int) := by omega
    have i0 : (0 : Int) ≤ (m : Int) := by omega
    go_wp2
    rw [HMM.out]
    exact bodyPost_ret (v := .agg #[.int .i64 0, .int .i64 (nth L m).x0]) (by simp [results, Try.results24, go_sem, z0, z1]) rfl ⟨rfl, nx_low HB3.out (by omega) _ _⟩
  · have e : nextR x pn = (paneC x pn, 0) := by unfold nextR; rw [if_neg hf]
    rw [e]
    have hf2 : (paneC x pn == 0) = false := by simpa using hf
    clear hf e
    generalize paneC x pn = k at *
    go_enter Try.func24, Try.ntmps24
    go_wp2_with fail
    refine (HF.out _ HX.out.ly.nodes).mono ?_
    rintro e w1 ⟨rfl, b1⟩
    have HX1 := Lib.hid (HX.out.on b1)
    obtain ⟨z0, z1⟩ := HX1.out.res.cells.two
    have zf := HX1.out.res.free
    clear b1 HX
    go_wp2
    exact bodyPost_ret (v := .agg #[.int .i64 k, .int .i64 0]) (by simp [results, Try.results24, go_sem, z0, z1]) rfl ⟨rfl, nx_low HX1.out.below (by omega) _ _⟩

set_option maxRecDepth 100000 in
set_option maxHeartbeats 4000000 in
theorem specNext_any (x : Ly) (pn : Int) (p : Option Addr) (c : Nat) (w : World) (h : Qs w w.heap.size p x.nodes) (hl : x.nodes.length ≤ 1048576) :
    Calls Try.prog 23 #[.agg #[.int .i64 x.wide, .int .i64 x.high, .slice p x.nodes.length c], .int .i64 pn] w fun e w' => e = .returned (.agg #[.int .i64 (nextR x pn).1, .int .i64 (nextR x pn).2]) ∧ Below w.heap.size w w' := by
  have HX := Lib.hid (HitSt.start w x p c 28 43 h)
  have HF := Lib.hid (fun W (hx : LyAt W w.heap.size x p c) => l7Asked_any x pn p c w.heap.size W hx hl)
  clear h
  by_cases hf : paneC x pn = 0
  · have e : nextR x pn = (0, nextQ pn (lyRects x)) := by unfold nextR; rw [if_pos hf]
    rw [e]
    rw [hf] at HF
    obtain ⟨i, hi, hidx, hip, hu⟩ := rects_at hf
    obtain ⟨ht, -⟩ := tree_of_fault (paneC_zero hf).1
    have HP := Lib.hid (fun W (hx : LyAt W w.heap.size x p c) => l6All_any x p c w.heap.size W hx ht.n0 ht.n1 ht.okay ht.wide ht.high)
    have hlen := lyRects_len x ht.n1
    have HST := Lib.hid (fun j hj => nextTo_step hidx hip hu (j := j) hj)
    have HEND := Lib.hid (nextTo_end hidx hi)
    have H0 : Hid (nextTo pn (lyRects x) 0 = (nth (lyRects x) 0).x0) := Lib.hid (by unfold nextTo; rw [if_neg (by omega)])
    have hl0 : 0 < (lyRects x).length := by omega
    dsimp only
    rw [← HEND.out]
    clear hf e ht hidx hip hu HEND hi
    generalize lyRects x = L at *
    go_enter Try.func23, Try.ntmps23
    go_wp2_with fail
    refine (HF.out _ HX.out.ly).mono ?_
    rintro e w1 ⟨rfl, b1⟩
    have HX1 := Lib.hid (HX.out.on b1)
    clear b1 HX HF
    go_wp2_with fail
    refine (HP.out _ HX1.out.ly).mono ?_
    rintro e w2 ⟨v, rfl, ov, b2⟩
    have HX2 := Lib.hid (HX1.out.on b2)
    clear b2 HX1 HP
    rcases ov.form with ⟨-, hx⟩ | ⟨g, cg, rfl, hg0, hg1, -⟩
    · rw [hx] at hl0; simp at hl0
    have HV := Lib.hid ov.row.2.1
    clear ov
    have i1 : (0 : Int) < (L.length : Int) := by omega
    obtain ⟨d0, d1, d2, d3, d4⟩ := HV.out 0 hl0
    rw [Nat.zero_mul] at d0 d1 d2 d3 d4
    rw [Nat.zero_add] at d1 d2 d3 d4
    obtain ⟨z0, z1⟩ := HX2.out.res.cells.two
    have zf := HX2.out.res.free
    have HB2 := Lib.hid HX2.out.below
    go_wp2
    go_loop [8, 9] (fun n i => ∃ j : Nat, j ≤ L.length - 1 ∧ i = .int .i64 j ∧ n = .int .i64 (nextTo pn L j)) (fun _ i => L.length - (intOf i).toNat)
    case atStart => exact ⟨0, by omega, rfl, by rw [H0.out]⟩
    case round =>
      obtain ⟨j, hj, rfl, rfl⟩ := hrel
      by_cases hlt : j + 1 < L.length
      · have HS := Lib.hid (HST.out j (by omega))
        obtain ⟨e0, e1, e2, e3, e4⟩ := HV.out j (by omega)
        obtain ⟨f0, f1, f2, f3, f4⟩ := HV.out (j + 1) hlt
        have i2 : (j : Int) < (L.length : Int) := by omega
        have i3 : (j : Int) + 1 < (L.length : Int) := by omega
        have i4 : (0 : Int) ≤ (j : Int) := by omega
        have i5 : (0 : Int) ≤ (j : Int) + 1 := by omega
        cases hq : ((nth L j).x0 == pn)
        · go_wp2
          exact ⟨⟨j + 1, by omega, by go_num, by rw [HS.out, hq]; rfl⟩, by simp [intOf]; omega⟩
        · go_wp2
          exact ⟨⟨j + 1, by omega, by go_num, by rw [HS.out, hq]; rfl⟩, by simp [intOf]; omega⟩
      · have HJ := Lib.hid (show j = L.length - 1 by omega)
        have i2 : ¬ (j : Int) + 1 < (L.length : Int) := by omega
        have hj2 : j ≤ 2048 := by omega
        clear hlt hj
        go_wp2
        exact bodyPost_ret (v := .agg #[.int .i64 0, .int .i64 (nextTo pn L j)]) (by simp [results, Try.results23, go_sem, z0, z1]) rfl ⟨by rw [← HJ.out], nx_low HB2.out (by omega) _ _⟩
  · have e : nextR x pn = (paneC x pn, 0) := by unfold nextR; rw [if_neg hf]
    rw [e]
    have hf2 : (paneC x pn == 0) = false := by simpa using hf
    clear hf e
    generalize paneC x pn = k at *
    go_enter Try.func23, Try.ntmps23
    go_wp2_with fail
    refine (HF.out _ HX.out.ly).mono ?_
    rintro e w1 ⟨rfl, b1⟩
    have HX1 := Lib.hid (HX.out.on b1)
    obtain ⟨z0, z1⟩ := HX1.out.res.cells.two
    have zf := HX1.out.res.free
    clear b1 HX
    go_wp2
    exact bodyPost_ret (v := .agg #[.int .i64 k, .int .i64 0]) (by simp [results, Try.results23, go_sem, z0, z1]) rfl ⟨rfl, nx_low HX1.out.below (by omega) _ _⟩
end Go.Proofs.Ytbfickdgjgbfhaa
