/- The program's partsOfRect. -/
import Derived.Test.YtbfickdgjgbfhaaQLySpec3
import Derived.Test.YtbfickdgjgbfhaaQLyImpl1
namespace Go.Proofs.Ytbfickdgjgbfhaa
open Go.RowKit
set_option linter.unusedVariables false


/-- what holds in the midst of partsOfRect -/
structure PartsM (w : World) (n r a c : Q) (g6 g7 : Nat) (W : World) : Prop where
  node : AtL W w.heap.size (qC n)
  r1 : AtM W (w.heap.size + 1 + 1) (qC q0)
  r2 : AtM W (w.heap.size + 1 + 1 + 1) (qC q0)
  va : AtM W g6 (qC a)
  vc : AtM W g7 (qC c)
  below : Below w.heap.size w W
  ne : g6 ≠ g7
  lo6 : w.heap.size + 1 + 1 + 1 < g6
  lo7 : w.heap.size + 1 + 1 + 1 < g7
theorem PartsM.setA {w W : World} {n r a c : Q} {g6 g7 : Nat} (h : PartsM w n r a c g6 g7 W) (i : Nat) (x : Int) (hi : i < 5) : PartsM w n r (qPut a i x) c g6 g7 (W.setCell ⟨g6, i, none⟩ (.int .i64 x)) := by
  have hg : W.grownBy (W.setCell ⟨g6, i, none⟩ (.int .i64 x)) (some g6) := ⟨rfl, rfl, rfl, by simp, fun k _ hk => Below.heap_setCell _ _ _ _ (fun e => hk (by rw [e]))⟩
  have h6 := h.lo6
  have hne := h.ne
  have hva := h.va.set i (.int .i64 x)
  rw [qC_set _ _ _ hi] at hva
  exact ⟨h.node.far hg (by intro e; injection e; omega), h.r1.far hg (by intro e; injection e; omega), h.r2.far hg (by intro e; injection e; omega), hva, h.vc.far hg (by intro e; injection e; omega), h.below.setCell (by show w.heap.size ≤ g6; omega) _, h.ne, h.lo6, h.lo7⟩
theorem PartsM.setC {w W : World} {n r a c : Q} {g6 g7 : Nat} (h : PartsM w n r a c g6 g7 W) (i : Nat) (x : Int) (hi : i < 5) : PartsM w n r a (qPut c i x) g6 g7 (W.setCell ⟨g7, i, none⟩ (.int .i64 x)) := by
  have hg : W.grownBy (W.setCell ⟨g7, i, none⟩ (.int .i64 x)) (some g7) := ⟨rfl, rfl, rfl, by simp, fun k _ hk => Below.heap_setCell _ _ _ _ (fun e => hk (by rw [e]))⟩
  have h7 := h.lo7
  have hne := h.ne
  have hvc := h.vc.set i (.int .i64 x)
  rw [qC_set _ _ _ hi] at hvc
  exact ⟨h.node.far hg (by intro e; injection e; omega), h.r1.far hg (by intro e; injection e; omega), h.r2.far hg (by intro e; injection e; omega), h.va.far hg (by intro e; injection e; omega), hvc, h.below.setCell (by show w.heap.size ≤ g7; omega) _, h.ne, h.lo6, h.lo7⟩

theorem partsStart (w : World) (n r : Q) (tn t : TypeId) (W : World) (hW : W = ((((((w.alloc (.cells (qC n).toArray tn)).alloc (.cells (qC r).toArray t)).alloc (.cells (qC q0).toArray t)).alloc (.cells (qC q0).toArray t)).alloc (.cells (qC r).toArray t)).alloc (.cells (qC r).toArray t)).drew) :
    PartsM w n r r r (w.heap.size + 1 + 1 + 1 + 1) (w.heap.size + 1 + 1 + 1 + 1 + 1) W ∧ PartsM w n r r r (w.heap.size + 1 + 1 + 1 + 1 + 1) (w.heap.size + 1 + 1 + 1 + 1) W := by
  have b1 := below_mk w (.cells (qC n).toArray tn)
  have b2 := below_mk (w.alloc (.cells (qC n).toArray tn)) (.cells (qC r).toArray t)
  have b3 := below_mk ((w.alloc (.cells (qC n).toArray tn)).alloc (.cells (qC r).toArray t)) (.cells (qC q0).toArray t)
  have b4 := below_mk (((w.alloc (.cells (qC n).toArray tn)).alloc (.cells (qC r).toArray t)).alloc (.cells (qC q0).toArray t)) (.cells (qC q0).toArray t)
  have b5 := below_mk ((((w.alloc (.cells (qC n).toArray tn)).alloc (.cells (qC r).toArray t)).alloc (.cells (qC q0).toArray t)).alloc (.cells (qC q0).toArray t)) (.cells (qC r).toArray t)
  have b6 := below_drewN (below_mk (((((w.alloc (.cells (qC n).toArray tn)).alloc (.cells (qC r).toArray t)).alloc (.cells (qC q0).toArray t)).alloc (.cells (qC q0).toArray t)).alloc (.cells (qC r).toArray t)) (.cells (qC r).toArray t)) 1
  have n0 := AtL.new w (qC n) tn
  have n2 := AtM.new ((w.alloc (.cells (qC n).toArray tn)).alloc (.cells (qC r).toArray t)) (qC q0) t
  have n3 := AtM.new (((w.alloc (.cells (qC n).toArray tn)).alloc (.cells (qC r).toArray t)).alloc (.cells (qC q0).toArray t)) (qC q0) t
  have n4 := AtM.new ((((w.alloc (.cells (qC n).toArray tn)).alloc (.cells (qC r).toArray t)).alloc (.cells (qC q0).toArray t)).alloc (.cells (qC q0).toArray t)) (qC r) t
  have n5 := AtM.new (((((w.alloc (.cells (qC n).toArray tn)).alloc (.cells (qC r).toArray t)).alloc (.cells (qC q0).toArray t)).alloc (.cells (qC q0).toArray t)).alloc (.cells (qC r).toArray t)) (qC r) t
  have n5' := n5.on (below_drewN (Below.refl _ _) 1)
  have B := below_on (below_on (below_on (below_on (below_on b1 b2) b3) b4) b5) b6
  have a0 := ((((n0.on b2).on b3).on b4).on b5).on b6
  have a2 := ((n2.on b4).on b5).on b6
  have a3 := (n3.on b5).on b6
  have a4 := n4.on b6
  simp only [World.size_alloc] at a2 a3 a4 n5'
  subst hW
  exact ⟨⟨a0, a2, a3, a4, n5', B, by omega, by omega, by omega⟩, ⟨a0, a2, a3, n5', a4, B, by omega, by omega, by omega⟩⟩

set_option maxRecDepth 100000 in
set_option maxHeartbeats 4000000 in
theorem partsOfRect_any (n r : Q) (w : World) (h0 : 0 ≤ n.x2) (h1 : n.x2 ≤ 200) (r1 : 0 ≤ r.x1 ∧ r.x1 ≤ 100000) (r2 : 0 ≤ r.x2 ∧ r.x2 ≤ 100000) (r3 : -1000 ≤ r.x3 ∧ r.x3 ≤ 1000) (r4 : -1000 ≤ r.x4 ∧ r.x4 ≤ 1000) :
    Calls Try.prog 111 #[.agg #[.int .i64 n.x0, .int .i64 n.x1, .int .i64 n.x2, .int .i64 n.x3, .int .i64 n.x4], .agg #[.int .i64 r.x0, .int .i64 r.x1, .int .i64 r.x2, .int .i64 r.x3, .int .i64 r.x4]] w (PartsPost w (partA n r) (partB n r)) := by
  have HM := Lib.hid (fun W => partsStart w n r 76 69 W)
  unfold qC at HM
  obtain ⟨k0, k1, k2, k3, k4⟩ := n
  obtain ⟨x0, x1, x2, x3, x4⟩ := r
  dsimp only [q0] at *
  obtain ⟨r1a, r1b⟩ := r1
  obtain ⟨r2a, r2b⟩ := r2
  obtain ⟨r3a, r3b⟩ := r3
  obtain ⟨r4a, r4b⟩ := r4
  by_cases hk : k0 = 2
  · have HA := Lib.hid (show partA ⟨k0, k1, k2, k3, k4⟩ ⟨x0, x1, x2, x3, x4⟩ = ⟨x0, x1, x2, k2, x4⟩ by simp [partA, hk])
    have HB := Lib.hid (show partB ⟨k0, k1, k2, k3, k4⟩ ⟨x0, x1, x2, x3, x4⟩ = ⟨x0, x1 + (k2 + 1), x2, x3 - (k2 + 1), x4⟩ by simp [partB, hk])
    rw [HA.out, HB.out]
    subst hk
    clear HA HB
    go_enter Try.func111, Try.ntmps111
    go_wp2
    go_region
    all_goals go_upto_region 2 with (fail)
    · refine wp_genQ (PartsM w ⟨2, k1, k2, k3, k4⟩ ⟨x0, x1, x2, x3, x4⟩ ⟨x0, x1, x2, x3, x4⟩ ⟨x0, x1, x2, x3, x4⟩ (w.heap.size + 1 + 1 + 1 + 1) (w.heap.size + 1 + 1 + 1 + 1 + 1)) (HM.out _ rfl).1 (fun W hP => ?_)
      have HP := Lib.hid hP
      obtain ⟨c0, c1, c2, c3, c4⟩ := QAt.atl hP.node
      obtain ⟨e0, e1, e2, e3, e4⟩ := QAt.atl hP.va.cells
      obtain ⟨g0, g1, g2, g3, g4⟩ := QAt.atl hP.vc.cells
      have fa := hP.va.free
      have fc := hP.vc.free
      have fr1 := hP.r1.free
      have fr2 := hP.r2.free
      obtain ⟨z0, z1, z2, z3, z4⟩ := QAt.atl hP.r1.cells
      obtain ⟨y0, y1, y2, y3, y4⟩ := QAt.atl hP.r2.cells
      dsimp only [q0] at c0 c1 c2 c3 c4 e0 e1 e2 e3 e4 g0 g1 g2 g3 g4 z0 z1 z2 z3 z4 y0 y1 y2 y3 y4
      clear hP
      go_wp2
      refine wp_genQ (PartsM w ⟨2, k1, k2, k3, k4⟩ ⟨x0, x1, x2, x3, x4⟩ ⟨x0, x1, x2, k2, x4⟩ ⟨x0, x1 + (k2 + 1), x2, x3 - (k2 + 1), x4⟩ (w.heap.size + 1 + 1 + 1 + 1) (w.heap.size + 1 + 1 + 1 + 1 + 1)) (((HP.out.setA 3 k2 (by omega)).setC 1 (x1 + (k2 + 1)) (by omega)).setC 3 (x3 - (k2 + 1)) (by omega)) (fun W2 hP => ?_)
      clear c0 c1 c2 c3 c4 e0 e1 e2 e3 e4 g0 g1 g2 g3 g4 fa fc fr1 fr2 z0 z1 z2 z3 z4 y0 y1 y2 y3 y4 HP W
      have HP := Lib.hid hP
      obtain ⟨c0, c1, c2, c3, c4⟩ := QAt.atl hP.node
      obtain ⟨e0, e1, e2, e3, e4⟩ := QAt.atl hP.va.cells
      obtain ⟨g0, g1, g2, g3, g4⟩ := QAt.atl hP.vc.cells
      have fa := hP.va.free
      have fc := hP.vc.free
      have fr1 := hP.r1.free
      have fr2 := hP.r2.free
      obtain ⟨z0, z1, z2, z3, z4⟩ := QAt.atl hP.r1.cells
      obtain ⟨y0, y1, y2, y3, y4⟩ := QAt.atl hP.r2.cells
      dsimp only [q0] at c0 c1 c2 c3 c4 e0 e1 e2 e3 e4 g0 g1 g2 g3 g4 z0 z1 z2 z3 z4 y0 y1 y2 y3 y4
      clear hP
      go_region
      go_wp2
      refine bodyPost_ret (v := .tuple #[qV ⟨x0, x1, x2, k2, x4⟩, qV ⟨x0, x1 + (k2 + 1), x2, x3 - (k2 + 1), x4⟩]) (by simp [results, Try.results111, qV, go_sem, z0, z1, z2, z3, z4, y0, y1, y2, y3, y4]) rfl ⟨rfl, ?_⟩
      refine below_drewN ?_ 1
      repeat refine Below.setCell ?_ (by simp <;> omega) _
      exact HP.out.below
    · refine wp_genQ (PartsM w ⟨2, k1, k2, k3, k4⟩ ⟨x0, x1, x2, x3, x4⟩ ⟨x0, x1, x2, x3, x4⟩ ⟨x0, x1, x2, x3, x4⟩ (w.heap.size + 1 + 1 + 1 + 1 + 1) (w.heap.size + 1 + 1 + 1 + 1)) (HM.out _ rfl).2 (fun W hP => ?_)
      have HP := Lib.hid hP
      obtain ⟨c0, c1, c2, c3, c4⟩ := QAt.atl hP.node
      obtain ⟨e0, e1, e2, e3, e4⟩ := QAt.atl hP.va.cells
      obtain ⟨g0, g1, g2, g3, g4⟩ := QAt.atl hP.vc.cells
      have fa := hP.va.free
      have fc := hP.vc.free
      have fr1 := hP.r1.free
      have fr2 := hP.r2.free
      obtain ⟨z0, z1, z2, z3, z4⟩ := QAt.atl hP.r1.cells
      obtain ⟨y0, y1, y2, y3, y4⟩ := QAt.atl hP.r2.cells
      dsimp only [q0] at c0 c1 c2 c3 c4 e0 e1 e2 e3 e4 g0 g1 g2 g3 g4 z0 z1 z2 z3 z4 y0 y1 y2 y3 y4
      clear hP
      go_wp2
      refine wp_genQ (PartsM w ⟨2, k1, k2, k3, k4⟩ ⟨x0, x1, x2, x3, x4⟩ ⟨x0, x1, x2, k2, x4⟩ ⟨x0, x1 + (k2 + 1), x2, x3 - (k2 + 1), x4⟩ (w.heap.size + 1 + 1 + 1 + 1 + 1) (w.heap.size + 1 + 1 + 1 + 1)) (((HP.out.setA 3 k2 (by omega)).setC 1 (x1 + (k2 + 1)) (by omega)).setC 3 (x3 - (k2 + 1)) (by omega)) (fun W2 hP => ?_)
      clear c0 c1 c2 c3 c4 e0 e1 e2 e3 e4 g0 g1 g2 g3 g4 fa fc fr1 fr2 z0 z1 z2 z3 z4 y0 y1 y2 y3 y4 HP W
      have HP := Lib.hid hP
      obtain ⟨c0, c1, c2, c3, c4⟩ := QAt.atl hP.node
      obtain ⟨e0, e1, e2, e3, e4⟩ := QAt.atl hP.va.cells
      obtain ⟨g0, g1, g2, g3, g4⟩ := QAt.atl hP.vc.cells
      have fa := hP.va.free
      have fc := hP.vc.free
      have fr1 := hP.r1.free
      have fr2 := hP.r2.free
      obtain ⟨z0, z1, z2, z3, z4⟩ := QAt.atl hP.r1.cells
      obtain ⟨y0, y1, y2, y3, y4⟩ := QAt.atl hP.r2.cells
      dsimp only [q0] at c0 c1 c2 c3 c4 e0 e1 e2 e3 e4 g0 g1 g2 g3 g4 z0 z1 z2 z3 z4 y0 y1 y2 y3 y4
      clear hP
      go_region
      go_wp2
      refine bodyPost_ret (v := .tuple #[qV ⟨x0, x1, x2, k2, x4⟩, qV ⟨x0, x1 + (k2 + 1), x2, x3 - (k2 + 1), x4⟩]) (by simp [results, Try.results111, qV, go_sem, z0, z1, z2, z3, z4, y0, y1, y2, y3, y4]) rfl ⟨rfl, ?_⟩
      refine below_drewN ?_ 1
      repeat refine Below.setCell ?_ (by simp <;> omega) _
      exact HP.out.below
  · have HA := Lib.hid (show partA ⟨k0, k1, k2, k3, k4⟩ ⟨x0, x1, x2, x3, x4⟩ = ⟨x0, x1, x2, x3, k2⟩ by simp [partA, hk])
    have HB := Lib.hid (show partB ⟨k0, k1, k2, k3, k4⟩ ⟨x0, x1, x2, x3, x4⟩ = ⟨x0, x1, x2 + (k2 + 1), x3, x4 - (k2 + 1)⟩ by simp [partB, hk])
    rw [HA.out, HB.out]
    have hk2 : (k0 == 2) = false := by simpa using hk
    clear hk
    clear HA HB
    go_enter Try.func111, Try.ntmps111
    go_wp2
    go_region
    all_goals go_upto_region 2 with (fail)
    · refine wp_genQ (PartsM w ⟨k0, k1, k2, k3, k4⟩ ⟨x0, x1, x2, x3, x4⟩ ⟨x0, x1, x2, x3, x4⟩ ⟨x0, x1, x2, x3, x4⟩ (w.heap.size + 1 + 1 + 1 + 1) (w.heap.size + 1 + 1 + 1 + 1 + 1)) (HM.out _ rfl).1 (fun W hP => ?_)
      have HP := Lib.hid hP
      obtain ⟨c0, c1, c2, c3, c4⟩ := QAt.atl hP.node
      obtain ⟨e0, e1, e2, e3, e4⟩ := QAt.atl hP.va.cells
      obtain ⟨g0, g1, g2, g3, g4⟩ := QAt.atl hP.vc.cells
      have fa := hP.va.free
      have fc := hP.vc.free
      have fr1 := hP.r1.free
      have fr2 := hP.r2.free
      obtain ⟨z0, z1, z2, z3, z4⟩ := QAt.atl hP.r1.cells
      obtain ⟨y0, y1, y2, y3, y4⟩ := QAt.atl hP.r2.cells
      dsimp only [q0] at c0 c1 c2 c3 c4 e0 e1 e2 e3 e4 g0 g1 g2 g3 g4 z0 z1 z2 z3 z4 y0 y1 y2 y3 y4
      clear hP
      go_wp2
      refine wp_genQ (PartsM w ⟨k0, k1, k2, k3, k4⟩ ⟨x0, x1, x2, x3, x4⟩ ⟨x0, x1, x2, x3, k2⟩ ⟨x0, x1, x2 + (k2 + 1), x3, x4 - (k2 + 1)⟩ (w.heap.size + 1 + 1 + 1 + 1) (w.heap.size + 1 + 1 + 1 + 1 + 1)) (((HP.out.setA 4 k2 (by omega)).setC 2 (x2 + (k2 + 1)) (by omega)).setC 4 (x4 - (k2 + 1)) (by omega)) (fun W2 hP => ?_)
      clear c0 c1 c2 c3 c4 e0 e1 e2 e3 e4 g0 g1 g2 g3 g4 fa fc fr1 fr2 z0 z1 z2 z3 z4 y0 y1 y2 y3 y4 HP W
      have HP := Lib.hid hP
      obtain ⟨c0, c1, c2, c3, c4⟩ := QAt.atl hP.node
      obtain ⟨e0, e1, e2, e3, e4⟩ := QAt.atl hP.va.cells
      obtain ⟨g0, g1, g2, g3, g4⟩ := QAt.atl hP.vc.cells
      have fa := hP.va.free
      have fc := hP.vc.free
      have fr1 := hP.r1.free
      have fr2 := hP.r2.free
      obtain ⟨z0, z1, z2, z3, z4⟩ := QAt.atl hP.r1.cells
      obtain ⟨y0, y1, y2, y3, y4⟩ := QAt.atl hP.r2.cells
      dsimp only [q0] at c0 c1 c2 c3 c4 e0 e1 e2 e3 e4 g0 g1 g2 g3 g4 z0 z1 z2 z3 z4 y0 y1 y2 y3 y4
      clear hP
      go_region
      go_wp2
      refine bodyPost_ret (v := .tuple #[qV ⟨x0, x1, x2, x3, k2⟩, qV ⟨x0, x1, x2 + (k2 + 1), x3, x4 - (k2 + 1)⟩]) (by simp [results, Try.results111, qV, go_sem, z0, z1, z2, z3, z4, y0, y1, y2, y3, y4]) rfl ⟨rfl, ?_⟩
      refine below_drewN ?_ 1
      repeat refine Below.setCell ?_ (by simp <;> omega) _
      exact HP.out.below
    · refine wp_genQ (PartsM w ⟨k0, k1, k2, k3, k4⟩ ⟨x0, x1, x2, x3, x4⟩ ⟨x0, x1, x2, x3, x4⟩ ⟨x0, x1, x2, x3, x4⟩ (w.heap.size + 1 + 1 + 1 + 1 + 1) (w.heap.size + 1 + 1 + 1 + 1)) (HM.out _ rfl).2 (fun W hP => ?_)
      have HP := Lib.hid hP
      obtain ⟨c0, c1, c2, c3, c4⟩ := QAt.atl hP.node
      obtain ⟨e0, e1, e2, e3, e4⟩ := QAt.atl hP.va.cells
      obtain ⟨g0, g1, g2, g3, g4⟩ := QAt.atl hP.vc.cells
      have fa := hP.va.free
      have fc := hP.vc.free
      have fr1 := hP.r1.free
      have fr2 := hP.r2.free
      obtain ⟨z0, z1, z2, z3, z4⟩ := QAt.atl hP.r1.cells
      obtain ⟨y0, y1, y2, y3, y4⟩ := QAt.atl hP.r2.cells
      dsimp only [q0] at c0 c1 c2 c3 c4 e0 e1 e2 e3 e4 g0 g1 g2 g3 g4 z0 z1 z2 z3 z4 y0 y1 y2 y3 y4
      clear hP
      go_wp2
      refine wp_genQ (PartsM w ⟨k0, k1, k2, k3, k4⟩ ⟨x0, x1, x2, x3, x4⟩ ⟨x0, x1, x2, x3, k2⟩ ⟨x0, x1, x2 + (k2 + 1), x3, x4 - (k2 + 1)⟩ (w.heap.size + 1 + 1 + 1 + 1 + 1) (w.heap.size + 1 + 1 + 1 + 1)) (((HP.out.setA 4 k2 (by omega)).setC 2 (x2 + (k2 + 1)) (by omega)).setC 4 (x4 - (k2 + 1)) (by omega)) (fun W2 hP => ?_)
      clear c0 c1 c2 c3 c4 e0 e1 e2 e3 e4 g0 g1 g2 g3 g4 fa fc fr1 fr2 z0 z1 z2 z3 z4 y0 y1 y2 y3 y4 HP W
      have HP := Lib.hid hP
      obtain ⟨c0, c1, c2, c3, c4⟩ := QAt.atl hP.node
      obtain ⟨e0, e1, e2, e3, e4⟩ := QAt.atl hP.va.cells
      obtain ⟨g0, g1, g2, g3, g4⟩ := QAt.atl hP.vc.cells
      have fa := hP.va.free
      have fc := hP.vc.free
      have fr1 := hP.r1.free
      have fr2 := hP.r2.free
      obtain ⟨z0, z1, z2, z3, z4⟩ := QAt.atl hP.r1.cells
      obtain ⟨y0, y1, y2, y3, y4⟩ := QAt.atl hP.r2.cells
      dsimp only [q0] at c0 c1 c2 c3 c4 e0 e1 e2 e3 e4 g0 g1 g2 g3 g4 z0 z1 z2 z3 z4 y0 y1 y2 y3 y4
      clear hP
      go_region
      go_wp2
      refine bodyPost_ret (v := .tuple #[qV ⟨x0, x1, x2, x3, k2⟩, qV ⟨x0, x1, x2 + (k2 + 1), x3, x4 - (k2 + 1)⟩]) (by simp [results, Try.results111, qV, go_sem, z0, z1, z2, z3, z4, y0, y1, y2, y3, y4]) rfl ⟨rfl, ?_⟩
      refine below_drewN ?_ 1
      repeat refine Below.setCell ?_ (by simp <;> omega) _
      exact HP.out.below

end Go.Proofs.Ytbfickdgjgbfhaa
