/- The model's l6Parts. -/
import Derived.Test.YtbfickdgjgbfhaaQQOpsToLwLy
import Derived.Test.YtbfickdgjgbfhaaQTakesToMem
import Derived.IntWalk
namespace Go.Proofs.Ytbfickdgjgbfhaa
open Go.RowKit
set_option linter.unusedVariables false

/-- two places -/
def PartsPost (w : World) (a b : Q) (e : Ending) (w' : World) : Prop := e = .returned (.tuple #[qV a, qV b]) ∧ Below w.heap.size w w'

theorem QAt.atl {w : World} {b : Nat} {q : Q} (h : AtL w b (qC q)) : QAt w b 0 q := ⟨h.get 0 rfl, h.get 1 rfl, h.get 2 rfl, h.get 3 rfl, h.get 4 rfl⟩
theorem qC_set (q : Q) (i : Nat) (x : Int) (hi : i < 5) : (qC q).set i (.int .i64 x) = qC (qPut q i x) := by
  have : i = 0 ∨ i = 1 ∨ i = 2 ∨ i = 3 ∨ i = 4 := by omega
  rcases this with rfl | rfl | rfl | rfl | rfl <;> simp [qC, qPut]

/-- what holds in the midst of l6Parts and of partsOfRect -/
structure PartsMid (w : World) (b o : Nat) (n r a c : Q) (W : World) : Prop where
  node : QAt W b o n
  box : AtL W w.heap.size (qC r)
  r1 : AtM W (w.heap.size + 1) (qC q0)
  r2 : AtM W (w.heap.size + 1 + 1) (qC q0)
  va : AtM W (w.heap.size + 1 + 1 + 1) (qC a)
  vc : AtM W (w.heap.size + 1 + 1 + 1 + 1) (qC c)
  below : Below w.heap.size w W
theorem PartsMid.drew {w W : World} {b o : Nat} {n r a c : Q} (h : PartsMid w b o n r a c W) : PartsMid w b o n r a c W.drew :=
  have hd : Below W.heap.size W W.drew := (Below.refl _ _).drew
  ⟨h.node.below hd h.node.lt, h.box.on hd, h.r1.on hd, h.r2.on hd, h.va.on hd, h.vc.on hd, below_on h.below hd⟩
theorem PartsMid.setA {w W : World} {b o : Nat} {n r a c : Q} (h : PartsMid w b o n r a c W) (hb : b < w.heap.size) (i : Nat) (x : Int) (hi : i < 5) : PartsMid w b o n r (qPut a i x) c (W.setCell ⟨w.heap.size + 1 + 1 + 1, i, none⟩ (.int .i64 x)) := by
  have hg : W.grownBy (W.setCell ⟨w.heap.size + 1 + 1 + 1, i, none⟩ (.int .i64 x)) (some (w.heap.size + 1 + 1 + 1)) := ⟨rfl, rfl, rfl, by simp, fun k _ hk => Below.heap_setCell _ _ _ _ (fun e => hk (by rw [e]))⟩
  have hb2 : Below (w.heap.size + 1 + 1 + 1) W (W.setCell ⟨w.heap.size + 1 + 1 + 1, i, none⟩ (.int .i64 x)) := by refine (Below.refl _ _).setCell ?_ _; show _ ≤ _; exact Nat.le_refl _
  have hva := h.va.set i (.int .i64 x)
  rw [qC_set _ _ _ hi] at hva
  exact ⟨h.node.below hb2 (by omega), h.box.far hg (by simp; omega), h.r1.far hg (by simp), h.r2.far hg (by simp), hva, h.vc.far hg (by simp), h.below.setCell (by show w.heap.size ≤ w.heap.size + 1 + 1 + 1; omega) _⟩
theorem PartsMid.setC {w W : World} {b o : Nat} {n r a c : Q} (h : PartsMid w b o n r a c W) (hb : b < w.heap.size) (i : Nat) (x : Int) (hi : i < 5) : PartsMid w b o n r a (qPut c i x) (W.setCell ⟨w.heap.size + 1 + 1 + 1 + 1, i, none⟩ (.int .i64 x)) := by
  have hg : W.grownBy (W.setCell ⟨w.heap.size + 1 + 1 + 1 + 1, i, none⟩ (.int .i64 x)) (some (w.heap.size + 1 + 1 + 1 + 1)) := ⟨rfl, rfl, rfl, by simp, fun k _ hk => Below.heap_setCell _ _ _ _ (fun e => hk (by rw [e]))⟩
  have hb2 : Below (w.heap.size + 1 + 1 + 1 + 1) W (W.setCell ⟨w.heap.size + 1 + 1 + 1 + 1, i, none⟩ (.int .i64 x)) := by refine (Below.refl _ _).setCell ?_ _; show _ ≤ _; exact Nat.le_refl _
  have hvc := h.vc.set i (.int .i64 x)
  rw [qC_set _ _ _ hi] at hvc
  exact ⟨h.node.below hb2 (by omega), h.box.far hg (by simp; omega), h.r1.far hg (by simp), h.r2.far hg (by simp), h.va.far hg (by simp), hvc, h.below.setCell (by show w.heap.size ≤ w.heap.size + 1 + 1 + 1 + 1; omega) _⟩


theorem midStart (w : World) (b o : Nat) (n r : Q) (h : QAt w b o n) (t : TypeId) : PartsMid w b o n r r r (((((w.alloc (.cells (qC r).toArray t)).alloc (.cells (qC q0).toArray t)).alloc (.cells (qC q0).toArray t)).alloc (.cells (qC r).toArray t)).alloc (.cells (qC r).toArray t)) := by
  have hb : ∀ W : World, ∀ o, Below W.heap.size W (W.alloc o) := fun W o => below_mk W o
  have n1 := AtM.new (w.alloc (.cells (qC r).toArray t)) (qC q0) t
  have n2 := AtM.new ((w.alloc (.cells (qC r).toArray t)).alloc (.cells (qC q0).toArray t)) (qC q0) t
  have n3 := AtM.new (((w.alloc (.cells (qC r).toArray t)).alloc (.cells (qC q0).toArray t)).alloc (.cells (qC q0).toArray t)) (qC r) t
  have n4 := AtM.new ((((w.alloc (.cells (qC r).toArray t)).alloc (.cells (qC q0).toArray t)).alloc (.cells (qC q0).toArray t)).alloc (.cells (qC r).toArray t)) (qC r) t
  simp only [World.size_alloc] at n1 n2 n3 n4
  have B5 := below_on (below_on (below_on (below_on (below_mk w (.cells (qC r).toArray t)) (below_mk _ (.cells (qC q0).toArray t))) (below_mk _ (.cells (qC q0).toArray t))) (below_mk _ (.cells (qC r).toArray t))) (below_mk _ (.cells (qC r).toArray t))
  exact ⟨h.below B5 h.lt, ((((AtL.new w (qC r) t).on (hb _ _)).on (hb _ _)).on (hb _ _)).on (hb _ _), ((n1.on (hb _ _)).on (hb _ _)).on (hb _ _), (n2.on (hb _ _)).on (hb _ _), n3.on (hb _ _), n4, B5⟩

set_option maxRecDepth 100000 in
set_option maxHeartbeats 4000000 in
theorem l6Parts_any (n r : Q) (b o : Nat) (w : World) (h : QAt w b o n) (h0 : 0 ≤ n.x2) (h1 : n.x2 ≤ 200) (r1 : 0 ≤ r.x1 ∧ r.x1 ≤ 100000) (r2 : 0 ≤ r.x2 ∧ r.x2 ≤ 100000) (r3 : -1000 ≤ r.x3 ∧ r.x3 ≤ 1000) (r4 : -1000 ≤ r.x4 ∧ r.x4 ≤ 1000) :
    Calls Try.prog 115 #[.pointer (some ⟨b, o, none⟩), .agg #[.int .i64 r.x0, .int .i64 r.x1, .int .i64 r.x2, .int .i64 r.x3, .int .i64 r.x4]] w (PartsPost w (partA n r) (partB n r)) := by
  have hlt := h.lt
  obtain ⟨k0, k1, k2, k3, k4⟩ := n
  obtain ⟨x0, x1, x2, x3, x4⟩ := r
  dsimp only at *
  obtain ⟨r1a, r1b⟩ := r1
  obtain ⟨r2a, r2b⟩ := r2
  obtain ⟨r3a, r3b⟩ := r3
  obtain ⟨r4a, r4b⟩ := r4
  have HM : Hid (∀ W, W = ((((w.alloc (.cells #[.int .i64 x0, .int .i64 x1, .int .i64 x2, .int .i64 x3, .int .i64 x4] 69)).alloc (.cells #[.int .i64 0, .int .i64 0, .int .i64 0, .int .i64 0, .int .i64 0] 69)).alloc (.cells #[.int .i64 0, .int .i64 0, .int .i64 0, .int .i64 0, .int .i64 0] 69)).alloc (.cells #[.int .i64 x0, .int .i64 x1, .int .i64 x2, .int .i64 x3, .int .i64 x4] 69)).alloc (.cells #[.int .i64 x0, .int .i64 x1, .int .i64 x2, .int .i64 x3, .int .i64 x4] 69) → PartsMid w b o ⟨k0, k1, k2, k3, k4⟩ ⟨x0, x1, x2, x3, x4⟩ ⟨x0, x1, x2, x3, x4⟩ ⟨x0, x1, x2, x3, x4⟩ W) := Lib.hid (by
    rintro W rfl
    exact midStart w b o ⟨k0, k1, k2, k3, k4⟩ ⟨x0, x1, x2, x3, x4⟩ h 69)
  clear h
  have w1 : IntKind.i64.wrap (x1 + k2) = x1 + k2 := IntWalk.i64_in _ (by omega)
  have w2 : IntKind.i64.wrap (x1 + k2 + 1) = x1 + k2 + 1 := IntWalk.i64_in _ (by omega)
  have w3 : IntKind.i64.wrap (x3 - k2) = x3 - k2 := IntWalk.i64_in _ (by omega)
  have w4 : IntKind.i64.wrap (x3 - k2 - 1) = x3 - k2 - 1 := IntWalk.i64_in _ (by omega)
  have w5 : IntKind.i64.wrap (x2 + k2) = x2 + k2 := IntWalk.i64_in _ (by omega)
  have w6 : IntKind.i64.wrap (x2 + k2 + 1) = x2 + k2 + 1 := IntWalk.i64_in _ (by omega)
  have w7 : IntKind.i64.wrap (x4 - k2) = x4 - k2 := IntWalk.i64_in _ (by omega)
  have w8 : IntKind.i64.wrap (x4 - k2 - 1) = x4 - k2 - 1 := IntWalk.i64_in _ (by omega)
  by_cases hk : k0 = 2
  · have HA := Lib.hid (show partA ⟨k0, k1, k2, k3, k4⟩ ⟨x0, x1, x2, x3, x4⟩ = ⟨x0, x1, x2, k2, x4⟩ by simp [partA, hk])
    have HB := Lib.hid (show partB ⟨k0, k1, k2, k3, k4⟩ ⟨x0, x1, x2, x3, x4⟩ = ⟨x0, x1 + k2 + 1, x2, x3 - k2 - 1, x4⟩ by simp [partB, hk]; omega)
    rw [HA.out, HB.out]
    subst hk
    clear HA HB
    go_enter Try.func115, Try.ntmps115
    go_upto_region 3 with (fail)
    refine wp_genQ (PartsMid w b o ⟨2, k1, k2, k3, k4⟩ ⟨x0, x1, x2, x3, x4⟩ ⟨x0, x1, x2, x3, x4⟩ ⟨x0, x1, x2, x3, x4⟩) (HM.out _ rfl) (fun W hP => ?_)
    have HP := Lib.hid hP
    have hbW : b < W.heap.size := hP.node.lt
    obtain ⟨c0, c1, c2, c3, c4⟩ := hP.node
    obtain ⟨d0, d1, d2, d3, d4⟩ := QAt.atl hP.box
    obtain ⟨e0, e1, e2, e3, e4⟩ := QAt.atl hP.va.cells
    obtain ⟨g0, g1, g2, g3, g4⟩ := QAt.atl hP.vc.cells
    have fa := hP.va.free
    have fc := hP.vc.free
    have fr1 := hP.r1.free
    have fr2 := hP.r2.free
    obtain ⟨z0, z1, z2, z3, z4⟩ := QAt.atl hP.r1.cells
    obtain ⟨y0, y1, y2, y3, y4⟩ := QAt.atl hP.r2.cells
    dsimp only [q0] at c0 c1 c2 c3 c4 d0 d1 d2 d3 d4 e0 e1 e2 e3 e4 g0 g1 g2 g3 g4 z0 z1 z2 z3 z4 y0 y1 y2 y3 y4
    clear hP
    go_wp2
    refine wp_genQ (PartsMid w b o ⟨2, k1, k2, k3, k4⟩ ⟨x0, x1, x2, x3, x4⟩ ⟨x0, x1, x2, k2, x4⟩ ⟨x0, x1, x2, x3, x4⟩) (HP.out.setA hlt 3 k2 (by omega)) (fun W2 hP2 => ?_)
    clear c0 c1 c2 c3 c4 d0 d1 d2 d3 d4 e0 e1 e2 e3 e4 g0 g1 g2 g3 g4 fa fc fr1 fr2 z0 z1 z2 z3 z4 y0 y1 y2 y3 y4 hbW HP W
    have hP := hP2
    have hPd := hP2.drew
    clear hP2
    have HP := Lib.hid hP
    have hbW : b < W2.heap.size := hP.node.lt
    obtain ⟨c0, c1, c2, c3, c4⟩ := hP.node
    obtain ⟨d0, d1, d2, d3, d4⟩ := QAt.atl hP.box
    obtain ⟨e0, e1, e2, e3, e4⟩ := QAt.atl hP.va.cells
    obtain ⟨g0, g1, g2, g3, g4⟩ := QAt.atl hP.vc.cells
    have fa := hP.va.free
    have fc := hP.vc.free
    have fr1 := hP.r1.free
    have fr2 := hP.r2.free
    obtain ⟨z0, z1, z2, z3, z4⟩ := QAt.atl hP.r1.cells
    obtain ⟨y0, y1, y2, y3, y4⟩ := QAt.atl hP.r2.cells
    dsimp only [q0] at c0 c1 c2 c3 c4 d0 d1 d2 d3 d4 e0 e1 e2 e3 e4 g0 g1 g2 g3 g4 z0 z1 z2 z3 z4 y0 y1 y2 y3 y4
    clear hP
    go_still_tail 9, (by kernel_rfl)
    change wpList _ _ _ _ _ W2.drew
    clear c0 c1 c2 c3 c4 d0 d1 d2 d3 d4 e0 e1 e2 e3 e4 g0 g1 g2 g3 g4 fa fc fr1 fr2 z0 z1 z2 z3 z4 y0 y1 y2 y3 y4 hbW HP
    generalize W2.drew = W3 at hPd ⊢
    clear W2
    have hP := hPd
    clear hPd
    have HP := Lib.hid hP
    have hbW : b < W3.heap.size := hP.node.lt
    obtain ⟨c0, c1, c2, c3, c4⟩ := hP.node
    obtain ⟨d0, d1, d2, d3, d4⟩ := QAt.atl hP.box
    obtain ⟨e0, e1, e2, e3, e4⟩ := QAt.atl hP.va.cells
    obtain ⟨g0, g1, g2, g3, g4⟩ := QAt.atl hP.vc.cells
    have fa := hP.va.free
    have fc := hP.vc.free
    have fr1 := hP.r1.free
    have fr2 := hP.r2.free
    obtain ⟨z0, z1, z2, z3, z4⟩ := QAt.atl hP.r1.cells
    obtain ⟨y0, y1, y2, y3, y4⟩ := QAt.atl hP.r2.cells
    dsimp only [q0] at c0 c1 c2 c3 c4 d0 d1 d2 d3 d4 e0 e1 e2 e3 e4 g0 g1 g2 g3 g4 z0 z1 z2 z3 z4 y0 y1 y2 y3 y4
    clear hP
    go_wp2
    refine wp_genQ (PartsMid w b o ⟨2, k1, k2, k3, k4⟩ ⟨x0, x1, x2, x3, x4⟩ ⟨x0, x1, x2, k2, x4⟩ ⟨x0, x1 + k2 + 1, x2, x3, x4⟩) (HP.out.setC hlt 1 (x1 + k2 + 1) (by omega)) (fun W4 hP2 => ?_)
    clear c0 c1 c2 c3 c4 d0 d1 d2 d3 d4 e0 e1 e2 e3 e4 g0 g1 g2 g3 g4 fa fc fr1 fr2 z0 z1 z2 z3 z4 y0 y1 y2 y3 y4 hbW HP W3
    have hP := hP2
    have hPd := hP2.drew
    clear hP2
    have HP := Lib.hid hP
    have hbW : b < W4.heap.size := hP.node.lt
    obtain ⟨c0, c1, c2, c3, c4⟩ := hP.node
    obtain ⟨d0, d1, d2, d3, d4⟩ := QAt.atl hP.box
    obtain ⟨e0, e1, e2, e3, e4⟩ := QAt.atl hP.va.cells
    obtain ⟨g0, g1, g2, g3, g4⟩ := QAt.atl hP.vc.cells
    have fa := hP.va.free
    have fc := hP.vc.free
    have fr1 := hP.r1.free
    have fr2 := hP.r2.free
    obtain ⟨z0, z1, z2, z3, z4⟩ := QAt.atl hP.r1.cells
    obtain ⟨y0, y1, y2, y3, y4⟩ := QAt.atl hP.r2.cells
    dsimp only [q0] at c0 c1 c2 c3 c4 d0 d1 d2 d3 d4 e0 e1 e2 e3 e4 g0 g1 g2 g3 g4 z0 z1 z2 z3 z4 y0 y1 y2 y3 y4
    clear hP
    go_still_tail 9, (by kernel_rfl)
    change wpList _ _ _ _ _ W4.drew
    clear c0 c1 c2 c3 c4 d0 d1 d2 d3 d4 e0 e1 e2 e3 e4 g0 g1 g2 g3 g4 fa fc fr1 fr2 z0 z1 z2 z3 z4 y0 y1 y2 y3 y4 hbW HP
    generalize W4.drew = W5 at hPd ⊢
    clear W4
    have hP := hPd
    clear hPd
    have HP := Lib.hid hP
    have hbW : b < W5.heap.size := hP.node.lt
    obtain ⟨c0, c1, c2, c3, c4⟩ := hP.node
    obtain ⟨d0, d1, d2, d3, d4⟩ := QAt.atl hP.box
    obtain ⟨e0, e1, e2, e3, e4⟩ := QAt.atl hP.va.cells
    obtain ⟨g0, g1, g2, g3, g4⟩ := QAt.atl hP.vc.cells
    have fa := hP.va.free
    have fc := hP.vc.free
    have fr1 := hP.r1.free
    have fr2 := hP.r2.free
    obtain ⟨z0, z1, z2, z3, z4⟩ := QAt.atl hP.r1.cells
    obtain ⟨y0, y1, y2, y3, y4⟩ := QAt.atl hP.r2.cells
    dsimp only [q0] at c0 c1 c2 c3 c4 d0 d1 d2 d3 d4 e0 e1 e2 e3 e4 g0 g1 g2 g3 g4 z0 z1 z2 z3 z4 y0 y1 y2 y3 y4
    clear hP
    go_wp2
    refine wp_genQ (PartsMid w b o ⟨2, k1, k2, k3, k4⟩ ⟨x0, x1, x2, x3, x4⟩ ⟨x0, x1, x2, k2, x4⟩ ⟨x0, x1 + k2 + 1, x2, x3 - k2 - 1, x4⟩) (HP.out.setC hlt 3 (x3 - k2 - 1) (by omega)) (fun W6 hP => ?_)
    clear c0 c1 c2 c3 c4 d0 d1 d2 d3 d4 e0 e1 e2 e3 e4 g0 g1 g2 g3 g4 fa fc fr1 fr2 z0 z1 z2 z3 z4 y0 y1 y2 y3 y4 hbW HP W5
    have HP := Lib.hid hP
    have hbW : b < W6.heap.size := hP.node.lt
    obtain ⟨c0, c1, c2, c3, c4⟩ := hP.node
    obtain ⟨d0, d1, d2, d3, d4⟩ := QAt.atl hP.box
    obtain ⟨e0, e1, e2, e3, e4⟩ := QAt.atl hP.va.cells
    obtain ⟨g0, g1, g2, g3, g4⟩ := QAt.atl hP.vc.cells
    have fa := hP.va.free
    have fc := hP.vc.free
    have fr1 := hP.r1.free
    have fr2 := hP.r2.free
    obtain ⟨z0, z1, z2, z3, z4⟩ := QAt.atl hP.r1.cells
    obtain ⟨y0, y1, y2, y3, y4⟩ := QAt.atl hP.r2.cells
    dsimp only [q0] at c0 c1 c2 c3 c4 d0 d1 d2 d3 d4 e0 e1 e2 e3 e4 g0 g1 g2 g3 g4 z0 z1 z2 z3 z4 y0 y1 y2 y3 y4
    clear hP
    go_region
    go_wp2
    refine bodyPost_ret (v := .tuple #[qV ⟨x0, x1, x2, k2, x4⟩, qV ⟨x0, x1 + k2 + 1, x2, x3 - k2 - 1, x4⟩]) (by simp [results, Try.results115, qV, go_sem, z0, z1, z2, z3, z4, y0, y1, y2, y3, y4]) rfl ⟨rfl, ?_⟩
    refine below_drewN ?_ 1
    repeat refine Below.setCell ?_ (by simp <;> omega) _
    exact HP.out.below
  · have HA := Lib.hid (show partA ⟨k0, k1, k2, k3, k4⟩ ⟨x0, x1, x2, x3, x4⟩ = ⟨x0, x1, x2, x3, k2⟩ by simp [partA, hk])
    have HB := Lib.hid (show partB ⟨k0, k1, k2, k3, k4⟩ ⟨x0, x1, x2, x3, x4⟩ = ⟨x0, x1, x2 + k2 + 1, x3, x4 - k2 - 1⟩ by simp [partB, hk]; omega)
    rw [HA.out, HB.out]
    have hk2 : (k0 == 2) = false := by simpa using hk
    clear hk
    clear HA HB
    go_enter Try.func115, Try.ntmps115
    go_upto_region 3 with (fail)
    refine wp_genQ (PartsMid w b o ⟨k0, k1, k2, k3, k4⟩ ⟨x0, x1, x2, x3, x4⟩ ⟨x0, x1, x2, x3, x4⟩ ⟨x0, x1, x2, x3, x4⟩) (HM.out _ rfl) (fun W hP => ?_)
    have HP := Lib.hid hP
    have hbW : b < W.heap.size := hP.node.lt
    obtain ⟨c0, c1, c2, c3, c4⟩ := hP.node
    obtain ⟨d0, d1, d2, d3, d4⟩ := QAt.atl hP.box
    obtain ⟨e0, e1, e2, e3, e4⟩ := QAt.atl hP.va.cells
    obtain ⟨g0, g1, g2, g3, g4⟩ := QAt.atl hP.vc.cells
    have fa := hP.va.free
    have fc := hP.vc.free
    have fr1 := hP.r1.free
    have fr2 := hP.r2.free
    obtain ⟨z0, z1, z2, z3, z4⟩ := QAt.atl hP.r1.cells
    obtain ⟨y0, y1, y2, y3, y4⟩ := QAt.atl hP.r2.cells
    dsimp only [q0] at c0 c1 c2 c3 c4 d0 d1 d2 d3 d4 e0 e1 e2 e3 e4 g0 g1 g2 g3 g4 z0 z1 z2 z3 z4 y0 y1 y2 y3 y4
    clear hP
    go_wp2
    refine wp_genQ (PartsMid w b o ⟨k0, k1, k2, k3, k4⟩ ⟨x0, x1, x2, x3, x4⟩ ⟨x0, x1, x2, x3, k2⟩ ⟨x0, x1, x2, x3, x4⟩) (HP.out.setA hlt 4 k2 (by omega)) (fun W2 hP2 => ?_)
    clear c0 c1 c2 c3 c4 d0 d1 d2 d3 d4 e0 e1 e2 e3 e4 g0 g1 g2 g3 g4 fa fc fr1 fr2 z0 z1 z2 z3 z4 y0 y1 y2 y3 y4 hbW HP W
    have hP := hP2
    have hPd := hP2.drew
    clear hP2
    have HP := Lib.hid hP
    have hbW : b < W2.heap.size := hP.node.lt
    obtain ⟨c0, c1, c2, c3, c4⟩ := hP.node
    obtain ⟨d0, d1, d2, d3, d4⟩ := QAt.atl hP.box
    obtain ⟨e0, e1, e2, e3, e4⟩ := QAt.atl hP.va.cells
    obtain ⟨g0, g1, g2, g3, g4⟩ := QAt.atl hP.vc.cells
    have fa := hP.va.free
    have fc := hP.vc.free
    have fr1 := hP.r1.free
    have fr2 := hP.r2.free
    obtain ⟨z0, z1, z2, z3, z4⟩ := QAt.atl hP.r1.cells
    obtain ⟨y0, y1, y2, y3, y4⟩ := QAt.atl hP.r2.cells
    dsimp only [q0] at c0 c1 c2 c3 c4 d0 d1 d2 d3 d4 e0 e1 e2 e3 e4 g0 g1 g2 g3 g4 z0 z1 z2 z3 z4 y0 y1 y2 y3 y4
    clear hP
    go_still_tail 9, (by kernel_rfl)
    change wpList _ _ _ _ _ W2.drew
    clear c0 c1 c2 c3 c4 d0 d1 d2 d3 d4 e0 e1 e2 e3 e4 g0 g1 g2 g3 g4 fa fc fr1 fr2 z0 z1 z2 z3 z4 y0 y1 y2 y3 y4 hbW HP
    generalize W2.drew = W3 at hPd ⊢
    clear W2
    have hP := hPd
    clear hPd
    have HP := Lib.hid hP
    have hbW : b < W3.heap.size := hP.node.lt
    obtain ⟨c0, c1, c2, c3, c4⟩ := hP.node
    obtain ⟨d0, d1, d2, d3, d4⟩ := QAt.atl hP.box
    obtain ⟨e0, e1, e2, e3, e4⟩ := QAt.atl hP.va.cells
    obtain ⟨g0, g1, g2, g3, g4⟩ := QAt.atl hP.vc.cells
    have fa := hP.va.free
    have fc := hP.vc.free
    have fr1 := hP.r1.free
    have fr2 := hP.r2.free
    obtain ⟨z0, z1, z2, z3, z4⟩ := QAt.atl hP.r1.cells
    obtain ⟨y0, y1, y2, y3, y4⟩ := QAt.atl hP.r2.cells
    dsimp only [q0] at c0 c1 c2 c3 c4 d0 d1 d2 d3 d4 e0 e1 e2 e3 e4 g0 g1 g2 g3 g4 z0 z1 z2 z3 z4 y0 y1 y2 y3 y4
    clear hP
    go_wp2
    refine wp_genQ (PartsMid w b o ⟨k0, k1, k2, k3, k4⟩ ⟨x0, x1, x2, x3, x4⟩ ⟨x0, x1, x2, x3, k2⟩ ⟨x0, x1, x2 + k2 + 1, x3, x4⟩) (HP.out.setC hlt 2 (x2 + k2 + 1) (by omega)) (fun W4 hP2 => ?_)
    clear c0 c1 c2 c3 c4 d0 d1 d2 d3 d4 e0 e1 e2 e3 e4 g0 g1 g2 g3 g4 fa fc fr1 fr2 z0 z1 z2 z3 z4 y0 y1 y2 y3 y4 hbW HP W3
    have hP := hP2
    have hPd := hP2.drew
    clear hP2
    have HP := Lib.hid hP
    have hbW : b < W4.heap.size := hP.node.lt
    obtain ⟨c0, c1, c2, c3, c4⟩ := hP.node
    obtain ⟨d0, d1, d2, d3, d4⟩ := QAt.atl hP.box
    obtain ⟨e0, e1, e2, e3, e4⟩ := QAt.atl hP.va.cells
    obtain ⟨g0, g1, g2, g3, g4⟩ := QAt.atl hP.vc.cells
    have fa := hP.va.free
    have fc := hP.vc.free
    have fr1 := hP.r1.free
    have fr2 := hP.r2.free
    obtain ⟨z0, z1, z2, z3, z4⟩ := QAt.atl hP.r1.cells
    obtain ⟨y0, y1, y2, y3, y4⟩ := QAt.atl hP.r2.cells
    dsimp only [q0] at c0 c1 c2 c3 c4 d0 d1 d2 d3 d4 e0 e1 e2 e3 e4 g0 g1 g2 g3 g4 z0 z1 z2 z3 z4 y0 y1 y2 y3 y4
    clear hP
    go_still_tail 9, (by kernel_rfl)
    change wpList _ _ _ _ _ W4.drew
    clear c0 c1 c2 c3 c4 d0 d1 d2 d3 d4 e0 e1 e2 e3 e4 g0 g1 g2 g3 g4 fa fc fr1 fr2 z0 z1 z2 z3 z4 y0 y1 y2 y3 y4 hbW HP
    generalize W4.drew = W5 at hPd ⊢
    clear W4
    have hP := hPd
    clear hPd
    have HP := Lib.hid hP
    have hbW : b < W5.heap.size := hP.node.lt
    obtain ⟨c0, c1, c2, c3, c4⟩ := hP.node
    obtain ⟨d0, d1, d2, d3, d4⟩ := QAt.atl hP.box
    obtain ⟨e0, e1, e2, e3, e4⟩ := QAt.atl hP.va.cells
    obtain ⟨g0, g1, g2, g3, g4⟩ := QAt.atl hP.vc.cells
    have fa := hP.va.free
    have fc := hP.vc.free
    have fr1 := hP.r1.free
    have fr2 := hP.r2.free
    obtain ⟨z0, z1, z2, z3, z4⟩ := QAt.atl hP.r1.cells
    obtain ⟨y0, y1, y2, y3, y4⟩ := QAt.atl hP.r2.cells
    dsimp only [q0] at c0 c1 c2 c3 c4 d0 d1 d2 d3 d4 e0 e1 e2 e3 e4 g0 g1 g2 g3 g4 z0 z1 z2 z3 z4 y0 y1 y2 y3 y4
    clear hP
    go_wp2
    refine wp_genQ (PartsMid w b o ⟨k0, k1, k2, k3, k4⟩ ⟨x0, x1, x2, x3, x4⟩ ⟨x0, x1, x2, x3, k2⟩ ⟨x0, x1, x2 + k2 + 1, x3, x4 - k2 - 1⟩) (HP.out.setC hlt 4 (x4 - k2 - 1) (by omega)) (fun W6 hP => ?_)
    clear c0 c1 c2 c3 c4 d0 d1 d2 d3 d4 e0 e1 e2 e3 e4 g0 g1 g2 g3 g4 fa fc fr1 fr2 z0 z1 z2 z3 z4 y0 y1 y2 y3 y4 hbW HP W5
    have HP := Lib.hid hP
    have hbW : b < W6.heap.size := hP.node.lt
    obtain ⟨c0, c1, c2, c3, c4⟩ := hP.node
    obtain ⟨d0, d1, d2, d3, d4⟩ := QAt.atl hP.box
    obtain ⟨e0, e1, e2, e3, e4⟩ := QAt.atl hP.va.cells
    obtain ⟨g0, g1, g2, g3, g4⟩ := QAt.atl hP.vc.cells
    have fa := hP.va.free
    have fc := hP.vc.free
    have fr1 := hP.r1.free
    have fr2 := hP.r2.free
    obtain ⟨z0, z1, z2, z3, z4⟩ := QAt.atl hP.r1.cells
    obtain ⟨y0, y1, y2, y3, y4⟩ := QAt.atl hP.r2.cells
    dsimp only [q0] at c0 c1 c2 c3 c4 d0 d1 d2 d3 d4 e0 e1 e2 e3 e4 g0 g1 g2 g3 g4 z0 z1 z2 z3 z4 y0 y1 y2 y3 y4
    clear hP
    go_region
    go_wp2
    refine bodyPost_ret (v := .tuple #[qV ⟨x0, x1, x2, x3, k2⟩, qV ⟨x0, x1, x2 + k2 + 1, x3, x4 - k2 - 1⟩]) (by simp [results, Try.results115, qV, go_sem, z0, z1, z2, z3, z4, y0, y1, y2, y3, y4]) rfl ⟨rfl, ?_⟩
    refine below_drewN ?_ 1
    repeat refine Below.setCell ?_ (by simp <;> omega) _
    exact HP.out.below

end Go.Proofs.Ytbfickdgjgbfhaa
