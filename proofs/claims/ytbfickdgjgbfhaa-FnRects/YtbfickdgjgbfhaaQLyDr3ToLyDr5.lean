/- l6Bent of the model: a layout drawn, and something of it changed. (Written by wip/gen_l6bent.py.) -/
import Derived.Test.YtbfickdgjgbfhaaQLyDr2
import Derived.Test.YtbfickdgjgbfhaaQAppZeros
namespace Go.Proofs.Ytbfickdgjgbfhaa
open Go.RowKit
set_option linter.unusedVariables false

/-- what a draw of a layout leaves that may be wrong -/
def LbPost (w : World) (g : Nat) (q : Option Addr) (c : Nat) (l : List UInt8) (N : Nat) (e : Ending) (w' : World) : Prop :=
  ∃ (a : Ly) (v : Value), e = .returned (.agg #[.int .i64 a.wide, .int .i64 a.high, v]) ∧ a.nodes.length ≤ 20 ∧ OwnQ 76 w' (w.heap.size + 1) v a.nodes ∧ Src w' g q c l N ∧ w.grownBy w' (some g)

/-- in the midst of l6Bent: the layout lies in block b3 -/
structure DB (w : World) (g : Nat) (q : Option Addr) (c : Nat) (l : List UInt8) (N b3 : Nat) (a : Ly) (v : Value) (W : World) : Prop where
  src : Src W g q c l N
  r2 : AtM W w.heap.size [.int .i64 0, .int .i64 0, .slice none 0 0]
  m3 : AtM W b3 [.int .i64 a.wide, .int .i64 a.high, v]
  own : OwnQ 76 W (w.heap.size + 1) v a.nodes
  kept : w.grownBy W (some g)
  b3w : w.heap.size < b3
  gw : g < w.heap.size
  ne : ∀ j, v.ownBlock = some j → j ≠ b3
section
variable {w : World} {g : Nat} {q : Option Addr} {c : Nat} {l : List UInt8} {N b3 : Nat} {a : Ly} {v : Value} {W W' : World}
theorem DB.draw {M : Nat} (h : DB w g q c l N b3 a v W) (hs : Src W' g q c l M) (hg : W.grownBy W' (some g)) : DB w g q c l M b3 a v W' := by
  have h1 := h.b3w
  have h2 := h.gw
  exact ⟨hs, h.r2.far hg (by intro e; injection e; omega), h.m3.far hg (by intro e; injection e; omega), h.own.far hg (fun j hj e => by have := (h.own.lt j hj).1; injection e; omega), grown_trans h.kept hg, h1, h2, h.ne⟩
theorem DB.on (h : DB w g q c l N b3 a v W) (hb : Below W.heap.size W W') : DB w g q c l N b3 a v W' := h.draw (h.src.below hb) (grown_of_below hb _)
theorem DB.stored {go n cp : Nat} (h : DB w g q c l N b3 a (.slice (some ⟨go, 0, none⟩) n cp) W) (i f : Nat) (x : Int) (hi : i < a.nodes.length) (hf : f < 5) :
    DB w g q c l N b3 ⟨a.wide, a.high, a.nodes.set i (qPut (nth a.nodes i) f x)⟩ (.slice (some ⟨go, 0, none⟩) n cp) (W.setCell ⟨go, i * 5 + f, none⟩ (.int .i64 x)) := by
  obtain ⟨h1, hg⟩ := h.own.stored i f x hi hf
  have h2 := (h.own.lt go rfl).1
  have h3 := h.gw
  have h4 := h.ne go rfl
  exact ⟨h.src.grown hg (by intro j hj; injection hj; omega), h.r2.far hg (by intro e; injection e; omega), h.m3.far hg (by intro e; injection e; omega), h1, grownBy_on h.kept hg (fun j hj => by cases hj; exact .inl (by omega)), h.b3w, h3, h.ne⟩
theorem DB.wide (h : DB w g q c l N b3 a v W) (x : Int) : DB w g q c l N b3 ⟨x, a.high, a.nodes⟩ v (W.setCell ⟨b3, 0, none⟩ (.int .i64 x)) := by
  have hg := grown_cellY W b3 0 (.int .i64 x)
  have h2 := h.b3w
  have h3 := h.gw
  exact ⟨h.src.grown hg (by intro j hj; injection hj; omega), h.r2.far hg (by intro e; injection e; omega), h.m3.set 0 _, h.own.far hg (fun j hj e => h.ne j hj (by injection e)), grownBy_on h.kept hg (fun j hj => by cases hj; exact .inl (by omega)), h2, h3, h.ne⟩
theorem DB.new {L : List Q} {v' : Value} {row : Option Nat} (h : DB w g q c l N b3 a v W) (ho : OwnQ 76 W' (w.heap.size + 1) v' L) (hg : W.grownBy W' row) (hr : ∀ j, row = some j → w.heap.size < j ∧ j ≠ b3) (hne : ∀ j, v'.ownBlock = some j → j ≠ b3) :
    DB w g q c l N b3 ⟨a.wide, a.high, L⟩ v' (W'.setCell ⟨b3, 2, none⟩ v') := by
  have h2 := h.b3w
  have h3 := h.gw
  have h5 : ∀ j, row = some j → g < j := fun j hj => by have := (hr j hj).1; omega
  have hg2 := grown_cellY W' b3 2 v'
  refine ⟨(h.src.grown hg h5).grown hg2 (by intro j hj; injection hj; omega), (h.r2.far hg (fun e => by have := (hr _ e.symm).1; omega)).far hg2 (by intro e; injection e; omega), (h.m3.far hg (fun e => (hr _ e.symm).2 rfl)).set 2 _, ho.far hg2 (fun j hj e => hne j hj (by injection e)), ?_, h2, h3, hne⟩
  refine grownBy_on (grownBy_on h.kept hg (fun j hj => .inl ?_)) hg2 (fun j hj => by cases hj; exact .inl (by omega))
  have := (hr j hj).1; omega
theorem DB.done (h : DB w g q c l N b3 a v W) (hl : a.nodes.length ≤ 20) : LbPost w g q c l N (.returned (.agg #[.int .i64 a.wide, .int .i64 a.high, v])) (sets W w.heap.size 0 [.int .i64 a.wide, .int .i64 a.high, v]) := by
  have hg := sets_grown (b := w.heap.size) [.int .i64 a.wide, .int .i64 a.high, v] 0 W
  have h2 := h.gw
  exact ⟨a, v, rfl, hl, h.own.far hg (fun j hj e => by have := (h.own.lt j hj).1; injection e; omega), h.src.grown hg (by intro j hj; injection hj; omega), grownBy_on h.kept hg (fun j hj => by cases hj; exact .inl (Nat.le_refl _))⟩
end

set_option maxRecDepth 100000 in
set_option maxHeartbeats 8000000 in
theorem l6Bent_any (g : Nat) (q : Option Addr) (c N : Nat) (l : List UInt8) (w : World) (h : Src w g q c l N) (hl : l.length ≤ 1048576) (hn : N ≤ 900000) :
    Calls Try.prog 81 #[.pointer (some ⟨g, 0, none⟩)] w (LbPost w g q c l (N + 43)) := by
  have hgw := h.choose_spec.2.2
  have S0 := Lib.hid (h.below (below_mk w (.cells #[.int .i64 0, .int .i64 0, .slice none 0 0] 28)))
  have R0 := Lib.hid (AtM.new w [.int .i64 0, .int .i64 0, .slice none 0 0] 28)
  have K0 := Lib.hid (World.grownBy_alloc w (.cells #[.int .i64 0, .int .i64 0, .slice none 0 0] 28) (some g))
  have hz0 : (w.alloc (.cells #[.int .i64 0, .int .i64 0, .slice none 0 0] 28)).heap.size = w.heap.size + 1 := by simp
  have Z0 := Lib.hid hz0
  clear h hz0
  go_enter Try.func81, Try.ntmps81
  go_upto_region 1 with (fail)
  generalize w.alloc (.cells #[.int .i64 0, .int .i64 0, .slice none 0 0] 28) = W0 at *
  go_wp2_with fail
  refine (l6Draw_any g q c N l _ S0.out hl hn).mono ?_
  rintro e w3 ⟨a, v, rfl, ha0, ha9, ho3, hs3, hg3⟩
  rcases ho3.form with ⟨_, hnil⟩ | ⟨go, cp, rfl, hgo1, hgo2, _⟩
  · rw [hnil] at ha0; simp at ha0
  have D3 : Hid (DB w g q c l (N + 40) w3.heap.size a (.slice (some ⟨go, 0, none⟩) a.nodes.length cp) (w3.alloc (.cells #[.int .i64 a.wide, .int .i64 a.high, .slice (some ⟨go, 0, none⟩) a.nodes.length cp] 28))) := by
    have b := below_mk w3 (.cells #[.int .i64 a.wide, .int .i64 a.high, .slice (some ⟨go, 0, none⟩) a.nodes.length cp] 28)
    have z := Z0.out
    have z3 := hg3.size
    exact ⟨hs3.below b, (R0.out.far hg3 (by intro e; injection e; omega)).on b, AtM.new w3 [.int .i64 a.wide, .int .i64 a.high, .slice (some ⟨go, 0, none⟩) a.nodes.length cp] 28, (ho3.lower (by omega)).on b, grown_trans (grown_trans K0.out hg3) (grown_of_below b _), by omega, hgw, fun j hj => by simp [Value.ownBlock] at hj; omega⟩
  have hgo : w.heap.size < go := by have := Z0.out; omega
  have hb3g : go ≠ w3.heap.size := by omega
  have hb3w : w.heap.size < w3.heap.size := by omega
  clear S0 R0 K0 Z0 ho3 hs3 hg3 hgo1 hgo2
  go_upto_region 2 with (fail)
  generalize w3.alloc (.cells #[.int .i64 a.wide, .int .i64 a.high, .slice (some ⟨go, 0, none⟩) a.nodes.length cp] 28) = W3 at *
  generalize w3.heap.size = b3 at *
  have DD := Lib.hid (D3.out.on (below_drewN (Below.refl W3.heap.size W3) 1))
  have hS0 := DD.out.m3.cells
  clear D3
  refine wp_region_noPanic ?_
  refine wp_region_held_drew (S := fun W' => AtL W' b3 [.int .i64 a.wide, .int .i64 a.high, .slice (some ⟨go, 0, none⟩) a.nodes.length cp]) (by kernel_rfl) hS0 (fun hHeld => ?_)
  refine takeA 0 7 (.pointer (some ⟨b3, 2, none⟩)) hHeld ?_
  simp only [Act.put, sa, s0, ss]
  refine takeB 1 8 (.slice (some ⟨go, 0, none⟩) a.nodes.length cp) (fun w o hSw ho => ?_) hHeld ?_
  · obtain rfl := Option.some.inj ho; (obtain ⟨z0, z1, z2⟩ := AtL.tri hSw; go_simp)
  simp only [Act.put, sa, s0, ss]
  refine takeA 2 9 (.pointer (some ⟨g, 0, none⟩)) hHeld ?_
  simp only [Act.put, sa, s0, ss]
  refine takeA 3 10 (.pointer (some ⟨b3, 2, none⟩)) hHeld ?_
  simp only [Act.put, sa, s0, ss]
  refine takeB 4 11 (.slice (some ⟨go, 0, none⟩) a.nodes.length cp) (fun w o hSw ho => ?_) hHeld ?_
  · obtain rfl := Option.some.inj ho; (obtain ⟨z0, z1, z2⟩ := AtL.tri hSw; go_simp)
  simp only [Act.put, sa, s0, ss]
  refine takeA 5 12 (.int .i64 (a.nodes.length : Int)) hHeld ?_
  simp only [Act.put, sa, s0, ss]
  refine oneR 6 (by kernel_rfl) (by kernel_rfl) (fun o ho K' hK => ?_)
  obtain rfl := Option.some.inj ho
  clear ho
  go_simp
  refine (l1Next_src g q c _ l a.nodes.length _ DD.out.src hl (by omega) (by omega) (by omega)).mono ?_
  rintro e w4 ⟨v4, rfl, ⟨h40, h41⟩, hs4, hg4⟩
  obtain ⟨i, rfl⟩ := Int.eq_ofNat_of_zero_le h40
  have D4 := Lib.hid (DD.out.draw hs4 hg4)
  have hS1 := D4.out.m3.cells
  have hil : i < a.nodes.length := by omega
  clear hHeld hS0 hs4 hg4 DD
  go_wp2_with fail
  refine hK.out _ _ (hS1) (fun hHeld => ?_)
  clear hK K'
  try simp only [Act.put, sa, s0, ss]
  refine takeA 7 14 (.pointer (some ⟨go, i * 5, none⟩)) hHeld ?_
  simp only [Act.put, sa, s0, ss]
  refine takeA 8 4 (.pointer (some ⟨go, i * 5, none⟩)) hHeld ?_
  simp only [Act.put, sa, s0, ss]
  refine wpAnyH_done (by kernel_rfl) ?_ _
  refine NoPanic.normal ?_
  clear hHeld hS1 h40 h41
  go_wp2_with fail
  refine (l1Next_src g q c _ l 16 _ D4.out.src hl (by omega) (by omega) (by omega)).mono ?_
  rintro e w5 ⟨v5, rfl, hv5, hs5, hg5⟩
  have D5 := Lib.hid (D4.out.draw hs5 hg5)
  clear D4 hs5 hg5
  have hsw : v5 = 0 ∨ v5 = 1 ∨ v5 = 2 ∨ v5 = 3 ∨ v5 = 4 ∨ v5 = 5 ∨ v5 = 6 ∨ (¬ v5 = 0 ∧ ¬ v5 = 1 ∧ ¬ v5 = 2 ∧ ¬ v5 = 3 ∧ ¬ v5 = 4 ∧ ¬ v5 = 5 ∧ ¬ v5 = 6) := by omega
  rcases hsw with rfl | rfl | rfl | rfl | rfl | rfl | rfl | ⟨n0, n1, n2, n3, n4, n5, n6⟩
  · go_wp2_with fail
    refine (l1Pick_lit g q c _ l _ D5.out.src hl (by omega) [0, 1, 2, 3, 4] 5 rfl (fun _ => True) (by omega) (by omega) _ rfl _ (by simp)).mono ?_
    rintro e w6 ⟨x, rfl, _, hs6, hg6⟩
    have D6 := Lib.hid (D5.out.draw hs6 hg6)
    clear D5 hs6 hg6
    obtain ⟨-, hrow, hfr⟩ := D6.out.own.row
    obtain ⟨u0, u1, u2, u3, u4⟩ := hrow i hil
    have D7 : Hid (DB w g q c l _ b3 ⟨a.wide, a.high, a.nodes.set i (qPut (nth a.nodes i) 0 x)⟩ (.slice (some ⟨go, 0, none⟩) a.nodes.length cp) (w6.setCell ⟨go, i * 5, none⟩ (.int .i64 x))) := D6.out.stored i 0 x hil (by omega)
    clear hrow D6
    go_upto_region 18 with (fail)
    generalize w6.setCell ⟨go, i * 5, none⟩ (.int .i64 x) = W7 at *
    clear u0 u1 u2 u3 u4 hfr
    obtain ⟨x0, x1, x2⟩ := D7.out.m3.cells.tri
    have r0 := D7.out.r2.cells.get 0 rfl
    have r1 := D7.out.r2.cells.get 1 rfl
    have r2 := D7.out.r2.cells.get 2 rfl
    have hfz := D7.out.r2.free
    have HE := Lib.hid (D7.out.done (by simp only [List.length_set]; omega))
    clear D7
    go_wp2_with fail
    refine bodyPost_ret (v := .agg #[.int .i64 a.wide, .int .i64 a.high, .slice (some ⟨go, 0, none⟩) a.nodes.length cp]) ?_ rfl ?_
    · simp [results, Try.results81, go_sem, r0, r1, r2]
    · obtain ⟨a', v', he, h1, h2, h3, h4⟩ := HE.out
      exact ⟨a', v', he, h1, h2, h3.more (by omega), h4⟩
  · go_wp2_with fail
    refine (l1Pick_lit g q c _ l _ D5.out.src hl (by omega) [-1, 0, 1, 2, 20] 5 rfl (fun _ => True) (by omega) (by omega) _ rfl _ (by simp)).mono ?_
    rintro e w6 ⟨x, rfl, _, hs6, hg6⟩
    have D6 := Lib.hid (D5.out.draw hs6 hg6)
    clear D5 hs6 hg6
    obtain ⟨-, hrow, hfr⟩ := D6.out.own.row
    obtain ⟨u0, u1, u2, u3, u4⟩ := hrow i hil
    have D7 : Hid (DB w g q c l _ b3 ⟨a.wide, a.high, a.nodes.set i (qPut (nth a.nodes i) 3 x)⟩ (.slice (some ⟨go, 0, none⟩) a.nodes.length cp) (w6.setCell ⟨go, i * 5 + 3, none⟩ (.int .i64 x))) := D6.out.stored i 3 x hil (by omega)
    clear hrow D6
    go_upto_region 18 with (fail)
    generalize w6.setCell ⟨go, i * 5 + 3, none⟩ (.int .i64 x) = W7 at *
    clear u0 u1 u2 u3 u4 hfr
    obtain ⟨x0, x1, x2⟩ := D7.out.m3.cells.tri
    have r0 := D7.out.r2.cells.get 0 rfl
    have r1 := D7.out.r2.cells.get 1 rfl
    have r2 := D7.out.r2.cells.get 2 rfl
    have hfz := D7.out.r2.free
    have HE := Lib.hid (D7.out.done (by simp only [List.length_set]; omega))
    clear D7
    go_wp2_with fail
    refine bodyPost_ret (v := .agg #[.int .i64 a.wide, .int .i64 a.high, .slice (some ⟨go, 0, none⟩) a.nodes.length cp]) ?_ rfl ?_
    · simp [results, Try.results81, go_sem, r0, r1, r2]
    · obtain ⟨a', v', he, h1, h2, h3, h4⟩ := HE.out
      exact ⟨a', v', he, h1, h2, h3.more (by omega), h4⟩
  · go_wp2_with fail
    refine (l1Pick_lit g q c _ l _ D5.out.src hl (by omega) [0, -1, 200, 9000000000000000000] 4 rfl (fun _ => True) (by omega) (by omega) _ rfl _ (by simp)).mono ?_
    rintro e w6 ⟨x, rfl, _, hs6, hg6⟩
    have D6 := Lib.hid (D5.out.draw hs6 hg6)
    clear D5 hs6 hg6
    obtain ⟨-, hrow, hfr⟩ := D6.out.own.row
    obtain ⟨u0, u1, u2, u3, u4⟩ := hrow i hil
    have D7 : Hid (DB w g q c l _ b3 ⟨a.wide, a.high, a.nodes.set i (qPut (nth a.nodes i) 2 x)⟩ (.slice (some ⟨go, 0, none⟩) a.nodes.length cp) (w6.setCell ⟨go, i * 5 + 2, none⟩ (.int .i64 x))) := D6.out.stored i 2 x hil (by omega)
    clear hrow D6
    go_upto_region 18 with (fail)
    generalize w6.setCell ⟨go, i * 5 + 2, none⟩ (.int .i64 x) = W7 at *
    clear u0 u1 u2 u3 u4 hfr
    obtain ⟨x0, x1, x2⟩ := D7.out.m3.cells.tri
    have r0 := D7.out.r2.cells.get 0 rfl
    have r1 := D7.out.r2.cells.get 1 rfl
    have r2 := D7.out.r2.cells.get 2 rfl
    have hfz := D7.out.r2.free
    have HE := Lib.hid (D7.out.done (by simp only [List.length_set]; omega))
    clear D7
    go_wp2_with fail
    refine bodyPost_ret (v := .agg #[.int .i64 a.wide, .int .i64 a.high, .slice (some ⟨go, 0, none⟩) a.nodes.length cp]) ?_ rfl ?_
    · simp [results, Try.results81, go_sem, r0, r1, r2]
    · obtain ⟨a', v', he, h1, h2, h3, h4⟩ := HE.out
      exact ⟨a', v', he, h1, h2, h3.more (by omega), h4⟩
  · go_wp2_with fail
    refine (l1Pick_lit g q c _ l _ D5.out.src hl (by omega) [0, 1, 200, 201] 4 rfl (fun _ => True) (by omega) (by omega) _ rfl _ (by simp)).mono ?_
    rintro e w6 ⟨x, rfl, _, hs6, hg6⟩
    have D6 := Lib.hid (D5.out.draw hs6 hg6)
    clear D5 hs6 hg6
    obtain ⟨x0, x1, x2⟩ := D6.out.m3.cells.tri
    have hfr := D6.out.m3.free
    have D7 := Lib.hid (D6.out.wide x)
    clear D6
    go_upto_region 18 with (fail)
    generalize w6.setCell ⟨b3, 0, none⟩ (.int .i64 x) = W7 at *
    clear x0 x1 x2 hfr
    obtain ⟨x0, x1, x2⟩ := D7.out.m3.cells.tri
    have r0 := D7.out.r2.cells.get 0 rfl
    have r1 := D7.out.r2.cells.get 1 rfl
    have r2 := D7.out.r2.cells.get 2 rfl
    have hfz := D7.out.r2.free
    have HE := Lib.hid (D7.out.done (by simp only; omega))
    clear D7
    go_wp2_with fail
    refine bodyPost_ret (v := .agg #[.int .i64 x, .int .i64 a.high, .slice (some ⟨go, 0, none⟩) a.nodes.length cp]) ?_ rfl ?_
    · simp [results, Try.results81, go_sem, r0, r1, r2]
    · obtain ⟨a', v', he, h1, h2, h3, h4⟩ := HE.out
      exact ⟨a', v', he, h1, h2, h3.more (by omega), h4⟩
  · go_wp2_with fail
    refine (l1Pick_lit g q c _ l _ D5.out.src hl (by omega) [-1, 0, 5, 6] 4 rfl (fun _ => True) (by omega) (by omega) _ rfl _ (by simp)).mono ?_
    rintro e w6 ⟨x, rfl, _, hs6, hg6⟩
    have D6 := Lib.hid (D5.out.draw hs6 hg6)
    clear D5 hs6 hg6
    obtain ⟨-, hrow, hfr⟩ := D6.out.own.row
    obtain ⟨u0, u1, u2, u3, u4⟩ := hrow i hil
    have D7 : Hid (DB w g q c l _ b3 ⟨a.wide, a.high, a.nodes.set i (qPut (nth a.nodes i) 1 x)⟩ (.slice (some ⟨go, 0, none⟩) a.nodes.length cp) (w6.setCell ⟨go, i * 5 + 1, none⟩ (.int .i64 x))) := D6.out.stored i 1 x hil (by omega)
    clear hrow D6
    go_upto_region 18 with (fail)
    generalize w6.setCell ⟨go, i * 5 + 1, none⟩ (.int .i64 x) = W7 at *
    clear u0 u1 u2 u3 u4 hfr
    obtain ⟨x0, x1, x2⟩ := D7.out.m3.cells.tri
    have r0 := D7.out.r2.cells.get 0 rfl
    have r1 := D7.out.r2.cells.get 1 rfl
    have r2 := D7.out.r2.cells.get 2 rfl
    have hfz := D7.out.r2.free
    have HE := Lib.hid (D7.out.done (by simp only [List.length_set]; omega))
    clear D7
    go_wp2_with fail
    refine bodyPost_ret (v := .agg #[.int .i64 a.wide, .int .i64 a.high, .slice (some ⟨go, 0, none⟩) a.nodes.length cp]) ?_ rfl ?_
    · simp [results, Try.results81, go_sem, r0, r1, r2]
    · obtain ⟨a', v', he, h1, h2, h3, h4⟩ := HE.out
      exact ⟨a', v', he, h1, h2, h3.more (by omega), h4⟩
  · have hg5 := D5.out.gw
    go_upto_region 15 with (fail)
    have DD := Lib.hid (D5.out.on (below_drewN (Below.refl w5.heap.size w5) 1))
    have hS0 : True := trivial
    refine wp_region_noPanic ?_
    refine wp_region_held_drew (S := fun _ => True) (by kernel_rfl) hS0 (fun hHeld => ?_)
    refine takeA 0 57 (.pointer (some ⟨b3, 2, none⟩)) hHeld ?_
    simp only [Act.put, sa, s0, ss]
    refine takeA 2 59 (.pointer (some ⟨g, 0, none⟩)) hHeld ?_
    simp only [Act.put, sa, s0, ss]
    obtain ⟨z0, z1, z2⟩ := D5.out.m3.cells.tri
    refine twoR 1 3 (by kernel_rfl) (by kernel_rfl) (by kernel_rfl) (fun o ho K' hK => ?_) (fun o ho K' hK => ?_)
    · obtain rfl := Option.some.inj ho
      clear ho
      go_simp
      refine hK.out _ _ (trivial) (fun hHeld => ?_)
      clear hK K'
      try simp only [Act.put, sa, s0, ss]
      refine oneR 3 (by kernel_rfl) (by kernel_rfl) (fun o ho K' hK => ?_)
      obtain rfl := Option.some.inj ho
      clear ho
      go_simp
      have b1 := below_drewN (below_mk w5 (.cells #[.int .i64 1, .int .i64 11] 2)) 1
      have D6 := Lib.hid (D5.out.on b1)
      have hP : ∀ j, j < 2 → ∃ v : Int, (w5.alloc (.cells #[.int .i64 1, .int .i64 11] 2)).drew.cell? ⟨w5.heap.size, j, none⟩ = some (.int .i64 v) ∧ (v = 1 ∨ v = 11) := fun j hj => by
        have hA := (AtL.new w5 [.int .i64 1, .int .i64 11] 2).on (below_drewN (Below.refl _ _) 1)
        match j, hj with
        | 0, _ => exact ⟨1, hA.get 0 rfl, .inl rfl⟩
        | 1, _ => exact ⟨11, hA.get 1 rfl, .inr rfl⟩
      have HP := Lib.hid (l1Pick_any g q c _ l _ D6.out.src hl (by omega) w5.heap.size 2 (fun v => v = 1 ∨ v = 11) (by omega) (by omega) (by have := D5.out.r2.cells.1; omega) (by simp) hP)
      clear hP b1 DD D5 z0 z1 z2
      refine hK.out _ _ (trivial) (fun hHeld => ?_)
      clear hK K'
      try simp only [Act.put, sa, s0, ss]
      have z2 : (w5.alloc (.cells #[.int .i64 1, .int .i64 11] 2)).cell? ⟨b3, 2, none⟩ = some (.slice (some ⟨go, 0, none⟩) a.nodes.length cp) := D6.out.m3.cells.get 2 rfl
      refine oneR 4 (by kernel_rfl) (by kernel_rfl) (fun o ho K' hK => ?_)
      obtain rfl := Option.some.inj ho
      clear ho
      go_simp
      refine HP.out.mono ?_
      rintro e w6 ⟨v6, rfl, hv6, hs6, hg6⟩
      have D8 := Lib.hid (D6.out.draw hs6 hg6)
      clear HP hs6 hg6 D6 z2
      go_wp2_with fail
      refine hK.out _ _ (trivial) (fun hHeld => ?_)
      clear hK K'
      try simp only [Act.put, sa, s0, ss]
      have z2 := D8.out.m3.cells.get 2 rfl
      clear z2
      obtain ⟨k, rfl, hk0, hk1⟩ : ∃ k : Nat, v6 = (k : Int) ∧ 0 < k ∧ k ≤ 11 := by
        rcases hv6 with rfl | rfl
        · exact ⟨1, rfl, by omega, by omega⟩
        · exact ⟨11, rfl, by omega, by omega⟩
      have hsz : w.heap.size + 1 ≤ w6.heap.size := by have := D8.out.m3.cells.1; omega
      refine oneR 5 (by kernel_rfl) (by kernel_rfl) (fun o ho K' hK => ?_)
      obtain rfl := Option.some.inj ho
      clear ho
      refine append_nodes _ _ _ rfl (w.heap.size + 1) go cp a.nodes rfl D8.out.own k rfl hk0 (by omega) (by omega) hsz ?_
      intro v' wA hoA hgA
      have hLn : (a.nodes ++ List.replicate k q0).length ≤ 20 := by simp; omega
      have hL0 : 0 < (a.nodes ++ List.replicate k q0).length := by simp; omega
      generalize a.nodes ++ List.replicate k q0 = L at *
      rcases hoA.form with ⟨_, hnil⟩ | ⟨gx, cx, rfl, hx1, hx2, _⟩
      · rw [hnil] at hL0; simp at hL0
      have m3A := D8.out.m3.far hgA (by intro e; injection e; omega)
      have hgx : gx ≠ b3 := by
        rintro rfl
        have h1 := (hoA.row.2.1 0 hL0).c2
        have h2 := m3A.cells.get 2 rfl
        simp at h1
        rw [h1] at h2
        simp at h2
      have D9 := Lib.hid (D8.out.new hoA hgA (fun j hj => by cases hj; exact ⟨hgo, hb3g⟩) (fun j hj => by simp [Value.ownBlock] at hj; omega))
      have HLN := Lib.hid hLn
      have q2 := m3A.cells.get 2 rfl
      have hfz := m3A.free
      clear hoA hgA m3A D8 hLn hL0
      generalize hnn : L.length = nn at *
      have HNN := Lib.hid hnn
      clear hnn
      change K' (Act.put _ (some 62) _) wA
      refine hK.out _ _ (trivial) (fun hHeld => ?_)
      clear hK K'
      try simp only [Act.put, sa, s0, ss]
      refine takeA 6 63 (.pointer (some ⟨b3, 2, none⟩)) hHeld ?_
      simp only [Act.put, sa, s0, ss]
      refine oneR 7 (by kernel_rfl) (by kernel_rfl) (fun o ho K' hK => ?_)
      obtain rfl := Option.some.inj ho
      clear ho
      go_simp
      refine hK.out _ _ (trivial) (fun hHeld => ?_)
      clear hK K'
      try simp only [Act.put, sa, s0, ss]
      refine wpAnyH_done (by kernel_rfl) ?_ _
      refine NoPanic.normal ?_
      go_upto_region 18 with (fail)
      generalize wA.setCell ⟨b3, 2, none⟩ (.slice (some ⟨gx, 0, none⟩) nn cx) = W7 at *
      clear q2 hfz
      obtain ⟨x0, x1, x2⟩ := D9.out.m3.cells.tri
      have r0 := D9.out.r2.cells.get 0 rfl
      have r1 := D9.out.r2.cells.get 1 rfl
      have r2 := D9.out.r2.cells.get 2 rfl
      have hfz := D9.out.r2.free
      have HE := Lib.hid (D9.out.done (by have := HNN.out; have := HLN.out; simp only; omega))
      clear D9
      go_wp2_with fail
      refine bodyPost_ret (v := .agg #[.int .i64 a.wide, .int .i64 a.high, .slice (some ⟨gx, 0, none⟩) nn cx]) ?_ rfl ?_
      · simp [results, Try.results81, go_sem, r0, r1, r2]
      · obtain ⟨a', v', he, h1, h2, h3, h4⟩ := HE.out
        exact ⟨a', v', he, h1, h2, h3.more (by omega), h4⟩
    · obtain rfl := Option.some.inj ho
      clear ho
      go_simp
      have b1 := below_drewN (below_mk w5 (.cells #[.int .i64 1, .int .i64 11] 2)) 1
      have D6 := Lib.hid (D5.out.on b1)
      have hP : ∀ j, j < 2 → ∃ v : Int, (w5.alloc (.cells #[.int .i64 1, .int .i64 11] 2)).drew.cell? ⟨w5.heap.size, j, none⟩ = some (.int .i64 v) ∧ (v = 1 ∨ v = 11) := fun j hj => by
        have hA := (AtL.new w5 [.int .i64 1, .int .i64 11] 2).on (below_drewN (Below.refl _ _) 1)
        match j, hj with
        | 0, _ => exact ⟨1, hA.get 0 rfl, .inl rfl⟩
        | 1, _ => exact ⟨11, hA.get 1 rfl, .inr rfl⟩
      have HP := Lib.hid (l1Pick_any g q c _ l _ D6.out.src hl (by omega) w5.heap.size 2 (fun v => v = 1 ∨ v = 11) (by omega) (by omega) (by have := D5.out.r2.cells.1; omega) (by simp) hP)
      clear hP b1 DD D5 z0 z1 z2
      refine hK.out _ _ (trivial) (fun hHeld => ?_)
      clear hK K'
      try simp only [Act.put, sa, s0, ss]
      have z2 : (w5.alloc (.cells #[.int .i64 1, .int .i64 11] 2)).cell? ⟨b3, 2, none⟩ = some (.slice (some ⟨go, 0, none⟩) a.nodes.length cp) := D6.out.m3.cells.get 2 rfl
      refine twoR 1 4 (by kernel_rfl) (by kernel_rfl) (by kernel_rfl) (fun o ho K' hK => ?_) (fun o ho K' hK => ?_)
      · obtain rfl := Option.some.inj ho
        clear ho
        go_simp
        refine hK.out _ _ (trivial) (fun hHeld => ?_)
        clear hK K'
        try simp only [Act.put, sa, s0, ss]
        refine oneR 4 (by kernel_rfl) (by kernel_rfl) (fun o ho K' hK => ?_)
        obtain rfl := Option.some.inj ho
        clear ho
        go_simp
        refine HP.out.mono ?_
        rintro e w6 ⟨v6, rfl, hv6, hs6, hg6⟩
        have D8 := Lib.hid (D6.out.draw hs6 hg6)
        clear HP hs6 hg6 D6 z2
        go_wp2_with fail
        refine hK.out _ _ (trivial) (fun hHeld => ?_)
        clear hK K'
        try simp only [Act.put, sa, s0, ss]
        have z2 := D8.out.m3.cells.get 2 rfl
        clear z2
        obtain ⟨k, rfl, hk0, hk1⟩ : ∃ k : Nat, v6 = (k : Int) ∧ 0 < k ∧ k ≤ 11 := by
          rcases hv6 with rfl | rfl
          · exact ⟨1, rfl, by omega, by omega⟩
          · exact ⟨11, rfl, by omega, by omega⟩
        have hsz : w.heap.size + 1 ≤ w6.heap.size := by have := D8.out.m3.cells.1; omega
        refine oneR 5 (by kernel_rfl) (by kernel_rfl) (fun o ho K' hK => ?_)
        obtain rfl := Option.some.inj ho
        clear ho
        refine append_nodes _ _ _ rfl (w.heap.size + 1) go cp a.nodes rfl D8.out.own k rfl hk0 (by omega) (by omega) hsz ?_
        intro v' wA hoA hgA
        have hLn : (a.nodes ++ List.replicate k q0).length ≤ 20 := by simp; omega
        have hL0 : 0 < (a.nodes ++ List.replicate k q0).length := by simp; omega
        generalize a.nodes ++ List.replicate k q0 = L at *
        rcases hoA.form with ⟨_, hnil⟩ | ⟨gx, cx, rfl, hx1, hx2, _⟩
        · rw [hnil] at hL0; simp at hL0
        have m3A := D8.out.m3.far hgA (by intro e; injection e; omega)
        have hgx : gx ≠ b3 := by
          rintro rfl
          have h1 := (hoA.row.2.1 0 hL0).c2
          have h2 := m3A.cells.get 2 rfl
          simp at h1
          rw [h1] at h2
          simp at h2
        have D9 := Lib.hid (D8.out.new hoA hgA (fun j hj => by cases hj; exact ⟨hgo, hb3g⟩) (fun j hj => by simp [Value.ownBlock] at hj; omega))
        have HLN := Lib.hid hLn
        have q2 := m3A.cells.get 2 rfl
        have hfz := m3A.free
        clear hoA hgA m3A D8 hLn hL0
        generalize hnn : L.length = nn at *
        have HNN := Lib.hid hnn
        clear hnn
        change K' (Act.put _ (some 62) _) wA
        refine hK.out _ _ (trivial) (fun hHeld => ?_)
        clear hK K'
        try simp only [Act.put, sa, s0, ss]
        refine takeA 6 63 (.pointer (some ⟨b3, 2, none⟩)) hHeld ?_
        simp only [Act.put, sa, s0, ss]
        refine oneR 7 (by kernel_rfl) (by kernel_rfl) (fun o ho K' hK => ?_)
        obtain rfl := Option.some.inj ho
        clear ho
        go_simp
        refine hK.out _ _ (trivial) (fun hHeld => ?_)
        clear hK K'
        try simp only [Act.put, sa, s0, ss]
        refine wpAnyH_done (by kernel_rfl) ?_ _
        refine NoPanic.normal ?_
        go_upto_region 18 with (fail)
        generalize wA.setCell ⟨b3, 2, none⟩ (.slice (some ⟨gx, 0, none⟩) nn cx) = W7 at *
        clear q2 hfz
        obtain ⟨x0, x1, x2⟩ := D9.out.m3.cells.tri
        have r0 := D9.out.r2.cells.get 0 rfl
        have r1 := D9.out.r2.cells.get 1 rfl
        have r2 := D9.out.r2.cells.get 2 rfl
        have hfz := D9.out.r2.free
        have HE := Lib.hid (D9.out.done (by have := HNN.out; have := HLN.out; simp only; omega))
        clear D9
        go_wp2_with fail
        refine bodyPost_ret (v := .agg #[.int .i64 a.wide, .int .i64 a.high, .slice (some ⟨gx, 0, none⟩) nn cx]) ?_ rfl ?_
        · simp [results, Try.results81, go_sem, r0, r1, r2]
        · obtain ⟨a', v', he, h1, h2, h3, h4⟩ := HE.out
          exact ⟨a', v', he, h1, h2, h3.more (by omega), h4⟩
      · obtain rfl := Option.some.inj ho
        clear ho
        go_simp
        refine HP.out.mono ?_
        rintro e w6 ⟨v6, rfl, hv6, hs6, hg6⟩
        have D8 := Lib.hid (D6.out.draw hs6 hg6)
        clear HP hs6 hg6 D6 z2
        go_wp2_with fail
        refine hK.out _ _ (trivial) (fun hHeld => ?_)
        clear hK K'
        try simp only [Act.put, sa, s0, ss]
        have z2 := D8.out.m3.cells.get 2 rfl
        refine oneR 1 (by kernel_rfl) (by kernel_rfl) (fun o ho K' hK => ?_)
        obtain rfl := Option.some.inj ho
        clear ho
        go_simp
        refine hK.out _ _ (trivial) (fun hHeld => ?_)
        clear hK K'
        try simp only [Act.put, sa, s0, ss]
        clear z2
        obtain ⟨k, rfl, hk0, hk1⟩ : ∃ k : Nat, v6 = (k : Int) ∧ 0 < k ∧ k ≤ 11 := by
          rcases hv6 with rfl | rfl
          · exact ⟨1, rfl, by omega, by omega⟩
          · exact ⟨11, rfl, by omega, by omega⟩
        have hsz : w.heap.size + 1 ≤ w6.heap.size := by have := D8.out.m3.cells.1; omega
        refine oneR 5 (by kernel_rfl) (by kernel_rfl) (fun o ho K' hK => ?_)
        obtain rfl := Option.some.inj ho
        clear ho
        refine append_nodes _ _ _ rfl (w.heap.size + 1) go cp a.nodes rfl D8.out.own k rfl hk0 (by omega) (by omega) hsz ?_
        intro v' wA hoA hgA
        have hLn : (a.nodes ++ List.replicate k q0).length ≤ 20 := by simp; omega
        have hL0 : 0 < (a.nodes ++ List.replicate k q0).length := by simp; omega
        generalize a.nodes ++ List.replicate k q0 = L at *
        rcases hoA.form with ⟨_, hnil⟩ | ⟨gx, cx, rfl, hx1, hx2, _⟩
        · rw [hnil] at hL0; simp at hL0
        have m3A := D8.out.m3.far hgA (by intro e; injection e; omega)
        have hgx : gx ≠ b3 := by
          rintro rfl
          have h1 := (hoA.row.2.1 0 hL0).c2
          have h2 := m3A.cells.get 2 rfl
          simp at h1
          rw [h1] at h2
          simp at h2
        have D9 := Lib.hid (D8.out.new hoA hgA (fun j hj => by cases hj; exact ⟨hgo, hb3g⟩) (fun j hj => by simp [Value.ownBlock] at hj; omega))
        have HLN := Lib.hid hLn
        have q2 := m3A.cells.get 2 rfl
        have hfz := m3A.free
        clear hoA hgA m3A D8 hLn hL0
        generalize hnn : L.length = nn at *
        have HNN := Lib.hid hnn
        clear hnn
        change K' (Act.put _ (some 62) _) wA
        refine hK.out _ _ (trivial) (fun hHeld => ?_)
        clear hK K'
        try simp only [Act.put, sa, s0, ss]
        refine takeA 6 63 (.pointer (some ⟨b3, 2, none⟩)) hHeld ?_
        simp only [Act.put, sa, s0, ss]
        refine oneR 7 (by kernel_rfl) (by kernel_rfl) (fun o ho K' hK => ?_)
        obtain rfl := Option.some.inj ho
        clear ho
        go_simp
        refine hK.out _ _ (trivial) (fun hHeld => ?_)
        clear hK K'
        try simp only [Act.put, sa, s0, ss]
        refine wpAnyH_done (by kernel_rfl) ?_ _
        refine NoPanic.normal ?_
        go_upto_region 18 with (fail)
        generalize wA.setCell ⟨b3, 2, none⟩ (.slice (some ⟨gx, 0, none⟩) nn cx) = W7 at *
        clear q2 hfz
        obtain ⟨x0, x1, x2⟩ := D9.out.m3.cells.tri
        have r0 := D9.out.r2.cells.get 0 rfl
        have r1 := D9.out.r2.cells.get 1 rfl
        have r2 := D9.out.r2.cells.get 2 rfl
        have hfz := D9.out.r2.free
        have HE := Lib.hid (D9.out.done (by have := HNN.out; have := HLN.out; simp only; omega))
        clear D9
        go_wp2_with fail
        refine bodyPost_ret (v := .agg #[.int .i64 a.wide, .int .i64 a.high, .slice (some ⟨gx, 0, none⟩) nn cx]) ?_ rfl ?_
        · simp [results, Try.results81, go_sem, r0, r1, r2]
        · obtain ⟨a', v', he, h1, h2, h3, h4⟩ := HE.out
          exact ⟨a', v', he, h1, h2, h3.more (by omega), h4⟩
  · obtain ⟨x0, x1, x2⟩ := D5.out.m3.cells.tri
    have hfr := D5.out.m3.free
    have D7 := Lib.hid (D5.out.new (row := none) (ownQ_nil _ w5 _) (World.grownBy.refl w5 _) (fun j hj => by cases hj) (fun j hj => by simp [Value.ownBlock] at hj))
    clear D5
    go_upto_region 18 with (fail)
    generalize w5.setCell ⟨b3, 2, none⟩ (.slice none 0 0) = W7 at *
    clear x0 x1 x2 hfr
    obtain ⟨x0, x1, x2⟩ := D7.out.m3.cells.tri
    have r0 := D7.out.r2.cells.get 0 rfl
    have r1 := D7.out.r2.cells.get 1 rfl
    have r2 := D7.out.r2.cells.get 2 rfl
    have hfz := D7.out.r2.free
    have HE := Lib.hid (D7.out.done (by simp))
    clear D7
    go_wp2_with fail
    refine bodyPost_ret (v := .agg #[.int .i64 a.wide, .int .i64 a.high, .slice none 0 0]) ?_ rfl ?_
    · simp [results, Try.results81, go_sem, r0, r1, r2]
    · obtain ⟨a', v', he, h1, h2, h3, h4⟩ := HE.out
      exact ⟨a', v', he, h1, h2, h3.more (by omega), h4⟩
  · go_upto_region 18 with (fail)
    have D7 := D5
    clear D5
    obtain ⟨x0, x1, x2⟩ := D7.out.m3.cells.tri
    have r0 := D7.out.r2.cells.get 0 rfl
    have r1 := D7.out.r2.cells.get 1 rfl
    have r2 := D7.out.r2.cells.get 2 rfl
    have hfz := D7.out.r2.free
    have HE := Lib.hid (D7.out.done (by omega))
    clear D7
    go_wp2_with fail
    refine bodyPost_ret (v := .agg #[.int .i64 a.wide, .int .i64 a.high, .slice (some ⟨go, 0, none⟩) a.nodes.length cp]) ?_ rfl ?_
    · simp [results, Try.results81, go_sem, r0, r1, r2]
    · obtain ⟨a', v', he, h1, h2, h3, h4⟩ := HE.out
      exact ⟨a', v', he, h1, h2, h3.more (by omega), h4⟩

end Go.Proofs.Ytbfickdgjgbfhaa

/- The draws of chapters 6 and 7. (Written by wip/gen_lydraws.py.) -/
namespace Go.Proofs.Ytbfickdgjgbfhaa
open Go.RowKit
set_option linter.unusedVariables false
set_option linter.unusedSimpArgs false

/-- the slice v of nodes is the call's own, and all that was stands -/
def OwnL (w w' : World) (a : Ly) (v : Value) : Prop := a.nodes.length ≤ 20 ∧ OwnQ 76 w' w.heap.size v a.nodes ∧ Below w.heap.size w w'
def lyA (a : Ly) (v : Value) : Value := .agg #[.int .i64 a.wide, .int .i64 a.high, v]
/-- in the midst of a draw: the answer's cell, the source behind it, a layout drawn -/
structure DD1 (w : World) (q : Option Addr) (c : Nat) (l : List UInt8) (N : Nat) (a : Ly) (v : Value) (W : World) : Prop where
  src : Src W (w.heap.size + 1) q c l N
  r : AtM W w.heap.size [.int .i64 0, .int .i64 0, .slice none 0 0]
  own : OwnQ 76 W (w.heap.size + 2) v a.nodes
  low : Below w.heap.size w W
  len : a.nodes.length ≤ 20
section
variable {w : World} {q : Option Addr} {c : Nat} {l : List UInt8} {N : Nat} {a : Ly} {v : Value} {W W' : World}
theorem DD1.draw {M : Nat} (h : DD1 w q c l N a v W) (hs : Src W' (w.heap.size + 1) q c l M) (hg : W.grownBy W' (some (w.heap.size + 1))) : DD1 w q c l M a v W' :=
  ⟨hs, h.r.far hg (by intro e; injection e; omega), h.own.far hg (fun j hj e => by have := (h.own.lt j hj).1; injection e; omega), h.low.grown hg h.low.size (fun k hk => by cases hk; omega), h.len⟩
theorem DD1.on (h : DD1 w q c l N a v W) (hb : Below W.heap.size W W') : DD1 w q c l N a v W' := h.draw (h.src.below hb) (grown_of_below hb _)
theorem DD1.done (h : DD1 w q c l N a v W) (us : List Value) : OwnL w (sets W w.heap.size 0 us) a v := by
  have hg := sets_grown (b := w.heap.size) us 0 W
  exact ⟨h.len, (h.own.far hg (fun j hj e => by have := (h.own.lt j hj).1; injection e; omega)).lower (by omega), sets_below (Nat.le_refl _) us 0 _ _ h.low⟩
end

set_option maxRecDepth 100000 in
set_option maxHeartbeats 1000000 in
theorem l1MinD (a : Int) (w : World) : Calls Try.prog 90 #[.int .i64 a, .int .i64 300] w fun e w' => ∃ m : Int, e = .returned (.int .i64 m) ∧ m ≤ 300 ∧ w = w' := by
  by_cases h : a < 300
  all_goals
    go_enter Try.func90, Try.ntmps90
    go_wp2
    go_ret
    exact ⟨_, rfl, by omega, rfl⟩
set_option maxRecDepth 100000 in
set_option maxHeartbeats 1000000 in
theorem l1MaxD (a : Int) (ha : a ≤ 300) (w : World) : Calls Try.prog 89 #[.int .i64 a, .int .i64 0] w fun e w' => ∃ m : Int, e = .returned (.int .i64 m) ∧ (0 ≤ m ∧ m ≤ 300) ∧ w = w' := by
  by_cases h : 0 < a
  all_goals
    go_enter Try.func89, Try.ntmps89
    go_wp2
    go_ret
    exact ⟨_, rfl, by omega, rfl⟩

set_option maxRecDepth 100000 in
set_option maxHeartbeats 4000000 in
theorem drawRectOf_any (q : Option Addr) (c : Nat) (l : List UInt8) (w : World) (h : Bs w w.heap.size q l) (hl : l.length ≤ 1048576) :
    Calls Try.prog 39 #[.slice q l.length c] w fun e w' => ∃ a v x, e = .returned (.tuple #[lyA a v, .int .i64 x]) ∧ OwnL w w' a v := by
  have HQ := Lib.hid h
  have R0 := Lib.hid (AtM.new w [.int .i64 0, .int .i64 0, .slice none 0 0] 28)
  have B0 := Lib.hid (below_mk w (.cells #[.int .i64 0, .int .i64 0, .slice none 0 0] 28))
  clear h
  go_enter Try.func39, Try.ntmps39
  go_wp2_with fail
  refine (l1Source_any q c l _ (HQ.out.on B0.out)).mono ?_
  rintro e w1 ⟨rfl, hs1, hb1⟩
  rw [World.size_alloc] at hs1
  have hz1 := hb1.size
  rw [World.size_alloc] at hz1
  have hgw := hs1.choose_spec.2.2
  have R1 := Lib.hid (R0.out.on hb1)
  have B1 := Lib.hid (below_on B0.out hb1)
  clear hb1 R0 B0 HQ
  go_wp2_with fail
  refine (l6Bent_any (w.heap.size + 1) q c 0 l _ hs1 hl (by omega)).mono ?_
  rintro e w2 ⟨a, v, rfl, hal, ho2, hs2, hg2⟩
  obtain ⟨pv, cv, rfl⟩ := ho2.slice
  have D2 : Hid (DD1 w q c l 43 a (.slice pv a.nodes.length cv) w2) := ⟨hs2.more (by omega), R1.out.far hg2 (by intro e; injection e; omega), ho2.lower (by omega), B1.out.grown hg2 B1.out.size (fun k hk => by cases hk; omega), hal⟩
  clear R1 B1 hs1 ho2 hs2 hg2 hal hz1 hgw
  go_wp2_with fail
  refine (l1Next_src (w.heap.size + 1) q c _ l 8 _ D2.out.src hl (by omega) (by omega) (by omega)).mono ?_
  rintro e w3 ⟨x3, rfl, hx3, hs3, hg3⟩
  have D3 := Lib.hid (D2.out.draw hs3 hg3)
  clear D2 hs3 hg3
  have hw3 : IntKind.i64.wrap (x3 - 1) = x3 - 1 := IntWalk.i64_in _ ⟨by omega, by omega⟩
  have r0 := D3.out.r.cells.get 0 rfl
  have r1 := D3.out.r.cells.get 1 rfl
  have r2 := D3.out.r.cells.get 2 rfl
  have hfz := D3.out.r.free
  have HE := Lib.hid (D3.out.done [.int .i64 a.wide, .int .i64 a.high, .slice pv a.nodes.length cv])
  clear D3
  go_wp2_with fail
  refine bodyPost_ret (v := .tuple #[lyA a (.slice pv a.nodes.length cv), .int .i64 (x3 - 1)]) ?_ rfl ⟨a, .slice pv a.nodes.length cv, (x3 - 1), rfl, HE.out⟩
  simp [results, Try.results39, lyA, go_sem, r0, r1, r2]

set_option maxRecDepth 100000 in
set_option maxHeartbeats 1000000 in
theorem drawHasPane_any (q : Option Addr) (c : Nat) (l : List UInt8) (w : World) (h : Bs w w.heap.size q l) (hl : l.length ≤ 1048576) :
    Calls Try.prog 43 #[.slice q l.length c] w fun e w' => ∃ a v x, e = .returned (.tuple #[lyA a v, .int .i64 x]) ∧ OwnL w w' a v := by
  have HQ := Lib.hid h
  have R0 := Lib.hid (AtM.new w [.int .i64 0, .int .i64 0, .slice none 0 0] 28)
  have B0 := Lib.hid (below_mk w (.cells #[.int .i64 0, .int .i64 0, .slice none 0 0] 28))
  clear h
  go_enter Try.func43, Try.ntmps43
  go_wp2_with fail
  refine (drawRectOf_any q c l _ (HQ.out.on B0.out) hl).mono ?_
  rintro e w1 ⟨a, v, x, rfl, hlen, ho, hb⟩
  rw [World.size_alloc] at ho
  obtain ⟨pv, cv, rfl⟩ := ho.slice
  have R1 := R0.out.on hb
  have r0 := R1.cells.get 0 rfl
  have r1 := R1.cells.get 1 rfl
  have r2 := R1.cells.get 2 rfl
  have hfz := R1.free
  have HE : Hid (OwnL w (sets w1 w.heap.size 0 [.int .i64 a.wide, .int .i64 a.high, .slice pv a.nodes.length cv]) a (.slice pv a.nodes.length cv)) :=
    ⟨hlen, (ho.far (sets_grown (b := w.heap.size) _ 0 w1) (fun j hj e => by have := (ho.lt j hj).1; injection e; omega)).lower (by omega), sets_below (Nat.le_refl _) _ 0 _ _ (below_on B0.out hb)⟩
  clear hlen ho hb R0 B0 R1 HQ
  unfold lyA
  go_wp2_with fail
  refine bodyPost_ret (v := .tuple #[lyA a (.slice pv a.nodes.length cv), .int .i64 x]) ?_ rfl ⟨a, .slice pv a.nodes.length cv, x, rfl, HE.out⟩
  simp [results, Try.results43, lyA, go_sem, r0, r1, r2]

set_option maxRecDepth 100000 in
set_option maxHeartbeats 1000000 in
theorem drawKillPane_any (q : Option Addr) (c : Nat) (l : List UInt8) (w : World) (h : Bs w w.heap.size q l) (hl : l.length ≤ 1048576) :
    Calls Try.prog 30 #[.slice q l.length c] w fun e w' => ∃ a v x, e = .returned (.tuple #[lyA a v, .int .i64 x]) ∧ OwnL w w' a v := by
  have HQ := Lib.hid h
  have R0 := Lib.hid (AtM.new w [.int .i64 0, .int .i64 0, .slice none 0 0] 28)
  have B0 := Lib.hid (below_mk w (.cells #[.int .i64 0, .int .i64 0, .slice none 0 0] 28))
  clear h
  go_enter Try.func30, Try.ntmps30
  go_wp2_with fail
  refine (drawRectOf_any q c l _ (HQ.out.on B0.out) hl).mono ?_
  rintro e w1 ⟨a, v, x, rfl, hlen, ho, hb⟩
  rw [World.size_alloc] at ho
  obtain ⟨pv, cv, rfl⟩ := ho.slice
  have R1 := R0.out.on hb
  have r0 := R1.cells.get 0 rfl
  have r1 := R1.cells.get 1 rfl
  have r2 := R1.cells.get 2 rfl
  have hfz := R1.free
  have HE : Hid (OwnL w (sets w1 w.heap.size 0 [.int .i64 a.wide, .int .i64 a.high, .slice pv a.nodes.length cv]) a (.slice pv a.nodes.length cv)) :=
    ⟨hlen, (ho.far (sets_grown (b := w.heap.size) _ 0 w1) (fun j hj e => by have := (ho.lt j hj).1; injection e; omega)).lower (by omega), sets_below (Nat.le_refl _) _ 0 _ _ (below_on B0.out hb)⟩
  clear hlen ho hb R0 B0 R1 HQ
  unfold lyA
  go_wp2_with fail
  refine bodyPost_ret (v := .tuple #[lyA a (.slice pv a.nodes.length cv), .int .i64 x]) ?_ rfl ⟨a, .slice pv a.nodes.length cv, x, rfl, HE.out⟩
  simp [results, Try.results30, lyA, go_sem, r0, r1, r2]

set_option maxRecDepth 100000 in
set_option maxHeartbeats 1000000 in
theorem drawNextPane_any (q : Option Addr) (c : Nat) (l : List UInt8) (w : World) (h : Bs w w.heap.size q l) (hl : l.length ≤ 1048576) :
    Calls Try.prog 33 #[.slice q l.length c] w fun e w' => ∃ a v x, e = .returned (.tuple #[lyA a v, .int .i64 x]) ∧ OwnL w w' a v := by
  have HQ := Lib.hid h
  have R0 := Lib.hid (AtM.new w [.int .i64 0, .int .i64 0, .slice none 0 0] 28)
  have B0 := Lib.hid (below_mk w (.cells #[.int .i64 0, .int .i64 0, .slice none 0 0] 28))
  clear h
  go_enter Try.func33, Try.ntmps33
  go_wp2_with fail
  refine (drawRectOf_any q c l _ (HQ.out.on B0.out) hl).mono ?_
  rintro e w1 ⟨a, v, x, rfl, hlen, ho, hb⟩
  rw [World.size_alloc] at ho
  obtain ⟨pv, cv, rfl⟩ := ho.slice
  have R1 := R0.out.on hb
  have r0 := R1.cells.get 0 rfl
  have r1 := R1.cells.get 1 rfl
  have r2 := R1.cells.get 2 rfl
  have hfz := R1.free
  have HE : Hid (OwnL w (sets w1 w.heap.size 0 [.int .i64 a.wide, .int .i64 a.high, .slice pv a.nodes.length cv]) a (.slice pv a.nodes.length cv)) :=
    ⟨hlen, (ho.far (sets_grown (b := w.heap.size) _ 0 w1) (fun j hj e => by have := (ho.lt j hj).1; injection e; omega)).lower (by omega), sets_below (Nat.le_refl _) _ 0 _ _ (below_on B0.out hb)⟩
  clear hlen ho hb R0 B0 R1 HQ
  unfold lyA
  go_wp2_with fail
  refine bodyPost_ret (v := .tuple #[lyA a (.slice pv a.nodes.length cv), .int .i64 x]) ?_ rfl ⟨a, .slice pv a.nodes.length cv, x, rfl, HE.out⟩
  simp [results, Try.results33, lyA, go_sem, r0, r1, r2]

set_option maxRecDepth 100000 in
set_option maxHeartbeats 4000000 in
theorem drawTidyLayout_any (q : Option Addr) (c : Nat) (l : List UInt8) (w : World) (h : Bs w w.heap.size q l) (hl : l.length ≤ 1048576) :
    Calls Try.prog 32 #[.slice q l.length c] w fun e w' => ∃ a v, e = .returned (lyA a v) ∧ OwnL w w' a v := by
  have HQ := Lib.hid h
  have R0 := Lib.hid (AtM.new w [.int .i64 0, .int .i64 0, .slice none 0 0] 28)
  have B0 := Lib.hid (below_mk w (.cells #[.int .i64 0, .int .i64 0, .slice none 0 0] 28))
  clear h
  go_enter Try.func32, Try.ntmps32
  go_wp2_with fail
  refine (l1Source_any q c l _ (HQ.out.on B0.out)).mono ?_
  rintro e w1 ⟨rfl, hs1, hb1⟩
  rw [World.size_alloc] at hs1
  have hz1 := hb1.size
  rw [World.size_alloc] at hz1
  have hgw := hs1.choose_spec.2.2
  have R1 := Lib.hid (R0.out.on hb1)
  have B1 := Lib.hid (below_on B0.out hb1)
  clear hb1 R0 B0 HQ
  go_wp2_with fail
  refine (l6Bent_any (w.heap.size + 1) q c 0 l _ hs1 hl (by omega)).mono ?_
  rintro e w2 ⟨a, v, rfl, hal, ho2, hs2, hg2⟩
  obtain ⟨pv, cv, rfl⟩ := ho2.slice
  have D2 : Hid (DD1 w q c l 43 a (.slice pv a.nodes.length cv) w2) := ⟨hs2.more (by omega), R1.out.far hg2 (by intro e; injection e; omega), ho2.lower (by omega), B1.out.grown hg2 B1.out.size (fun k hk => by cases hk; omega), hal⟩
  clear R1 B1 hs1 ho2 hs2 hg2 hal hz1 hgw
  have r0 := D2.out.r.cells.get 0 rfl
  have r1 := D2.out.r.cells.get 1 rfl
  have r2 := D2.out.r.cells.get 2 rfl
  have hfz := D2.out.r.free
  have HE := Lib.hid (D2.out.done [.int .i64 a.wide, .int .i64 a.high, .slice pv a.nodes.length cv])
  clear D2
  go_wp2_with fail
  refine bodyPost_ret (v := lyA a (.slice pv a.nodes.length cv)) ?_ rfl ⟨a, .slice pv a.nodes.length cv, rfl, HE.out⟩
  simp [results, Try.results32, lyA, go_sem, r0, r1, r2]

set_option maxRecDepth 100000 in
set_option maxHeartbeats 4000000 in
theorem drawSplitPane_any (q : Option Addr) (c : Nat) (l : List UInt8) (w : World) (h : Bs w w.heap.size q l) (hl : l.length ≤ 1048576) :
    Calls Try.prog 29 #[.slice q l.length c] w fun e w' => ∃ a v x y z, e = .returned (.tuple #[lyA a v, .int .i64 x, .int .i64 y, .int .i64 z]) ∧ OwnL w w' a v := by
  have HQ := Lib.hid h
  have R0 := Lib.hid (AtM.new w [.int .i64 0, .int .i64 0, .slice none 0 0] 28)
  have B0 := Lib.hid (below_mk w (.cells #[.int .i64 0, .int .i64 0, .slice none 0 0] 28))
  clear h
  go_enter Try.func29, Try.ntmps29
  go_wp2_with fail
  refine (l1Source_any q c l _ (HQ.out.on B0.out)).mono ?_
  rintro e w1 ⟨rfl, hs1, hb1⟩
  rw [World.size_alloc] at hs1
  have hz1 := hb1.size
  rw [World.size_alloc] at hz1
  have hgw := hs1.choose_spec.2.2
  have R1 := Lib.hid (R0.out.on hb1)
  have B1 := Lib.hid (below_on B0.out hb1)
  clear hb1 R0 B0 HQ
  go_wp2_with fail
  refine (l6Bent_any (w.heap.size + 1) q c 0 l _ hs1 hl (by omega)).mono ?_
  rintro e w2 ⟨a, v, rfl, hal, ho2, hs2, hg2⟩
  obtain ⟨pv, cv, rfl⟩ := ho2.slice
  have D2 : Hid (DD1 w q c l 43 a (.slice pv a.nodes.length cv) w2) := ⟨hs2.more (by omega), R1.out.far hg2 (by intro e; injection e; omega), ho2.lower (by omega), B1.out.grown hg2 B1.out.size (fun k hk => by cases hk; omega), hal⟩
  clear R1 B1 hs1 ho2 hs2 hg2 hal hz1 hgw
  go_wp2_with fail
  refine (l1Next_src (w.heap.size + 1) q c _ l 8 _ D2.out.src hl (by omega) (by omega) (by omega)).mono ?_
  rintro e w3 ⟨x3, rfl, hx3, hs3, hg3⟩
  have D3 := Lib.hid (D2.out.draw hs3 hg3)
  clear D2 hs3 hg3
  have hw3 : IntKind.i64.wrap (x3 - 1) = x3 - 1 := IntWalk.i64_in _ ⟨by omega, by omega⟩
  go_wp2_with fail
  refine (l1Pick_lit (w.heap.size + 1) q c _ l _ D3.out.src hl (by omega) [2, 3, 2, 3, 1, 4] 6 rfl (fun _ => True) (by omega) (by omega) _ rfl _ (by simp)).mono ?_
  rintro e w4 ⟨x4, rfl, _, hs4, hg4⟩
  have D4 := Lib.hid (D3.out.draw hs4 hg4)
  clear D3 hs4 hg4
  go_wp2_with fail
  refine (l1Next_src (w.heap.size + 1) q c _ l 8 _ D4.out.src hl (by omega) (by omega) (by omega)).mono ?_
  rintro e w5 ⟨x5, rfl, hx5, hs5, hg5⟩
  have D5 := Lib.hid (D4.out.draw hs5 hg5)
  clear D4 hs5 hg5
  have hw5 : IntKind.i64.wrap (x5 - 1) = x5 - 1 := IntWalk.i64_in _ ⟨by omega, by omega⟩
  have r0 := D5.out.r.cells.get 0 rfl
  have r1 := D5.out.r.cells.get 1 rfl
  have r2 := D5.out.r.cells.get 2 rfl
  have hfz := D5.out.r.free
  have HE := Lib.hid (D5.out.done [.int .i64 a.wide, .int .i64 a.high, .slice pv a.nodes.length cv])
  clear D5
  go_wp2_with fail
  refine bodyPost_ret (v := .tuple #[lyA a (.slice pv a.nodes.length cv), .int .i64 (x3 - 1), .int .i64 x4, .int .i64 (x5 - 1)]) ?_ rfl ⟨a, .slice pv a.nodes.length cv, (x3 - 1), x4, (x5 - 1), rfl, HE.out⟩
  simp [results, Try.results29, lyA, go_sem, r0, r1, r2]

set_option maxRecDepth 100000 in
set_option maxHeartbeats 4000000 in
theorem drawResizePane_any (q : Option Addr) (c : Nat) (l : List UInt8) (w : World) (h : Bs w w.heap.size q l) (hl : l.length ≤ 1048576) :
    Calls Try.prog 31 #[.slice q l.length c] w fun e w' => ∃ a v x y, e = .returned (.tuple #[lyA a v, .int .i64 x, .int .i64 y]) ∧ OwnL w w' a v := by
  have HQ := Lib.hid h
  have R0 := Lib.hid (AtM.new w [.int .i64 0, .int .i64 0, .slice none 0 0] 28)
  have B0 := Lib.hid (below_mk w (.cells #[.int .i64 0, .int .i64 0, .slice none 0 0] 28))
  clear h
  go_enter Try.func31, Try.ntmps31
  go_wp2_with fail
  refine (l1Source_any q c l _ (HQ.out.on B0.out)).mono ?_
  rintro e w1 ⟨rfl, hs1, hb1⟩
  rw [World.size_alloc] at hs1
  have hz1 := hb1.size
  rw [World.size_alloc] at hz1
  have hgw := hs1.choose_spec.2.2
  have R1 := Lib.hid (R0.out.on hb1)
  have B1 := Lib.hid (below_on B0.out hb1)
  clear hb1 R0 B0 HQ
  go_wp2_with fail
  refine (l6Bent_any (w.heap.size + 1) q c 0 l _ hs1 hl (by omega)).mono ?_
  rintro e w2 ⟨a, v, rfl, hal, ho2, hs2, hg2⟩
  obtain ⟨pv, cv, rfl⟩ := ho2.slice
  have D2 : Hid (DD1 w q c l 43 a (.slice pv a.nodes.length cv) w2) := ⟨hs2.more (by omega), R1.out.far hg2 (by intro e; injection e; omega), ho2.lower (by omega), B1.out.grown hg2 B1.out.size (fun k hk => by cases hk; omega), hal⟩
  clear R1 B1 hs1 ho2 hs2 hg2 hal hz1 hgw
  go_wp2_with fail
  refine (l1Next_src (w.heap.size + 1) q c _ l 7 _ D2.out.src hl (by omega) (by omega) (by omega)).mono ?_
  rintro e w3 ⟨x3, rfl, hx3, hs3, hg3⟩
  have D3 := Lib.hid (D2.out.draw hs3 hg3)
  clear D2 hs3 hg3
  have hw3 : IntKind.i64.wrap (x3 - 1) = x3 - 1 := IntWalk.i64_in _ ⟨by omega, by omega⟩
  go_wp2_with fail
  refine (l1Pick_lit (w.heap.size + 1) q c _ l _ D3.out.src hl (by omega) [0, 1, -1, 3, -3, 200, 201, -201] 8 rfl (fun _ => True) (by omega) (by omega) _ rfl _ (by simp)).mono ?_
  rintro e w4 ⟨x4, rfl, _, hs4, hg4⟩
  have D4 := Lib.hid (D3.out.draw hs4 hg4)
  clear D3 hs4 hg4
  have r0 := D4.out.r.cells.get 0 rfl
  have r1 := D4.out.r.cells.get 1 rfl
  have r2 := D4.out.r.cells.get 2 rfl
  have hfz := D4.out.r.free
  have HE := Lib.hid (D4.out.done [.int .i64 a.wide, .int .i64 a.high, .slice pv a.nodes.length cv])
  clear D4
  go_wp2_with fail
  refine bodyPost_ret (v := .tuple #[lyA a (.slice pv a.nodes.length cv), .int .i64 (x3 - 1), .int .i64 x4]) ?_ rfl ⟨a, .slice pv a.nodes.length cv, (x3 - 1), x4, rfl, HE.out⟩
  simp [results, Try.results31, lyA, go_sem, r0, r1, r2]

end Go.Proofs.Ytbfickdgjgbfhaa

/- DrawHitAt and DrawSameLayouts. -/
namespace Go.Proofs.Ytbfickdgjgbfhaa
open Go.RowKit
set_option linter.unusedVariables false
set_option linter.unusedSimpArgs false

set_option maxRecDepth 100000 in
set_option maxHeartbeats 8000000 in
theorem drawHitAt_any (q : Option Addr) (c : Nat) (l : List UInt8) (w : World) (h : Bs w w.heap.size q l) (hl : l.length ≤ 1048576) :
    Calls Try.prog 41 #[.slice q l.length c] w fun e w' => ∃ a v x y, e = .returned (.tuple #[lyA a v, .int .i64 x, .int .i64 y]) ∧ OwnL w w' a v := by
  have HQ := Lib.hid h
  have R0 := Lib.hid (AtM.new w [.int .i64 0, .int .i64 0, .slice none 0 0] 28)
  have B0 := Lib.hid (below_mk w (.cells #[.int .i64 0, .int .i64 0, .slice none 0 0] 28))
  clear h
  go_enter Try.func41, Try.ntmps41
  go_wp2_with fail
  refine (l1Source_any q c l _ (HQ.out.on B0.out)).mono ?_
  rintro e w1 ⟨rfl, hs1, hb1⟩
  rw [World.size_alloc] at hs1
  have hz1 := hb1.size
  rw [World.size_alloc] at hz1
  have hgw := hs1.choose_spec.2.2
  have R1 := Lib.hid (R0.out.on hb1)
  have B1 := Lib.hid (below_on B0.out hb1)
  clear hb1 R0 B0 HQ
  go_wp2_with fail
  refine (l6Bent_any (w.heap.size + 1) q c 0 l _ hs1 hl (by omega)).mono ?_
  rintro e w2 ⟨a, v, rfl, hal, ho2, hs2, hg2⟩
  obtain ⟨pv, cv, rfl⟩ := ho2.slice
  have hz2 := hg2.size
  have hb6 : w.heap.size + 1 < w2.heap.size := by omega
  have D2 : Hid (DD1 w q c l 43 a (.slice pv a.nodes.length cv) w2) := ⟨hs2.more (by omega), R1.out.far hg2 (by intro e; injection e; omega), ho2.lower (by omega), B1.out.grown hg2 B1.out.size (fun k hk => by cases hk; omega), hal⟩
  clear R1 B1 hs1 ho2 hs2 hg2 hal hz1 hgw hz2
  have D3 := Lib.hid (D2.out.on (below_mk w2 (.cells #[.int .i64 a.wide, .int .i64 a.high, .slice pv a.nodes.length cv] 28)))
  have M3 := Lib.hid (AtM.new w2 [.int .i64 a.wide, .int .i64 a.high, .slice pv a.nodes.length cv] 28)
  clear D2
  go_upto_region 3 with (fail)
  generalize w2.alloc (.cells #[.int .i64 a.wide, .int .i64 a.high, .slice pv a.nodes.length cv] 28) = W3 at *
  generalize w2.heap.size = b6 at *
  have bd := below_drewN (Below.refl W3.heap.size W3) 1
  have D4 := Lib.hid (D3.out.on bd)
  have M4 := Lib.hid (M3.out.on bd)
  have hS0 := M4.out.cells
  clear D3 M3 bd
  refine wp_region_noPanic ?_
  refine wp_region_held_drew (S := fun W' => AtL W' b6 [.int .i64 a.wide, .int .i64 a.high, .slice pv a.nodes.length cv]) (by kernel_rfl) hS0 (fun hHeld => ?_)
  refine takeB 0 11 (.agg #[.int .i64 a.wide, .int .i64 a.high, .slice pv a.nodes.length cv]) (fun w o hSw ho => ?_) hHeld ?_
  · obtain rfl := Option.some.inj ho; (obtain ⟨z0, z1, z2⟩ := AtL.tri hSw; go_simp)
  simp only [Act.put, sa, s0, ss]
  refine takeA 1 12 (.pointer (some ⟨w.heap.size + 1, 0, none⟩)) hHeld ?_
  simp only [Act.put, sa, s0, ss]
  refine takeA 2 13 (.pointer (some ⟨b6, 0, none⟩)) hHeld ?_
  simp only [Act.put, sa, s0, ss]
  refine takeB 3 14 (.int .i64 a.wide) (fun w o hSw ho => ?_) hHeld ?_
  · obtain rfl := Option.some.inj ho; (obtain ⟨z0, z1, z2⟩ := AtL.tri hSw; go_simp)
  simp only [Act.put, sa, s0, ss]
  refine takeA 9 20 (.pointer (some ⟨w.heap.size + 1, 0, none⟩)) hHeld ?_
  simp only [Act.put, sa, s0, ss]
  refine takeA 10 21 (.pointer (some ⟨b6, 1, none⟩)) hHeld ?_
  simp only [Act.put, sa, s0, ss]
  refine takeB 11 22 (.int .i64 a.high) (fun w o hSw ho => ?_) hHeld ?_
  · obtain rfl := Option.some.inj ho; (obtain ⟨z0, z1, z2⟩ := AtL.tri hSw; go_simp)
  simp only [Act.put, sa, s0, ss]
  refine oneR 4 (by kernel_rfl) (by kernel_rfl) (fun o ho K' hK => ?_)
  obtain rfl := Option.some.inj ho
  clear ho
  go_simp
  refine (l1MinD _ _).mono ?_
  rintro e w' ⟨m1, rfl, hm1, rfl⟩
  go_wp2_with fail
  refine hK.out _ _ (hHeld) (fun hHeld => ?_)
  clear hK K'
  try simp only [Act.put, sa, s0, ss]
  refine oneR 5 (by kernel_rfl) (by kernel_rfl) (fun o ho K' hK => ?_)
  obtain rfl := Option.some.inj ho
  clear ho
  go_simp
  refine (l1MaxD _ hm1 _).mono ?_
  rintro e w' ⟨m2, rfl, hm2, rfl⟩
  go_wp2_with fail
  refine hK.out _ _ (hHeld) (fun hHeld => ?_)
  clear hK K'
  try simp only [Act.put, sa, s0, ss]
  have hw2 : IntKind.i64.wrap (m2 + 2) = m2 + 2 := IntWalk.i64_in _ ⟨by omega, by omega⟩
  refine takeA 6 17 (.int .i64 (m2 + 2)) hHeld ?_
  simp only [Act.put, sa, s0, ss]
  refine oneR 7 (by kernel_rfl) (by kernel_rfl) (fun o ho K' hK => ?_)
  obtain rfl := Option.some.inj ho
  clear ho
  go_simp
  refine (l1Next_src (w.heap.size + 1) q c _ l (m2 + 2) _ D4.out.src hl (by omega) (by omega) (by omega)).mono ?_
  rintro e w5 ⟨x5, rfl, hx5, hs5, hg5⟩
  have D5 := Lib.hid (D4.out.draw hs5 hg5)
  have M5 := Lib.hid (M4.out.far hg5 (by intro e; injection e; omega))
  have hS1 := M5.out.cells
  clear hHeld hS0 hs5 hg5 D4 M4 hw2
  go_wp2_with fail
  refine hK.out _ _ (hS1) (fun hHeld => ?_)
  clear hK K'
  try simp only [Act.put, sa, s0, ss]
  have hw3 : IntKind.i64.wrap (x5 - 1) = x5 - 1 := IntWalk.i64_in _ ⟨by omega, by omega⟩
  refine takeA 8 19 (.int .i64 (x5 - 1)) hHeld ?_
  simp only [Act.put, sa, s0, ss]
  clear hw3
  refine oneR 12 (by kernel_rfl) (by kernel_rfl) (fun o ho K' hK => ?_)
  obtain rfl := Option.some.inj ho
  clear ho
  go_simp
  refine (l1MinD _ _).mono ?_
  rintro e w' ⟨m3, rfl, hm3, rfl⟩
  go_wp2_with fail
  refine hK.out _ _ (hHeld) (fun hHeld => ?_)
  clear hK K'
  try simp only [Act.put, sa, s0, ss]
  refine oneR 13 (by kernel_rfl) (by kernel_rfl) (fun o ho K' hK => ?_)
  obtain rfl := Option.some.inj ho
  clear ho
  go_simp
  refine (l1MaxD _ hm3 _).mono ?_
  rintro e w' ⟨m4, rfl, hm4, rfl⟩
  go_wp2_with fail
  refine hK.out _ _ (hHeld) (fun hHeld => ?_)
  clear hK K'
  try simp only [Act.put, sa, s0, ss]
  have hw4 : IntKind.i64.wrap (m4 + 2) = m4 + 2 := IntWalk.i64_in _ ⟨by omega, by omega⟩
  refine takeA 14 25 (.int .i64 (m4 + 2)) hHeld ?_
  simp only [Act.put, sa, s0, ss]
  refine oneR 15 (by kernel_rfl) (by kernel_rfl) (fun o ho K' hK => ?_)
  obtain rfl := Option.some.inj ho
  clear ho
  go_simp
  refine (l1Next_src (w.heap.size + 1) q c _ l (m4 + 2) _ D5.out.src hl (by omega) (by omega) (by omega)).mono ?_
  rintro e w6 ⟨x6, rfl, hx6, hs6, hg6⟩
  have D6 := Lib.hid (D5.out.draw hs6 hg6)
  have M6 := Lib.hid (M5.out.far hg6 (by intro e; injection e; omega))
  have hS2 := M6.out.cells
  clear hHeld hS1 hs6 hg6 D5 M5 hw4
  go_wp2_with fail
  refine hK.out _ _ (hS2) (fun hHeld => ?_)
  clear hK K'
  try simp only [Act.put, sa, s0, ss]
  have hw5 : IntKind.i64.wrap (x6 - 1) = x6 - 1 := IntWalk.i64_in _ ⟨by omega, by omega⟩
  refine takeA 16 27 (.int .i64 (x6 - 1)) hHeld ?_
  simp only [Act.put, sa, s0, ss]
  clear hw5
  have r0 := D6.out.r.cells.get 0 rfl
  have r1 := D6.out.r.cells.get 1 rfl
  have r2 := D6.out.r.cells.get 2 rfl
  have hfz := D6.out.r.free
  have hS3 := (M6.out.beside (c := w.heap.size) (by omega) [.int .i64 a.wide, .int .i64 a.high, .slice pv a.nodes.length cv] 0).cells
  simp only [sets] at hS3
  have HE := Lib.hid (D6.out.done [.int .i64 a.wide, .int .i64 a.high, .slice pv a.nodes.length cv])
  clear D6 M6 hS2
  refine oneR 17 (by kernel_rfl) (by kernel_rfl) (fun o ho K' hK => ?_)
  obtain rfl := Option.some.inj ho
  clear ho
  go_simp
  refine hK.out _ _ (hS3) (fun hHeld => ?_)
  clear hK K'
  try simp only [Act.put, sa, s0, ss]
  refine takeA 18 3 (.int .i64 (x5 - 1)) hHeld ?_
  simp only [Act.put, sa, s0, ss]
  refine takeA 19 4 (.int .i64 (x6 - 1)) hHeld ?_
  simp only [Act.put, sa, s0, ss]
  refine wpAnyH_done (by kernel_rfl) ?_ _
  refine NoPanic.normal ?_
  clear hHeld hS3
  go_wp2_with fail
  refine bodyPost_ret (v := .tuple #[lyA a (.slice pv a.nodes.length cv), .int .i64 (x5 - 1), .int .i64 (x6 - 1)]) ?_ rfl ⟨a, .slice pv a.nodes.length cv, x5 - 1, x6 - 1, rfl, HE.out⟩
  simp [results, Try.results41, lyA, go_sem, r0, r1, r2]

/-- in the midst of DrawSameLayouts: two layouts -/
structure DD2 (w : World) (q : Option Addr) (c : Nat) (l : List UInt8) (N : Nat) (a : Ly) (v : Value) (b : Ly) (u : Value) (b5 b6 : Nat) (W : World) : Prop where
  src : Src W (w.heap.size + 2) q c l N
  ra : AtM W w.heap.size [.int .i64 0, .int .i64 0, .slice none 0 0]
  rb : AtM W (w.heap.size + 1) [.int .i64 0, .int .i64 0, .slice none 0 0]
  ma : AtM W b5 [.int .i64 a.wide, .int .i64 a.high, v]
  mb : AtM W b6 [.int .i64 b.wide, .int .i64 b.high, u]
  oa : OwnQ 76 W (w.heap.size + 3) v a.nodes
  ob : OwnQ 76 W (w.heap.size + 3) u b.nodes
  low : Below w.heap.size w W
  h5 : w.heap.size + 2 < b5
  h6 : w.heap.size + 2 < b6
section
variable {w : World} {q : Option Addr} {c : Nat} {l : List UInt8} {N : Nat} {a : Ly} {v : Value} {b : Ly} {u : Value} {b5 b6 : Nat} {W W' : World}
theorem DD2.draw {M : Nat} (h : DD2 w q c l N a v b u b5 b6 W) (hs : Src W' (w.heap.size + 2) q c l M) (hg : W.grownBy W' (some (w.heap.size + 2))) : DD2 w q c l M a v b u b5 b6 W' := by
  have k5 := h.h5
  have k6 := h.h6
  exact ⟨hs, h.ra.far hg (by intro e; injection e; omega), h.rb.far hg (by intro e; injection e; omega), h.ma.far hg (by intro e; injection e; omega), h.mb.far hg (by intro e; injection e; omega), h.oa.far hg (fun j hj e => by have := (h.oa.lt j hj).1; injection e; omega), h.ob.far hg (fun j hj e => by have := (h.ob.lt j hj).1; injection e; omega), h.low.grown hg h.low.size (fun k hk => by cases hk; omega), k5, k6⟩
theorem DD2.on (h : DD2 w q c l N a v b u b5 b6 W) (hb : Below W.heap.size W W') : DD2 w q c l N a v b u b5 b6 W' := h.draw (h.src.below hb) (grown_of_below hb _)
theorem DD2.stored {gb n cb : Nat} (h : DD2 w q c l N a v b (.slice (some ⟨gb, 0, none⟩) n cb) b5 b6 W) (i f : Nat) (x : Int) (hi : i < b.nodes.length) (hf : f < 5) (h5 : gb ≠ b5) (h6 : gb ≠ b6) (hv : ∀ j, v.ownBlock = some j → j ≠ gb) :
    DD2 w q c l N a v ⟨b.wide, b.high, b.nodes.set i (qPut (nth b.nodes i) f x)⟩ (.slice (some ⟨gb, 0, none⟩) n cb) b5 b6 (W.setCell ⟨gb, i * 5 + f, none⟩ (.int .i64 x)) := by
  obtain ⟨h1, hg⟩ := h.ob.stored i f x hi hf
  have h2 := (h.ob.lt gb rfl).1
  exact ⟨h.src.grown hg (by intro j hj; injection hj; omega), h.ra.far hg (by intro e; injection e; omega), h.rb.far hg (by intro e; injection e; omega), h.ma.far hg (by intro e; injection e with e; exact h5 e.symm), h.mb.far hg (by intro e; injection e with e; exact h6 e.symm), h.oa.far hg (fun j hj e => by injection e with e; exact hv j hj e), h1, h.low.grown hg h.low.size (fun k hk => by cases hk; omega), h.h5, h.h6⟩
theorem DD2.done (h : DD2 w q c l N a v b u b5 b6 W) (us vs : List Value) (i j : Nat) (hij : (i = w.heap.size ∧ j = w.heap.size + 1) ∨ (i = w.heap.size + 1 ∧ j = w.heap.size)) :
    OwnQ 76 (sets (sets W i 0 us) j 0 vs) w.heap.size v a.nodes ∧ OwnQ 76 (sets (sets W i 0 us) j 0 vs) w.heap.size u b.nodes ∧ Below w.heap.size w (sets (sets W i 0 us) j 0 vs) := by
  have hg := sets_grown (b := i) us 0 W
  have hg2 := sets_grown (b := j) vs 0 (sets W i 0 us)
  have o1 := h.oa.far hg (fun k hk e => by have := (h.oa.lt k hk).1; injection e; omega)
  have p1 := h.ob.far hg (fun k hk e => by have := (h.ob.lt k hk).1; injection e; omega)
  have o2 := o1.far hg2 (fun k hk e => by have := (o1.lt k hk).1; injection e; omega)
  have p2 := p1.far hg2 (fun k hk e => by have := (p1.lt k hk).1; injection e; omega)
  exact ⟨o2.lower (by omega), p2.lower (by omega), sets_below (by omega) vs 0 _ _ (sets_below (by omega) us 0 _ _ h.low)⟩
end
/-- two layouts of the call's own -/
def OwnL2 (w w' : World) (a : Ly) (v : Value) (b : Ly) (u : Value) : Prop := a.nodes.length ≤ 20 ∧ b.nodes.length ≤ 20 ∧ OwnQ 76 w' w.heap.size v a.nodes ∧ OwnQ 76 w' w.heap.size u b.nodes ∧ Below w.heap.size w w'

theorem drew_on (W : World) : Below W.heap.size W W.drew := below_drewN (Below.refl _ _) 1

set_option maxRecDepth 100000 in
set_option maxHeartbeats 8000000 in
theorem drawSameLayouts_any (q : Option Addr) (c : Nat) (l : List UInt8) (w : World) (h : Bs w w.heap.size q l) (hl : l.length ≤ 1048576) :
    Calls Try.prog 44 #[.slice q l.length c] w fun e w' => ∃ a v b u, e = .returned (.tuple #[lyA a v, lyA b u]) ∧ OwnL2 w w' a v b u := by
  have HQ := Lib.hid h
  have RA := Lib.hid (AtM.new w [.int .i64 0, .int .i64 0, .slice none 0 0] 28)
  have hRB := AtM.new (w.alloc (.cells #[.int .i64 0, .int .i64 0, .slice none 0 0] 28)) [.int .i64 0, .int .i64 0, .slice none 0 0] 28
  rw [World.size_alloc] at hRB
  have RB := Lib.hid hRB
  have B1 := Lib.hid (below_mk w (.cells #[.int .i64 0, .int .i64 0, .slice none 0 0] 28))
  have B2 := Lib.hid (below_mk (w.alloc (.cells #[.int .i64 0, .int .i64 0, .slice none 0 0] 28)) (.cells #[.int .i64 0, .int .i64 0, .slice none 0 0] 28))
  clear h hRB
  go_enter Try.func44, Try.ntmps44
  go_wp2_with fail
  refine (l1Source_any q c l _ (HQ.out.on (below_on B1.out B2.out))).mono ?_
  rintro e w1 ⟨rfl, hs1, hb1⟩
  rw [World.size_alloc, World.size_alloc] at hs1
  have hz1 := hb1.size
  rw [World.size_alloc, World.size_alloc] at hz1
  have hgw := hs1.choose_spec.2.2
  have RA1 := Lib.hid ((RA.out.on B2.out).on hb1)
  have RB1 := Lib.hid (RB.out.on hb1)
  have L1 := Lib.hid (below_on (below_on B1.out B2.out) hb1)
  clear hb1 RA RB B1 B2 HQ
  go_wp2_with fail
  refine (l6Draw_any (w.heap.size + 1 + 1) q c 0 l _ hs1 hl (by omega)).mono ?_
  rintro e w2 ⟨a, v, rfl, ha0, ha9, ho2, hs2, hg2⟩
  rcases ho2.form with ⟨_, hnil⟩ | ⟨ga, ca, rfl, hga1, hga2, _⟩
  · rw [hnil] at ha0; simp at ha0
  have hz2 := hg2.size
  have b3 := below_mk w2 (.cells #[.int .i64 a.wide, .int .i64 a.high, .slice (some ⟨ga, 0, none⟩) a.nodes.length ca] 28)
  have RA2 := Lib.hid ((RA1.out.far hg2 (by intro e; injection e; omega)).on b3)
  have RB2 := Lib.hid ((RB1.out.far hg2 (by intro e; injection e; omega)).on b3)
  have L2 := Lib.hid (below_on (L1.out.grown hg2 L1.out.size (fun k hk => by cases hk; omega)) b3)
  have S2 := Lib.hid (hs2.below b3)
  have OA2 := Lib.hid ((ho2.lower (show w.heap.size + 3 ≤ w1.heap.size + 1 by omega)).on b3)
  have MA2 := Lib.hid (AtM.new w2 [.int .i64 a.wide, .int .i64 a.high, .slice (some ⟨ga, 0, none⟩) a.nodes.length ca] 28)
  have h5 : w.heap.size + 2 < w2.heap.size := by omega
  have hga3 : ga < w2.heap.size := hga2
  have hga4 : w.heap.size + 2 < ga := by omega
  have hsz3 : (w2.alloc (.cells #[.int .i64 a.wide, .int .i64 a.high, .slice (some ⟨ga, 0, none⟩) a.nodes.length ca] 28)).heap.size = w2.heap.size + 1 := by simp
  have HS3 := Lib.hid hsz3
  clear RA1 RB1 L1 ho2 hs1 hs2 hg2 b3 hga1 hga2 hz1 hz2 hgw hsz3
  go_upto_region 3 with (fail)
  generalize w2.alloc (.cells #[.int .i64 a.wide, .int .i64 a.high, .slice (some ⟨ga, 0, none⟩) a.nodes.length ca] 28) = W3 at *
  generalize w2.heap.size = b5 at *
  go_wp2_with fail
  refine (l6Copy_any b5 a ⟨ga, 0, none⟩ ca W3 MA2.out.cells OA2.out.bs.2 (by omega)).mono ?_
  rintro e w4 ⟨u, rfl, ho4, hb4⟩
  rcases ho4.form with ⟨_, hnil⟩ | ⟨gb, cb, rfl, hgb1, hgb2, _⟩
  · rw [hnil] at ha0; simp at ha0
  have D4 : Hid (DD2 w q c l 40 a (.slice (some ⟨ga, 0, none⟩) a.nodes.length ca) a (.slice (some ⟨gb, 0, none⟩) a.nodes.length cb) b5 w4.heap.size (w4.alloc (.cells #[.int .i64 a.wide, .int .i64 a.high, .slice (some ⟨gb, 0, none⟩) a.nodes.length cb] 28))) := by
    have b := below_mk w4 (.cells #[.int .i64 a.wide, .int .i64 a.high, .slice (some ⟨gb, 0, none⟩) a.nodes.length cb] 28)
    have z := HS3.out
    have z4 := hb4.size
    exact ⟨((S2.out.below hb4).below b).more (by omega), (RA2.out.on hb4).on b, (RB2.out.on hb4).on b, (MA2.out.on hb4).on b, AtM.new w4 [.int .i64 a.wide, .int .i64 a.high, .slice (some ⟨gb, 0, none⟩) a.nodes.length cb] 28, (OA2.out.on hb4).on b, (ho4.lower (by omega)).on b, below_on (below_on L2.out hb4) b, h5, by omega⟩
  have hgb3 : gb ≠ w4.heap.size := by omega
  have hgb5 : gb ≠ b5 := by have := HS3.out; omega
  have hgab : ga ≠ gb := by have := HS3.out; omega
  clear RA2 RB2 L2 S2 OA2 MA2 HS3 ho4 hb4 hgb1 hgb2
  go_upto_region 4 with (fail)
  generalize w4.alloc (.cells #[.int .i64 a.wide, .int .i64 a.high, .slice (some ⟨gb, 0, none⟩) a.nodes.length cb] 28) = W4 at *
  generalize w4.heap.size = b6 at *
  go_wp2_with fail
  refine (l1Chance_any (w.heap.size + 1 + 1) q c _ l 2 _ D4.out.src hl (by omega) (by omega) (by omega)).mono ?_
  rintro e w5 ⟨fl, rfl, hs5, hg5⟩
  have D5 := Lib.hid (D4.out.draw hs5 hg5)
  clear D4 hs5 hg5
  cases fl
  · go_upto_region 6 with (fail)
    have bd : Below w5.heap.size w5 w5.drew := below_drewN (Below.refl _ _) 1
    have D7 := D5
    have hS0 : AtL w5.drew b5 [.int .i64 a.wide, .int .i64 a.high, .slice (some ⟨ga, 0, none⟩) a.nodes.length ca] ∧ AtL w5.drew b6 [.int .i64 a.wide, .int .i64 a.high, .slice (some ⟨gb, 0, none⟩) a.nodes.length cb] := ⟨(D7.out.on bd).ma.cells, (D7.out.on bd).mb.cells⟩
    clear bd
    refine wp_region_noPanic ?_
    refine wp_region_held_drew (S := fun W' => AtL W' b5 [.int .i64 a.wide, .int .i64 a.high, .slice (some ⟨ga, 0, none⟩) a.nodes.length ca] ∧ AtL W' b6 [.int .i64 a.wide, .int .i64 a.high, .slice (some ⟨gb, 0, none⟩) a.nodes.length cb]) (by kernel_rfl) hS0 (fun hHeld => ?_)
    refine takeB 0 22 (.agg #[.int .i64 a.wide, .int .i64 a.high, .slice (some ⟨ga, 0, none⟩) a.nodes.length ca]) (fun w o hSw ho => ?_) hHeld ?_
    · obtain rfl := Option.some.inj ho; (obtain ⟨z0, z1, z2⟩ := AtL.tri hSw.1; go_simp)
    simp only [Act.put, sa, s0, ss]
    refine takeB 1 23 (.agg #[.int .i64 a.wide, .int .i64 a.high, .slice (some ⟨gb, 0, none⟩) a.nodes.length cb]) (fun w o hSw ho => ?_) hHeld ?_
    · obtain rfl := Option.some.inj ho; (obtain ⟨z0, z1, z2⟩ := AtL.tri hSw.2; go_simp)
    simp only [Act.put, sa, s0, ss]
    have r0 := D7.out.ra.cells.get 0 rfl
    have r1 := D7.out.ra.cells.get 1 rfl
    have r2 := D7.out.ra.cells.get 2 rfl
    have hfa := D7.out.ra.free
    have s0 := D7.out.rb.cells.get 0 rfl
    have s1 := D7.out.rb.cells.get 1 rfl
    have s2 := D7.out.rb.cells.get 2 rfl
    have hfb := D7.out.rb.free
    have k5 := D7.out.h5
    have k6 := D7.out.h6
    have MA1 := D7.out.ma.beside (c := w.heap.size) (by omega) [.int .i64 a.wide, .int .i64 a.high, .slice (some ⟨ga, 0, none⟩) a.nodes.length ca] 0
    have MB0 : AtM _ b6 [.int .i64 a.wide, .int .i64 a.high, .slice (some ⟨gb, 0, none⟩) a.nodes.length cb] := D7.out.mb
    have MB1 := MB0.beside (c := w.heap.size) (by omega) [.int .i64 a.wide, .int .i64 a.high, .slice (some ⟨ga, 0, none⟩) a.nodes.length ca] 0
    have MA2 := MA1.beside (c := w.heap.size + 1) (by omega) [.int .i64 a.wide, .int .i64 a.high, .slice (some ⟨gb, 0, none⟩) a.nodes.length cb] 0
    have MB2 := MB1.beside (c := w.heap.size + 1) (by omega) [.int .i64 a.wide, .int .i64 a.high, .slice (some ⟨gb, 0, none⟩) a.nodes.length cb] 0
    have HE1 := D7.out.done [.int .i64 a.wide, .int .i64 a.high, .slice (some ⟨ga, 0, none⟩) a.nodes.length ca] [.int .i64 a.wide, .int .i64 a.high, .slice (some ⟨gb, 0, none⟩) a.nodes.length cb] w.heap.size (w.heap.size + 1) (.inl ⟨rfl, rfl⟩)
    simp only [sets] at MA1 MB1 MA2 MB2 HE1
    have hS1 := And.intro (MA1.cells.on (drew_on _)) (MB1.cells.on (drew_on _))
    have hS2 := And.intro (MA2.cells.on (drew_on _)) (MB2.cells.on (drew_on _))
    have HE := Lib.hid (And.intro (HE1.1.on (drew_on _)) (And.intro (HE1.2.1.on (drew_on _)) (below_on HE1.2.2 (drew_on _))))
    clear MA1 MB0 MB1 MA2 MB2 HE1 D7 D5 k5 k6 hS0
    refine oneR 2 (by kernel_rfl) (by kernel_rfl) (fun o ho K' hK => ?_)
    obtain rfl := Option.some.inj ho
    clear ho
    go_simp
    refine hK.out _ _ (hS1) (fun hHeld => ?_)
    clear hK K'
    try simp only [Act.put, sa, s0, ss]
    refine oneR 3 (by kernel_rfl) (by kernel_rfl) (fun o ho K' hK => ?_)
    obtain rfl := Option.some.inj ho
    clear ho
    go_simp
    refine hK.out _ _ (hS2) (fun hHeld => ?_)
    clear hK K'
    try simp only [Act.put, sa, s0, ss]
    refine wpAnyH_done (by kernel_rfl) ?_ _
    refine NoPanic.normal ?_
    clear hHeld hS1 hS2
    go_wp2_with fail
    refine bodyPost_ret (v := .tuple #[lyA a (.slice (some ⟨ga, 0, none⟩) a.nodes.length ca), lyA ⟨a.wide, a.high, a.nodes⟩ (.slice (some ⟨gb, 0, none⟩) a.nodes.length cb)]) ?_ rfl ⟨a, _, ⟨a.wide, a.high, a.nodes⟩, _, rfl, by omega, by simp only; omega, HE.out.1, HE.out.2.1, HE.out.2.2⟩
    simp [results, Try.results44, lyA, go_sem, r0, r1, r2, s0, s1, s2]
  · obtain ⟨x0, x1, x2⟩ := D5.out.mb.cells.tri
    obtain ⟨-, hrow, hfr⟩ := D5.out.ob.row
    obtain ⟨u0, u1, u2, u3, u4⟩ := hrow 0 (by omega)
    obtain ⟨nx, hnx⟩ : ∃ nx, IntKind.i64.wrap ((nth a.nodes 0).x2 + 1) = nx := ⟨_, rfl⟩
    have hnx2 : wrap64 ((nth a.nodes 0).x2 + 1) = nx := (IntWalk.i64_left _).symm.trans hnx
    have D6 := Lib.hid (D5.out.stored 0 2 nx (by omega) (by omega) hgb5 hgb3 (fun j hj => by simp [Value.ownBlock] at hj; omega))
    have i1 : (0 : Int) < (a.nodes.length : Int) := by omega
    clear hrow D5
    simp only [Nat.zero_mul, Nat.zero_add] at u0 u1 u2 u3 u4 D6
    go_upto_region 6 with (fail)
    generalize w5.setCell ⟨gb, 2, none⟩ (.int .i64 nx) = W6 at *
    clear hnx hnx2 x0 x1 x2 u0 u1 u2 u3 u4 hfr
    have bd : Below W6.heap.size W6 W6.drew := below_drewN (Below.refl _ _) 1
    have D7 := D6
    have hS0 : AtL W6.drew b5 [.int .i64 a.wide, .int .i64 a.high, .slice (some ⟨ga, 0, none⟩) a.nodes.length ca] ∧ AtL W6.drew b6 [.int .i64 a.wide, .int .i64 a.high, .slice (some ⟨gb, 0, none⟩) a.nodes.length cb] := ⟨(D7.out.on bd).ma.cells, (D7.out.on bd).mb.cells⟩
    clear bd
    refine wp_region_noPanic ?_
    refine wp_region_held_drew (S := fun W' => AtL W' b5 [.int .i64 a.wide, .int .i64 a.high, .slice (some ⟨ga, 0, none⟩) a.nodes.length ca] ∧ AtL W' b6 [.int .i64 a.wide, .int .i64 a.high, .slice (some ⟨gb, 0, none⟩) a.nodes.length cb]) (by kernel_rfl) hS0 (fun hHeld => ?_)
    refine takeB 0 22 (.agg #[.int .i64 a.wide, .int .i64 a.high, .slice (some ⟨ga, 0, none⟩) a.nodes.length ca]) (fun w o hSw ho => ?_) hHeld ?_
    · obtain rfl := Option.some.inj ho; (obtain ⟨z0, z1, z2⟩ := AtL.tri hSw.1; go_simp)
    simp only [Act.put, sa, s0, ss]
    refine takeB 1 23 (.agg #[.int .i64 a.wide, .int .i64 a.high, .slice (some ⟨gb, 0, none⟩) a.nodes.length cb]) (fun w o hSw ho => ?_) hHeld ?_
    · obtain rfl := Option.some.inj ho; (obtain ⟨z0, z1, z2⟩ := AtL.tri hSw.2; go_simp)
    simp only [Act.put, sa, s0, ss]
    have r0 := D7.out.ra.cells.get 0 rfl
    have r1 := D7.out.ra.cells.get 1 rfl
    have r2 := D7.out.ra.cells.get 2 rfl
    have hfa := D7.out.ra.free
    have s0 := D7.out.rb.cells.get 0 rfl
    have s1 := D7.out.rb.cells.get 1 rfl
    have s2 := D7.out.rb.cells.get 2 rfl
    have hfb := D7.out.rb.free
    have k5 := D7.out.h5
    have k6 := D7.out.h6
    have MA1 := D7.out.ma.beside (c := w.heap.size) (by omega) [.int .i64 a.wide, .int .i64 a.high, .slice (some ⟨ga, 0, none⟩) a.nodes.length ca] 0
    have MB0 : AtM _ b6 [.int .i64 a.wide, .int .i64 a.high, .slice (some ⟨gb, 0, none⟩) a.nodes.length cb] := D7.out.mb
    have MB1 := MB0.beside (c := w.heap.size) (by omega) [.int .i64 a.wide, .int .i64 a.high, .slice (some ⟨ga, 0, none⟩) a.nodes.length ca] 0
    have MA2 := MA1.beside (c := w.heap.size + 1) (by omega) [.int .i64 a.wide, .int .i64 a.high, .slice (some ⟨gb, 0, none⟩) a.nodes.length cb] 0
    have MB2 := MB1.beside (c := w.heap.size + 1) (by omega) [.int .i64 a.wide, .int .i64 a.high, .slice (some ⟨gb, 0, none⟩) a.nodes.length cb] 0
    have HE1 := D7.out.done [.int .i64 a.wide, .int .i64 a.high, .slice (some ⟨ga, 0, none⟩) a.nodes.length ca] [.int .i64 a.wide, .int .i64 a.high, .slice (some ⟨gb, 0, none⟩) a.nodes.length cb] w.heap.size (w.heap.size + 1) (.inl ⟨rfl, rfl⟩)
    simp only [sets] at MA1 MB1 MA2 MB2 HE1
    have hS1 := And.intro (MA1.cells.on (drew_on _)) (MB1.cells.on (drew_on _))
    have hS2 := And.intro (MA2.cells.on (drew_on _)) (MB2.cells.on (drew_on _))
    have HE := Lib.hid (And.intro (HE1.1.on (drew_on _)) (And.intro (HE1.2.1.on (drew_on _)) (below_on HE1.2.2 (drew_on _))))
    clear MA1 MB0 MB1 MA2 MB2 HE1 D7 D6 k5 k6 hS0
    refine oneR 2 (by kernel_rfl) (by kernel_rfl) (fun o ho K' hK => ?_)
    obtain rfl := Option.some.inj ho
    clear ho
    go_simp
    refine hK.out _ _ (hS1) (fun hHeld => ?_)
    clear hK K'
    try simp only [Act.put, sa, s0, ss]
    refine oneR 3 (by kernel_rfl) (by kernel_rfl) (fun o ho K' hK => ?_)
    obtain rfl := Option.some.inj ho
    clear ho
    go_simp
    refine hK.out _ _ (hS2) (fun hHeld => ?_)
    clear hK K'
    try simp only [Act.put, sa, s0, ss]
    refine wpAnyH_done (by kernel_rfl) ?_ _
    refine NoPanic.normal ?_
    clear hHeld hS1 hS2
    go_wp2_with fail
    refine bodyPost_ret (v := .tuple #[lyA a (.slice (some ⟨ga, 0, none⟩) a.nodes.length ca), lyA ⟨a.wide, a.high, a.nodes.set 0 (qPut (nth a.nodes 0) 2 nx)⟩ (.slice (some ⟨gb, 0, none⟩) a.nodes.length cb)]) ?_ rfl ⟨a, _, ⟨a.wide, a.high, a.nodes.set 0 (qPut (nth a.nodes 0) 2 nx)⟩, _, rfl, by omega, by simp only [List.length_set]; omega, HE.out.1, HE.out.2.1, HE.out.2.2⟩
    simp [results, Try.results44, lyA, go_sem, r0, r1, r2, s0, s1, s2]

end Go.Proofs.Ytbfickdgjgbfhaa
