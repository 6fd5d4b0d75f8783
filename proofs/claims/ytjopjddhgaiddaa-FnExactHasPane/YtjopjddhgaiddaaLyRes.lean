/- RectsOf, RectOf, HasPane of the program and of the model. -/
import Derived.Test.YtjopjddhgaiddaaLyRect
namespace Go.Proofs.Ytjopjddhgaiddaa
open Go.RowKit
set_option linter.unusedVariables false

def rrV (c : Int) (v : Value) : Value := .agg #[.int .i64 c, v]
def rrOf (x : Ly) : Int × List Q := if lyFault x = 0 then (0, lyRects x) else (lyFault x, [])
def findQ (pn : Int) : List Q → List Q
  | [] => []
  | r :: t => if r.x0 == pn then [r] else findQ pn t
def roOf (x : Ly) (pn : Int) : Int × List Q := if lyFault x = 0 then (if (findQ pn (lyRects x)).isEmpty then (4, []) else (0, findQ pn (lyRects x))) else (lyFault x, [])
def lyHas (x : Ly) (pn : Int) : Bool := decide (lyFault x = 0) && hasB x.nodes pn

/-- what a call leaves that hands back a RectsResult in memory of its own -/
def NewRr (w : World) (r : Int × List Q) (e : Ending) (w' : World) : Prop := ∃ v, e = .returned (rrV r.1 v) ∧ OwnQ 59 w' w.heap.size v r.2 ∧ Below w.heap.size w w'
/-- .. in memory that nobody else had -/
def NewRx (w : World) (r : Int × List Q) (e : Ending) (w' : World) : Prop := ∃ p c, e = .returned (rrV r.1 (.slice p r.2.length c)) ∧ Qx w' w.heap.size w'.heap.size p r.2 ∧ Below w.heap.size w w'

theorem AtL.two {w : World} {b : Nat} {v0 v1 : Value} (h : AtL w b [v0, v1]) : w.cell? ⟨b, 0, none⟩ = some v0 ∧ w.cell? ⟨b, 1, none⟩ = some v1 := ⟨h.get 0 rfl, h.get 1 rfl⟩
theorem rr_own {w W : World} {v : Value} {l : List Q} {B : Nat} (ho : OwnQ 59 W B v l) (hB : w.heap.size + 1 < B) (hb : Below w.heap.size w W) (u0 u1 : Value) :
    OwnQ 59 ((W.setCell ⟨w.heap.size + 1, 0, none⟩ u0).setCell ⟨w.heap.size + 1, 1, none⟩ u1) w.heap.size v l ∧ Below w.heap.size w ((W.setCell ⟨w.heap.size + 1, 0, none⟩ u0).setCell ⟨w.heap.size + 1, 1, none⟩ u1) :=
  ⟨((ho.setBelow (by exact hB) u0).setBelow (by exact hB) u1).lower (by omega), (hb.setCell (by show w.heap.size ≤ w.heap.size + 1; omega) u0).setCell (by show w.heap.size ≤ w.heap.size + 1; omega) u1⟩
theorem rr_low {w W : World} (hb : Below w.heap.size w W) (u0 u1 : Value) : Below w.heap.size w ((W.setCell ⟨w.heap.size + 1, 0, none⟩ u0).setCell ⟨w.heap.size + 1, 1, none⟩ u1) :=
  (hb.setCell (by show w.heap.size ≤ w.heap.size + 1; omega) u0).setCell (by show w.heap.size ≤ w.heap.size + 1; omega) u1

/-- the layout boxed, and the cell of the answer -/
structure TwoAt (w : World) (x : Ly) (p : Option Addr) (c : Nat) (W : World) : Prop where
  ly : LyAt W w.heap.size x p c
  res : AtM W (w.heap.size + 1) [.int .i64 0, .slice none 0 0]
  below : Below w.heap.size w W
theorem TwoAt.on {w W W' : World} {x : Ly} {p : Option Addr} {c : Nat} (h : TwoAt w x p c W) (hb : Below W.heap.size W W') : TwoAt w x p c W' := ⟨h.ly.on hb, h.res.on hb, below_on h.below hb⟩
theorem TwoAt.start (w : World) (x : Ly) (p : Option Addr) (c : Nat) (t t' : TypeId) (h : Qs w w.heap.size p x.nodes) : TwoAt w x p c ((w.alloc (.cells #[.int .i64 x.wide, .int .i64 x.high, .slice p x.nodes.length c] t)).alloc (.cells #[.int .i64 0, .slice none 0 0] t')) := by
  have hX := (LyAt.new w x p c t h).on (below_mk _ (.cells #[.int .i64 0, .slice none 0 0] t'))
  have hR := AtM.new (w.alloc (.cells (lyL x p c).toArray t)) [.int .i64 0, .slice none 0 0] t'
  rw [World.size_alloc] at hR
  exact ⟨hX, hR, below_on (below_mk _ _) (below_mk _ _)⟩

set_option maxRecDepth 100000 in
set_option maxHeartbeats 2000000 in
theorem implRectsOf_any (x : Ly) (p : Option Addr) (c : Nat) (w : World) (h : Qs w w.heap.size p x.nodes) (hl : x.nodes.length ≤ 1048576) :
    Calls Try.prog 18 #[.agg #[.int .i64 x.wide, .int .i64 x.high, .slice p x.nodes.length c]] w (NewRr w (rrOf x)) := by
  have HX := Lib.hid (TwoAt.start w x p c 29 36 h)
  have HF := Lib.hid (fun W h => implLayoutFault_any x p c W h hl)
  clear h
  by_cases hf : lyFault x = 0
  · have e : rrOf x = (0, lyRects x) := by unfold rrOf; rw [if_pos hf]
    rw [e]
    rw [hf] at HF
    obtain ⟨R, hr, ht, -⟩ := run_of_fault hf
    have HP := Lib.hid (fun W h => paneRects_any x p c W h ht R hr)
    clear hf e hr ht
    go_enter Try.func18, Try.ntmps18
    go_wp2_with fail
    refine (HF.out _ HX.out.ly.nodes).mono ?_
    rintro e w1 ⟨rfl, b1⟩
    have HX1 := Lib.hid (HX.out.on b1)
    obtain ⟨x0, x1, x2⟩ := HX1.out.ly.cells.tri
    clear b1 HX
    go_wp2_with fail
    refine (HP.out w1 HX1.out.ly.nodes).mono ?_
    rintro e w2 ⟨v, rfl, ov, b2⟩
    have HX2 := Lib.hid (HX1.out.on b2)
    obtain ⟨z0, z1⟩ := HX2.out.res.cells.two
    have zf := HX2.out.res.free
    have hsz := HX1.out.res.cells.1
    obtain ⟨pv, cv, rfl⟩ := ov.slice
    have HV := Lib.hid ov
    clear b2 ov x0 x1 x2
    go_wp2
    obtain ⟨q1, q2⟩ := rr_own (w := w) HV.out (by omega) HX2.out.below (.int .i64 0) (.slice pv (lyRects x).length cv)
    exact bodyPost_ret (v := rrV 0 (.slice pv (lyRects x).length cv)) (by simp [results, Try.results18, rrV, go_sem, z0, z1]) rfl ⟨_, rfl, q1, q2⟩
  · have e : rrOf x = (lyFault x, []) := by unfold rrOf; rw [if_neg hf]
    rw [e]
    have hf2 : (lyFault x != 0) = true := by simpa using hf
    clear hf e
    generalize lyFault x = k at *
    go_enter Try.func18, Try.ntmps18
    go_wp2_with fail
    refine (HF.out _ HX.out.ly.nodes).mono ?_
    rintro e w1 ⟨rfl, b1⟩
    have HX1 := Lib.hid (HX.out.on b1)
    obtain ⟨z0, z1⟩ := HX1.out.res.cells.two
    have zf := HX1.out.res.free
    clear b1 HX
    go_wp2
    exact bodyPost_ret (v := rrV k (.slice none 0 0)) (by simp [results, Try.results18, rrV, go_sem, z0, z1]) rfl ⟨_, rfl, ownQ_nil _ _ _, rr_low HX1.out.below _ _⟩

set_option maxRecDepth 100000 in
set_option maxHeartbeats 2000000 in
theorem specRectsOf_any (x : Ly) (p : Option Addr) (c : Nat) (w : World) (h : Qs w w.heap.size p x.nodes) (hl : x.nodes.length ≤ 1048576) :
    Calls Try.prog 17 #[.agg #[.int .i64 x.wide, .int .i64 x.high, .slice p x.nodes.length c]] w (NewRr w (rrOf x)) := by
  have HX := Lib.hid (TwoAt.start w x p c 29 36 h)
  have HF := Lib.hid (fun W h => specLayoutFault_any x p c W h hl)
  clear h
  by_cases hf : lyFault x = 0
  · have e : rrOf x = (0, lyRects x) := by unfold rrOf; rw [if_pos hf]
    rw [e]
    rw [hf] at HF
    obtain ⟨R, hr, ht, -⟩ := run_of_fault hf
    have HP := Lib.hid (fun b W h => l6All_any x p c b W h ht.n0 ht.n1 ht.okay ht.wide ht.high)
    clear hf e hr ht
    go_enter Try.func17, Try.ntmps17
    go_wp2_with fail
    refine (HF.out _ HX.out.ly.nodes).mono ?_
    rintro e w1 ⟨rfl, b1⟩
    have HX1 := Lib.hid (HX.out.on b1)
    obtain ⟨x0, x1, x2⟩ := HX1.out.ly.cells.tri
    clear b1 HX
    go_wp2_with fail
    refine (HP.out _ w1 HX1.out.ly).mono ?_
    rintro e w2 ⟨v, rfl, ov, b2⟩
    have HX2 := Lib.hid (HX1.out.on b2)
    obtain ⟨z0, z1⟩ := HX2.out.res.cells.two
    have zf := HX2.out.res.free
    have hsz := HX1.out.res.cells.1
    obtain ⟨pv, cv, rfl⟩ := ov.slice
    have HV := Lib.hid ov
    clear b2 ov x0 x1 x2
    go_wp2
    obtain ⟨q1, q2⟩ := rr_own (w := w) HV.out (by omega) HX2.out.below (.int .i64 0) (.slice pv (lyRects x).length cv)
    exact bodyPost_ret (v := rrV 0 (.slice pv (lyRects x).length cv)) (by simp [results, Try.results17, rrV, go_sem, z0, z1]) rfl ⟨_, rfl, q1, q2⟩
  · have e : rrOf x = (lyFault x, []) := by unfold rrOf; rw [if_neg hf]
    rw [e]
    have hf2 : (lyFault x != 0) = true := by simpa using hf
    clear hf e
    generalize lyFault x = k at *
    go_enter Try.func17, Try.ntmps17
    go_wp2_with fail
    refine (HF.out _ HX.out.ly.nodes).mono ?_
    rintro e w1 ⟨rfl, b1⟩
    have HX1 := Lib.hid (HX.out.on b1)
    obtain ⟨z0, z1⟩ := HX1.out.res.cells.two
    have zf := HX1.out.res.free
    clear b1 HX
    go_wp2
    exact bodyPost_ret (v := rrV k (.slice none 0 0)) (by simp [results, Try.results17, rrV, go_sem, z0, z1]) rfl ⟨_, rfl, ownQ_nil _ _ _, rr_low HX1.out.below _ _⟩

end Go.Proofs.Ytjopjddhgaiddaa
