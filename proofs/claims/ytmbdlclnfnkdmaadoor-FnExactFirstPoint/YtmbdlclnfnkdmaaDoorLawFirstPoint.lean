/- The walk of the law over FirstPoint. -/
import Derived.Test.YtmbdlclnfnkdmaaDoorFirstImpl2
namespace Go.Proofs.YtmbdlclnfnkdmaaDoor
open Go.RowKit

set_option maxHeartbeats 400000 in
theorem eqPointResult_same (r : Int × Int × Int) (w : World) :
    Calls Tryd.prog 26 #[prV r, prV r] w fun e w' => e = .returned (.bool true) ∧ Below w.heap.size w w' := by
  unfold prV
  go_enter Tryd.func26, Tryd.ntmps26
  go_wp2
  go_ret
  exact ⟨rfl, ((Below.refl _ _).alloc (Nat.le_refl _) _).alloc (by simp) _⟩

/-- block b holds a PointResult -/
structure PrAt (w : World) (b : Nat) (r : Int × Int × Int) : Prop where
  c0 : w.cell? ⟨b, 0, none⟩ = some (.int .i64 r.1)
  c1 : w.cell? ⟨b, 1, none⟩ = some (.int .i64 r.2.1)
  c2 : w.cell? ⟨b, 2, none⟩ = some (.int .i64 r.2.2)
theorem PrAt.lt {w : World} {b : Nat} {r : Int × Int × Int} (h : PrAt w b r) : b < w.heap.size := World.block_lt_of_cell? _ _ h.c0
theorem PrAt.on {w w' : World} {b : Nat} {r : Int × Int × Int} (h : PrAt w b r) (hb : Below w.heap.size w w') : PrAt w' b r :=
  ⟨(hb.cell (p := ⟨b, 0, none⟩) h.lt).trans h.c0, (hb.cell (p := ⟨b, 1, none⟩) h.lt).trans h.c1, (hb.cell (p := ⟨b, 2, none⟩) h.lt).trans h.c2⟩
theorem PrAt.new (w : World) (r : Int × Int × Int) (t : TypeId) : PrAt (w.alloc (.cells #[.int .i64 r.1, .int .i64 r.2.1, .int .i64 r.2.2] t)) w.heap.size r := by constructor <;> simp
theorem below_new (w : World) (o : Obj) : Below w.heap.size w (w.alloc o) := (Below.refl _ _).alloc (Nat.le_refl _) o

set_option maxHeartbeats 2000000 in
theorem lawFirstPoint_any (q : Option Addr) (c : Nat) (l : List UInt8) (w : World) (h : Bs w w.heap.size q l) (ht : Tabs w) :
    Calls Tryd.prog 4 #[.slice q l.length c] w fun e w' => e = .returned (.bool true) ∧ Below w.heap.size w w' := by
  by_cases hl : (1048576 : Int) < (l.length : Int)
  · go_enter Tryd.func4, Tryd.ntmps4
    go_wp2
    go_ret
    exact ⟨rfl, Below.refl _ _⟩
  have HS := Lib.hid (same_point l)
  go_enter Tryd.func4, Tryd.ntmps4
  go_wp2_with fail
  refine (toByteS_new _ _ _ _ h (by omega)).mono ?_
  rintro e w1 ⟨p1, rfl, n1, b1⟩
  go_wp2_with fail
  refine (specFirstPoint_any p1 l.length l _ n1 (by omega) (Nat.le_refl _)).mono ?_
  rintro e w2 ⟨rfl, b2⟩
  rw [← HS.out]
  unfold prV
  have X := PrAt.new w2 (implFP l) 30
  have B2 := below_new w2 (.cells #[.int .i64 (implFP l).1, .int .i64 (implFP l).2.1, .int .i64 (implFP l).2.2] 30)
  have b12 := below_on (below_on b1 b2) B2
  go_wp2_with fail
  refine (toByteS_new _ _ _ _ (h.on b12) (by omega)).mono ?_
  rintro e w3 ⟨p3, rfl, n3, b3⟩
  have b13 := below_on b12 b3
  go_wp2_with fail
  refine (implFirstPoint_any p3 l.length l _ n3 (ht.on b13) (by omega)).mono ?_
  rintro e w4 ⟨rfl, b4⟩
  unfold prV
  have B4 := below_new w4 (.cells #[.int .i64 (implFP l).1, .int .i64 (implFP l).2.1, .int .i64 (implFP l).2.2] 30)
  obtain ⟨x0, x1, x2⟩ := ((X.on b3).on b4).on B4
  have b14 := below_on (below_on b13 b4) B4
  have n34 := (n3.on b4).on B4
  go_wp2_with fail
  refine (eqPointResult_same (implFP l) _).mono ?_
  rintro e w5 ⟨rfl, b5⟩
  clear x0 x1 x2
  have b15 := below_on b14 b5
  go_wp2_with fail
  refine (toByteS_new _ _ _ _ (h.on b15) (by omega)).mono ?_
  rintro e w6 ⟨p6, rfl, n6, b6⟩
  go_wp2_with fail
  refine (eqByteS_same _ _ _ _ _ _ ((n34.on b5).on b6) n6 (by omega)).mono ?_
  rintro e w7 ⟨rfl, b7⟩
  go_wp2_with fail
  go_ret
  exact ⟨rfl, below_on (below_on b15 b6) b7⟩

end Go.Proofs.YtmbdlclnfnkdmaaDoor
