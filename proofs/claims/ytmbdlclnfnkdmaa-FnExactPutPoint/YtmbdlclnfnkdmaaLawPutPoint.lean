/- The walk of the law over PutPoint. -/
import Derived.Test.YtmbdlclnfnkdmaaBytesRes
namespace Go.Proofs.Ytmbdlclnfnkdmaa
open Go.RowKit

/-- block b holds a BytesResult -/
structure BrAt (w : World) (b : Nat) (code : Int) (v : Value) : Prop where
  c0 : w.cell? ⟨b, 0, none⟩ = some (.int .i64 code)
  c1 : w.cell? ⟨b, 1, none⟩ = some v
theorem BrAt.keep {w w' : World} {b : Nat} {code : Int} {v : Value} (h : BrAt w b code v) (hk : ∀ o, w'.cell? ⟨b, o, none⟩ = w.cell? ⟨b, o, none⟩) : BrAt w' b code v := ⟨(hk _).trans h.c0, (hk _).trans h.c1⟩
theorem BrAt.lt {w : World} {b : Nat} {code : Int} {v : Value} (h : BrAt w b code v) : b < w.heap.size := World.block_lt_of_cell? _ _ h.c0
theorem BrAt.on {w w' : World} {b : Nat} {code : Int} {v : Value} (h : BrAt w b code v) (hb : Below w.heap.size w w') : BrAt w' b code v := h.keep fun o => hb.cell (p := ⟨b, o, none⟩) h.lt
theorem BrAt.far {w w' : World} {b : Nat} {code : Int} {v : Value} (h : BrAt w b code v) {row : Option Nat} (hg : w.grownBy w' row) (hr : some b ≠ row) : BrAt w' b code v :=
  h.keep fun o => World.cell?_of_block (a := ⟨b, o, none⟩) (hg.block b h.lt hr)
theorem BrAt.new (w : World) (code : Int) (v : Value) (t : TypeId) : BrAt (w.alloc (.cells #[.int .i64 code, v] t)) w.heap.size code v := by constructor <;> simp
theorem below_new (w : World) (o : Obj) : Below w.heap.size w (w.alloc o) := (Below.refl _ _).alloc (Nat.le_refl _) o
theorem putRes_small (p : Int) : (putRes p).length ≤ 4 := by
  unfold putRes
  split
  · rw [put_len]; exact (put_small p).2
  · simp

theorem heldBytesResult_marks (w : World) (k n : Nat) (code : Int) (p : Option Addr) (c : Nat) (h : Bs w w.heap.size p (marksL k n)) (hl : n ≤ 1048576) (hk : k ≤ 1048576) :
    Calls Try.prog 12 #[brV code (.slice p n c), .int .i64 k] w fun en w' => en = .returned (.int .i64 ((k + n : Nat) : Int)) ∧ Below w.heap.size w w' := by
  have := heldBytesResult_any w k code p c (marksL k n) h (by rw [marksL_length]) (by rw [marksL_length]; exact hl) hk
  rw [marksL_length] at this
  exact this

set_option maxHeartbeats 4000000 in
theorem lawPutPoint_any (p : Int) (w : World) :
    Calls Try.prog 3 #[.int .i64 p] w fun en w' => en = .returned (.bool true) ∧ Below w.heap.size w w' := by
  have hl := putRes_small p
  go_enter Try.func3, Try.ntmps3
  go_wp2_with fail
  refine (specPutPoint_any p _).mono ?_
  rintro e w1 ⟨v, rfl, o1, b1⟩
  obtain ⟨p1, c1, hv⟩ := o1.slice
  subst hv
  unfold brV
  have X1 := BrAt.new w1 (putCode p) (.slice p1 (putRes p).length c1) 24
  have B1 := below_new w1 (.cells #[.int .i64 (putCode p), .slice p1 (putRes p).length c1] 24)
  go_wp2_with fail
  refine (implPutPoint_any p _).mono ?_
  rintro e w2 ⟨v, rfl, o2, b2⟩
  obtain ⟨p2, c2, hv⟩ := o2.slice
  subst hv
  unfold brV
  have X2 := BrAt.new w2 (putCode p) (.slice p2 (putRes p).length c2) 24
  have B2 := below_new w2 (.cells #[.int .i64 (putCode p), .slice p2 (putRes p).length c2] 24)
  have Y1 := (X1.on b2).on B2
  obtain ⟨y0, y1⟩ := id Y1
  go_wp2_with fail
  refine (eqBytesResult_same (putCode p) _ _ _ _ (putRes p) _ (o2.bs.2.on B2) (((o1.bs.2.on B1).on b2).on B2) (by omega)).mono ?_
  rintro e w3 ⟨rfl, b3⟩
  have Y2 := X2.on b3
  obtain ⟨z0, z1⟩ := id Y2
  clear y0 y1
  go_wp2_with fail
  refine (markBytesResult_any _ _ 1 (putCode p) p2 c2 (putRes p) ((o2.on B2).on b3) (by omega) (by omega)).mono ?_
  rintro e w4 ⟨rfl, o4, g4⟩
  have r2 : ∀ g, (Value.slice p2 (putRes p).length c2).ownBlock = some g → w1.heap.size < g ∧ g < w2.heap.size := fun g hg => by
    have h := o2.lt g hg
    simp at h
    omega
  have N1 : some w1.heap.size ≠ (Value.slice p2 (putRes p).length c2).ownBlock := fun e => by have := r2 _ e.symm; omega
  have N2 : some w2.heap.size ≠ (Value.slice p2 (putRes p).length c2).ownBlock := fun e => by have := r2 _ e.symm; omega
  have Z1 := (Y1.on b3).far g4 N1
  have Z2 := Y2.far g4 N2
  have O1 := ((((o1.on B1).on b2).on B2).on b3).far g4 (fun g hg => fun e => by have h1 := o1.lt g hg; have h2 := r2 g e.symm; omega)
  have D4 : Below w.heap.size w w4 := (below_on (below_on (below_on (below_on b1 B1) b2) B2) b3).trans (below_of_grown g4 (by have := b3.size; have := B2.size; have := b2.size; have := B1.size; have := b1.size; omega) (fun g hg => by have := (r2 g hg).1; have := b1.size; omega))
  clear z0 z1 X1 X2 Y1 Y2
  obtain ⟨z0, z1⟩ := id Z2
  go_wp2_with fail
  refine (heldBytesResult_marks _ 1 (putRes p).length (putCode p) p2 c2 o4.bs.2 (by omega) (by omega)).mono ?_
  rintro e w5 ⟨rfl, b5⟩
  go_wp2_with fail
  refine (implPutPoint_any p _).mono ?_
  rintro e w6 ⟨v, rfl, o6, b6⟩
  obtain ⟨p6, c6, hv⟩ := o6.slice
  subst hv
  unfold brV
  have B6 := below_new w6 (.cells #[.int .i64 (putCode p), .slice p6 (putRes p).length c6] 24)
  clear z0 z1
  obtain ⟨z0, z1⟩ := ((Z1.on b5).on b6).on B6
  go_wp2_with fail
  refine (eqBytesResult_same (putCode p) _ _ _ _ (putRes p) _ (o6.bs.2.on B6) (((O1.on b5).on b6).on B6).bs.2 (by omega)).mono ?_
  rintro e w7 ⟨rfl, b7⟩
  clear z0 z1
  obtain ⟨z0, z1⟩ := (((Z2.on b5).on b6).on B6).on b7
  go_wp2_with fail
  refine (heldBytesResult_marks _ 1 (putRes p).length (putCode p) p2 c2 ((((o4.on b5).on b6).on B6).on b7).bs.2 (by omega) (by omega)).mono ?_
  rintro e w8 ⟨rfl, b8⟩
  go_wp2_with fail
  go_ret
  exact ⟨rfl, below_on (below_on (below_on (below_on (below_on D4 b5) b6) B6) b7) b8⟩

end Go.Proofs.Ytmbdlclnfnkdmaa
