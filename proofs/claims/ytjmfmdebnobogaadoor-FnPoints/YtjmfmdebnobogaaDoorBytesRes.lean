/- The contracts over impl.BytesResult: PutPoint of the model and of the program; eqBytesResult, markBytesResult, heldBytesResult. -/
import Derived.Test.YtjmfmdebnobogaaDoorMarks
namespace Go.Proofs.YtjmfmdebnobogaaDoor
open Go.RowKit

/-- a BytesResult as a value -/
def brV (code : Int) (v : Value) : Value := .agg #[.int .i64 code, v]

/-- what a call leaves that hands back a code and new bytes -/
def NewBr (w : World) (code : Int) (l : List UInt8) (e : Ending) (w' : World) : Prop :=
  ∃ v, e = .returned (brV code v) ∧ Own w' w.heap.size v l ∧ Below w.heap.size w w'

def putCode (p : Int) : Int := if point p = true then 0 else 3
def putRes (p : Int) : List UInt8 := if point p = true then putB p else []

/-- the result's cell written behind the callee's own memory -/
theorem br_end {w w1 : World} {o : Obj} {code : Int} {v u1 u2 : Value} {l : List UInt8} (ho : Own w1 (w.alloc o).heap.size v l) (hb : Below (w.alloc o).heap.size (w.alloc o) w1) :
    NewBr w code l (.returned (brV code v)) ((w1.setCell ⟨w.heap.size, 0, none⟩ u1).setCell ⟨w.heap.size, 1, none⟩ u2) := by
  have hz : w.heap.size < (w.alloc o).heap.size := by simp
  refine ⟨v, rfl, ((ho.setBelow (a := ⟨w.heap.size, 0, none⟩) hz u1).setBelow (a := ⟨w.heap.size, 1, none⟩) hz u2).lower (by simp), ?_⟩
  exact ((below_on ((Below.refl _ _).alloc (Nat.le_refl _) o) hb).setCell (Nat.le_refl _) _).setCell (Nat.le_refl _) _

set_option maxHeartbeats 1000000 in
theorem specPutPoint_any (p : Int) (w : World) : Calls Tryd.prog 16 #[.int .i64 p] w (NewBr w (putCode p) (putRes p)) := by
  cases h : point p
  · have HP : Hid (putCode p = 3 ∧ putRes p = []) := by simp [Hid, putCode, putRes, h]
    go_enter Tryd.func16, Tryd.ntmps16
    go_wp2_with (go_at_call 55; refine (l1Point_any _ _).mono ?_; rintro e w1 ⟨rfl, rfl⟩)
    rw [HP.out.1, HP.out.2]
    exact bodyPost_ret (v := brV 3 (.slice none 0 0)) (by simp [results, Tryd.results16, brV, go_sem]) rfl ⟨_, rfl, own_nil _ _, (Below.refl _ _).alloc (Nat.le_refl _) _⟩
  · have HP : Hid (putCode p = 0 ∧ putRes p = putB p) := by simp [Hid, putCode, putRes, h]
    obtain ⟨h0, h1, _⟩ := point_range h
    go_enter Tryd.func16, Tryd.ntmps16
    go_wp2_with (first
      | (go_at_call 55; refine (l1Point_any _ _).mono ?_; rintro e w1 ⟨rfl, rfl⟩)
      | (go_at_call 46; refine (l1Put_any _ _ h0 h1).mono ?_; rintro e w1 ⟨v, rfl, ho, hb⟩; obtain ⟨hc, hf⟩ := bcell hb; obtain ⟨pp, cc, hv⟩ := ho.slice; subst hv))
    rw [HP.out.1, HP.out.2]
    exact bodyPost_ret (v := brV 0 (.slice pp (putB p).length cc)) (by simp [results, Tryd.results16, brV, go_sem, hc]) rfl (br_end ho hb)

set_option maxHeartbeats 1000000 in
theorem implPutPoint_any (p : Int) (w : World) : Calls Tryd.prog 8 #[.int .i64 p] w (NewBr w (putCode p) (putRes p)) := by
  cases h : point p
  · have HP : Hid (putCode p = 3 ∧ putRes p = []) := by simp [Hid, putCode, putRes, h]
    go_enter Tryd.func8, Tryd.ntmps8
    go_wp2_with (go_at_call 44; refine (implIsPoint_any _ _).mono ?_; rintro e w1 ⟨rfl, hb⟩; obtain ⟨hc, hf⟩ := bcell hb)
    rw [HP.out.1, HP.out.2]
    exact bodyPost_ret (v := brV 3 (.slice none 0 0)) (by simp [results, Tryd.results8, brV, go_sem, hc]) rfl (br_end (own_nil _ _) hb)
  · have HP : Hid (putCode p = 0 ∧ putRes p = putB p) := by simp [Hid, putCode, putRes, h]
    obtain ⟨h0, h1, _⟩ := point_range h
    go_enter Tryd.func8, Tryd.ntmps8
    go_wp2_with (first
      | (go_at_call 44; refine (implIsPoint_any _ _).mono ?_; rintro e w1 ⟨rfl, hb1⟩; obtain ⟨hc1, hf1⟩ := bcell hb1)
      | (go_at_call 45; refine (appendRune_any p _ h).mono ?_; rintro e w2 ⟨v, rfl, ho, hb2⟩; have hc := bcell_at hb2 w.heap.size (by have := hb1.size; simp at this; omega); have hf := bfrozen_at hb2 w.heap.size (by have := hb1.size; simp at this; omega); obtain ⟨pp, cc, hv⟩ := ho.slice; subst hv))
    rw [HP.out.1, HP.out.2]
    exact bodyPost_ret (v := brV 0 (.slice pp (putB p).length cc)) (by simp [results, Tryd.results8, brV, go_sem, hc, hc1]) rfl (br_end (ho.lower hb1.size) (below_on hb1 hb2))

set_option maxHeartbeats 1000000 in
theorem eqBytesResult_same (code : Int) (p q : Option Addr) (c d : Nat) (l : List UInt8) (w : World) (h : Bs w w.heap.size p l) (k : Bs w w.heap.size q l) (hl : l.length ≤ 1048576) :
    Calls Tryd.prog 37 #[brV code (.slice p l.length c), brV code (.slice q l.length d)] w fun en w' => en = .returned (.bool true) ∧ Below w.heap.size w w' := by
  unfold brV
  go_enter Tryd.func37, Tryd.ntmps37
  go_wp2_with fail
  refine (eqByteS_same _ _ _ _ _ _ ((h.alloc _).alloc _) ((k.alloc _).alloc _) hl).mono ?_
  rintro en w1 ⟨rfl, hb⟩
  go_wp2
  go_ret
  exact ⟨rfl, below_on (((Below.refl _ _).alloc (Nat.le_refl _) _).alloc (by simp) _) hb⟩

theorem grown_alloc {w w' : World} {o : Obj} {row : Option Nat} (h : (w.alloc o).grownBy w' row) : w.grownBy w' row :=
  grown_trans (grown_of_below ((Below.refl _ _).alloc (Nat.le_refl _) o) row) h

set_option maxHeartbeats 1000000 in
theorem markBytesResult_any (w : World) (base k : Nat) (code : Int) (p : Option Addr) (c : Nat) (l : List UInt8) (h : Own w base (.slice p l.length c) l) (hl : l.length ≤ 1048576) (hk : k ≤ 1048576) :
    Calls Tryd.prog 40 #[brV code (.slice p l.length c), .int .i64 k] w (Marked w base (.slice p l.length c) l k) := by
  unfold brV
  go_enter Tryd.func40, Tryd.ntmps40
  go_wp2_with (go_at_call 78; refine (markByteS_any _ base k _ l (h.on ((Below.refl _ _).alloc (Nat.le_refl _) _)) hl hk).mono ?_; rintro e w1 ⟨rfl, ho, hg⟩)
  go_ret
  exact ⟨rfl, ho, grown_alloc hg⟩

set_option maxHeartbeats 1000000 in
theorem heldBytesResult_any (w : World) (k : Nat) (code : Int) (p : Option Addr) (c : Nat) (l : List UInt8) (h : Bs w w.heap.size p l) (hm : l = marksL k l.length) (hl : l.length ≤ 1048576) (hk : k ≤ 1048576) :
    Calls Tryd.prog 41 #[brV code (.slice p l.length c), .int .i64 k] w fun en w' => en = .returned (.int .i64 ((k + l.length : Nat) : Int)) ∧ Below w.heap.size w w' := by
  have HM := Lib.hid hm
  clear hm
  unfold brV
  go_enter Tryd.func41, Tryd.ntmps41
  go_wp2_with (go_at_call 79; refine (heldByteS_any _ _ _ k l (h.alloc _) HM.out hl hk).mono ?_; rintro e w1 ⟨rfl, rfl⟩)
  go_ret
  exact ⟨rfl, (Below.refl _ _).alloc (Nat.le_refl _) _⟩

end Go.Proofs.YtjmfmdebnobogaaDoor
