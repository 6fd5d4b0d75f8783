/- Contracts of the small number functions of chapter 1: l1In, isWithin, areZero. -/
import Derived.Test.YtjmfmdebnobogaaProg
import Derived.WalkKit
import Derived.Outline
import Derived.Lib.Hide
namespace Go.Proofs.Ytjmfmdebnobogaa
open Go.RowKit

/-- a guard whose own operation was passed over says neither yes nor no -/
theorem yielded_undef : yielded.match_1 (fun _ => Option Bool) (some undef) (fun b => some b) (fun _ => none) = none := rfl
attribute [go_sem] yielded_undef

/-- a number lies in one of the ranges that the bounds, taken in pairs, give -/
def within (v : Int) : List Int → Bool
  | a :: b :: r => (decide (a ≤ v) && decide (v ≤ b)) || within v r
  | _ => false

theorem within_drop (v : Int) (bs : List Int) (k : Nat) (h : k + 1 < bs.length) :
    within v (bs.drop k) = ((decide (bs.getD k 0 ≤ v) && decide (v ≤ bs.getD (k + 1) 0)) || within v (bs.drop (k + 2))) := by
  have e1 : bs.drop k = bs.getD k 0 :: bs.getD (k + 1) 0 :: bs.drop (k + 2) := by
    rw [List.drop_eq_getElem_cons (by omega), List.drop_eq_getElem_cons h]
    simp [List.getD_eq_getElem?_getD, List.getElem?_eq_getElem h, List.getElem?_eq_getElem (show k < bs.length by omega)]
  rw [e1]; rfl

theorem within_end (v : Int) (bs : List Int) (k : Nat) (h : ¬ k + 1 < bs.length) : within v (bs.drop k) = false := by
  have hl : (bs.drop k).length ≤ 1 := by simp; omega
  match hd : bs.drop k, hl with
  | [], _ => rfl
  | [_], _ => rfl

/-- v lies from a to b -/
def inR (v a b : Int) : Bool := decide (a ≤ v) && decide (v ≤ b)

theorem ret_bool {a b : Bool} (h : a = b) : Ending.returned (.bool a) = .returned (.bool b) := by rw [h]
theorem ret_int {k : IntKind} {a b : Int} (h : a = b) : Ending.returned (.int k a) = .returned (.int k b) := by rw [h]





/-- every number of the list is 0 -/
def zeros (l : List Int) : Bool := l.all (· == 0)

theorem zeros_take (l : List Int) (k : Nat) (h : k < l.length) : zeros (l.take (k + 1)) = (zeros (l.take k) && (l[k]?.getD 0 == 0)) := by
  unfold zeros
  rw [List.take_succ_eq_append_getElem h, List.all_append]
  simp [List.getElem?_eq_getElem h]

theorem zeros_no (l : List Int) (k : Nat) (h : k < l.length) (hz : (l[k]?.getD 0 == 0) = false) : zeros l = false := by
  rw [List.getElem?_eq_getElem h] at hz
  simp [zeros]
  exact ⟨_, List.getElem_mem h, by simpa using hz⟩



theorem cells_two (w : World) (x y : Int) (t : TypeId) :
    ∀ i, i < 2 → (w.alloc (.cells #[.int .i64 x, .int .i64 y] t)).cell? ⟨w.heap.size, 0 + i, none⟩ = some (.int .i64 ([x, y].getD i 0)) := by
  intro i hi
  match i, hi with
  | 0, _ => simp
  | 1, _ => simp

theorem cells_four (w : World) (x y z u : Int) (t : TypeId) :
    ∀ i, i < 4 → (w.alloc (.cells #[.int .i64 x, .int .i64 y, .int .i64 z, .int .i64 u] t)).cell? ⟨w.heap.size, 0 + i, none⟩ = some (.int .i64 ([x, y, z, u].getD i 0)) := by
  intro i hi
  match i, hi with
  | 0, _ => simp
  | 1, _ => simp
  | 2, _ => simp
  | 3, _ => simp

theorem cells_six (w : World) (x y z u v q : Int) (t : TypeId) :
    ∀ i, i < 6 → (w.alloc (.cells #[.int .i64 x, .int .i64 y, .int .i64 z, .int .i64 u, .int .i64 v, .int .i64 q] t)).cell? ⟨w.heap.size, 0 + i, none⟩ = some (.int .i64 ([x, y, z, u, v, q].getD i 0)) := by
  intro i hi
  match i, hi with
  | 0, _ => simp
  | 1, _ => simp
  | 2, _ => simp
  | 3, _ => simp
  | 4, _ => simp
  | 5, _ => simp









end Go.Proofs.Ytjmfmdebnobogaa
