/- Contracts of the small number functions of chapter 1: l1In, isWithin, areZero. -/
import Derived.Test.YtjopjddhgaiddabGreatDoorProg
import Derived.WalkKit
import Derived.Outline
import Derived.Lib.Hide
namespace Go.Proofs.YtjopjddhgaiddabGreatDoor
open Go.RowKit

/-- a guard whose own operation was passed over says neither yes nor no -/
theorem yielded_undef : yielded.match_1 (fun _ => Option Bool) (some undef) (fun b => some b) (fun _ => none) = none := rfl
attribute [go_sem] yielded_undef

/-- a number lies in one of the ranges that the bounds, taken in pairs, give -/
def within (v : Int) : List Int → Bool
  | a :: b :: r => (decide (a ≤ v) && decide (v ≤ b)) || within v r
  | _ => false

theorem within_drop (v : Int) (bs : List Int) (k : Nat) (h : k + 1 < bs.length) :
    within v (bs.drop k) = ((decide (bs.getD k 0 ≤ v) && decide (v ≤ bs.getD (k + 1) 0)) || within v (bs.drop (k + 2))) := by
  have e1 : bs.drop k = bs.getD k 0 :: bs.getD (k + 1) 0 :: bs.drop (k + 2) := by
    rw [List.drop_eq_getElem_cons (by omega), List.drop_eq_getElem_cons h]
    simp [List.getD_eq_getElem?_getD, List.getElem?_eq_getElem h, List.getElem?_eq_getElem (show k < bs.length by omega)]
  rw [e1]; rfl

theorem within_end (v : Int) (bs : List Int) (k : Nat) (h : ¬ k + 1 < bs.length) : within v (bs.drop k) = false := by
  have hl : (bs.drop k).length ≤ 1 := by simp; omega
  match hd : bs.drop k, hl with
  | [], _ => rfl
  | [_], _ => rfl

/-- v lies from a to b -/
def inR (v a b : Int) : Bool := decide (a ≤ v) && decide (v ≤ b)

theorem ret_bool {a b : Bool} (h : a = b) : Ending.returned (.bool a) = .returned (.bool b) := by rw [h]
theorem ret_int {k : IntKind} {a b : Int} (h : a = b) : Ending.returned (.int k a) = .returned (.int k b) := by rw [h]

set_option maxHeartbeats 400000 in
theorem l1In_any (v a b : Int) (w : World) :
    Calls Tryz.prog 70 #[.int .i64 v, .int .i64 a, .int .i64 b] w fun e w' => e = .returned (.bool (inR v a b)) ∧ w = w' := by
  by_cases h1 : a ≤ v
  · go_enter Tryz.func70, Tryz.ntmps70
    go_wp2
    all_goals
      go_ret
      exact ⟨ret_bool (by simp [inR, *]), rfl⟩
  · go_enter Tryz.func70, Tryz.ntmps70
    go_wp2
    go_ret
    exact ⟨ret_bool (by simp [inR]; omega), rfl⟩

set_option maxHeartbeats 800000 in
theorem isWithin_any (v : Int) (b off n c : Nat) (bs : List Int) (w : World) (hn : bs.length = n) (hm : n ≤ 1000)
    (hc : ∀ i, i < n → w.cell? ⟨b, off + i, none⟩ = some (.int .i64 (bs.getD i 0))) :
    Calls Tryz.prog 62 #[.int .i64 v, .slice (some ⟨b, off, none⟩) n c] w fun e w' => e = .returned (.bool (within v bs)) ∧ w = w' := by
  have HN := Lib.hid hn
  have HC := Lib.hid hc
  clear hn hc
  go_enter Tryz.func62, Tryz.ntmps62
  go_wp2
  go_loop [5] (fun i => ∃ k : Nat, k ≤ n + 1 ∧ i = .int .i64 (k + 1 : Nat) ∧ within v bs = within v (bs.drop k)) (fun i => n + 3 - (intOf i).toNat)
  case atStart => exact ⟨0, by omega, rfl, rfl⟩
  case round =>
    obtain ⟨k, hk, rfl, hw⟩ := hrel
    have HW := Lib.hid hw
    clear hw
    by_cases hlt : k + 1 < n
    · have c0 := HC.out k (by omega)
      have c1 := HC.out (k + 1) hlt
      have HS := Lib.hid (within_drop v bs k (by rw [HN.out]; exact hlt))
      have hlt2 : ((k + 1 : Nat) : Int) < (n : Int) := by omega
      go_wp2
      · have h1 : bs[k]?.getD 0 ≤ v := by assumption
        have h2 : v ≤ bs[k + 1]?.getD 0 := by assumption
        go_ret
        exact ⟨ret_bool (by rw [HW.out, HS.out]; simp [h1, h2]), rfl⟩
      · have h2 : bs[k + 1]?.getD 0 < v := by assumption
        exact ⟨⟨k + 2, by omega, by go_num, by rw [HW.out, HS.out]; simp; omega⟩, by simp [intOf]; omega⟩
      · have h1 : ¬ bs[k]?.getD 0 ≤ v := by assumption
        exact ⟨⟨k + 2, by omega, by go_num, by rw [HW.out, HS.out]; simp [h1]⟩, by simp [intOf]; omega⟩
    · have HE := Lib.hid (within_end v bs k (by rw [HN.out]; exact hlt))
      have hlt2 : ¬ ((k + 1 : Nat) : Int) < (n : Int) := by omega
      go_wp2
      go_ret
      exact ⟨ret_bool (by rw [HW.out, HE.out]), rfl⟩

/-- every number of the list is 0 -/
def zeros (l : List Int) : Bool := l.all (· == 0)

theorem zeros_take (l : List Int) (k : Nat) (h : k < l.length) : zeros (l.take (k + 1)) = (zeros (l.take k) && (l[k]?.getD 0 == 0)) := by
  unfold zeros
  rw [List.take_succ_eq_append_getElem h, List.all_append]
  simp [List.getElem?_eq_getElem h]

theorem zeros_no (l : List Int) (k : Nat) (h : k < l.length) (hz : (l[k]?.getD 0 == 0) = false) : zeros l = false := by
  rw [List.getElem?_eq_getElem h] at hz
  simp [zeros]
  exact ⟨_, List.getElem_mem h, by simpa using hz⟩

set_option maxHeartbeats 800000 in
theorem areZero_any (b off n c : Nat) (bs : List Int) (w : World) (hn : bs.length = n) (hm : n ≤ 1000)
    (hc : ∀ i, i < n → w.cell? ⟨b, off + i, none⟩ = some (.int .i64 (bs.getD i 0))) :
    Calls Tryz.prog 117 #[.slice (some ⟨b, off, none⟩) n c] w fun e w' => e = .returned (.bool (zeros bs)) ∧ w = w' := by
  have HN := Lib.hid hn
  have HC := Lib.hid hc
  clear hn hc
  go_enter Tryz.func117, Tryz.ntmps117
  go_wp2
  go_loop [4, 7] (fun _ i => ∃ k : Nat, k ≤ n ∧ i = .int .i64 k ∧ zeros (bs.take k) = true) (fun _ i => n - (intOf i).toNat)
  case atStart => exact ⟨0, by omega, rfl, rfl⟩
  case round =>
    obtain ⟨k, hk, rfl, hw⟩ := hrel
    have HW := Lib.hid hw
    clear hw
    by_cases hlt : k < n
    · have c0 := HC.out k (by omega)
      have HS := Lib.hid (zeros_take bs k (by rw [HN.out]; exact hlt))
      have HZ := Lib.hid (zeros_no bs k (by rw [HN.out]; exact hlt))
      cases hz : (bs[k]?.getD 0 == 0) with
      | true =>
        have hz' : (bs[k]?.getD 0 != 0) = false := by rw [bne, hz]; rfl
        go_wp2
        exact ⟨⟨k + 1, by omega, by go_num, by rw [HS.out, HW.out, hz]; rfl⟩, by simp [intOf]; omega⟩
      | false =>
        have hz' : (bs[k]?.getD 0 != 0) = true := by rw [bne, hz]; rfl
        go_wp2
        go_ret
        exact ⟨ret_bool (by rw [HZ.out hz]), rfl⟩
    · go_wp2
      go_ret
      exact ⟨ret_bool (by have hh := HW.out; rw [List.take_of_length_le (by rw [HN.out]; omega)] at hh; rw [hh]), rfl⟩

theorem cells_two (w : World) (x y : Int) (t : TypeId) :
    ∀ i, i < 2 → (w.alloc (.cells #[.int .i64 x, .int .i64 y] t)).cell? ⟨w.heap.size, 0 + i, none⟩ = some (.int .i64 ([x, y].getD i 0)) := by
  intro i hi
  match i, hi with
  | 0, _ => simp
  | 1, _ => simp

theorem cells_four (w : World) (x y z u : Int) (t : TypeId) :
    ∀ i, i < 4 → (w.alloc (.cells #[.int .i64 x, .int .i64 y, .int .i64 z, .int .i64 u] t)).cell? ⟨w.heap.size, 0 + i, none⟩ = some (.int .i64 ([x, y, z, u].getD i 0)) := by
  intro i hi
  match i, hi with
  | 0, _ => simp
  | 1, _ => simp
  | 2, _ => simp
  | 3, _ => simp

theorem cells_six (w : World) (x y z u v q : Int) (t : TypeId) :
    ∀ i, i < 6 → (w.alloc (.cells #[.int .i64 x, .int .i64 y, .int .i64 z, .int .i64 u, .int .i64 v, .int .i64 q] t)).cell? ⟨w.heap.size, 0 + i, none⟩ = some (.int .i64 ([x, y, z, u, v, q].getD i 0)) := by
  intro i hi
  match i, hi with
  | 0, _ => simp
  | 1, _ => simp
  | 2, _ => simp
  | 3, _ => simp
  | 4, _ => simp
  | 5, _ => simp

theorem isWithin_two (v a b : Int) (w : World) (t : TypeId) (g : Nat) (hg : g = w.heap.size) :
    Calls Tryz.prog 62 #[.int .i64 v, .slice (some ⟨g, 0, none⟩) 2 2] (w.alloc (.cells #[.int .i64 a, .int .i64 b] t))
      fun e w' => e = .returned (.bool (inR v a b)) ∧ w.alloc (.cells #[.int .i64 a, .int .i64 b] t) = w' := by
  subst hg
  exact (isWithin_any v _ 0 2 2 [a, b] _ rfl (by omega) (cells_two w a b t)).mono fun _ _ ⟨he, hw⟩ => ⟨by rw [he]; simp [within, inR], hw⟩

theorem isWithin_four (v a b c d : Int) (w : World) (t : TypeId) (g : Nat) (hg : g = w.heap.size) :
    Calls Tryz.prog 62 #[.int .i64 v, .slice (some ⟨g, 0, none⟩) 4 4] (w.alloc (.cells #[.int .i64 a, .int .i64 b, .int .i64 c, .int .i64 d] t))
      fun e w' => e = .returned (.bool (inR v a b || inR v c d)) ∧ w.alloc (.cells #[.int .i64 a, .int .i64 b, .int .i64 c, .int .i64 d] t) = w' := by
  subst hg
  exact (isWithin_any v _ 0 4 4 [a, b, c, d] _ rfl (by omega) (cells_four w a b c d t)).mono fun _ _ ⟨he, hw⟩ => ⟨by rw [he]; simp [within, inR], hw⟩

theorem areZero_four (a b c d : Int) (w : World) (t : TypeId) (g : Nat) (hg : g = w.heap.size) :
    Calls Tryz.prog 117 #[.slice (some ⟨g, 0, none⟩) 4 4] (w.alloc (.cells #[.int .i64 a, .int .i64 b, .int .i64 c, .int .i64 d] t))
      fun e w' => e = .returned (.bool (zeros [a, b, c, d])) ∧ w.alloc (.cells #[.int .i64 a, .int .i64 b, .int .i64 c, .int .i64 d] t) = w' := by
  subst hg
  exact areZero_any _ 0 4 4 [a, b, c, d] _ rfl (by omega) (cells_four w a b c d t)

theorem areZero_six (a b c d x y : Int) (w : World) (t : TypeId) (g : Nat) (hg : g = w.heap.size) :
    Calls Tryz.prog 117 #[.slice (some ⟨g, 0, none⟩) 6 6] (w.alloc (.cells #[.int .i64 a, .int .i64 b, .int .i64 c, .int .i64 d, .int .i64 x, .int .i64 y] t))
      fun e w' => e = .returned (.bool (zeros [a, b, c, d, x, y])) ∧ w.alloc (.cells #[.int .i64 a, .int .i64 b, .int .i64 c, .int .i64 d, .int .i64 x, .int .i64 y] t) = w' := by
  subst hg
  exact areZero_any _ 0 6 6 [a, b, c, d, x, y] _ rfl (by omega) (cells_six w a b c d x y t)

end Go.Proofs.YtjopjddhgaiddabGreatDoor

/- The walks of IsSpecial, of the model's and of the program's, and of the law over both. -/
namespace Go.Proofs.YtjopjddhgaiddabGreatDoor
open Go.RowKit

def special (c : Int) : Bool := inR c 2000001 2000014

set_option maxHeartbeats 400000 in
theorem specIsSpecial_any (c : Int) (w : World) :
    Calls Tryz.prog 106 #[.int .i64 c] w fun e w' => e = .returned (.bool (special c)) ∧ w = w' := by
  go_enter Tryz.func106, Tryz.ntmps106
  go_wp2_with (go_at_call 70; refine (l1In_any _ _ _ _).mono ?_; rintro e w' ⟨rfl, rfl⟩)
  go_ret
  exact ⟨rfl, rfl⟩

set_option maxHeartbeats 400000 in
theorem implIsSpecial_any (c : Int) (w : World) :
    Calls Tryz.prog 89 #[.int .i64 c] w fun e w' => e = .returned (.bool (special c)) ∧ Below w.heap.size w w' := by
  go_enter Tryz.func89, Tryz.ntmps89
  go_wp2_with (go_at_call 62; refine (isWithin_two _ _ _ _ _ _ (by simp)).mono ?_; rintro e w' ⟨rfl, rfl⟩)
  go_ret
  exact ⟨rfl, (Below.refl _ _).alloc (Nat.le_refl _) _⟩


end Go.Proofs.YtjopjddhgaiddabGreatDoor
