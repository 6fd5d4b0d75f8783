/- Two slices of events compared: SameEvents of the model and of the program. -/
import Derived.Test.YtjmfmdebnobogaaDoorEvs
namespace Go.Proofs.YtjmfmdebnobogaaDoor
open Go.RowKit

/-- two lists of events are the same -/
def sameEvs : List Ev → List Ev → Bool
  | [], [] => true
  | a :: x, b :: y => evEq a b && sameEvs x y
  | _, _ => false

theorem sameEvs_len : ∀ (x y : List Ev), x.length ≠ y.length → sameEvs x y = false
  | [], [], h => absurd rfl h
  | [], _ :: _, _ => rfl
  | _ :: _, [], _ => rfl
  | a :: x, b :: y, h => by
    simp only [sameEvs]
    rw [sameEvs_len x y (by simp at h; exact h)]
    simp
theorem sameEvs_drop (x y : List Ev) (k : Nat) (hx : k < x.length) (hy : k < y.length) : sameEvs (x.drop k) (y.drop k) = (evEq x[k] y[k] && sameEvs (x.drop (k + 1)) (y.drop (k + 1))) := by
  rw [List.drop_eq_getElem_cons hx, List.drop_eq_getElem_cons hy, sameEvs]
theorem sameEvs_end (x y : List Ev) (h : x.length = y.length) : sameEvs (x.drop x.length) (y.drop x.length) = true := by
  rw [List.drop_length, h, List.drop_length, sameEvs]
theorem sameEvs_refl : ∀ x : List Ev, sameEvs x x = true
  | [] => rfl
  | a :: x => by simp only [sameEvs, (evEq_iff a a).2 rfl, sameEvs_refl x, Bool.and_self]

set_option maxRecDepth 100000 in
set_option maxHeartbeats 4000000 in
theorem specSameEvents_any (p q : Option Addr) (c d : Nat) (x y : List Ev) (w : World) (h : Es w w.heap.size p x) (k : Es w w.heap.size q y) (hx : x.length ≤ 1048576) :
    Calls Tryd.prog 23 #[.slice p x.length c, .slice q y.length d] w fun e w' => e = .returned (.bool (sameEvs x y)) ∧ Below w.heap.size w w' := by
  cases hne : ((x.length : Int) != (y.length : Int))
  · have HL : Hid (x.length = y.length) := by simp at hne; exact Int.ofNat.inj hne
    have hly : x.length ≤ y.length := Nat.le_of_eq HL.out
    have hly2 : y.length ≤ x.length := Nat.le_of_eq HL.out.symm
    have H := Lib.hid h
    have K := Lib.hid k
    clear h k
    go_enter Tryd.func23, Tryd.ntmps23
    go_wp2
    go_loopw [5, 13] (fun _ i wr => ∃ j : Nat, j ≤ x.length ∧ i = .int .i64 j ∧ sameEvs x y = sameEvs (x.drop j) (y.drop j) ∧ Below w.heap.size w wr) (fun _ i _ => x.length - (intOf i).toNat)
    case atStart => exact ⟨0, by omega, rfl, rfl, Below.refl _ _⟩
    case round =>
      obtain ⟨j, hj, rfl, hs, hb⟩ := hrel
      have HS := Lib.hid hs
      clear hs
      by_cases hlt : j < x.length
      · have hlt' : j < y.length := by omega
        obtain ⟨b, off, rfl, _, hc⟩ := (H.out.on hb) (by intro e; simp [e] at hlt)
        obtain ⟨b', off', rfl, _, hc'⟩ := (K.out.on hb) (by intro e; simp [e] at hlt')
        obtain ⟨q1, d1, he, hbs⟩ := hc j hlt
        obtain ⟨q2, d2, he', hbs'⟩ := hc' j hlt'
        have HD := Lib.hid (sameEvs_drop x y j hlt hlt')
        have i1 : (j : Int) < (x.length : Int) := by omega
        have i2 : (j : Int) < (y.length : Int) := by omega
        have i0 : (0 : Int) ≤ (j : Int) := by omega
        have HC := Lib.hid (fun n => Calls.quiet_of (w := wr) (n := n) (l1Same_any x[j] y[j] q1 q2 d1 d2 b (off + j * 8) b' (off' + j * 8) (wr.drewN n) (B := wr.heap.size) (C := wr.heap.size) (he.keep fun _ => rfl) (he'.keep fun _ => rfl) (hbs.keep (Nat.le_refl _) fun _ _ => rfl) (hbs'.keep (Nat.le_refl _) fun _ _ => rfl)))
        clear hc hc' he he'
        cases hq : evEq x[j] y[j]
        · go_wp2
          go_quiet ((go_at_call 66; exact HC.out _))
          go_wp2
          go_ret
          exact ⟨ret_bool (by rw [HS.out, HD.out, hq]; rfl), below_drewN hb _⟩
        · go_wp2
          go_quiet ((go_at_call 66; exact HC.out _))
          go_wp2
          exact ⟨⟨j + 1, by omega, by go_num, by rw [HS.out, HD.out, hq]; rfl, below_drewN hb _⟩, by simp [intOf]; omega⟩
      · obtain rfl : j = x.length := by omega
        have HE := Lib.hid (sameEvs_end x y HL.out)
        go_wp2
        go_ret
        exact ⟨ret_bool (by rw [HS.out, HE.out]), hb⟩
  · have HE := Lib.hid (sameEvs_len x y (by simp at hne; omega))
    go_enter Tryd.func23, Tryd.ntmps23
    go_wp2
    go_ret
    exact ⟨ret_bool (by rw [HE.out]), Below.refl _ _⟩

set_option maxRecDepth 100000 in
set_option maxHeartbeats 4000000 in
theorem equalFunc_any (p q : Option Addr) (c d : Nat) (x y : List Ev) (w : World) (h : Es w w.heap.size p x) (k : Es w w.heap.size q y) (hx : x.length ≤ 1048576) :
    Calls Tryd.prog 64 #[.slice p x.length c, .slice q y.length d, .func (.func 65) #[] #[]] w fun e w' => e = .returned (.bool (sameEvs x y)) ∧ Below w.heap.size w w' := by
  cases hne : ((x.length : Int) != (y.length : Int))
  · have HL : Hid (x.length = y.length) := by simp at hne; exact Int.ofNat.inj hne
    have hly : x.length ≤ y.length := Nat.le_of_eq HL.out
    have hly2 : y.length ≤ x.length := Nat.le_of_eq HL.out.symm
    have H := Lib.hid h
    have K := Lib.hid k
    clear h k
    go_enter Tryd.func64, Tryd.ntmps64
    go_wp2
    go_loopw [7, 8, 9, 17] (fun _ _ _ i wr => ∃ j : Nat, j ≤ x.length ∧ i = .int .i64 j ∧ sameEvs x y = sameEvs (x.drop j) (y.drop j) ∧ Below w.heap.size w wr) (fun _ _ _ i _ => x.length - (intOf i).toNat)
    case atStart => exact ⟨0, by omega, rfl, rfl, Below.refl _ _⟩
    case round =>
      obtain ⟨j, hj, rfl, hs, hb⟩ := hrel
      have HS := Lib.hid hs
      clear hs
      by_cases hlt : j < x.length
      · have hlt' : j < y.length := by omega
        obtain ⟨b, off, rfl, hbl, hc⟩ := (H.out.on hb) (by intro e; simp [e] at hlt)
        obtain ⟨b', off', rfl, hbl', hc'⟩ := (K.out.on hb) (by intro e; simp [e] at hlt')
        obtain ⟨q1, d1, he, hbs⟩ := hc j hlt
        obtain ⟨q2, d2, he', hbs'⟩ := hc' j hlt'
        have HD := Lib.hid (sameEvs_drop x y j hlt hlt')
        obtain ⟨c0, c1, c2, c3, c4, c5, c6, c7⟩ := he
        obtain ⟨e0, e1, e2, e3, e4, e5, e6, e7⟩ := he'
        clear hc hc'
        cases hq : evEq x[j] y[j]
        · go_wp2_with (go_at_call 65; refine (sameEvent_any x[j] y[j] q1 q2 d1 d2 _ ((hbs.alloc _).alloc _) ((hbs'.alloc _).alloc _)).mono ?_; rintro en w1 ⟨rfl, hb1⟩)
          go_ret
          exact ⟨ret_bool (by rw [HS.out, HD.out, hq]; rfl), below_on ((hb.alloc hb.size _).alloc (by have := hb.size; simp; omega) _) hb1⟩
        · go_wp2_with (go_at_call 65; refine (sameEvent_any x[j] y[j] q1 q2 d1 d2 _ ((hbs.alloc _).alloc _) ((hbs'.alloc _).alloc _)).mono ?_; rintro en w1 ⟨rfl, hb1⟩)
          exact ⟨⟨j + 1, by omega, by go_num, by rw [HS.out, HD.out, hq]; rfl, below_on ((hb.alloc hb.size _).alloc (by have := hb.size; simp; omega) _) hb1⟩, by simp [intOf]; omega⟩
      · obtain rfl : j = x.length := by omega
        have HE := Lib.hid (sameEvs_end x y HL.out)
        go_wp2
        go_ret
        exact ⟨ret_bool (by rw [HS.out, HE.out]), hb⟩
  · have HE := Lib.hid (sameEvs_len x y (by simp at hne; omega))
    go_enter Tryd.func64, Tryd.ntmps64
    go_wp2
    go_ret
    exact ⟨ret_bool (by rw [HE.out]), Below.refl _ _⟩

set_option maxRecDepth 100000 in
set_option maxHeartbeats 400000 in
theorem implSameEvents_any (p q : Option Addr) (c d : Nat) (x y : List Ev) (w : World) (h : Es w w.heap.size p x) (k : Es w w.heap.size q y) (hx : x.length ≤ 1048576) :
    Calls Tryd.prog 22 #[.slice p x.length c, .slice q y.length d] w fun e w' => e = .returned (.bool (sameEvs x y)) ∧ Below w.heap.size w w' := by
  go_enter Tryd.func22, Tryd.ntmps22
  go_wp2_with fail
  refine (equalFunc_any _ _ _ _ _ _ _ h k hx).mono ?_
  rintro e w' ⟨rfl, hb⟩
  go_wp2
  go_ret
  exact ⟨rfl, hb⟩

end Go.Proofs.YtjmfmdebnobogaaDoor
