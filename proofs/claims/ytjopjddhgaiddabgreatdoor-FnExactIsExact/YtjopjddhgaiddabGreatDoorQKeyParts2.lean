/- The key of parts: codeOfParts and KeyOfParts of the program. -/
import Derived.Test.YtjopjddhgaiddabGreatDoorQSpecKey
import Derived.Deep.QuietTactic
import Derived.BigQuiet
namespace Go.Proofs.YtjopjddhgaiddabGreatDoor
open Go.RowKit

def lettersOK : List Int → Bool
  | [] => true
  | [x, _] => x == 1
  | _ => false
def partsT (l : List Int) (f : Int) : Int × Bool :=
  if f = 126 ∨ f = 117 then (match l with
    | [] => (0, false)
    | x :: _ => if f = 126 then (tildeK x, tildeK x != 0) else pointT x)
  else (letterK f, letterK f != 0 && lettersOK l)

theorem partsT_e {f : Int} (hf : f = 126 ∨ f = 117) : partsT [] f = (0, false) := by unfold partsT; rw [if_pos hf]
theorem partsT_t (x : Int) (r : List Int) : partsT (x :: r) 126 = (tildeK x, tildeK x != 0) := by unfold partsT; rw [if_pos (by omega)]; rfl
theorem partsT_u (x : Int) (r : List Int) : partsT (x :: r) 117 = pointT x := by unfold partsT; rw [if_pos (by omega)]; rfl
theorem partsT_l (l : List Int) {f : Int} (hf : ¬ (f = 126 ∨ f = 117)) : partsT l f = (letterK f, letterK f != 0 && lettersOK l) := by unfold partsT; rw [if_neg hf]

set_option maxRecDepth 100000 in
set_option maxHeartbeats 2000000 in
theorem codeOfParts_e (p : Option Addr) (c : Nat) (f : Int) (w : World) (hf : f = 126 ∨ f = 117) :
    Calls Tryz.prog 162 #[.slice p 0 c, .int .u8 f] w fun e w' => e = .returned (.tuple #[.int .i64 0, .bool false]) ∧ Below w.heap.size w w' := by
  rcases hf with rfl | rfl
  all_goals
    go_enter Tryz.func162, Tryz.ntmps162
    go_wp2
    go_ret2
    exact ⟨rfl, Below.refl _ _⟩

set_option maxRecDepth 100000 in
set_option maxHeartbeats 2000000 in
theorem codeOfParts_t (b off c n : Nat) (x : Int) (w : World) (hc : w.cell? ⟨b, off, none⟩ = some (.int .i64 x)) (hn : n = 1 ∨ n = 2) :
    Calls Tryz.prog 162 #[.slice (some ⟨b, off, none⟩) n c, .int .u8 126] w fun e w' => e = .returned (.tuple #[.int .i64 (tildeK x), .bool (tildeK x != 0)]) ∧ Below w.heap.size w w' := by
  have HT := Lib.hid (codeOfNumber_any x)
  generalize tildeK x = k at *
  rcases hn with rfl | rfl
  all_goals
    go_enter Tryz.func162, Tryz.ntmps162
    go_wp2_with (go_at_call 174; refine (HT.out _).mono ?_; rintro e w1 ⟨rfl, rfl⟩)
    go_ret2
    exact ⟨rfl, Below.refl _ _⟩

set_option maxRecDepth 100000 in
set_option maxHeartbeats 2000000 in
theorem codeOfParts_u (b off c n : Nat) (x : Int) (w : World) (hc : w.cell? ⟨b, off, none⟩ = some (.int .i64 x)) (hn : n = 1 ∨ n = 2) :
    Calls Tryz.prog 162 #[.slice (some ⟨b, off, none⟩) n c, .int .u8 117] w fun e w' => e = .returned (.tuple #[.int .i64 (pointT x).1, .bool (pointT x).2]) ∧ Below w.heap.size w w' := by
  have HT := Lib.hid (codeOfPoint_any x)
  generalize pointT x = k at *
  rcases hn with rfl | rfl
  all_goals
    go_enter Tryz.func162, Tryz.ntmps162
    go_wp2_with (go_at_call 175; refine (HT.out _).mono ?_; rintro e w1 ⟨rfl, hb⟩)
    go_ret2
    exact ⟨rfl, hb⟩

set_option maxRecDepth 100000 in
set_option maxHeartbeats 2000000 in
theorem codeOfParts_l0 (p : Option Addr) (c n : Nat) (f : Int) (w : World) (h1 : ¬ f = 126) (h2 : ¬ f = 117) (hn : n = 0 ∨ n = 1) :
    Calls Tryz.prog 162 #[.slice p n c, .int .u8 f] w fun e w' => e = .returned (.tuple #[.int .i64 (letterK f), .bool (letterK f != 0 && decide (n = 0))]) ∧ Below w.heap.size w w' := by
  have HT := Lib.hid (codeOfLetter_any f)
  generalize letterK f = k at *
  by_cases hk : k = 0
  · subst hk
    rcases hn with rfl | rfl
    all_goals
      go_enter Tryz.func162, Tryz.ntmps162
      go_wp2_with (go_at_call 173; refine (HT.out _).mono ?_; rintro e w1 ⟨rfl, rfl⟩)
      go_quiet (fail)
      go_wp2
      go_ret2
      exact ⟨rfl, below_drewN (Below.refl _ _) nq⟩
  · have hk2 : (k != 0) = true := by simp [hk]
    have hk3 : (k == 0) = false := by simp [hk]
    rcases hn with rfl | rfl
    all_goals
      go_enter Tryz.func162, Tryz.ntmps162
      go_wp2_with (go_at_call 173; refine (HT.out _).mono ?_; rintro e w1 ⟨rfl, rfl⟩)
      go_quiet (fail)
      go_wp2
      go_ret2
      exact ⟨by rw [hk2]; rfl, below_drewN (Below.refl _ _) nq⟩

set_option maxRecDepth 100000 in
set_option maxHeartbeats 2000000 in
theorem codeOfParts_l2 (b off c : Nat) (x f : Int) (w : World) (hc : w.cell? ⟨b, off, none⟩ = some (.int .i64 x)) (h1 : ¬ f = 126) (h2 : ¬ f = 117) :
    Calls Tryz.prog 162 #[.slice (some ⟨b, off, none⟩) 2 c, .int .u8 f] w fun e w' => e = .returned (.tuple #[.int .i64 (letterK f), .bool (letterK f != 0 && (x == 1))]) ∧ Below w.heap.size w w' := by
  have HT := Lib.hid (codeOfLetter_any f)
  generalize letterK f = k at *
  by_cases hk : k = 0
  · subst hk
    go_enter Tryz.func162, Tryz.ntmps162
    go_wp2_with (go_at_call 173; refine (HT.out _).mono ?_; rintro e w1 ⟨rfl, rfl⟩)
    go_quiet (fail)
    go_wp2
    go_ret2
    exact ⟨rfl, below_drewN (Below.refl _ _) nq⟩
  · have hk2 : (k != 0) = true := by simp [hk]
    have hk3 : (k == 0) = false := by simp [hk]
    go_enter Tryz.func162, Tryz.ntmps162
    go_wp2_with (go_at_call 173; refine (HT.out _).mono ?_; rintro e w1 ⟨rfl, rfl⟩)
    go_quiet (fail)
    go_wp2
    go_ret2
    exact ⟨by rw [hk2]; rfl, below_drewN (Below.refl _ _) nq⟩

theorem codeOfParts_any (p : Option Addr) (c : Nat) (l : List Int) (f : Int) (w : World) (h : Is w w.heap.size p l) (hl : l.length ≤ 2) :
    Calls Tryz.prog 162 #[.slice p l.length c, .int .u8 f] w fun e w' => e = .returned (.tuple #[.int .i64 (partsT l f).1, .bool (partsT l f).2]) ∧ Below w.heap.size w w' := by
  by_cases hf : f = 126 ∨ f = 117
  · match l, h, hl with
    | [], _, _ => rw [partsT_e hf]; exact codeOfParts_e p c f w hf
    | x :: r, h, hl =>
      obtain ⟨b, off, rfl, hb, hc⟩ := h.cons
      have hc0 := hc 0 (by simp)
      have hn : (x :: r).length = 1 ∨ (x :: r).length = 2 := by have e : (x :: r).length = r.length + 1 := rfl; omega
      rcases hf with rfl | rfl
      · rw [partsT_t]; exact codeOfParts_t b off c _ x w hc0 hn
      · rw [partsT_u]; exact codeOfParts_u b off c _ x w hc0 hn
  · rw [partsT_l l hf]
    have h1 : ¬ f = 126 := fun e => hf (.inl e)
    have h2 : ¬ f = 117 := fun e => hf (.inr e)
    match l, h, hl with
    | [], _, _ => exact codeOfParts_l0 p c 0 f w h1 h2 (.inl rfl)
    | [_], _, _ => exact codeOfParts_l0 p c 1 f w h1 h2 (.inr rfl)
    | [x, _], h, _ =>
      obtain ⟨b, off, rfl, hb, hc⟩ := h.cons
      exact codeOfParts_l2 b off c x f w (hc 0 (by simp)) h1 h2
    | _ :: _ :: _ :: r, _, hl => exact absurd hl (by simp)

end Go.Proofs.YtjopjddhgaiddabGreatDoor
