/- The key of parts: the program's modsOfNumbers, codeOfLetter, codeOfNumber, codeOfPoint, codeOfParts. -/
import Derived.Test.YtjopjddhgaiddabGreatDoorQTokToTokRes
import Derived.Test.YtjopjddhgaiddabGreatDoorQPiecesInToPartsSpec
namespace Go.Proofs.YtjopjddhgaiddabGreatDoor
open Go.RowKit

/-- the modifiers of numbers, and whether they are defined -/
def modsT : List Int → Int × Bool
  | [] => (0, true)
  | [_] => (0, true)
  | [_, m] => if 1 ≤ m ∧ m ≤ 8 then (m - 1, true) else (0, false)
  | _ => (0, false)
/-- the key of a final letter -/
def letterK (c : Int) : Int := if c = 65 then 2000005 else if c = 66 then 2000006 else if c = 67 then 2000007 else if c = 68 then 2000008 else if c = 72 then 2000009 else if c = 70 then 2000010 else 0
/-- the key of a number -/
def tildeK (n : Int) : Int := if n = 1 then 2000009 else if n = 2 then 2000011 else if n = 3 then 2000012 else if n = 4 then 2000010 else if n = 5 then 2000013 else if n = 6 then 2000014 else 0
/-- the key of a code -/
def codedK (n : Int) : Int := if n = 13 then 2000001 else if n = 9 then 2000002 else if n = 127 then 2000003 else if n = 27 then 2000004 else if (point n && decide (32 ≤ n)) = true then n else 0

theorem Is.cons {w : World} {B : Nat} {p : Option Addr} {x : Int} {r : List Int} (h : Is w B p (x :: r)) : ∃ b off, p = some ⟨b, off, none⟩ ∧ b < B ∧ ∀ i, i < r.length + 1 → w.cell? ⟨b, off + i, none⟩ = some (.int .i64 ((x :: r).getD i 0)) := h (by simp)

set_option maxRecDepth 100000 in
set_option maxHeartbeats 1000000 in
theorem codeOfLetter_any (c : Int) (w : World) : Calls Tryz.prog 173 #[.int .u8 c] w fun e w' => e = .returned (.int .i64 (letterK c)) ∧ w = w' := by
  unfold letterK
  repeat' split
  all_goals
    go_enter Tryz.func173, Tryz.ntmps173
    go_wp2
    go_ret
    exact ⟨rfl, rfl⟩

set_option maxRecDepth 100000 in
set_option maxHeartbeats 1000000 in
theorem codeOfNumber_any (c : Int) (w : World) : Calls Tryz.prog 174 #[.int .i64 c] w fun e w' => e = .returned (.int .i64 (tildeK c)) ∧ w = w' := by
  unfold tildeK
  repeat' split
  all_goals
    go_enter Tryz.func174, Tryz.ntmps174
    go_wp2
    go_ret
    exact ⟨rfl, rfl⟩

set_option maxRecDepth 100000 in
set_option maxHeartbeats 1000000 in
theorem modsOfNumbers_any (p : Option Addr) (c : Nat) (l : List Int) (w : World) (h : Is w w.heap.size p l) (hl : l.length ≤ 4) :
    Calls Tryz.prog 161 #[.slice p l.length c] w fun e w' => e = .returned (.tuple #[.int .i64 (modsT l).1, .bool (modsT l).2]) ∧ Below w.heap.size w w' := by
  match l, h, hl with
  | [], _, _ =>
    show Calls Tryz.prog 161 #[.slice p 0 c] w _
    go_enter Tryz.func161, Tryz.ntmps161
    go_wp2
    go_ret2
    exact ⟨rfl, Below.refl _ _⟩
  | [_], _, _ =>
    show Calls Tryz.prog 161 #[.slice p 1 c] w _
    go_enter Tryz.func161, Tryz.ntmps161
    go_wp2
    go_ret2
    exact ⟨rfl, Below.refl _ _⟩
  | [x, m], h, _ =>
    obtain ⟨b, off, rfl, hb, hc⟩ := h.cons
    have hc1 := hc 1 (by simp)
    simp only [List.getD_cons_succ, List.getD_cons_zero] at hc1
    clear hc h
    show Calls Tryz.prog 161 #[.slice (some ⟨b, off, none⟩) 2 c] w _
    by_cases hm : 1 ≤ m ∧ m ≤ 8
    · have HT : Hid (modsT [x, m] = (m - 1, true)) := if_pos hm
      have hi : inR m 1 8 = true := by simp [inR, hm]
      go_enter Tryz.func161, Tryz.ntmps161
      go_wp2_with (go_at_call 62; refine (isWithin_two _ _ _ _ _ _ (by simp)).mono ?_; rintro e w' ⟨rfl, rfl⟩; rw [hi])
      go_ret2
      exact ⟨by rw [HT.out]; rfl, below_mk _ _⟩
    · have HT : Hid (modsT [x, m] = (0, false)) := if_neg hm
      have hi : inR m 1 8 = false := by simp [inR]; omega
      go_enter Tryz.func161, Tryz.ntmps161
      go_wp2_with (go_at_call 62; refine (isWithin_two _ _ _ _ _ _ (by simp)).mono ?_; rintro e w' ⟨rfl, rfl⟩; rw [hi])
      go_ret2
      exact ⟨by rw [HT.out]; rfl, below_mk _ _⟩
  | [_, _, _], _, _ =>
    show Calls Tryz.prog 161 #[.slice p 3 c] w _
    go_enter Tryz.func161, Tryz.ntmps161
    go_wp2
    go_ret2
    exact ⟨rfl, Below.refl _ _⟩
  | [_, _, _, _], _, _ =>
    show Calls Tryz.prog 161 #[.slice p 4 c] w _
    go_enter Tryz.func161, Tryz.ntmps161
    go_wp2
    go_ret2
    exact ⟨rfl, Below.refl _ _⟩
  | _ :: _ :: _ :: _ :: _ :: r, _, hl => exact absurd hl (by simp)

def pointT (n : Int) : Int × Bool := if n = 13 ∨ n = 9 ∨ n = 127 ∨ n = 27 then (codedK n, true) else (n, point n && decide (32 ≤ n))
theorem keyB_13 : keyB 13 = keyTk 2000001 0 1 := rfl
theorem keyB_9 : keyB 9 = keyTk 2000002 0 1 := rfl
theorem keyB_127 : keyB 127 = keyTk 2000003 0 1 := rfl
theorem keyB_27 : keyB 27 = keyTk 2000004 0 1 := rfl

set_option maxRecDepth 100000 in
set_option maxHeartbeats 2000000 in
theorem codeOfPoint_key (n k : Int) (w : World) (hn : n = 13 ∨ n = 9 ∨ n = 127 ∨ n = 27) (hk : keyB n = keyTk k 0 1) :
    Calls Tryz.prog 175 #[.int .i64 n] w fun e w' => e = .returned (.tuple #[.int .i64 k, .bool true]) ∧ Below w.heap.size w w' := by
  have HK := Lib.hid (fun W => implKeyOfByte_any n W (by omega))
  rw [hk] at HK
  clear hk
  have f1 := fld_token
  have f2 := fld_event
  have f3 := fld_evcode
  rcases hn with rfl | rfl | rfl | rfl
  all_goals
    go_enter Tryz.func175, Tryz.ntmps175
    go_wp2_with (go_at_call 128; refine (HK.out _).mono ?_; rintro e w1 ⟨rfl, hb⟩; unfold tkV keyTk keyEv)
    go_ret2
    exact ⟨rfl, hb⟩

set_option maxRecDepth 100000 in
set_option maxHeartbeats 2000000 in
theorem codeOfPoint_no (n : Int) (w : World) (hn : ¬ (n = 13 ∨ n = 9 ∨ n = 127 ∨ n = 27)) :
    Calls Tryz.prog 175 #[.int .i64 n] w fun e w' => e = .returned (.tuple #[.int .i64 n, .bool (point n && decide (32 ≤ n))]) ∧ Below w.heap.size w w' := by
  have h1 : ¬ n = 13 := fun e => hn (.inl e)
  have h2 : ¬ n = 9 := fun e => hn (.inr (.inl e))
  have h3 : ¬ n = 127 := fun e => hn (.inr (.inr (.inl e)))
  have h4 : ¬ n = 27 := fun e => hn (.inr (.inr (.inr e)))
  clear hn
  cases hp : point n
  all_goals
    go_enter Tryz.func175, Tryz.ntmps175
    go_wp2_with (go_at_call 120; refine (implIsPoint_any _ _).mono ?_; rintro e w1 ⟨rfl, hb⟩; rw [hp])
    go_ret2
    exact ⟨by simp, hb⟩

theorem codeOfPoint_any (n : Int) (w : World) :
    Calls Tryz.prog 175 #[.int .i64 n] w fun e w' => e = .returned (.tuple #[.int .i64 (pointT n).1, .bool (pointT n).2]) ∧ Below w.heap.size w w' := by
  by_cases hn : n = 13 ∨ n = 9 ∨ n = 127 ∨ n = 27
  · unfold pointT
    rw [if_pos hn]
    rcases hn with rfl | rfl | rfl | rfl
    · exact codeOfPoint_key 13 2000001 w (by omega) rfl
    · exact codeOfPoint_key 9 2000002 w (by omega) rfl
    · exact codeOfPoint_key 127 2000003 w (by omega) rfl
    · exact codeOfPoint_key 27 2000004 w (by omega) rfl
  · unfold pointT
    rw [if_neg hn]
    exact codeOfPoint_no n w hn

end Go.Proofs.YtjopjddhgaiddabGreatDoor
