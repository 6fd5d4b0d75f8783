/- The key of parts: the program's modsOfNumbers, codeOfLetter, codeOfNumber, codeOfPoint, codeOfParts. -/
import Derived.Test.YtcchhlcgamcceaaDoorQKeyByte
import Derived.Test.YtcchhlcgamcceaaDoorQPaste2ToFields
import Derived.Test.YtcchhlcgamcceaaDoorQIntsToParts2
import Derived.Test.YtcchhlcgamcceaaDoorQPartsImpl
import Derived.Test.YtcchhlcgamcceaaDoorQMarksToTok
import Derived.Deep.QuietTactic
import Derived.BigQuiet
namespace Go.Proofs.YtcchhlcgamcceaaDoor
open Go.RowKit

/-- the modifiers of numbers, and whether they are defined -/
def modsT : List Int → Int × Bool
  | [] => (0, true)
  | [_] => (0, true)
  | [_, m] => if 1 ≤ m ∧ m ≤ 8 then (m - 1, true) else (0, false)
  | _ => (0, false)
/-- the key of a final letter -/
def letterK (c : Int) : Int := if c = 65 then 2000005 else if c = 66 then 2000006 else if c = 67 then 2000007 else if c = 68 then 2000008 else if c = 72 then 2000009 else if c = 70 then 2000010 else 0
/-- the key of a number -/
def tildeK (n : Int) : Int := if n = 1 then 2000009 else if n = 2 then 2000011 else if n = 3 then 2000012 else if n = 4 then 2000010 else if n = 5 then 2000013 else if n = 6 then 2000014 else 0
/-- the key of a code -/
def codedK (n : Int) : Int := if n = 13 then 2000001 else if n = 9 then 2000002 else if n = 127 then 2000003 else if n = 27 then 2000004 else if (point n && decide (32 ≤ n)) = true then n else 0

theorem Is.cons {w : World} {B : Nat} {p : Option Addr} {x : Int} {r : List Int} (h : Is w B p (x :: r)) : ∃ b off, p = some ⟨b, off, none⟩ ∧ b < B ∧ ∀ i, i < r.length + 1 → w.cell? ⟨b, off + i, none⟩ = some (.int .i64 ((x :: r).getD i 0)) := h (by simp)

set_option maxRecDepth 100000 in
set_option maxHeartbeats 1000000 in
theorem codeOfLetter_any (c : Int) (w : World) : Calls Tryd.prog 89 #[.int .u8 c] w fun e w' => e = .returned (.int .i64 (letterK c)) ∧ w = w' := by
  unfold letterK
  repeat' split
  all_goals
    go_enter Tryd.func89, Tryd.ntmps89
    go_wp2
    go_ret
    exact ⟨rfl, rfl⟩

set_option maxRecDepth 100000 in
set_option maxHeartbeats 1000000 in
theorem codeOfNumber_any (c : Int) (w : World) : Calls Tryd.prog 90 #[.int .i64 c] w fun e w' => e = .returned (.int .i64 (tildeK c)) ∧ w = w' := by
  unfold tildeK
  repeat' split
  all_goals
    go_enter Tryd.func90, Tryd.ntmps90
    go_wp2
    go_ret
    exact ⟨rfl, rfl⟩

set_option maxRecDepth 100000 in
set_option maxHeartbeats 1000000 in
theorem modsOfNumbers_any (p : Option Addr) (c : Nat) (l : List Int) (w : World) (h : Is w w.heap.size p l) (hl : l.length ≤ 4) :
    Calls Tryd.prog 79 #[.slice p l.length c] w fun e w' => e = .returned (.tuple #[.int .i64 (modsT l).1, .bool (modsT l).2]) ∧ Below w.heap.size w w' := by
  match l, h, hl with
  | [], _, _ =>
    show Calls Tryd.prog 79 #[.slice p 0 c] w _
    go_enter Tryd.func79, Tryd.ntmps79
    go_wp2
    go_ret2
    exact ⟨rfl, Below.refl _ _⟩
  | [_], _, _ =>
    show Calls Tryd.prog 79 #[.slice p 1 c] w _
    go_enter Tryd.func79, Tryd.ntmps79
    go_wp2
    go_ret2
    exact ⟨rfl, Below.refl _ _⟩
  | [x, m], h, _ =>
    obtain ⟨b, off, rfl, hb, hc⟩ := h.cons
    have hc1 := hc 1 (by simp)
    simp only [List.getD_cons_succ, List.getD_cons_zero] at hc1
    clear hc h
    show Calls Tryd.prog 79 #[.slice (some ⟨b, off, none⟩) 2 c] w _
    by_cases hm : 1 ≤ m ∧ m ≤ 8
    · have HT : Hid (modsT [x, m] = (m - 1, true)) := if_pos hm
      have hi : inR m 1 8 = true := by simp [inR, hm]
      go_enter Tryd.func79, Tryd.ntmps79
      go_wp2_with (go_at_call 82; refine (isWithin_two _ _ _ _ _ _ (by simp)).mono ?_; rintro e w' ⟨rfl, rfl⟩; rw [hi])
      go_ret2
      exact ⟨by rw [HT.out]; rfl, below_mk _ _⟩
    · have HT : Hid (modsT [x, m] = (0, false)) := if_neg hm
      have hi : inR m 1 8 = false := by simp [inR]; omega
      go_enter Tryd.func79, Tryd.ntmps79
      go_wp2_with (go_at_call 82; refine (isWithin_two _ _ _ _ _ _ (by simp)).mono ?_; rintro e w' ⟨rfl, rfl⟩; rw [hi])
      go_ret2
      exact ⟨by rw [HT.out]; rfl, below_mk _ _⟩
  | [_, _, _], _, _ =>
    show Calls Tryd.prog 79 #[.slice p 3 c] w _
    go_enter Tryd.func79, Tryd.ntmps79
    go_wp2
    go_ret2
    exact ⟨rfl, Below.refl _ _⟩
  | [_, _, _, _], _, _ =>
    show Calls Tryd.prog 79 #[.slice p 4 c] w _
    go_enter Tryd.func79, Tryd.ntmps79
    go_wp2
    go_ret2
    exact ⟨rfl, Below.refl _ _⟩
  | _ :: _ :: _ :: _ :: _ :: r, _, hl => exact absurd hl (by simp)

def pointT (n : Int) : Int × Bool := if n = 13 ∨ n = 9 ∨ n = 127 ∨ n = 27 then (codedK n, true) else (n, point n && decide (32 ≤ n))
theorem keyB_13 : keyB 13 = keyTk 2000001 0 1 := rfl
theorem keyB_9 : keyB 9 = keyTk 2000002 0 1 := rfl
theorem keyB_127 : keyB 127 = keyTk 2000003 0 1 := rfl
theorem keyB_27 : keyB 27 = keyTk 2000004 0 1 := rfl

set_option maxRecDepth 100000 in
set_option maxHeartbeats 2000000 in
theorem codeOfPoint_key (n k : Int) (w : World) (hn : n = 13 ∨ n = 9 ∨ n = 127 ∨ n = 27) (hk : keyB n = keyTk k 0 1) :
    Calls Tryd.prog 91 #[.int .i64 n] w fun e w' => e = .returned (.tuple #[.int .i64 k, .bool true]) ∧ Below w.heap.size w w' := by
  have HK := Lib.hid (fun W => implKeyOfByte_any n W (by omega))
  rw [hk] at HK
  clear hk
  have f1 := fld_token
  have f2 := fld_event
  have f3 := fld_evcode
  rcases hn with rfl | rfl | rfl | rfl
  all_goals
    go_enter Tryd.func91, Tryd.ntmps91
    go_wp2_with (go_at_call 42; refine (HK.out _).mono ?_; rintro e w1 ⟨rfl, hb⟩; unfold tkV keyTk keyEv)
    go_ret2
    exact ⟨rfl, hb⟩

set_option maxRecDepth 100000 in
set_option maxHeartbeats 2000000 in
theorem codeOfPoint_no (n : Int) (w : World) (hn : ¬ (n = 13 ∨ n = 9 ∨ n = 127 ∨ n = 27)) :
    Calls Tryd.prog 91 #[.int .i64 n] w fun e w' => e = .returned (.tuple #[.int .i64 n, .bool (point n && decide (32 ≤ n))]) ∧ Below w.heap.size w w' := by
  have h1 : ¬ n = 13 := fun e => hn (.inl e)
  have h2 : ¬ n = 9 := fun e => hn (.inr (.inl e))
  have h3 : ¬ n = 127 := fun e => hn (.inr (.inr (.inl e)))
  have h4 : ¬ n = 27 := fun e => hn (.inr (.inr (.inr e)))
  clear hn
  cases hp : point n
  all_goals
    go_enter Tryd.func91, Tryd.ntmps91
    go_wp2_with (go_at_call 95; refine (implIsPoint_any _ _).mono ?_; rintro e w1 ⟨rfl, hb⟩; rw [hp])
    go_ret2
    exact ⟨by simp, hb⟩

theorem codeOfPoint_any (n : Int) (w : World) :
    Calls Tryd.prog 91 #[.int .i64 n] w fun e w' => e = .returned (.tuple #[.int .i64 (pointT n).1, .bool (pointT n).2]) ∧ Below w.heap.size w w' := by
  by_cases hn : n = 13 ∨ n = 9 ∨ n = 127 ∨ n = 27
  · unfold pointT
    rw [if_pos hn]
    rcases hn with rfl | rfl | rfl | rfl
    · exact codeOfPoint_key 13 2000001 w (by omega) rfl
    · exact codeOfPoint_key 9 2000002 w (by omega) rfl
    · exact codeOfPoint_key 127 2000003 w (by omega) rfl
    · exact codeOfPoint_key 27 2000004 w (by omega) rfl
  · unfold pointT
    rw [if_neg hn]
    exact codeOfPoint_no n w hn

end Go.Proofs.YtcchhlcgamcceaaDoor

/- The key of parts, by the model: l3Letter, l3Tilde, l3Coded, l3Mods, l3Named, KeyOfParts. -/
namespace Go.Proofs.YtcchhlcgamcceaaDoor
open Go.RowKit

set_option maxRecDepth 100000 in
set_option maxHeartbeats 1000000 in
theorem l3Letter_any (c : Int) (w : World) : Calls Tryd.prog 32 #[.int .u8 c] w fun e w' => e = .returned (.int .i64 (letterK c)) ∧ w = w' := by
  unfold letterK
  repeat' split
  all_goals
    go_enter Tryd.func32, Tryd.ntmps32
    go_wp2
    go_ret
    exact ⟨rfl, rfl⟩

set_option maxRecDepth 100000 in
set_option maxHeartbeats 1000000 in
theorem l3Tilde_no (n : Int) (w : World) (hn : inR n 1 6 = false) : Calls Tryd.prog 73 #[.int .i64 n] w fun e w' => e = .returned (.int .i64 0) ∧ Below w.heap.size w w' := by
  go_enter Tryd.func73, Tryd.ntmps73
  go_wp2_with (go_at_call 53; refine (l1In_any _ _ _ _).mono ?_; rintro e w' ⟨rfl, rfl⟩; rw [hn])
  go_ret
  exact ⟨rfl, below_mk _ _⟩

set_option maxRecDepth 100000 in
set_option maxHeartbeats 1000000 in
theorem l3Tilde_any (n : Int) (w : World) : Calls Tryd.prog 73 #[.int .i64 n] w fun e w' => e = .returned (.int .i64 (tildeK n)) ∧ Below w.heap.size w w' := by
  by_cases h : 1 ≤ n ∧ n ≤ 6
  · have : n = 1 ∨ n = 2 ∨ n = 3 ∨ n = 4 ∨ n = 5 ∨ n = 6 := by omega
    rcases this with rfl | rfl | rfl | rfl | rfl | rfl
    all_goals
      go_enter Tryd.func73, Tryd.ntmps73
      go_wp2_with (go_at_call 53; refine (l1In_any _ _ _ _).mono ?_; rintro e w' ⟨rfl, rfl⟩)
      go_ret
      exact ⟨rfl, below_mk _ _⟩
  · have e : tildeK n = 0 := by
      unfold tildeK
      repeat (rw [if_neg (by omega)])
    rw [e]
    exact l3Tilde_no n w (by simp [inR]; omega)

set_option maxRecDepth 100000 in
set_option maxHeartbeats 2000000 in
theorem l3Coded_key (n k : Int) (w : World) (hn : n = 13 ∨ n = 9 ∨ n = 127 ∨ n = 27) (hk : keyB n = keyTk k 0 1) :
    Calls Tryd.prog 74 #[.int .i64 n] w fun e w' => e = .returned (.int .i64 k) ∧ Below w.heap.size w w' := by
  have HK := Lib.hid (fun W => specKeyOfByte_any n W (by omega))
  rw [hk] at HK
  clear hk
  have f1 := fld_token
  have f2 := fld_event
  have f3 := fld_evcode
  rcases hn with rfl | rfl | rfl | rfl
  all_goals
    go_enter Tryd.func74, Tryd.ntmps74
    go_wp2_with (go_at_call 17; refine (HK.out _).mono ?_; rintro e w1 ⟨rfl, hb⟩; unfold tkV keyTk keyEv)
    go_ret
    exact ⟨rfl, hb⟩

set_option maxRecDepth 100000 in
set_option maxHeartbeats 2000000 in
theorem l3Coded_no (n : Int) (w : World) (hn : ¬ (n = 13 ∨ n = 9 ∨ n = 127 ∨ n = 27)) :
    Calls Tryd.prog 74 #[.int .i64 n] w fun e w' => e = .returned (.int .i64 (if (point n && decide (32 ≤ n)) = true then n else 0)) ∧ Below w.heap.size w w' := by
  have h1 : ¬ n = 13 := fun e => hn (.inl e)
  have h2 : ¬ n = 9 := fun e => hn (.inr (.inl e))
  have h3 : ¬ n = 127 := fun e => hn (.inr (.inr (.inl e)))
  have h4 : ¬ n = 27 := fun e => hn (.inr (.inr (.inr e)))
  clear hn
  cases hp : point n
  · go_enter Tryd.func74, Tryd.ntmps74
    go_wp2_with (go_at_call 38; refine (l1Point_any _ _).mono ?_; rintro e w1 ⟨rfl, rfl⟩; rw [hp])
    go_ret
    exact ⟨rfl, Below.refl _ _⟩
  · by_cases h32 : 32 ≤ n
    · rw [if_pos (by simp [h32])]
      go_enter Tryd.func74, Tryd.ntmps74
      go_wp2_with (go_at_call 38; refine (l1Point_any _ _).mono ?_; rintro e w1 ⟨rfl, rfl⟩; rw [hp])
      go_ret
      exact ⟨rfl, Below.refl _ _⟩
    · rw [if_neg (by simp; omega)]
      go_enter Tryd.func74, Tryd.ntmps74
      go_wp2_with (go_at_call 38; refine (l1Point_any _ _).mono ?_; rintro e w1 ⟨rfl, rfl⟩; rw [hp])
      go_ret
      exact ⟨rfl, Below.refl _ _⟩

theorem l3Coded_any (n : Int) (w : World) :
    Calls Tryd.prog 74 #[.int .i64 n] w fun e w' => e = .returned (.int .i64 (codedK n)) ∧ Below w.heap.size w w' := by
  by_cases hn : n = 13 ∨ n = 9 ∨ n = 127 ∨ n = 27
  · rcases hn with rfl | rfl | rfl | rfl
    · exact l3Coded_key 13 2000001 w (by omega) rfl
    · exact l3Coded_key 9 2000002 w (by omega) rfl
    · exact l3Coded_key 127 2000003 w (by omega) rfl
    · exact l3Coded_key 27 2000004 w (by omega) rfl
  · have e : codedK n = if (point n && decide (32 ≤ n)) = true then n else 0 := by
      unfold codedK
      rw [if_neg (fun e => hn (.inl e)), if_neg (fun e => hn (.inr (.inl e))), if_neg (fun e => hn (.inr (.inr (.inl e)))), if_neg (fun e => hn (.inr (.inr (.inr e))))]
    rw [e]
    exact l3Coded_no n w hn

end Go.Proofs.YtcchhlcgamcceaaDoor

/- The key of parts: codeOfParts and KeyOfParts of the program. -/
namespace Go.Proofs.YtcchhlcgamcceaaDoor
open Go.RowKit

def lettersOK : List Int → Bool
  | [] => true
  | [x, _] => x == 1
  | _ => false
def partsT (l : List Int) (f : Int) : Int × Bool :=
  if f = 126 ∨ f = 117 then (match l with
    | [] => (0, false)
    | x :: _ => if f = 126 then (tildeK x, tildeK x != 0) else pointT x)
  else (letterK f, letterK f != 0 && lettersOK l)

theorem partsT_e {f : Int} (hf : f = 126 ∨ f = 117) : partsT [] f = (0, false) := by unfold partsT; rw [if_pos hf]
theorem partsT_t (x : Int) (r : List Int) : partsT (x :: r) 126 = (tildeK x, tildeK x != 0) := by unfold partsT; rw [if_pos (by omega)]; rfl
theorem partsT_u (x : Int) (r : List Int) : partsT (x :: r) 117 = pointT x := by unfold partsT; rw [if_pos (by omega)]; rfl
theorem partsT_l (l : List Int) {f : Int} (hf : ¬ (f = 126 ∨ f = 117)) : partsT l f = (letterK f, letterK f != 0 && lettersOK l) := by unfold partsT; rw [if_neg hf]

set_option maxRecDepth 100000 in
set_option maxHeartbeats 2000000 in
theorem codeOfParts_e (p : Option Addr) (c : Nat) (f : Int) (w : World) (hf : f = 126 ∨ f = 117) :
    Calls Tryd.prog 80 #[.slice p 0 c, .int .u8 f] w fun e w' => e = .returned (.tuple #[.int .i64 0, .bool false]) ∧ Below w.heap.size w w' := by
  rcases hf with rfl | rfl
  all_goals
    go_enter Tryd.func80, Tryd.ntmps80
    go_wp2
    go_ret2
    exact ⟨rfl, Below.refl _ _⟩

set_option maxRecDepth 100000 in
set_option maxHeartbeats 2000000 in
theorem codeOfParts_t (b off c n : Nat) (x : Int) (w : World) (hc : w.cell? ⟨b, off, none⟩ = some (.int .i64 x)) (hn : n = 1 ∨ n = 2) :
    Calls Tryd.prog 80 #[.slice (some ⟨b, off, none⟩) n c, .int .u8 126] w fun e w' => e = .returned (.tuple #[.int .i64 (tildeK x), .bool (tildeK x != 0)]) ∧ Below w.heap.size w w' := by
  have HT := Lib.hid (codeOfNumber_any x)
  generalize tildeK x = k at *
  rcases hn with rfl | rfl
  all_goals
    go_enter Tryd.func80, Tryd.ntmps80
    go_wp2_with (go_at_call 90; refine (HT.out _).mono ?_; rintro e w1 ⟨rfl, rfl⟩)
    go_ret2
    exact ⟨rfl, Below.refl _ _⟩

set_option maxRecDepth 100000 in
set_option maxHeartbeats 2000000 in
theorem codeOfParts_u (b off c n : Nat) (x : Int) (w : World) (hc : w.cell? ⟨b, off, none⟩ = some (.int .i64 x)) (hn : n = 1 ∨ n = 2) :
    Calls Tryd.prog 80 #[.slice (some ⟨b, off, none⟩) n c, .int .u8 117] w fun e w' => e = .returned (.tuple #[.int .i64 (pointT x).1, .bool (pointT x).2]) ∧ Below w.heap.size w w' := by
  have HT := Lib.hid (codeOfPoint_any x)
  generalize pointT x = k at *
  rcases hn with rfl | rfl
  all_goals
    go_enter Tryd.func80, Tryd.ntmps80
    go_wp2_with (go_at_call 91; refine (HT.out _).mono ?_; rintro e w1 ⟨rfl, hb⟩)
    go_ret2
    exact ⟨rfl, hb⟩

set_option maxRecDepth 100000 in
set_option maxHeartbeats 2000000 in
theorem codeOfParts_l0 (p : Option Addr) (c n : Nat) (f : Int) (w : World) (h1 : ¬ f = 126) (h2 : ¬ f = 117) (hn : n = 0 ∨ n = 1) :
    Calls Tryd.prog 80 #[.slice p n c, .int .u8 f] w fun e w' => e = .returned (.tuple #[.int .i64 (letterK f), .bool (letterK f != 0 && decide (n = 0))]) ∧ Below w.heap.size w w' := by
  have HT := Lib.hid (codeOfLetter_any f)
  generalize letterK f = k at *
  by_cases hk : k = 0
  · subst hk
    rcases hn with rfl | rfl
    all_goals
      go_enter Tryd.func80, Tryd.ntmps80
      go_wp2_with (go_at_call 89; refine (HT.out _).mono ?_; rintro e w1 ⟨rfl, rfl⟩)
      go_quiet (fail)
      go_wp2
      go_ret2
      exact ⟨rfl, below_drewN (Below.refl _ _) nq⟩
  · have hk2 : (k != 0) = true := by simp [hk]
    have hk3 : (k == 0) = false := by simp [hk]
    rcases hn with rfl | rfl
    all_goals
      go_enter Tryd.func80, Tryd.ntmps80
      go_wp2_with (go_at_call 89; refine (HT.out _).mono ?_; rintro e w1 ⟨rfl, rfl⟩)
      go_quiet (fail)
      go_wp2
      go_ret2
      exact ⟨by rw [hk2]; rfl, below_drewN (Below.refl _ _) nq⟩

set_option maxRecDepth 100000 in
set_option maxHeartbeats 2000000 in
theorem codeOfParts_l2 (b off c : Nat) (x f : Int) (w : World) (hc : w.cell? ⟨b, off, none⟩ = some (.int .i64 x)) (h1 : ¬ f = 126) (h2 : ¬ f = 117) :
    Calls Tryd.prog 80 #[.slice (some ⟨b, off, none⟩) 2 c, .int .u8 f] w fun e w' => e = .returned (.tuple #[.int .i64 (letterK f), .bool (letterK f != 0 && (x == 1))]) ∧ Below w.heap.size w w' := by
  have HT := Lib.hid (codeOfLetter_any f)
  generalize letterK f = k at *
  by_cases hk : k = 0
  · subst hk
    go_enter Tryd.func80, Tryd.ntmps80
    go_wp2_with (go_at_call 89; refine (HT.out _).mono ?_; rintro e w1 ⟨rfl, rfl⟩)
    go_quiet (fail)
    go_wp2
    go_ret2
    exact ⟨rfl, below_drewN (Below.refl _ _) nq⟩
  · have hk2 : (k != 0) = true := by simp [hk]
    have hk3 : (k == 0) = false := by simp [hk]
    go_enter Tryd.func80, Tryd.ntmps80
    go_wp2_with (go_at_call 89; refine (HT.out _).mono ?_; rintro e w1 ⟨rfl, rfl⟩)
    go_quiet (fail)
    go_wp2
    go_ret2
    exact ⟨by rw [hk2]; rfl, below_drewN (Below.refl _ _) nq⟩

theorem codeOfParts_any (p : Option Addr) (c : Nat) (l : List Int) (f : Int) (w : World) (h : Is w w.heap.size p l) (hl : l.length ≤ 2) :
    Calls Tryd.prog 80 #[.slice p l.length c, .int .u8 f] w fun e w' => e = .returned (.tuple #[.int .i64 (partsT l f).1, .bool (partsT l f).2]) ∧ Below w.heap.size w w' := by
  by_cases hf : f = 126 ∨ f = 117
  · match l, h, hl with
    | [], _, _ => rw [partsT_e hf]; exact codeOfParts_e p c f w hf
    | x :: r, h, hl =>
      obtain ⟨b, off, rfl, hb, hc⟩ := h.cons
      have hc0 := hc 0 (by simp)
      have hn : (x :: r).length = 1 ∨ (x :: r).length = 2 := by have e : (x :: r).length = r.length + 1 := rfl; omega
      rcases hf with rfl | rfl
      · rw [partsT_t]; exact codeOfParts_t b off c _ x w hc0 hn
      · rw [partsT_u]; exact codeOfParts_u b off c _ x w hc0 hn
  · rw [partsT_l l hf]
    have h1 : ¬ f = 126 := fun e => hf (.inl e)
    have h2 : ¬ f = 117 := fun e => hf (.inr e)
    match l, h, hl with
    | [], _, _ => exact codeOfParts_l0 p c 0 f w h1 h2 (.inl rfl)
    | [_], _, _ => exact codeOfParts_l0 p c 1 f w h1 h2 (.inr rfl)
    | [x, _], h, _ =>
      obtain ⟨b, off, rfl, hb, hc⟩ := h.cons
      exact codeOfParts_l2 b off c x f w (hc 0 (by simp)) h1 h2
    | _ :: _ :: _ :: r, _, hl => exact absurd hl (by simp)

end Go.Proofs.YtcchhlcgamcceaaDoor
