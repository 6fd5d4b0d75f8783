/- The key of parts: the program's modsOfNumbers, codeOfLetter, codeOfNumber, codeOfPoint, codeOfParts. -/
import Derived.Test.YtcchhlcgamcceaaDoorQTokToTokLaw2
import Derived.Test.YtcchhlcgamcceaaDoorQPiecesInToPartsImpl
import Derived.Test.YtcchhlcgamcceaaDoorQBytesToCells
import Derived.Deep.QuietTactic
import Derived.BigQuiet
namespace Go.Proofs.YtcchhlcgamcceaaDoor
open Go.RowKit

/-- the modifiers of numbers, and whether they are defined -/
def modsT : List Int → Int × Bool
  | [] => (0, true)
  | [_] => (0, true)
  | [_, m] => if 1 ≤ m ∧ m ≤ 8 then (m - 1, true) else (0, false)
  | _ => (0, false)
/-- the key of a final letter -/
def letterK (c : Int) : Int := if c = 65 then 2000005 else if c = 66 then 2000006 else if c = 67 then 2000007 else if c = 68 then 2000008 else if c = 72 then 2000009 else if c = 70 then 2000010 else 0
/-- the key of a number -/
def tildeK (n : Int) : Int := if n = 1 then 2000009 else if n = 2 then 2000011 else if n = 3 then 2000012 else if n = 4 then 2000010 else if n = 5 then 2000013 else if n = 6 then 2000014 else 0
/-- the key of a code -/
def codedK (n : Int) : Int := if n = 13 then 2000001 else if n = 9 then 2000002 else if n = 127 then 2000003 else if n = 27 then 2000004 else if (point n && decide (32 ≤ n)) = true then n else 0

theorem Is.cons {w : World} {B : Nat} {p : Option Addr} {x : Int} {r : List Int} (h : Is w B p (x :: r)) : ∃ b off, p = some ⟨b, off, none⟩ ∧ b < B ∧ ∀ i, i < r.length + 1 → w.cell? ⟨b, off + i, none⟩ = some (.int .i64 ((x :: r).getD i 0)) := h (by simp)

set_option maxRecDepth 100000 in
set_option maxHeartbeats 1000000 in
theorem codeOfLetter_any (c : Int) (w : World) : Calls Tryd.prog 89 #[.int .u8 c] w fun e w' => e = .returned (.int .i64 (letterK c)) ∧ w = w' := by
  unfold letterK
  repeat' split
  all_goals
    go_enter Tryd.func89, Tryd.ntmps89
    go_wp2
    go_ret
    exact ⟨rfl, rfl⟩

set_option maxRecDepth 100000 in
set_option maxHeartbeats 1000000 in
theorem codeOfNumber_any (c : Int) (w : World) : Calls Tryd.prog 90 #[.int .i64 c] w fun e w' => e = .returned (.int .i64 (tildeK c)) ∧ w = w' := by
  unfold tildeK
  repeat' split
  all_goals
    go_enter Tryd.func90, Tryd.ntmps90
    go_wp2
    go_ret
    exact ⟨rfl, rfl⟩

set_option maxRecDepth 100000 in
set_option maxHeartbeats 1000000 in
theorem modsOfNumbers_any (p : Option Addr) (c : Nat) (l : List Int) (w : World) (h : Is w w.heap.size p l) (hl : l.length ≤ 4) :
    Calls Tryd.prog 79 #[.slice p l.length c] w fun e w' => e = .returned (.tuple #[.int .i64 (modsT l).1, .bool (modsT l).2]) ∧ Below w.heap.size w w' := by
  match l, h, hl with
  | [], _, _ =>
    show Calls Tryd.prog 79 #[.slice p 0 c] w _
    go_enter Tryd.func79, Tryd.ntmps79
    go_wp2
    go_ret2
    exact ⟨rfl, Below.refl _ _⟩
  | [_], _, _ =>
    show Calls Tryd.prog 79 #[.slice p 1 c] w _
    go_enter Tryd.func79, Tryd.ntmps79
    go_wp2
    go_ret2
    exact ⟨rfl, Below.refl _ _⟩
  | [x, m], h, _ =>
    obtain ⟨b, off, rfl, hb, hc⟩ := h.cons
    have hc1 := hc 1 (by simp)
    simp only [List.getD_cons_succ, List.getD_cons_zero] at hc1
    clear hc h
    show Calls Tryd.prog 79 #[.slice (some ⟨b, off, none⟩) 2 c] w _
    by_cases hm : 1 ≤ m ∧ m ≤ 8
    · have HT : Hid (modsT [x, m] = (m - 1, true)) := if_pos hm
      have hi : inR m 1 8 = true := by simp [inR, hm]
      go_enter Tryd.func79, Tryd.ntmps79
      go_wp2_with (go_at_call 82; refine (isWithin_two _ _ _ _ _ _ (by simp)).mono ?_; rintro e w' ⟨rfl, rfl⟩; rw [hi])
      go_ret2
      exact ⟨by rw [HT.out]; rfl, below_mk _ _⟩
    · have HT : Hid (modsT [x, m] = (0, false)) := if_neg hm
      have hi : inR m 1 8 = false := by simp [inR]; omega
      go_enter Tryd.func79, Tryd.ntmps79
      go_wp2_with (go_at_call 82; refine (isWithin_two _ _ _ _ _ _ (by simp)).mono ?_; rintro e w' ⟨rfl, rfl⟩; rw [hi])
      go_ret2
      exact ⟨by rw [HT.out]; rfl, below_mk _ _⟩
  | [_, _, _], _, _ =>
    show Calls Tryd.prog 79 #[.slice p 3 c] w _
    go_enter Tryd.func79, Tryd.ntmps79
    go_wp2
    go_ret2
    exact ⟨rfl, Below.refl _ _⟩
  | [_, _, _, _], _, _ =>
    show Calls Tryd.prog 79 #[.slice p 4 c] w _
    go_enter Tryd.func79, Tryd.ntmps79
    go_wp2
    go_ret2
    exact ⟨rfl, Below.refl _ _⟩
  | _ :: _ :: _ :: _ :: _ :: r, _, hl => exact absurd hl (by simp)

def pointT (n : Int) : Int × Bool := if n = 13 ∨ n = 9 ∨ n = 127 ∨ n = 27 then (codedK n, true) else (n, point n && decide (32 ≤ n))
theorem keyB_13 : keyB 13 = keyTk 2000001 0 1 := rfl
theorem keyB_9 : keyB 9 = keyTk 2000002 0 1 := rfl
theorem keyB_127 : keyB 127 = keyTk 2000003 0 1 := rfl
theorem keyB_27 : keyB 27 = keyTk 2000004 0 1 := rfl

set_option maxRecDepth 100000 in
set_option maxHeartbeats 2000000 in
theorem codeOfPoint_key (n k : Int) (w : World) (hn : n = 13 ∨ n = 9 ∨ n = 127 ∨ n = 27) (hk : keyB n = keyTk k 0 1) :
    Calls Tryd.prog 91 #[.int .i64 n] w fun e w' => e = .returned (.tuple #[.int .i64 k, .bool true]) ∧ Below w.heap.size w w' := by
  have HK := Lib.hid (fun W => implKeyOfByte_any n W (by omega))
  rw [hk] at HK
  clear hk
  have f1 := fld_token
  have f2 := fld_event
  have f3 := fld_evcode
  rcases hn with rfl | rfl | rfl | rfl
  all_goals
    go_enter Tryd.func91, Tryd.ntmps91
    go_wp2_with (go_at_call 42; refine (HK.out _).mono ?_; rintro e w1 ⟨rfl, hb⟩; unfold tkV keyTk keyEv)
    go_ret2
    exact ⟨rfl, hb⟩

set_option maxRecDepth 100000 in
set_option maxHeartbeats 2000000 in
theorem codeOfPoint_no (n : Int) (w : World) (hn : ¬ (n = 13 ∨ n = 9 ∨ n = 127 ∨ n = 27)) :
    Calls Tryd.prog 91 #[.int .i64 n] w fun e w' => e = .returned (.tuple #[.int .i64 n, .bool (point n && decide (32 ≤ n))]) ∧ Below w.heap.size w w' := by
  have h1 : ¬ n = 13 := fun e => hn (.inl e)
  have h2 : ¬ n = 9 := fun e => hn (.inr (.inl e))
  have h3 : ¬ n = 127 := fun e => hn (.inr (.inr (.inl e)))
  have h4 : ¬ n = 27 := fun e => hn (.inr (.inr (.inr e)))
  clear hn
  cases hp : point n
  all_goals
    go_enter Tryd.func91, Tryd.ntmps91
    go_wp2_with (go_at_call 95; refine (implIsPoint_any _ _).mono ?_; rintro e w1 ⟨rfl, hb⟩; rw [hp])
    go_ret2
    exact ⟨by simp, hb⟩

theorem codeOfPoint_any (n : Int) (w : World) :
    Calls Tryd.prog 91 #[.int .i64 n] w fun e w' => e = .returned (.tuple #[.int .i64 (pointT n).1, .bool (pointT n).2]) ∧ Below w.heap.size w w' := by
  by_cases hn : n = 13 ∨ n = 9 ∨ n = 127 ∨ n = 27
  · unfold pointT
    rw [if_pos hn]
    rcases hn with rfl | rfl | rfl | rfl
    · exact codeOfPoint_key 13 2000001 w (by omega) rfl
    · exact codeOfPoint_key 9 2000002 w (by omega) rfl
    · exact codeOfPoint_key 127 2000003 w (by omega) rfl
    · exact codeOfPoint_key 27 2000004 w (by omega) rfl
  · unfold pointT
    rw [if_neg hn]
    exact codeOfPoint_no n w hn

end Go.Proofs.YtcchhlcgamcceaaDoor

/- The key of parts, by the model: l3Letter, l3Tilde, l3Coded, l3Mods, l3Named, KeyOfParts. -/
namespace Go.Proofs.YtcchhlcgamcceaaDoor
open Go.RowKit

set_option maxRecDepth 100000 in
set_option maxHeartbeats 1000000 in
theorem l3Letter_any (c : Int) (w : World) : Calls Tryd.prog 32 #[.int .u8 c] w fun e w' => e = .returned (.int .i64 (letterK c)) ∧ w = w' := by
  unfold letterK
  repeat' split
  all_goals
    go_enter Tryd.func32, Tryd.ntmps32
    go_wp2
    go_ret
    exact ⟨rfl, rfl⟩

set_option maxRecDepth 100000 in
set_option maxHeartbeats 1000000 in
theorem l3Tilde_no (n : Int) (w : World) (hn : inR n 1 6 = false) : Calls Tryd.prog 73 #[.int .i64 n] w fun e w' => e = .returned (.int .i64 0) ∧ Below w.heap.size w w' := by
  go_enter Tryd.func73, Tryd.ntmps73
  go_wp2_with (go_at_call 53; refine (l1In_any _ _ _ _).mono ?_; rintro e w' ⟨rfl, rfl⟩; rw [hn])
  go_ret
  exact ⟨rfl, below_mk _ _⟩

set_option maxRecDepth 100000 in
set_option maxHeartbeats 1000000 in
theorem l3Tilde_any (n : Int) (w : World) : Calls Tryd.prog 73 #[.int .i64 n] w fun e w' => e = .returned (.int .i64 (tildeK n)) ∧ Below w.heap.size w w' := by
  by_cases h : 1 ≤ n ∧ n ≤ 6
  · have : n = 1 ∨ n = 2 ∨ n = 3 ∨ n = 4 ∨ n = 5 ∨ n = 6 := by omega
    rcases this with rfl | rfl | rfl | rfl | rfl | rfl
    all_goals
      go_enter Tryd.func73, Tryd.ntmps73
      go_wp2_with (go_at_call 53; refine (l1In_any _ _ _ _).mono ?_; rintro e w' ⟨rfl, rfl⟩)
      go_ret
      exact ⟨rfl, below_mk _ _⟩
  · have e : tildeK n = 0 := by
      unfold tildeK
      repeat (rw [if_neg (by omega)])
    rw [e]
    exact l3Tilde_no n w (by simp [inR]; omega)

set_option maxRecDepth 100000 in
set_option maxHeartbeats 2000000 in
theorem l3Coded_key (n k : Int) (w : World) (hn : n = 13 ∨ n = 9 ∨ n = 127 ∨ n = 27) (hk : keyB n = keyTk k 0 1) :
    Calls Tryd.prog 74 #[.int .i64 n] w fun e w' => e = .returned (.int .i64 k) ∧ Below w.heap.size w w' := by
  have HK := Lib.hid (fun W => specKeyOfByte_any n W (by omega))
  rw [hk] at HK
  clear hk
  have f1 := fld_token
  have f2 := fld_event
  have f3 := fld_evcode
  rcases hn with rfl | rfl | rfl | rfl
  all_goals
    go_enter Tryd.func74, Tryd.ntmps74
    go_wp2_with (go_at_call 17; refine (HK.out _).mono ?_; rintro e w1 ⟨rfl, hb⟩; unfold tkV keyTk keyEv)
    go_ret
    exact ⟨rfl, hb⟩

set_option maxRecDepth 100000 in
set_option maxHeartbeats 2000000 in
theorem l3Coded_no (n : Int) (w : World) (hn : ¬ (n = 13 ∨ n = 9 ∨ n = 127 ∨ n = 27)) :
    Calls Tryd.prog 74 #[.int .i64 n] w fun e w' => e = .returned (.int .i64 (if (point n && decide (32 ≤ n)) = true then n else 0)) ∧ Below w.heap.size w w' := by
  have h1 : ¬ n = 13 := fun e => hn (.inl e)
  have h2 : ¬ n = 9 := fun e => hn (.inr (.inl e))
  have h3 : ¬ n = 127 := fun e => hn (.inr (.inr (.inl e)))
  have h4 : ¬ n = 27 := fun e => hn (.inr (.inr (.inr e)))
  clear hn
  cases hp : point n
  · go_enter Tryd.func74, Tryd.ntmps74
    go_wp2_with (go_at_call 38; refine (l1Point_any _ _).mono ?_; rintro e w1 ⟨rfl, rfl⟩; rw [hp])
    go_ret
    exact ⟨rfl, Below.refl _ _⟩
  · by_cases h32 : 32 ≤ n
    · rw [if_pos (by simp [h32])]
      go_enter Tryd.func74, Tryd.ntmps74
      go_wp2_with (go_at_call 38; refine (l1Point_any _ _).mono ?_; rintro e w1 ⟨rfl, rfl⟩; rw [hp])
      go_ret
      exact ⟨rfl, Below.refl _ _⟩
    · rw [if_neg (by simp; omega)]
      go_enter Tryd.func74, Tryd.ntmps74
      go_wp2_with (go_at_call 38; refine (l1Point_any _ _).mono ?_; rintro e w1 ⟨rfl, rfl⟩; rw [hp])
      go_ret
      exact ⟨rfl, Below.refl _ _⟩

theorem l3Coded_any (n : Int) (w : World) :
    Calls Tryd.prog 74 #[.int .i64 n] w fun e w' => e = .returned (.int .i64 (codedK n)) ∧ Below w.heap.size w w' := by
  by_cases hn : n = 13 ∨ n = 9 ∨ n = 127 ∨ n = 27
  · rcases hn with rfl | rfl | rfl | rfl
    · exact l3Coded_key 13 2000001 w (by omega) rfl
    · exact l3Coded_key 9 2000002 w (by omega) rfl
    · exact l3Coded_key 127 2000003 w (by omega) rfl
    · exact l3Coded_key 27 2000004 w (by omega) rfl
  · have e : codedK n = if (point n && decide (32 ≤ n)) = true then n else 0 := by
      unfold codedK
      rw [if_neg (fun e => hn (.inl e)), if_neg (fun e => hn (.inr (.inl e))), if_neg (fun e => hn (.inr (.inr (.inl e)))), if_neg (fun e => hn (.inr (.inr (.inr e))))]
    rw [e]
    exact l3Coded_no n w hn

end Go.Proofs.YtcchhlcgamcceaaDoor

/- The key of parts: codeOfParts and KeyOfParts of the program. -/
namespace Go.Proofs.YtcchhlcgamcceaaDoor
open Go.RowKit

def lettersOK : List Int → Bool
  | [] => true
  | [x, _] => x == 1
  | _ => false
def partsT (l : List Int) (f : Int) : Int × Bool :=
  if f = 126 ∨ f = 117 then (match l with
    | [] => (0, false)
    | x :: _ => if f = 126 then (tildeK x, tildeK x != 0) else pointT x)
  else (letterK f, letterK f != 0 && lettersOK l)

theorem partsT_e {f : Int} (hf : f = 126 ∨ f = 117) : partsT [] f = (0, false) := by unfold partsT; rw [if_pos hf]
theorem partsT_t (x : Int) (r : List Int) : partsT (x :: r) 126 = (tildeK x, tildeK x != 0) := by unfold partsT; rw [if_pos (by omega)]; rfl
theorem partsT_u (x : Int) (r : List Int) : partsT (x :: r) 117 = pointT x := by unfold partsT; rw [if_pos (by omega)]; rfl
theorem partsT_l (l : List Int) {f : Int} (hf : ¬ (f = 126 ∨ f = 117)) : partsT l f = (letterK f, letterK f != 0 && lettersOK l) := by unfold partsT; rw [if_neg hf]

set_option maxRecDepth 100000 in
set_option maxHeartbeats 2000000 in
theorem codeOfParts_e (p : Option Addr) (c : Nat) (f : Int) (w : World) (hf : f = 126 ∨ f = 117) :
    Calls Tryd.prog 80 #[.slice p 0 c, .int .u8 f] w fun e w' => e = .returned (.tuple #[.int .i64 0, .bool false]) ∧ Below w.heap.size w w' := by
  rcases hf with rfl | rfl
  all_goals
    go_enter Tryd.func80, Tryd.ntmps80
    go_wp2
    go_ret2
    exact ⟨rfl, Below.refl _ _⟩

set_option maxRecDepth 100000 in
set_option maxHeartbeats 2000000 in
theorem codeOfParts_t (b off c n : Nat) (x : Int) (w : World) (hc : w.cell? ⟨b, off, none⟩ = some (.int .i64 x)) (hn : n = 1 ∨ n = 2) :
    Calls Tryd.prog 80 #[.slice (some ⟨b, off, none⟩) n c, .int .u8 126] w fun e w' => e = .returned (.tuple #[.int .i64 (tildeK x), .bool (tildeK x != 0)]) ∧ Below w.heap.size w w' := by
  have HT := Lib.hid (codeOfNumber_any x)
  generalize tildeK x = k at *
  rcases hn with rfl | rfl
  all_goals
    go_enter Tryd.func80, Tryd.ntmps80
    go_wp2_with (go_at_call 90; refine (HT.out _).mono ?_; rintro e w1 ⟨rfl, rfl⟩)
    go_ret2
    exact ⟨rfl, Below.refl _ _⟩

set_option maxRecDepth 100000 in
set_option maxHeartbeats 2000000 in
theorem codeOfParts_u (b off c n : Nat) (x : Int) (w : World) (hc : w.cell? ⟨b, off, none⟩ = some (.int .i64 x)) (hn : n = 1 ∨ n = 2) :
    Calls Tryd.prog 80 #[.slice (some ⟨b, off, none⟩) n c, .int .u8 117] w fun e w' => e = .returned (.tuple #[.int .i64 (pointT x).1, .bool (pointT x).2]) ∧ Below w.heap.size w w' := by
  have HT := Lib.hid (codeOfPoint_any x)
  generalize pointT x = k at *
  rcases hn with rfl | rfl
  all_goals
    go_enter Tryd.func80, Tryd.ntmps80
    go_wp2_with (go_at_call 91; refine (HT.out _).mono ?_; rintro e w1 ⟨rfl, hb⟩)
    go_ret2
    exact ⟨rfl, hb⟩

set_option maxRecDepth 100000 in
set_option maxHeartbeats 2000000 in
theorem codeOfParts_l0 (p : Option Addr) (c n : Nat) (f : Int) (w : World) (h1 : ¬ f = 126) (h2 : ¬ f = 117) (hn : n = 0 ∨ n = 1) :
    Calls Tryd.prog 80 #[.slice p n c, .int .u8 f] w fun e w' => e = .returned (.tuple #[.int .i64 (letterK f), .bool (letterK f != 0 && decide (n = 0))]) ∧ Below w.heap.size w w' := by
  have HT := Lib.hid (codeOfLetter_any f)
  generalize letterK f = k at *
  by_cases hk : k = 0
  · subst hk
    rcases hn with rfl | rfl
    all_goals
      go_enter Tryd.func80, Tryd.ntmps80
      go_wp2_with (go_at_call 89; refine (HT.out _).mono ?_; rintro e w1 ⟨rfl, rfl⟩)
      go_quiet (fail)
      go_wp2
      go_ret2
      exact ⟨rfl, below_drewN (Below.refl _ _) nq⟩
  · have hk2 : (k != 0) = true := by simp [hk]
    have hk3 : (k == 0) = false := by simp [hk]
    rcases hn with rfl | rfl
    all_goals
      go_enter Tryd.func80, Tryd.ntmps80
      go_wp2_with (go_at_call 89; refine (HT.out _).mono ?_; rintro e w1 ⟨rfl, rfl⟩)
      go_quiet (fail)
      go_wp2
      go_ret2
      exact ⟨by rw [hk2]; rfl, below_drewN (Below.refl _ _) nq⟩

set_option maxRecDepth 100000 in
set_option maxHeartbeats 2000000 in
theorem codeOfParts_l2 (b off c : Nat) (x f : Int) (w : World) (hc : w.cell? ⟨b, off, none⟩ = some (.int .i64 x)) (h1 : ¬ f = 126) (h2 : ¬ f = 117) :
    Calls Tryd.prog 80 #[.slice (some ⟨b, off, none⟩) 2 c, .int .u8 f] w fun e w' => e = .returned (.tuple #[.int .i64 (letterK f), .bool (letterK f != 0 && (x == 1))]) ∧ Below w.heap.size w w' := by
  have HT := Lib.hid (codeOfLetter_any f)
  generalize letterK f = k at *
  by_cases hk : k = 0
  · subst hk
    go_enter Tryd.func80, Tryd.ntmps80
    go_wp2_with (go_at_call 89; refine (HT.out _).mono ?_; rintro e w1 ⟨rfl, rfl⟩)
    go_quiet (fail)
    go_wp2
    go_ret2
    exact ⟨rfl, below_drewN (Below.refl _ _) nq⟩
  · have hk2 : (k != 0) = true := by simp [hk]
    have hk3 : (k == 0) = false := by simp [hk]
    go_enter Tryd.func80, Tryd.ntmps80
    go_wp2_with (go_at_call 89; refine (HT.out _).mono ?_; rintro e w1 ⟨rfl, rfl⟩)
    go_quiet (fail)
    go_wp2
    go_ret2
    exact ⟨by rw [hk2]; rfl, below_drewN (Below.refl _ _) nq⟩

theorem codeOfParts_any (p : Option Addr) (c : Nat) (l : List Int) (f : Int) (w : World) (h : Is w w.heap.size p l) (hl : l.length ≤ 2) :
    Calls Tryd.prog 80 #[.slice p l.length c, .int .u8 f] w fun e w' => e = .returned (.tuple #[.int .i64 (partsT l f).1, .bool (partsT l f).2]) ∧ Below w.heap.size w w' := by
  by_cases hf : f = 126 ∨ f = 117
  · match l, h, hl with
    | [], _, _ => rw [partsT_e hf]; exact codeOfParts_e p c f w hf
    | x :: r, h, hl =>
      obtain ⟨b, off, rfl, hb, hc⟩ := h.cons
      have hc0 := hc 0 (by simp)
      have hn : (x :: r).length = 1 ∨ (x :: r).length = 2 := by have e : (x :: r).length = r.length + 1 := rfl; omega
      rcases hf with rfl | rfl
      · rw [partsT_t]; exact codeOfParts_t b off c _ x w hc0 hn
      · rw [partsT_u]; exact codeOfParts_u b off c _ x w hc0 hn
  · rw [partsT_l l hf]
    have h1 : ¬ f = 126 := fun e => hf (.inl e)
    have h2 : ¬ f = 117 := fun e => hf (.inr e)
    match l, h, hl with
    | [], _, _ => exact codeOfParts_l0 p c 0 f w h1 h2 (.inl rfl)
    | [_], _, _ => exact codeOfParts_l0 p c 1 f w h1 h2 (.inr rfl)
    | [x, _], h, _ =>
      obtain ⟨b, off, rfl, hb, hc⟩ := h.cons
      exact codeOfParts_l2 b off c x f w (hc 0 (by simp)) h1 h2
    | _ :: _ :: _ :: r, _, hl => exact absurd hl (by simp)

end Go.Proofs.YtcchhlcgamcceaaDoor

/- KeyOfParts of the program. -/
namespace Go.Proofs.YtcchhlcgamcceaaDoor
open Go.RowKit

/-- the key of parts -/
def keyP (r : Pt) : Tk :=
  if r.code = 0 ∧ r.priv = false ∧ (modsT r.nums).2 = true ∧ (partsT r.nums r.fin).2 = true then keyTk (partsT r.nums r.fin).1 (modsT r.nums).1 r.size else badTk 5
theorem keyP_data (r : Pt) : (keyP r).ev.data = [] := by unfold keyP; split <;> rfl
theorem modsT_two {l : List Int} (h : (modsT l).2 = true) : l.length ≤ 2 := by
  match l with
  | [] => simp
  | [_] => simp
  | [_, _] => simp
  | _ :: _ :: _ :: _ => simp [modsT] at h

theorem tk_end_plain2 {w w1 : World} {o0 o : Obj} {t : Tk} (vs : List Value) (hb : Below ((w.alloc o0).alloc o).heap.size ((w.alloc o0).alloc o) w1) :
    PlainTk w t (.returned (tkV t (.slice none 0 0))) (sets w1 (w.heap.size + 1) 0 vs) :=
  ⟨rfl, sets_below (by omega) vs 0 _ _ (below_on (below_mk w o0) (below_on (below_mk _ o) hb))⟩

set_option maxRecDepth 100000 in
set_option maxHeartbeats 4000000 in
theorem implKeyOfParts_bad (r : Pt) (p : Option Addr) (c : Nat) (w : World) (h : Is w w.heap.size p r.nums) (hl : r.nums.length ≤ 4) (hb : (r.code == 0) = false ∨ ((r.code == 0) = true ∧ r.priv = true) ∨ ((r.code == 0) = true ∧ r.priv = false ∧ (modsT r.nums).2 = false)) :
    Calls Tryd.prog 68 #[ptV r (.slice p r.nums.length c)] w (PlainTk w (badTk 5)) := by
  have HM := Lib.hid (fun (o1 o2 : Obj) => modsOfNumbers_any p c r.nums ((w.alloc o1).alloc o2) ((h.alloc o1).alloc o2) hl)
  obtain ⟨code, priv, nums, fin, size⟩ := r
  dsimp only at *
  clear h hl
  generalize modsT nums = M at *
  obtain ⟨m, d⟩ := M
  unfold ptV
  dsimp only at HM hb ⊢
  have hx : (code != 0) = !(code == 0) := rfl
  rcases hb with h1 | ⟨h1, h2⟩ | ⟨h1, h2, h3⟩
  · rw [h1] at hx
    go_enter Tryd.func68, Tryd.ntmps68
    go_wp2_with fail
    refine (HM.out _ _).mono ?_
    rintro e w1 ⟨rfl, hb⟩
    obtain ⟨hcc, hf⟩ := bcell hb
    have HE : Hid (PlainTk w (badTk 5) (.returned (tkV (badTk 5) (.slice none 0 0))) (sets w1 (w.heap.size + 1) 0 (tkL (badTk 5) (.slice none 0 0)))) := tk_end_plain2 (tkL (badTk 5) (.slice none 0 0)) hb
    clear hb
    go_wp2_with fail
    refine bodyPost_ret (v := tkV (badTk 5) (.slice none 0 0)) ?_ rfl HE.out
    simp [results, Tryd.results68, tkV, badTk, noEv, go_sem, hcc]
  · rw [h1] at hx
    subst h2
    go_enter Tryd.func68, Tryd.ntmps68
    go_wp2_with fail
    refine (HM.out _ _).mono ?_
    rintro e w1 ⟨rfl, hb⟩
    obtain ⟨hcc, hf⟩ := bcell hb
    have HE : Hid (PlainTk w (badTk 5) (.returned (tkV (badTk 5) (.slice none 0 0))) (sets w1 (w.heap.size + 1) 0 (tkL (badTk 5) (.slice none 0 0)))) := tk_end_plain2 (tkL (badTk 5) (.slice none 0 0)) hb
    clear hb
    go_wp2_with fail
    refine bodyPost_ret (v := tkV (badTk 5) (.slice none 0 0)) ?_ rfl HE.out
    simp [results, Tryd.results68, tkV, badTk, noEv, go_sem, hcc]
  · rw [h1] at hx
    subst h2
    subst h3
    go_enter Tryd.func68, Tryd.ntmps68
    go_wp2_with fail
    refine (HM.out _ _).mono ?_
    rintro e w1 ⟨rfl, hb⟩
    obtain ⟨hcc, hf⟩ := bcell hb
    have HE : Hid (PlainTk w (badTk 5) (.returned (tkV (badTk 5) (.slice none 0 0))) (sets w1 (w.heap.size + 1) 0 (tkL (badTk 5) (.slice none 0 0)))) := tk_end_plain2 (tkL (badTk 5) (.slice none 0 0)) hb
    clear hb
    go_wp2_with fail
    refine bodyPost_ret (v := tkV (badTk 5) (.slice none 0 0)) ?_ rfl HE.out
    simp [results, Tryd.results68, tkV, badTk, noEv, go_sem, hcc]

set_option maxRecDepth 100000 in
set_option maxHeartbeats 4000000 in
theorem implKeyOfParts_good (r : Pt) (p : Option Addr) (c : Nat) (w : World) (h : Is w w.heap.size p r.nums) (hl : r.nums.length ≤ 4) (h1 : r.code = 0) (h2 : r.priv = false) (h3 : (modsT r.nums).2 = true) :
    Calls Tryd.prog 68 #[ptV r (.slice p r.nums.length c)] w (PlainTk w (if (partsT r.nums r.fin).2 = true then keyTk (partsT r.nums r.fin).1 (modsT r.nums).1 r.size else badTk 5)) := by
  have hl2 := modsT_two h3
  have HM := Lib.hid (fun (o1 o2 : Obj) => modsOfNumbers_any p c r.nums ((w.alloc o1).alloc o2) ((h.alloc o1).alloc o2) hl)
  have HC := Lib.hid (fun (o1 o2 : Obj) (w1 : World) (hb : Below ((w.alloc o1).alloc o2).heap.size ((w.alloc o1).alloc o2) w1) => codeOfParts_any p c r.nums r.fin w1 (((h.alloc o1).alloc o2).on hb) hl2)
  obtain ⟨code, priv, nums, fin, size⟩ := r
  dsimp only at *
  clear h hl hl2
  generalize modsT nums = M at *
  generalize partsT nums fin = K at *
  obtain ⟨m, d⟩ := M
  obtain ⟨k, f⟩ := K
  unfold ptV
  dsimp only at HM HC h3 ⊢
  subst h1
  subst h2
  subst h3
  cases f
  · rw [if_neg (by simp)]
    go_enter Tryd.func68, Tryd.ntmps68
    go_wp2_with fail
    refine (HM.out _ _).mono ?_
    rintro e w1 ⟨rfl, hb⟩
    obtain ⟨hcc, hf⟩ := bcell hb
    have HB := Lib.hid hb
    have HD := Lib.hid (HC.out _ _ _ hb)
    clear hb HC
    go_wp2_with fail
    refine HD.out.mono ?_
    rintro e w2 ⟨rfl, hb2⟩
    have hb := HB.out.trans (hb2.mono HB.out.size)
    clear hcc hf
    obtain ⟨hcc, hf⟩ := bcell hb
    have HE : Hid (PlainTk w (badTk 5) (.returned (tkV (badTk 5) (.slice none 0 0))) (sets w2 (w.heap.size + 1) 0 (tkL (badTk 5) (.slice none 0 0)))) := tk_end_plain2 (tkL (badTk 5) (.slice none 0 0)) hb
    clear hb hb2
    go_wp2_with fail
    refine bodyPost_ret (v := tkV (badTk 5) (.slice none 0 0)) ?_ rfl HE.out
    simp [results, Tryd.results68, tkV, badTk, noEv, go_sem, hcc]
  · rw [if_pos rfl]
    go_enter Tryd.func68, Tryd.ntmps68
    go_wp2_with fail
    refine (HM.out _ _).mono ?_
    rintro e w1 ⟨rfl, hb⟩
    obtain ⟨hcc, hf⟩ := bcell hb
    have HB := Lib.hid hb
    have HD := Lib.hid (HC.out _ _ _ hb)
    clear hb HC
    go_wp2_with fail
    refine HD.out.mono ?_
    rintro e w2 ⟨rfl, hb2⟩
    have HB2 := Lib.hid (HB.out.trans (hb2.mono HB.out.size))
    clear hcc hf
    obtain ⟨hcc, hf⟩ := bcell HB2.out
    clear hb2
    go_wp2_with fail
    refine (keyResult_any _ _ _ _).mono ?_
    rintro e w3 ⟨rfl, hb3⟩
    have hb := HB2.out.trans (hb3.mono HB2.out.size)
    clear hcc hf
    obtain ⟨hcc, hf⟩ := bcell hb
    have HE : Hid (PlainTk w (keyTk k m size) (.returned (tkV (keyTk k m size) (.slice none 0 0))) (sets w3 (w.heap.size + 1) 0 (tkL (keyTk k m size) (.slice none 0 0)))) := tk_end_plain2 (tkL (keyTk k m size) (.slice none 0 0)) hb
    clear hb hb3
    unfold tkV keyTk keyEv
    go_wp2_with fail
    refine bodyPost_ret (v := tkV (keyTk k m size) (.slice none 0 0)) ?_ rfl HE.out
    simp [results, Tryd.results68, tkV, keyTk, keyEv, go_sem, hcc]

theorem implKeyOfParts_any (r : Pt) (p : Option Addr) (c : Nat) (w : World) (h : Is w w.heap.size p r.nums) (hl : r.nums.length ≤ 4) :
    Calls Tryd.prog 68 #[ptV r (.slice p r.nums.length c)] w (PlainTk w (keyP r)) := by
  by_cases h1 : r.code = 0
  · by_cases h2 : r.priv = false
    · by_cases h3 : (modsT r.nums).2 = true
      · have := implKeyOfParts_good r p c w h hl h1 h2 h3
        unfold keyP
        by_cases h4 : (partsT r.nums r.fin).2 = true
        · rw [if_pos ⟨h1, h2, h3, h4⟩]
          rw [if_pos h4] at this
          exact this
        · rw [if_neg (fun hh => h4 hh.2.2.2)]
          rw [if_neg h4] at this
          exact this
      · have e : keyP r = badTk 5 := by unfold keyP; rw [if_neg (fun hh => h3 hh.2.2.1)]
        rw [e]
        exact implKeyOfParts_bad r p c w h hl (.inr (.inr ⟨by simp [h1], h2, by simpa using h3⟩))
    · have e : keyP r = badTk 5 := by unfold keyP; rw [if_neg (fun hh => h2 hh.2.1)]
      rw [e]
      exact implKeyOfParts_bad r p c w h hl (.inr (.inl ⟨by simp [h1], by simpa using h2⟩))
  · have e : keyP r = badTk 5 := by unfold keyP; rw [if_neg (fun hh => h1 hh.1)]
    rw [e]
    exact implKeyOfParts_bad r p c w h hl (.inl (by simpa using h1))

end Go.Proofs.YtcchhlcgamcceaaDoor

/- KeyOfParts of the model. -/
namespace Go.Proofs.YtcchhlcgamcceaaDoor
open Go.RowKit

/-- the mods, by the model -/
def modsS : List Int → Int
  | [] => 0
  | [_] => 0
  | [_, m] => if 1 ≤ m ∧ m ≤ 8 then m - 1 else -1
  | _ => -1
/-- the key, by the model -/
def namedK (l : List Int) (f : Int) : Int := match l with
  | [] => letterK f
  | [x] => if f = 126 then tildeK x else if f = 117 then codedK x else 0
  | [x, _] => if f = 126 then tildeK x else if f = 117 then codedK x else if x = 1 then letterK f else 0
  | _ => 0

/-- the cells of parts -/
def ptL (r : Pt) (v : Value) : List Value := [.int .i64 r.code, .bool r.priv, v, .int .u8 r.fin, .int .i64 r.size]

set_option maxRecDepth 100000 in
set_option maxHeartbeats 2000000 in
theorem l3Mods_few (b c n : Nat) (p : Option Addr) (code size fin : Int) (priv : Bool) (w : World) (hA : AtL w b [.int .i64 code, .bool priv, .slice p n c, .int .u8 fin, .int .i64 size]) (hn : n = 0 ∨ n = 1) :
    Calls Tryd.prog 64 #[.pointer (some ⟨b, 0, none⟩)] w fun e w' => e = .returned (.int .i64 0) ∧ Below w.heap.size w w' := by
  obtain ⟨c0, c1, c2, c3, c4⟩ := hA.five
  clear hA
  rcases hn with rfl | rfl
  all_goals
    go_enter Tryd.func64, Tryd.ntmps64
    go_wp2
    go_ret
    exact ⟨rfl, Below.refl _ _⟩

set_option maxRecDepth 100000 in
set_option maxHeartbeats 2000000 in
theorem l3Mods_two (b c g off : Nat) (m : Int) (code size fin : Int) (priv : Bool) (w : World) (hA : AtL w b [.int .i64 code, .bool priv, .slice (some ⟨g, off, none⟩) 2 c, .int .u8 fin, .int .i64 size]) (hc : w.cell? ⟨g, off + 1, none⟩ = some (.int .i64 m)) (h0 : 0 ≤ m) (h1 : m ≤ 9999999) :
    Calls Tryd.prog 64 #[.pointer (some ⟨b, 0, none⟩)] w fun e w' => e = .returned (.int .i64 (if 1 ≤ m ∧ m ≤ 8 then m - 1 else -1)) ∧ Below w.heap.size w w' := by
  obtain ⟨c0, c1, c2, c3, c4⟩ := hA.five
  clear hA
  by_cases hm : 1 ≤ m ∧ m ≤ 8
  · rw [if_pos hm]
    have hi : inR (m - 1) 0 7 = true := by simp [inR]; omega
    go_enter Tryd.func64, Tryd.ntmps64
    go_wp2_with (go_at_call 53; refine (l1In_any _ _ _ _).mono ?_; rintro e w' ⟨rfl, rfl⟩; rw [hi])
    go_ret
    exact ⟨rfl, Below.refl _ _⟩
  · rw [if_neg hm]
    have hi : inR (m - 1) 0 7 = false := by simp [inR]; omega
    go_enter Tryd.func64, Tryd.ntmps64
    go_wp2_with (go_at_call 53; refine (l1In_any _ _ _ _).mono ?_; rintro e w' ⟨rfl, rfl⟩; rw [hi])
    go_ret
    exact ⟨rfl, Below.refl _ _⟩

set_option maxRecDepth 100000 in
set_option maxHeartbeats 2000000 in
theorem l3Mods_more (b c g off n : Nat) (m : Int) (code size fin : Int) (priv : Bool) (w : World) (hA : AtL w b [.int .i64 code, .bool priv, .slice (some ⟨g, off, none⟩) n c, .int .u8 fin, .int .i64 size]) (hn : n = 3 ∨ n = 4) (hc : w.cell? ⟨g, off + (n - 1), none⟩ = some (.int .i64 m)) (h0 : 0 ≤ m) (h1 : m ≤ 9999999) :
    Calls Tryd.prog 64 #[.pointer (some ⟨b, 0, none⟩)] w fun e w' => e = .returned (.int .i64 (-1)) ∧ Below w.heap.size w w' := by
  obtain ⟨c0, c1, c2, c3, c4⟩ := hA.five
  clear hA
  rcases hn with rfl | rfl
  all_goals
    simp only [Nat.reduceSub] at hc
    go_enter Tryd.func64, Tryd.ntmps64
    go_wp2
    go_ret
    exact ⟨rfl, Below.refl _ _⟩

theorem l3Mods_any (b c : Nat) (p : Option Addr) (r : Pt) (w : World) (hA : AtL w b (ptL r (.slice p r.nums.length c))) (h : Is w w.heap.size p r.nums) (hl : r.nums.length ≤ 4) (hN : ∀ x ∈ r.nums, 0 ≤ x ∧ x ≤ 9999999) :
    Calls Tryd.prog 64 #[.pointer (some ⟨b, 0, none⟩)] w fun e w' => e = .returned (.int .i64 (modsS r.nums)) ∧ Below w.heap.size w w' := by
  obtain ⟨code, priv, nums, fin, size⟩ := r
  unfold ptL at hA
  dsimp only at *
  match nums, h, hl, hN, hA with
  | [], _, _, _, hA => exact l3Mods_few b c 0 p code size fin priv w hA (.inl rfl)
  | [_], _, _, _, hA => exact l3Mods_few b c 1 p code size fin priv w hA (.inr rfl)
  | [x, m], h, _, hN, hA =>
    obtain ⟨g, off, rfl, _, hc⟩ := h.cons
    have := hN m (by simp)
    exact l3Mods_two b c g off m code size fin priv w hA (hc 1 (by simp)) this.1 this.2
  | [x, y, m], h, _, hN, hA =>
    obtain ⟨g, off, rfl, _, hc⟩ := h.cons
    have := hN m (by simp)
    exact l3Mods_more b c g off 3 m code size fin priv w hA (.inl rfl) (hc 2 (by simp)) this.1 this.2
  | [x, y, z, m], h, _, hN, hA =>
    obtain ⟨g, off, rfl, _, hc⟩ := h.cons
    have := hN m (by simp)
    exact l3Mods_more b c g off 4 m code size fin priv w hA (.inr rfl) (hc 3 (by simp)) this.1 this.2
  | _ :: _ :: _ :: _ :: _ :: _, _, hl, _, _ => exact absurd hl (by simp)

set_option maxRecDepth 100000 in
set_option maxHeartbeats 2000000 in
theorem l3Named_e (b c : Nat) (p : Option Addr) (code size fin : Int) (priv : Bool) (w : World) (hA : AtL w b [.int .i64 code, .bool priv, .slice p 0 c, .int .u8 fin, .int .i64 size]) :
    Calls Tryd.prog 63 #[.pointer (some ⟨b, 0, none⟩)] w fun e w' => e = .returned (.int .i64 (letterK fin)) ∧ Below w.heap.size w w' := by
  obtain ⟨c0, c1, c2, c3, c4⟩ := hA.five
  have HL := Lib.hid (l3Letter_any fin)
  have hi : inR 0 1 2 = false := rfl
  clear hA
  generalize letterK fin = K at *
  by_cases h1 : fin = 126
  · subst h1
    go_enter Tryd.func63, Tryd.ntmps63
    go_wp2_with (first | (go_at_call 53; refine (l1In_any _ _ _ _).mono ?_; rintro e w' ⟨rfl, rfl⟩; rw [hi]) | (go_at_call 32; refine (HL.out _).mono ?_; rintro e w' ⟨rfl, rfl⟩))
    go_ret
    exact ⟨rfl, Below.refl _ _⟩
  by_cases h2 : fin = 117
  · subst h2
    go_enter Tryd.func63, Tryd.ntmps63
    go_wp2_with (first | (go_at_call 53; refine (l1In_any _ _ _ _).mono ?_; rintro e w' ⟨rfl, rfl⟩; rw [hi]) | (go_at_call 32; refine (HL.out _).mono ?_; rintro e w' ⟨rfl, rfl⟩))
    go_ret
    exact ⟨rfl, Below.refl _ _⟩
  · go_enter Tryd.func63, Tryd.ntmps63
    go_wp2_with (first | (go_at_call 53; refine (l1In_any _ _ _ _).mono ?_; rintro e w' ⟨rfl, rfl⟩; rw [hi]) | (go_at_call 32; refine (HL.out _).mono ?_; rintro e w' ⟨rfl, rfl⟩))
    go_ret
    exact ⟨rfl, Below.refl _ _⟩

set_option maxRecDepth 100000 in
set_option maxHeartbeats 2000000 in
theorem l3Named_tu (b c g off n : Nat) (x K : Int) (code size fin : Int) (priv : Bool) (w : World) (hA : AtL w b [.int .i64 code, .bool priv, .slice (some ⟨g, off, none⟩) n c, .int .u8 fin, .int .i64 size]) (hn : n = 1 ∨ n = 2) (hc : w.cell? ⟨g, off, none⟩ = some (.int .i64 x)) (hf : (fin = 126 ∧ K = tildeK x) ∨ (fin = 117 ∧ K = codedK x)) :
    Calls Tryd.prog 63 #[.pointer (some ⟨b, 0, none⟩)] w fun e w' => e = .returned (.int .i64 K) ∧ Below w.heap.size w w' := by
  obtain ⟨c0, c1, c2, c3, c4⟩ := hA.five
  have HT := Lib.hid (l3Tilde_any x)
  have HD := Lib.hid (l3Coded_any x)
  have i1 : inR 1 1 2 = true := rfl
  have i2 : inR 2 1 2 = true := rfl
  clear hA
  rcases hf with ⟨rfl, rfl⟩ | ⟨rfl, rfl⟩
  all_goals
    generalize tildeK x = K1 at *
    generalize codedK x = K2 at *
    rcases hn with rfl | rfl
    all_goals
      go_enter Tryd.func63, Tryd.ntmps63
      go_wp2_with (first | (go_at_call 53; refine (l1In_any _ _ _ _).mono ?_; rintro e w' ⟨rfl, rfl⟩; first | rw [i1] | rw [i2]) | (go_at_call 73; refine (HT.out _).mono ?_; rintro e w1 ⟨rfl, hb⟩) | (go_at_call 74; refine (HD.out _).mono ?_; rintro e w1 ⟨rfl, hb⟩))
      go_ret
      exact ⟨rfl, hb⟩

set_option maxRecDepth 100000 in
set_option maxHeartbeats 2000000 in
theorem l3Named_l (b c g off n : Nat) (x : Int) (code size fin : Int) (priv : Bool) (w : World) (hA : AtL w b [.int .i64 code, .bool priv, .slice (some ⟨g, off, none⟩) n c, .int .u8 fin, .int .i64 size]) (hn : n = 1 ∨ n = 2) (hc : w.cell? ⟨g, off, none⟩ = some (.int .i64 x)) (h1 : ¬ fin = 126) (h2 : ¬ fin = 117) :
    Calls Tryd.prog 63 #[.pointer (some ⟨b, 0, none⟩)] w fun e w' => e = .returned (.int .i64 (if n = 2 ∧ x = 1 then letterK fin else 0)) ∧ Below w.heap.size w w' := by
  obtain ⟨c0, c1, c2, c3, c4⟩ := hA.five
  have HL := Lib.hid (l3Letter_any fin)
  clear hA
  generalize letterK fin = K at *
  rcases hn with rfl | rfl
  · rw [if_neg (by omega)]
    go_enter Tryd.func63, Tryd.ntmps63
    go_wp2
    go_ret
    exact ⟨rfl, Below.refl _ _⟩
  by_cases hx : x = 1
  · subst hx
    rw [if_pos ⟨rfl, rfl⟩]
    go_enter Tryd.func63, Tryd.ntmps63
    go_wp2_with (go_at_call 32; refine (HL.out _).mono ?_; rintro e w' ⟨rfl, rfl⟩)
    go_ret
    exact ⟨rfl, Below.refl _ _⟩
  · rw [if_neg (by omega)]
    go_enter Tryd.func63, Tryd.ntmps63
    go_wp2
    go_ret
    exact ⟨rfl, Below.refl _ _⟩

set_option maxRecDepth 100000 in
set_option maxHeartbeats 2000000 in
theorem l3Named_more (b c n : Nat) (p : Option Addr) (code size fin : Int) (priv : Bool) (w : World) (hA : AtL w b [.int .i64 code, .bool priv, .slice p n c, .int .u8 fin, .int .i64 size]) (hn : n = 3 ∨ n = 4) :
    Calls Tryd.prog 63 #[.pointer (some ⟨b, 0, none⟩)] w fun e w' => e = .returned (.int .i64 0) ∧ Below w.heap.size w w' := by
  obtain ⟨c0, c1, c2, c3, c4⟩ := hA.five
  have i1 : inR 3 1 2 = false := rfl
  have i2 : inR 4 1 2 = false := rfl
  clear hA
  by_cases h1 : fin = 126
  · subst h1
    rcases hn with rfl | rfl
    all_goals
      go_enter Tryd.func63, Tryd.ntmps63
      go_wp2_with (go_at_call 53; refine (l1In_any _ _ _ _).mono ?_; rintro e w' ⟨rfl, rfl⟩; first | rw [i1] | rw [i2])
      go_ret
      exact ⟨rfl, Below.refl _ _⟩
  by_cases h2 : fin = 117
  · subst h2
    rcases hn with rfl | rfl
    all_goals
      go_enter Tryd.func63, Tryd.ntmps63
      go_wp2_with (go_at_call 53; refine (l1In_any _ _ _ _).mono ?_; rintro e w' ⟨rfl, rfl⟩; first | rw [i1] | rw [i2])
      go_ret
      exact ⟨rfl, Below.refl _ _⟩
  · rcases hn with rfl | rfl
    all_goals
      go_enter Tryd.func63, Tryd.ntmps63
      go_wp2
      go_ret
      exact ⟨rfl, Below.refl _ _⟩

end Go.Proofs.YtcchhlcgamcceaaDoor

/- KeyOfParts of the model, and that it is the program's. -/
namespace Go.Proofs.YtcchhlcgamcceaaDoor
open Go.RowKit

theorem l3Named_any (b c : Nat) (p : Option Addr) (r : Pt) (w : World) (hA : AtL w b (ptL r (.slice p r.nums.length c))) (h : Is w w.heap.size p r.nums) (hl : r.nums.length ≤ 4) :
    Calls Tryd.prog 63 #[.pointer (some ⟨b, 0, none⟩)] w fun e w' => e = .returned (.int .i64 (namedK r.nums r.fin)) ∧ Below w.heap.size w w' := by
  obtain ⟨code, priv, nums, fin, size⟩ := r
  unfold ptL at hA
  dsimp only at *
  match nums, h, hl, hA with
  | [], _, _, hA => exact l3Named_e b c p code size fin priv w hA
  | [x], h, _, hA =>
    obtain ⟨g, off, rfl, _, hc⟩ := h.cons
    have hc0 := hc 0 (by simp)
    by_cases h1 : fin = 126
    · rw [show namedK [x] fin = tildeK x from if_pos h1]
      exact l3Named_tu b c g off 1 x _ code size fin priv w hA (.inl rfl) hc0 (.inl ⟨h1, rfl⟩)
    by_cases h2 : fin = 117
    · rw [show namedK [x] fin = codedK x from (if_neg h1).trans (if_pos h2)]
      exact l3Named_tu b c g off 1 x _ code size fin priv w hA (.inl rfl) hc0 (.inr ⟨h2, rfl⟩)
    · rw [show namedK [x] fin = 0 from (if_neg h1).trans (if_neg h2)]
      have := l3Named_l b c g off 1 x code size fin priv w hA (.inl rfl) hc0 h1 h2
      rw [if_neg (by omega)] at this
      exact this
  | [x, m], h, _, hA =>
    obtain ⟨g, off, rfl, _, hc⟩ := h.cons
    have hc0 := hc 0 (by simp)
    by_cases h1 : fin = 126
    · rw [show namedK [x, m] fin = tildeK x from if_pos h1]
      exact l3Named_tu b c g off 2 x _ code size fin priv w hA (.inr rfl) hc0 (.inl ⟨h1, rfl⟩)
    by_cases h2 : fin = 117
    · rw [show namedK [x, m] fin = codedK x from (if_neg h1).trans (if_pos h2)]
      exact l3Named_tu b c g off 2 x _ code size fin priv w hA (.inr rfl) hc0 (.inr ⟨h2, rfl⟩)
    · rw [show namedK [x, m] fin = (if x = 1 then letterK fin else 0) from (if_neg h1).trans (if_neg h2)]
      have := l3Named_l b c g off 2 x code size fin priv w hA (.inr rfl) hc0 h1 h2
      simp only [true_and] at this
      exact this
  | [_, _, _], _, _, hA => exact l3Named_more b c 3 p code size fin priv w hA (.inl rfl)
  | [_, _, _, _], _, _, hA => exact l3Named_more b c 4 p code size fin priv w hA (.inr rfl)
  | _ :: _ :: _ :: _ :: _ :: _, _, hl, _ => exact absurd hl (by simp)

def specKeyT (r : Pt) : Tk := if r.priv = true ∨ modsS r.nums < 0 ∨ namedK r.nums r.fin = 0 then badTk 5 else keyTk (namedK r.nums r.fin) (modsS r.nums) r.size

set_option maxRecDepth 100000 in
set_option maxHeartbeats 4000000 in
theorem specKeyOfParts_T (r : Pt) (p : Option Addr) (c : Nat) (w : World) (h : Is w w.heap.size p r.nums) (hl : r.nums.length ≤ 4) (hN : ∀ x ∈ r.nums, 0 ≤ x ∧ x ≤ 9999999) :
    Calls Tryd.prog 50 #[ptV r (.slice p r.nums.length c)] w (PlainTk w (specKeyT r)) := by
  have HN := Lib.hid (fun (t1 t2 : TypeId) => l3Named_any w.heap.size c p r ((w.alloc (.cells (ptL r (.slice p r.nums.length c)).toArray t1)).alloc (.cells (tkL (badTk 0) (.slice none 0 0)).toArray t2)) ((AtL.new w _ t1).on (below_mk _ _)) ((h.alloc _).alloc _) hl)
  have HM := Lib.hid (fun (t1 t2 : TypeId) w1 (hb : Below ((w.alloc (.cells (ptL r (.slice p r.nums.length c)).toArray t1)).alloc (.cells (tkL (badTk 0) (.slice none 0 0)).toArray t2)).heap.size ((w.alloc (.cells (ptL r (.slice p r.nums.length c)).toArray t1)).alloc (.cells (tkL (badTk 0) (.slice none 0 0)).toArray t2)) w1) => l3Mods_any w.heap.size c p r w1 (((AtL.new w _ t1).on (below_mk _ _)).on hb) (((h.alloc _).alloc _).on hb) hl hN)
  clear h hN
  unfold specKeyT
  unfold ptL tkL badTk noEv at HN HM
  obtain ⟨code, priv, nums, fin, size⟩ := r
  dsimp only at *
  clear hl
  unfold ptV
  dsimp only
  generalize namedK nums fin = k at *
  generalize modsS nums = m at *
  by_cases h1 : priv = true
  · rw [if_pos (.inl h1)]
    subst h1
    go_enter Tryd.func50, Tryd.ntmps50
    go_wp2_with fail
    refine (HN.out _ _).mono ?_
    rintro e w1 ⟨rfl, hb⟩
    have HB := Lib.hid hb
    have HD := Lib.hid (HM.out _ _ _ hb)
    obtain ⟨hcc, hf⟩ := bcell hb
    clear hb HM
    go_wp2_with fail
    refine HD.out.mono ?_
    rintro e w2 ⟨rfl, hb2⟩
    have HB2 := Lib.hid (HB.out.trans (hb2.mono HB.out.size))
    clear hcc hf hb2
    obtain ⟨hcc, hf⟩ := bcell HB2.out
    go_wp2_with fail
    refine (l3Bad_any _ _).mono ?_
    rintro e w3 ⟨rfl, hb3⟩
    have hb := HB2.out.trans (hb3.mono HB2.out.size)
    clear hcc hf
    obtain ⟨hcc, hf⟩ := bcell hb
    have HE : Hid (PlainTk w (badTk 5) (.returned (tkV (badTk 5) (.slice none 0 0))) (sets w3 (w.heap.size + 1) 0 (tkL (badTk 5) (.slice none 0 0)))) := tk_end_plain2 (tkL (badTk 5) (.slice none 0 0)) hb
    clear hb hb3
    unfold tkV badTk noEv
    go_wp2_with fail
    refine bodyPost_ret (v := tkV (badTk 5) (.slice none 0 0)) ?_ rfl HE.out
    simp [results, Tryd.results50, tkV, badTk, noEv, go_sem, hcc]
  have h1' : priv = false := by simpa using h1
  subst h1'
  by_cases h2 : m < 0
  · rw [if_pos (.inr (.inl h2))]
    go_enter Tryd.func50, Tryd.ntmps50
    go_wp2_with fail
    refine (HN.out _ _).mono ?_
    rintro e w1 ⟨rfl, hb⟩
    have HB := Lib.hid hb
    have HD := Lib.hid (HM.out _ _ _ hb)
    obtain ⟨hcc, hf⟩ := bcell hb
    clear hb HM
    go_wp2_with fail
    refine HD.out.mono ?_
    rintro e w2 ⟨rfl, hb2⟩
    have HB2 := Lib.hid (HB.out.trans (hb2.mono HB.out.size))
    clear hcc hf hb2
    obtain ⟨hcc, hf⟩ := bcell HB2.out
    go_wp2_with fail
    refine (l3Bad_any _ _).mono ?_
    rintro e w3 ⟨rfl, hb3⟩
    have hb := HB2.out.trans (hb3.mono HB2.out.size)
    clear hcc hf
    obtain ⟨hcc, hf⟩ := bcell hb
    have HE : Hid (PlainTk w (badTk 5) (.returned (tkV (badTk 5) (.slice none 0 0))) (sets w3 (w.heap.size + 1) 0 (tkL (badTk 5) (.slice none 0 0)))) := tk_end_plain2 (tkL (badTk 5) (.slice none 0 0)) hb
    clear hb hb3
    unfold tkV badTk noEv
    go_wp2_with fail
    refine bodyPost_ret (v := tkV (badTk 5) (.slice none 0 0)) ?_ rfl HE.out
    simp [results, Tryd.results50, tkV, badTk, noEv, go_sem, hcc]
  by_cases h3 : k = 0
  · rw [if_pos (.inr (.inr h3))]
    subst h3
    go_enter Tryd.func50, Tryd.ntmps50
    go_wp2_with fail
    refine (HN.out _ _).mono ?_
    rintro e w1 ⟨rfl, hb⟩
    have HB := Lib.hid hb
    have HD := Lib.hid (HM.out _ _ _ hb)
    obtain ⟨hcc, hf⟩ := bcell hb
    clear hb HM
    go_wp2_with fail
    refine HD.out.mono ?_
    rintro e w2 ⟨rfl, hb2⟩
    have HB2 := Lib.hid (HB.out.trans (hb2.mono HB.out.size))
    clear hcc hf hb2
    obtain ⟨hcc, hf⟩ := bcell HB2.out
    go_wp2_with fail
    refine (l3Bad_any _ _).mono ?_
    rintro e w3 ⟨rfl, hb3⟩
    have hb := HB2.out.trans (hb3.mono HB2.out.size)
    clear hcc hf
    obtain ⟨hcc, hf⟩ := bcell hb
    have HE : Hid (PlainTk w (badTk 5) (.returned (tkV (badTk 5) (.slice none 0 0))) (sets w3 (w.heap.size + 1) 0 (tkL (badTk 5) (.slice none 0 0)))) := tk_end_plain2 (tkL (badTk 5) (.slice none 0 0)) hb
    clear hb hb3
    unfold tkV badTk noEv
    go_wp2_with fail
    refine bodyPost_ret (v := tkV (badTk 5) (.slice none 0 0)) ?_ rfl HE.out
    simp [results, Tryd.results50, tkV, badTk, noEv, go_sem, hcc]
  · rw [if_neg (by simp [h2, h3])]
    have h3' : (k == 0) = false := by simp [h3]
    go_enter Tryd.func50, Tryd.ntmps50
    go_wp2_with fail
    refine (HN.out _ _).mono ?_
    rintro e w1 ⟨rfl, hb⟩
    have HB := Lib.hid hb
    have HD := Lib.hid (HM.out _ _ _ hb)
    obtain ⟨hcc, hf⟩ := bcell hb
    clear hb HM
    go_wp2_with fail
    refine HD.out.mono ?_
    rintro e w2 ⟨rfl, hb2⟩
    have HB2 := Lib.hid (HB.out.trans (hb2.mono HB.out.size))
    clear hcc hf hb2
    obtain ⟨hcc, hf⟩ := bcell HB2.out
    go_wp2_with fail
    refine (l3Key_any _ _ _ _).mono ?_
    rintro e w3 ⟨rfl, hb3⟩
    have hb := HB2.out.trans (hb3.mono HB2.out.size)
    clear hcc hf
    obtain ⟨hcc, hf⟩ := bcell hb
    have HE : Hid (PlainTk w (keyTk k m size) (.returned (tkV (keyTk k m size) (.slice none 0 0))) (sets w3 (w.heap.size + 1) 0 (tkL (keyTk k m size) (.slice none 0 0)))) := tk_end_plain2 (tkL (keyTk k m size) (.slice none 0 0)) hb
    clear hb hb3
    unfold tkV keyTk keyEv
    go_wp2_with fail
    refine bodyPost_ret (v := tkV (keyTk k m size) (.slice none 0 0)) ?_ rfl HE.out
    simp [results, Tryd.results50, tkV, keyTk, keyEv, go_sem, hcc]

theorem pointT_iff (x : Int) : (pointT x).2 = true ↔ codedK x ≠ 0 := by
  unfold pointT codedK
  by_cases h : x = 13 ∨ x = 9 ∨ x = 127 ∨ x = 27
  · rw [if_pos h]
    rcases h with rfl | rfl | rfl | rfl <;> simp
  · rw [if_neg h, if_neg (by omega), if_neg (by omega), if_neg (by omega), if_neg (by omega)]
    constructor
    · intro hp
      rw [if_pos hp]
      simp at hp
      omega
    · intro hp
      by_cases hq : (point x && decide (32 ≤ x)) = true
      · exact hq
      · rw [if_neg hq] at hp
        exact absurd rfl hp
theorem pointT_val (x : Int) (h : (pointT x).2 = true) : (pointT x).1 = codedK x := by
  unfold pointT codedK at *
  by_cases hx : x = 13 ∨ x = 9 ∨ x = 127 ∨ x = 27
  · rw [if_pos hx]
  · rw [if_neg hx] at h ⊢
    rw [if_neg (by omega), if_neg (by omega), if_neg (by omega), if_neg (by omega), if_pos h]

theorem letterK_126 : letterK 126 = 0 := rfl
theorem letterK_117 : letterK 117 = 0 := rfl

theorem key_same (r : Pt) (hr : r.code = 0 ∨ (r.nums = [] ∧ r.fin = 0)) : specKeyT r = keyP r := by
  obtain ⟨code, priv, nums, fin, size⟩ := r
  dsimp only at hr
  rcases hr with rfl | ⟨rfl, rfl⟩
  · unfold specKeyT keyP
    dsimp only
    by_cases hp : priv = true
    · rw [if_pos (.inl hp), if_neg (by simp [hp])]
    have hp' : priv = false := by simpa using hp
    by_cases hf : fin = 126 ∨ fin = 117
    · match nums with
      | [] => rw [if_pos (.inr (.inr (by rcases hf with rfl | rfl <;> rfl))), if_neg (by rw [partsT_e hf]; simp)]
      | [x] =>
        rcases hf with rfl | rfl
        · rw [partsT_t]
          by_cases ht : tildeK x = 0
          · rw [if_pos (.inr (.inr ht)), if_neg (by simp [ht])]
          · rw [if_neg (by simp [hp, modsS, namedK, ht]), if_pos (by simp [hp', modsT, ht])]; rfl
        · rw [partsT_u]
          by_cases ht : codedK x = 0
          · rw [if_pos (.inr (.inr ht)), if_neg (fun hh => (pointT_iff x).1 hh.2.2.2 ht)]
          · have hq := (pointT_iff x).2 ht
            rw [if_neg (by simp [hp, modsS, namedK, ht]), if_pos ⟨rfl, hp', rfl, hq⟩, pointT_val x hq]; rfl
      | [x, m] =>
        by_cases hm : 1 ≤ m ∧ m ≤ 8
        · have e1 : modsS [x, m] = m - 1 := if_pos hm
          have e2 : modsT [x, m] = (m - 1, true) := if_pos hm
          rw [e1, e2]
          rcases hf with rfl | rfl
          · rw [partsT_t]
            by_cases ht : tildeK x = 0
            · rw [if_pos (.inr (.inr ht)), if_neg (by simp [ht])]
            · rw [if_neg (by simp [hp, namedK, ht]; omega), if_pos (by simp [hp', ht])]; rfl
          · rw [partsT_u]
            by_cases ht : codedK x = 0
            · rw [if_pos (.inr (.inr ht)), if_neg (fun hh => (pointT_iff x).1 hh.2.2.2 ht)]
            · have hq := (pointT_iff x).2 ht
              rw [if_neg (by simp [hp, namedK, ht]; omega), if_pos ⟨rfl, hp', rfl, hq⟩, pointT_val x hq]; rfl
        · have e1 : modsS [x, m] = -1 := if_neg hm
          have e2 : modsT [x, m] = (0, false) := if_neg hm
          rw [e1, e2, if_pos (.inr (.inl (by omega))), if_neg (by simp)]
      | _ :: _ :: _ :: _ => rw [if_pos (.inr (.inl (by simp [modsS]))), if_neg (by simp [modsT])]
    · rw [partsT_l _ hf]
      have h1 : ¬ fin = 126 := fun e => hf (.inl e)
      have h2 : ¬ fin = 117 := fun e => hf (.inr e)
      match nums with
      | [] =>
        by_cases ht : letterK fin = 0
        · rw [if_pos (.inr (.inr ht)), if_neg (by simp [ht])]
        · rw [if_neg (by simp [hp, modsS, namedK, ht]), if_pos (by simp [hp', modsT, ht, lettersOK])]; rfl
      | [x] => rw [if_pos (.inr (.inr ((if_neg h1).trans (if_neg h2)))), if_neg (by simp [lettersOK])]
      | [x, m] =>
        have e3 : namedK [x, m] fin = (if x = 1 then letterK fin else 0) := (if_neg h1).trans (if_neg h2)
        rw [e3]
        by_cases hm : 1 ≤ m ∧ m ≤ 8
        · have e1 : modsS [x, m] = m - 1 := if_pos hm
          have e2 : modsT [x, m] = (m - 1, true) := if_pos hm
          rw [e1, e2]
          by_cases hx : x = 1
          · rw [if_pos hx]
            by_cases ht : letterK fin = 0
            · rw [if_pos (.inr (.inr ht)), if_neg (by simp [ht])]
            · rw [if_neg (by simp [hp, ht]; omega), if_pos (by simp [hp', ht, lettersOK, hx])]
          · rw [if_neg hx, if_pos (.inr (.inr rfl)), if_neg (by simp [lettersOK, hx])]
        · have e1 : modsS [x, m] = -1 := if_neg hm
          have e2 : modsT [x, m] = (0, false) := if_neg hm
          rw [e1, e2, if_pos (.inr (.inl (by omega))), if_neg (by simp)]
      | _ :: _ :: _ :: _ => rw [if_pos (.inr (.inl (by simp [modsS]))), if_neg (by simp [modsT])]
  · unfold specKeyT keyP
    rw [if_pos (.inr (.inr rfl)), if_neg (by rw [partsT_l _ (show ¬ ((0 : Int) = 126 ∨ (0 : Int) = 117) by omega)]; simp [show letterK 0 = 0 from rfl])]

theorem specKeyOfParts_any (r : Pt) (p : Option Addr) (c : Nat) (w : World) (h : Is w w.heap.size p r.nums) (hl : r.nums.length ≤ 4) (hN : ∀ x ∈ r.nums, 0 ≤ x ∧ x ≤ 9999999) (hr : r.code = 0 ∨ (r.nums = [] ∧ r.fin = 0)) :
    Calls Tryd.prog 50 #[ptV r (.slice p r.nums.length c)] w (PlainTk w (keyP r)) := by
  rw [← key_same r hr]
  exact specKeyOfParts_T r p c w h hl hN

end Go.Proofs.YtcchhlcgamcceaaDoor
