/- The key of parts, by the model: l3Letter, l3Tilde, l3Coded, l3Mods, l3Named, KeyOfParts. -/
import Derived.Test.YtjopjddhgaiddabGreatDoorQKeyParts
import Derived.Test.YtjopjddhgaiddabGreatDoorQBytesToCells
namespace Go.Proofs.YtjopjddhgaiddabGreatDoor
open Go.RowKit

set_option maxRecDepth 100000 in
set_option maxHeartbeats 1000000 in
theorem l3Letter_any (c : Int) (w : World) : Calls Tryz.prog 107 #[.int .u8 c] w fun e w' => e = .returned (.int .i64 (letterK c)) ∧ w = w' := by
  unfold letterK
  repeat' split
  all_goals
    go_enter Tryz.func107, Tryz.ntmps107
    go_wp2
    go_ret
    exact ⟨rfl, rfl⟩

set_option maxRecDepth 100000 in
set_option maxHeartbeats 1000000 in
theorem l3Tilde_no (n : Int) (w : World) (hn : inR n 1 6 = false) : Calls Tryz.prog 108 #[.int .i64 n] w fun e w' => e = .returned (.int .i64 0) ∧ Below w.heap.size w w' := by
  go_enter Tryz.func108, Tryz.ntmps108
  go_wp2_with (go_at_call 70; refine (l1In_any _ _ _ _).mono ?_; rintro e w' ⟨rfl, rfl⟩; rw [hn])
  go_ret
  exact ⟨rfl, below_mk _ _⟩

set_option maxRecDepth 100000 in
set_option maxHeartbeats 1000000 in
theorem l3Tilde_any (n : Int) (w : World) : Calls Tryz.prog 108 #[.int .i64 n] w fun e w' => e = .returned (.int .i64 (tildeK n)) ∧ Below w.heap.size w w' := by
  by_cases h : 1 ≤ n ∧ n ≤ 6
  · have : n = 1 ∨ n = 2 ∨ n = 3 ∨ n = 4 ∨ n = 5 ∨ n = 6 := by omega
    rcases this with rfl | rfl | rfl | rfl | rfl | rfl
    all_goals
      go_enter Tryz.func108, Tryz.ntmps108
      go_wp2_with (go_at_call 70; refine (l1In_any _ _ _ _).mono ?_; rintro e w' ⟨rfl, rfl⟩)
      go_ret
      exact ⟨rfl, below_mk _ _⟩
  · have e : tildeK n = 0 := by
      unfold tildeK
      repeat (rw [if_neg (by omega)])
    rw [e]
    exact l3Tilde_no n w (by simp [inR]; omega)

set_option maxRecDepth 100000 in
set_option maxHeartbeats 2000000 in
theorem l3Coded_key (n k : Int) (w : World) (hn : n = 13 ∨ n = 9 ∨ n = 127 ∨ n = 27) (hk : keyB n = keyTk k 0 1) :
    Calls Tryz.prog 154 #[.int .i64 n] w fun e w' => e = .returned (.int .i64 k) ∧ Below w.heap.size w w' := by
  have HK := Lib.hid (fun W => specKeyOfByte_any n W (by omega))
  rw [hk] at HK
  clear hk
  have f1 := fld_token
  have f2 := fld_event
  have f3 := fld_evcode
  rcases hn with rfl | rfl | rfl | rfl
  all_goals
    go_enter Tryz.func154, Tryz.ntmps154
    go_wp2_with (go_at_call 80; refine (HK.out _).mono ?_; rintro e w1 ⟨rfl, hb⟩; unfold tkV keyTk keyEv)
    go_ret
    exact ⟨rfl, hb⟩

set_option maxRecDepth 100000 in
set_option maxHeartbeats 2000000 in
theorem l3Coded_no (n : Int) (w : World) (hn : ¬ (n = 13 ∨ n = 9 ∨ n = 127 ∨ n = 27)) :
    Calls Tryz.prog 154 #[.int .i64 n] w fun e w' => e = .returned (.int .i64 (if (point n && decide (32 ≤ n)) = true then n else 0)) ∧ Below w.heap.size w w' := by
  have h1 : ¬ n = 13 := fun e => hn (.inl e)
  have h2 : ¬ n = 9 := fun e => hn (.inr (.inl e))
  have h3 : ¬ n = 127 := fun e => hn (.inr (.inr (.inl e)))
  have h4 : ¬ n = 27 := fun e => hn (.inr (.inr (.inr e)))
  clear hn
  cases hp : point n
  · go_enter Tryz.func154, Tryz.ntmps154
    go_wp2_with (go_at_call 105; refine (l1Point_any _ _).mono ?_; rintro e w1 ⟨rfl, rfl⟩; rw [hp])
    go_ret
    exact ⟨rfl, Below.refl _ _⟩
  · by_cases h32 : 32 ≤ n
    · rw [if_pos (by simp [h32])]
      go_enter Tryz.func154, Tryz.ntmps154
      go_wp2_with (go_at_call 105; refine (l1Point_any _ _).mono ?_; rintro e w1 ⟨rfl, rfl⟩; rw [hp])
      go_ret
      exact ⟨rfl, Below.refl _ _⟩
    · rw [if_neg (by simp; omega)]
      go_enter Tryz.func154, Tryz.ntmps154
      go_wp2_with (go_at_call 105; refine (l1Point_any _ _).mono ?_; rintro e w1 ⟨rfl, rfl⟩; rw [hp])
      go_ret
      exact ⟨rfl, Below.refl _ _⟩

theorem l3Coded_any (n : Int) (w : World) :
    Calls Tryz.prog 154 #[.int .i64 n] w fun e w' => e = .returned (.int .i64 (codedK n)) ∧ Below w.heap.size w w' := by
  by_cases hn : n = 13 ∨ n = 9 ∨ n = 127 ∨ n = 27
  · rcases hn with rfl | rfl | rfl | rfl
    · exact l3Coded_key 13 2000001 w (by omega) rfl
    · exact l3Coded_key 9 2000002 w (by omega) rfl
    · exact l3Coded_key 127 2000003 w (by omega) rfl
    · exact l3Coded_key 27 2000004 w (by omega) rfl
  · have e : codedK n = if (point n && decide (32 ≤ n)) = true then n else 0 := by
      unfold codedK
      rw [if_neg (fun e => hn (.inl e)), if_neg (fun e => hn (.inr (.inl e))), if_neg (fun e => hn (.inr (.inr (.inl e)))), if_neg (fun e => hn (.inr (.inr (.inr e))))]
    rw [e]
    exact l3Coded_no n w hn

end Go.Proofs.YtjopjddhgaiddabGreatDoor
