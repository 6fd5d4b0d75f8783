/- The model's first code point of bytes: l1Lead, l1Begins, l1First, FirstPoint. -/
import Derived.Test.YtjmfmdebnobogaaDoorPut
import Derived.Deep.RegionWith
namespace Go.Proofs.YtjmfmdebnobogaaDoor
open Go.RowKit

/-- how many bytes a point has by its first byte, and what that byte tells -/
def leadN (b : Nat) : Nat := if b < 128 then 1 else if 192 ≤ b ∧ b < 224 then 2 else if 224 ≤ b ∧ b < 240 then 3 else if 240 ≤ b ∧ b < 248 then 4 else 0
def leadP (b : Nat) : Int := if b < 128 then b else if 192 ≤ b ∧ b < 224 then b - 192 else if 224 ≤ b ∧ b < 240 then b - 224 else if 240 ≤ b ∧ b < 248 then b - 240 else 0
theorem leadN_le (b : Nat) : leadN b ≤ 4 := by unfold leadN; repeat (first | omega | split)
theorem leadP_bd (b : Nat) : 0 ≤ leadP b ∧ leadP b ≤ 127 := by unfold leadP; repeat (first | omega | split)

theorem byte_lt (b : UInt8) : b.toNat < 256 := UInt8.toNat_lt b

/-- the pair that l1Lead hands back -/
theorem lead_tuple {a b : Int} {n m : Int} (h : a = n) (k : b = m) : Ending.returned (.tuple #[.int .i64 a, .int .i64 b]) = .returned (.tuple #[.int .i64 n, .int .i64 m]) := by rw [h, k]

set_option maxRecDepth 100000 in
set_option maxHeartbeats 1000000 in
theorem l1Lead_any (b : UInt8) (w : World) :
    Calls Tryd.prog 82 #[.int .u8 (b.toNat : Int)] w fun e w' => e = .returned (.tuple #[.int .i64 (leadN b.toNat), .int .i64 (leadP b.toNat)]) ∧ w = w' := by
  have hb := byte_lt b
  generalize b.toNat = x at *
  by_cases h1 : (x : Int) < 128
  · go_enter Tryd.func82, Tryd.ntmps82
    go_wp2
    go_ret2
    exact ⟨lead_tuple (by unfold leadN; rw [if_pos (by omega)]; rfl) (by unfold leadP; rw [if_pos (by omega)]), rfl⟩
  by_cases h2 : (192 : Int) ≤ x
  · by_cases h3 : (x : Int) < 224
    · go_enter Tryd.func82, Tryd.ntmps82
      go_wp2
      go_ret2
      exact ⟨lead_tuple (by unfold leadN; rw [if_neg (by omega), if_pos (by omega)]; rfl) (by unfold leadP; rw [if_neg (by omega), if_pos (by omega)]), rfl⟩
    by_cases h4 : (x : Int) < 240
    · have h3' : (224 : Int) ≤ x := by omega
      go_enter Tryd.func82, Tryd.ntmps82
      go_wp2
      go_ret2
      exact ⟨lead_tuple (by unfold leadN; rw [if_neg (by omega), if_neg (by omega), if_pos (by omega)]; rfl) (by unfold leadP; rw [if_neg (by omega), if_neg (by omega), if_pos (by omega)]), rfl⟩
    by_cases h5 : (x : Int) < 248
    · have h3' : (224 : Int) ≤ x := by omega
      have h4' : (240 : Int) ≤ x := by omega
      go_enter Tryd.func82, Tryd.ntmps82
      go_wp2
      go_ret2
      exact ⟨lead_tuple (by unfold leadN; rw [if_neg (by omega), if_neg (by omega), if_neg (by omega), if_pos (by omega)]; rfl) (by unfold leadP; rw [if_neg (by omega), if_neg (by omega), if_neg (by omega), if_pos (by omega)]), rfl⟩
    · have h3' : (224 : Int) ≤ x := by omega
      have h4' : (240 : Int) ≤ x := by omega
      go_enter Tryd.func82, Tryd.ntmps82
      go_wp2
      go_ret2
      exact ⟨lead_tuple (by unfold leadN; rw [if_neg (by omega), if_neg (by omega), if_neg (by omega), if_neg (by omega)]; rfl) (by unfold leadP; rw [if_neg (by omega), if_neg (by omega), if_neg (by omega), if_neg (by omega)]), rfl⟩
  · have h3' : ¬ (224 : Int) ≤ x := by omega
    have h4' : ¬ (240 : Int) ≤ x := by omega
    go_enter Tryd.func82, Tryd.ntmps82
    go_wp2
    go_ret2
    exact ⟨lead_tuple (by unfold leadN; rw [if_neg (by omega), if_neg (by omega), if_neg (by omega), if_neg (by omega)]; rfl) (by unfold leadP; rw [if_neg (by omega), if_neg (by omega), if_neg (by omega), if_neg (by omega)]), rfl⟩

/-- what the bytes behind the first one add -/
def tailAcc (p : Int) : List UInt8 → Int
  | [] => p
  | b :: r => tailAcc (p * 64 + (b.toNat : Int) % 64) r
/-- a byte that goes on -/
def contB (b : UInt8) : Bool := b.toNat / 64 == 2
def lo64 (p : Int) : Nat → Int
  | 0 => p
  | j + 1 => lo64 p j * 64
def hi64 (p : Int) : Nat → Int
  | 0 => p
  | j + 1 => hi64 p j * 64 + 63
def bnd : Nat → Int
  | 0 => 127
  | k + 1 => bnd k * 64 + 63
theorem bnd_le (k : Nat) (h : k ≤ 6) : 0 ≤ bnd k ∧ bnd k ≤ 9007199254740991 := by
  match k, h with
  | 0, _ => decide
  | 1, _ => decide
  | 2, _ => decide
  | 3, _ => decide
  | 4, _ => decide
  | 5, _ => decide
  | 6, _ => decide
theorem lohi_bd (p : Int) (k : Nat) (h0 : 0 ≤ p) (h1 : p ≤ bnd k) : ∀ j, 0 ≤ lo64 p j ∧ lo64 p j ≤ hi64 p j ∧ hi64 p j ≤ bnd (k + j)
  | 0 => ⟨h0, Int.le_refl _, h1⟩
  | j + 1 => by
    have h := lohi_bd p k h0 h1 j
    have e : bnd (k + (j + 1)) = bnd (k + j) * 64 + 63 := rfl
    rw [e]
    simp only [lo64, hi64]
    omega

/-- the least point of n bytes -/
def leastN (n : Nat) : Int := if n = 2 then 128 else if n = 3 then 2048 else 65536
def maxI (a b : Int) : Int := if b < a then a else b
def minI (a b : Int) : Int := if a < b then a else b
/-- some point lies from lo64 to hi64 -/
def opens (p : Int) (j : Nat) (least : Int) : Bool :=
  decide (maxI (lo64 p j) least ≤ minI (hi64 p j) 1114111) && !(decide (55296 ≤ maxI (lo64 p j) least) && decide (minI (hi64 p j) 1114111 ≤ 57343))
def begins (tail : List UInt8) (n : Nat) (p : Int) : Bool := tail.all contB && opens (tailAcc p tail) (n - (tail.length + 1)) (leastN n)

set_option maxRecDepth 100000 in
set_option maxHeartbeats 400000 in
theorem l1Max_any (a b : Int) (w : World) : Calls Tryd.prog 90 #[.int .i64 a, .int .i64 b] w fun e w' => e = .returned (.int .i64 (maxI a b)) ∧ w = w' := by
  by_cases h : b < a
  all_goals
    go_enter Tryd.func90, Tryd.ntmps90
    go_wp2
    go_ret
    exact ⟨ret_int (by unfold maxI; first | rw [if_pos (by omega)] | rw [if_neg (by omega)]), rfl⟩
set_option maxRecDepth 100000 in
set_option maxHeartbeats 400000 in
theorem l1Min_any (a b : Int) (w : World) : Calls Tryd.prog 88 #[.int .i64 a, .int .i64 b] w fun e w' => e = .returned (.int .i64 (minI a b)) ∧ w = w' := by
  by_cases h : a < b
  all_goals
    go_enter Tryd.func88, Tryd.ntmps88
    go_wp2
    go_ret
    exact ⟨ret_int (by unfold minI; first | rw [if_pos (by omega)] | rw [if_neg (by omega)]), rfl⟩

end Go.Proofs.YtjmfmdebnobogaaDoor
