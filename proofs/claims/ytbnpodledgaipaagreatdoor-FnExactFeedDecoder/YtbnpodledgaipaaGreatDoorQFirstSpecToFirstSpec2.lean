/- The model's first code point of bytes: l1Lead, l1Begins, l1First, FirstPoint. -/
import Derived.Test.YtbnpodledgaipaaGreatDoorQPutToMarksBig
import Derived.Deep.RegionWith
namespace Go.Proofs.YtbnpodledgaipaaGreatDoor
open Go.RowKit

/-- how many bytes a point has by its first byte, and what that byte tells -/
def leadN (b : Nat) : Nat := if b < 128 then 1 else if 192 ≤ b ∧ b < 224 then 2 else if 224 ≤ b ∧ b < 240 then 3 else if 240 ≤ b ∧ b < 248 then 4 else 0
def leadP (b : Nat) : Int := if b < 128 then b else if 192 ≤ b ∧ b < 224 then b - 192 else if 224 ≤ b ∧ b < 240 then b - 224 else if 240 ≤ b ∧ b < 248 then b - 240 else 0
theorem leadN_le (b : Nat) : leadN b ≤ 4 := by unfold leadN; repeat (first | omega | split)
theorem leadP_bd (b : Nat) : 0 ≤ leadP b ∧ leadP b ≤ 127 := by unfold leadP; repeat (first | omega | split)

theorem byte_lt (b : UInt8) : b.toNat < 256 := UInt8.toNat_lt b

/-- the pair that l1Lead hands back -/
theorem lead_tuple {a b : Int} {n m : Int} (h : a = n) (k : b = m) : Ending.returned (.tuple #[.int .i64 a, .int .i64 b]) = .returned (.tuple #[.int .i64 n, .int .i64 m]) := by rw [h, k]

set_option maxRecDepth 100000 in
set_option maxHeartbeats 1000000 in
theorem l1Lead_any (b : UInt8) (w : World) :
    Calls Tryz.prog 117 #[.int .u8 (b.toNat : Int)] w fun e w' => e = .returned (.tuple #[.int .i64 (leadN b.toNat), .int .i64 (leadP b.toNat)]) ∧ w = w' := by
  have hb := byte_lt b
  generalize b.toNat = x at *
  by_cases h1 : (x : Int) < 128
  · go_enter Tryz.func117, Tryz.ntmps117
    go_wp2
    go_ret2
    exact ⟨lead_tuple (by unfold leadN; rw [if_pos (by omega)]; rfl) (by unfold leadP; rw [if_pos (by omega)]), rfl⟩
  by_cases h2 : (192 : Int) ≤ x
  · by_cases h3 : (x : Int) < 224
    · go_enter Tryz.func117, Tryz.ntmps117
      go_wp2
      go_ret2
      exact ⟨lead_tuple (by unfold leadN; rw [if_neg (by omega), if_pos (by omega)]; rfl) (by unfold leadP; rw [if_neg (by omega), if_pos (by omega)]), rfl⟩
    by_cases h4 : (x : Int) < 240
    · have h3' : (224 : Int) ≤ x := by omega
      go_enter Tryz.func117, Tryz.ntmps117
      go_wp2
      go_ret2
      exact ⟨lead_tuple (by unfold leadN; rw [if_neg (by omega), if_neg (by omega), if_pos (by omega)]; rfl) (by unfold leadP; rw [if_neg (by omega), if_neg (by omega), if_pos (by omega)]), rfl⟩
    by_cases h5 : (x : Int) < 248
    · have h3' : (224 : Int) ≤ x := by omega
      have h4' : (240 : Int) ≤ x := by omega
      go_enter Tryz.func117, Tryz.ntmps117
      go_wp2
      go_ret2
      exact ⟨lead_tuple (by unfold leadN; rw [if_neg (by omega), if_neg (by omega), if_neg (by omega), if_pos (by omega)]; rfl) (by unfold leadP; rw [if_neg (by omega), if_neg (by omega), if_neg (by omega), if_pos (by omega)]), rfl⟩
    · have h3' : (224 : Int) ≤ x := by omega
      have h4' : (240 : Int) ≤ x := by omega
      go_enter Tryz.func117, Tryz.ntmps117
      go_wp2
      go_ret2
      exact ⟨lead_tuple (by unfold leadN; rw [if_neg (by omega), if_neg (by omega), if_neg (by omega), if_neg (by omega)]; rfl) (by unfold leadP; rw [if_neg (by omega), if_neg (by omega), if_neg (by omega), if_neg (by omega)]), rfl⟩
  · have h3' : ¬ (224 : Int) ≤ x := by omega
    have h4' : ¬ (240 : Int) ≤ x := by omega
    go_enter Tryz.func117, Tryz.ntmps117
    go_wp2
    go_ret2
    exact ⟨lead_tuple (by unfold leadN; rw [if_neg (by omega), if_neg (by omega), if_neg (by omega), if_neg (by omega)]; rfl) (by unfold leadP; rw [if_neg (by omega), if_neg (by omega), if_neg (by omega), if_neg (by omega)]), rfl⟩

/-- what the bytes behind the first one add -/
def tailAcc (p : Int) : List UInt8 → Int
  | [] => p
  | b :: r => tailAcc (p * 64 + (b.toNat : Int) % 64) r
/-- a byte that goes on -/
def contB (b : UInt8) : Bool := b.toNat / 64 == 2
def lo64 (p : Int) : Nat → Int
  | 0 => p
  | j + 1 => lo64 p j * 64
def hi64 (p : Int) : Nat → Int
  | 0 => p
  | j + 1 => hi64 p j * 64 + 63
def bnd : Nat → Int
  | 0 => 127
  | k + 1 => bnd k * 64 + 63
theorem bnd_le (k : Nat) (h : k ≤ 6) : 0 ≤ bnd k ∧ bnd k ≤ 9007199254740991 := by
  match k, h with
  | 0, _ => decide
  | 1, _ => decide
  | 2, _ => decide
  | 3, _ => decide
  | 4, _ => decide
  | 5, _ => decide
  | 6, _ => decide
theorem lohi_bd (p : Int) (k : Nat) (h0 : 0 ≤ p) (h1 : p ≤ bnd k) : ∀ j, 0 ≤ lo64 p j ∧ lo64 p j ≤ hi64 p j ∧ hi64 p j ≤ bnd (k + j)
  | 0 => ⟨h0, Int.le_refl _, h1⟩
  | j + 1 => by
    have h := lohi_bd p k h0 h1 j
    have e : bnd (k + (j + 1)) = bnd (k + j) * 64 + 63 := rfl
    rw [e]
    simp only [lo64, hi64]
    omega

/-- the least point of n bytes -/
def leastN (n : Nat) : Int := if n = 2 then 128 else if n = 3 then 2048 else 65536
def maxI (a b : Int) : Int := if b < a then a else b
def minI (a b : Int) : Int := if a < b then a else b
/-- some point lies from lo64 to hi64 -/
def opens (p : Int) (j : Nat) (least : Int) : Bool :=
  decide (maxI (lo64 p j) least ≤ minI (hi64 p j) 1114111) && !(decide (55296 ≤ maxI (lo64 p j) least) && decide (minI (hi64 p j) 1114111 ≤ 57343))
def begins (tail : List UInt8) (n : Nat) (p : Int) : Bool := tail.all contB && opens (tailAcc p tail) (n - (tail.length + 1)) (leastN n)

set_option maxRecDepth 100000 in
set_option maxHeartbeats 400000 in
theorem l1Max_any (a b : Int) (w : World) : Calls Tryz.prog 96 #[.int .i64 a, .int .i64 b] w fun e w' => e = .returned (.int .i64 (maxI a b)) ∧ w = w' := by
  by_cases h : b < a
  all_goals
    go_enter Tryz.func96, Tryz.ntmps96
    go_wp2
    go_ret
    exact ⟨ret_int (by unfold maxI; first | rw [if_pos (by omega)] | rw [if_neg (by omega)]), rfl⟩
set_option maxRecDepth 100000 in
set_option maxHeartbeats 400000 in
theorem l1Min_first (a b : Int) (w : World) : Calls Tryz.prog 97 #[.int .i64 a, .int .i64 b] w fun e w' => e = .returned (.int .i64 (minI a b)) ∧ w = w' := by
  by_cases h : a < b
  all_goals
    go_enter Tryz.func97, Tryz.ntmps97
    go_wp2
    go_ret
    exact ⟨ret_int (by unfold minI; first | rw [if_pos (by omega)] | rw [if_neg (by omega)]), rfl⟩

end Go.Proofs.YtbnpodledgaipaaGreatDoor

/- The model's l1Begins. -/
namespace Go.Proofs.YtbnpodledgaipaaGreatDoor
open Go.RowKit

theorem tail_step (tail : List UInt8) (k : Nat) (p : Int) (h : k < tail.length) :
    tailAcc p (tail.drop k) = tailAcc (p * 64 + (tail[k].toNat : Int) % 64) (tail.drop (k + 1)) ∧ (tail.drop k).all contB = (contB tail[k] && (tail.drop (k + 1)).all contB) := by
  rw [List.drop_eq_getElem_cons h]
  exact ⟨rfl, rfl⟩

theorem begins_no {tail : List UInt8} {n : Nat} {p : Int} (h : tail.all contB = false) : begins tail n p = false := by simp [begins, h]
theorem begins_yes {tail : List UInt8} {n : Nat} {p : Int} (h : tail.all contB = true) : begins tail n p = opens (tailAcc p tail) (n - (tail.length + 1)) (leastN n) := by simp [begins, h]

theorem contB_int (b : UInt8) : contB b = !((b.toNat : Int) / 64 != 2) := by
  unfold contB
  rw [Bool.eq_iff_iff]
  simp
  omega

set_option maxRecDepth 100000 in
set_option maxHeartbeats 4000000 in
theorem l1Begins_2 (q : Option Addr) (c : Nat) (a : UInt8) (tail : List UInt8) (p0 : Int) (w : World) {B : Nat} (h : Bs w B q (a :: tail)) (hp0 : 0 ≤ p0) (hp1 : p0 ≤ 127) (ht : tail.length + 1 < 2) :
    Calls Tryz.prog 118 #[.slice q (tail.length + 1) c, .int .i64 2, .int .i64 p0] w fun e w' => e = .returned (.bool (begins tail 2 p0)) ∧ Below w.heap.size w w' := by
  obtain ⟨b, off, rfl, _, hc⟩ := h (by simp)
  have HC := Lib.hid hc
  clear hc
  go_enter Tryz.func118, Tryz.ntmps118
  go_wp2
  go_loop [2, 7] (fun pv i => ∃ (k : Nat) (pk : Int), k ≤ tail.length ∧ i = .int .i64 (k + 1 : Nat) ∧ pv = .int .i64 pk ∧ 0 ≤ pk ∧ pk ≤ bnd k ∧ tail.all contB = (tail.drop k).all contB ∧ tailAcc p0 tail = tailAcc pk (tail.drop k)) (fun _ i => tail.length + 1 - (intOf i).toNat)
  case atStart => exact ⟨0, p0, by omega, rfl, rfl, hp0, hp1, rfl, rfl⟩
  case round =>
    obtain ⟨k, pk, hk, rfl, rfl, k0, k1, ha, hb⟩ := hrel
    have HA := Lib.hid ha
    have HB := Lib.hid hb
    clear ha hb
    have hbd := bnd_le k (by omega)
    by_cases hlt : k < tail.length
    · have c0 := HC.out (k + 1) (by simp; omega)
      have HS := Lib.hid (tail_step tail k pk hlt)
      have HI := Lib.hid (contB_int tail[k])
      have hx := byte_lt tail[k]
      have e0 : (a :: tail).getD (k + 1) 0 = tail[k] := by simp [hlt]
      rw [e0] at c0
      clear e0
      have hr : (0 : Int) ≤ (tail[k].toNat : Int) % 64 ∧ (tail[k].toNat : Int) % 64 < 64 := by omega
      cases hq : ((tail[k].toNat : Int) / 64 != 2)
      · go_wp2
        exact ⟨⟨k + 1, _, by omega, by go_num, rfl, by omega, by show _ ≤ bnd k * 64 + 63; omega, by rw [HA.out, HS.out.2, HI.out, hq]; rfl, by rw [HB.out, HS.out.1]⟩, by simp [intOf]; omega⟩
      · go_wp2
        go_ret
        exact ⟨ret_bool (by rw [begins_no]; rw [HA.out, HS.out.2, HI.out, hq]; rfl), Below.refl _ _⟩
    · obtain rfl : k = tail.length := by omega
      have HY : Hid (begins tail 2 p0 = opens pk (2 - (tail.length + 1)) 128) := by
        have h1 : tail.all contB = true := by rw [HA.out, List.drop_length]; rfl
        have h2 : tailAcc p0 tail = pk := by rw [HB.out, List.drop_length]; rfl
        rw [begins_yes h1, h2]; rfl
      have HL := Lib.hid (lohi_bd pk tail.length k0 k1)
      go_wp2
      go_loop [8, 9, 10] (fun lo hi i => ∃ j : Nat, j + (tail.length + 1) ≤ 2 ∧ i = .int .i64 (tail.length + 1 + j : Nat) ∧ lo = .int .i64 (lo64 pk j) ∧ hi = .int .i64 (hi64 pk j)) (fun _ _ i => 2 - (intOf i).toNat)
      case atStart => exact ⟨0, by omega, rfl, rfl, rfl⟩
      case round =>
        obtain ⟨j, hj, rfl, rfl, rfl⟩ := hrel
        have hl := HL.out j
        have hbj := bnd_le (tail.length + j) (by omega)
        by_cases hlt2 : tail.length + 1 + j < 2
        · go_wp2
          exact ⟨⟨j + 1, by omega, by go_num, rfl, rfl⟩, by simp [intOf]; omega⟩
        · have hjn : 2 - (tail.length + 1) = j := by omega
          rw [hjn] at HY
          clear hjn
          by_cases g1 : maxI (lo64 pk j) 128 ≤ minI (hi64 pk j) 1114111
          · by_cases g2 : 55296 ≤ maxI (lo64 pk j) 128
            · by_cases g3 : minI (hi64 pk j) 1114111 ≤ 57343
              all_goals
                go_wp2_with (first
                  | (go_at_call 96; refine (l1Max_any _ _ _).mono ?_; rintro e w' ⟨rfl, rfl⟩)
                  | (go_at_call 97; refine (l1Min_first _ _ _).mono ?_; rintro e w' ⟨rfl, rfl⟩))
                go_ret
                exact ⟨ret_bool (by rw [HY.out]; simp [opens, *]), (Below.refl _ _).alloc (Nat.le_refl _) _⟩
            · go_wp2_with (first
                | (go_at_call 96; refine (l1Max_any _ _ _).mono ?_; rintro e w' ⟨rfl, rfl⟩)
                | (go_at_call 97; refine (l1Min_first _ _ _).mono ?_; rintro e w' ⟨rfl, rfl⟩))
              all_goals
                go_ret
                exact ⟨ret_bool (by rw [HY.out]; simp [opens]; omega), (Below.refl _ _).alloc (Nat.le_refl _) _⟩
          · go_wp2_with (first
              | (go_at_call 96; refine (l1Max_any _ _ _).mono ?_; rintro e w' ⟨rfl, rfl⟩)
              | (go_at_call 97; refine (l1Min_first _ _ _).mono ?_; rintro e w' ⟨rfl, rfl⟩))
            all_goals
              go_ret
              exact ⟨ret_bool (by rw [HY.out]; simp [opens]; omega), (Below.refl _ _).alloc (Nat.le_refl _) _⟩

set_option maxRecDepth 100000 in
set_option maxHeartbeats 4000000 in
theorem l1Begins_3 (q : Option Addr) (c : Nat) (a : UInt8) (tail : List UInt8) (p0 : Int) (w : World) {B : Nat} (h : Bs w B q (a :: tail)) (hp0 : 0 ≤ p0) (hp1 : p0 ≤ 127) (ht : tail.length + 1 < 3) :
    Calls Tryz.prog 118 #[.slice q (tail.length + 1) c, .int .i64 3, .int .i64 p0] w fun e w' => e = .returned (.bool (begins tail 3 p0)) ∧ Below w.heap.size w w' := by
  obtain ⟨b, off, rfl, _, hc⟩ := h (by simp)
  have HC := Lib.hid hc
  clear hc
  go_enter Tryz.func118, Tryz.ntmps118
  go_wp2
  go_loop [2, 7] (fun pv i => ∃ (k : Nat) (pk : Int), k ≤ tail.length ∧ i = .int .i64 (k + 1 : Nat) ∧ pv = .int .i64 pk ∧ 0 ≤ pk ∧ pk ≤ bnd k ∧ tail.all contB = (tail.drop k).all contB ∧ tailAcc p0 tail = tailAcc pk (tail.drop k)) (fun _ i => tail.length + 1 - (intOf i).toNat)
  case atStart => exact ⟨0, p0, by omega, rfl, rfl, hp0, hp1, rfl, rfl⟩
  case round =>
    obtain ⟨k, pk, hk, rfl, rfl, k0, k1, ha, hb⟩ := hrel
    have HA := Lib.hid ha
    have HB := Lib.hid hb
    clear ha hb
    have hbd := bnd_le k (by omega)
    by_cases hlt : k < tail.length
    · have c0 := HC.out (k + 1) (by simp; omega)
      have HS := Lib.hid (tail_step tail k pk hlt)
      have HI := Lib.hid (contB_int tail[k])
      have hx := byte_lt tail[k]
      have e0 : (a :: tail).getD (k + 1) 0 = tail[k] := by simp [hlt]
      rw [e0] at c0
      clear e0
      have hr : (0 : Int) ≤ (tail[k].toNat : Int) % 64 ∧ (tail[k].toNat : Int) % 64 < 64 := by omega
      cases hq : ((tail[k].toNat : Int) / 64 != 2)
      · go_wp2
        exact ⟨⟨k + 1, _, by omega, by go_num, rfl, by omega, by show _ ≤ bnd k * 64 + 63; omega, by rw [HA.out, HS.out.2, HI.out, hq]; rfl, by rw [HB.out, HS.out.1]⟩, by simp [intOf]; omega⟩
      · go_wp2
        go_ret
        exact ⟨ret_bool (by rw [begins_no]; rw [HA.out, HS.out.2, HI.out, hq]; rfl), Below.refl _ _⟩
    · obtain rfl : k = tail.length := by omega
      have HY : Hid (begins tail 3 p0 = opens pk (3 - (tail.length + 1)) 2048) := by
        have h1 : tail.all contB = true := by rw [HA.out, List.drop_length]; rfl
        have h2 : tailAcc p0 tail = pk := by rw [HB.out, List.drop_length]; rfl
        rw [begins_yes h1, h2]; rfl
      have HL := Lib.hid (lohi_bd pk tail.length k0 k1)
      go_wp2
      go_loop [8, 9, 10] (fun lo hi i => ∃ j : Nat, j + (tail.length + 1) ≤ 3 ∧ i = .int .i64 (tail.length + 1 + j : Nat) ∧ lo = .int .i64 (lo64 pk j) ∧ hi = .int .i64 (hi64 pk j)) (fun _ _ i => 3 - (intOf i).toNat)
      case atStart => exact ⟨0, by omega, rfl, rfl, rfl⟩
      case round =>
        obtain ⟨j, hj, rfl, rfl, rfl⟩ := hrel
        have hl := HL.out j
        have hbj := bnd_le (tail.length + j) (by omega)
        by_cases hlt2 : tail.length + 1 + j < 3
        · go_wp2
          exact ⟨⟨j + 1, by omega, by go_num, rfl, rfl⟩, by simp [intOf]; omega⟩
        · have hjn : 3 - (tail.length + 1) = j := by omega
          rw [hjn] at HY
          clear hjn
          by_cases g1 : maxI (lo64 pk j) 2048 ≤ minI (hi64 pk j) 1114111
          · by_cases g2 : 55296 ≤ maxI (lo64 pk j) 2048
            · by_cases g3 : minI (hi64 pk j) 1114111 ≤ 57343
              all_goals
                go_wp2_with (first
                  | (go_at_call 96; refine (l1Max_any _ _ _).mono ?_; rintro e w' ⟨rfl, rfl⟩)
                  | (go_at_call 97; refine (l1Min_first _ _ _).mono ?_; rintro e w' ⟨rfl, rfl⟩))
                go_ret
                exact ⟨ret_bool (by rw [HY.out]; simp [opens, *]), (Below.refl _ _).alloc (Nat.le_refl _) _⟩
            · go_wp2_with (first
                | (go_at_call 96; refine (l1Max_any _ _ _).mono ?_; rintro e w' ⟨rfl, rfl⟩)
                | (go_at_call 97; refine (l1Min_first _ _ _).mono ?_; rintro e w' ⟨rfl, rfl⟩))
              all_goals
                go_ret
                exact ⟨ret_bool (by rw [HY.out]; simp [opens]; omega), (Below.refl _ _).alloc (Nat.le_refl _) _⟩
          · go_wp2_with (first
              | (go_at_call 96; refine (l1Max_any _ _ _).mono ?_; rintro e w' ⟨rfl, rfl⟩)
              | (go_at_call 97; refine (l1Min_first _ _ _).mono ?_; rintro e w' ⟨rfl, rfl⟩))
            all_goals
              go_ret
              exact ⟨ret_bool (by rw [HY.out]; simp [opens]; omega), (Below.refl _ _).alloc (Nat.le_refl _) _⟩

set_option maxRecDepth 100000 in
set_option maxHeartbeats 4000000 in
theorem l1Begins_4 (q : Option Addr) (c : Nat) (a : UInt8) (tail : List UInt8) (p0 : Int) (w : World) {B : Nat} (h : Bs w B q (a :: tail)) (hp0 : 0 ≤ p0) (hp1 : p0 ≤ 127) (ht : tail.length + 1 < 4) :
    Calls Tryz.prog 118 #[.slice q (tail.length + 1) c, .int .i64 4, .int .i64 p0] w fun e w' => e = .returned (.bool (begins tail 4 p0)) ∧ Below w.heap.size w w' := by
  obtain ⟨b, off, rfl, _, hc⟩ := h (by simp)
  have HC := Lib.hid hc
  clear hc
  go_enter Tryz.func118, Tryz.ntmps118
  go_wp2
  go_loop [2, 7] (fun pv i => ∃ (k : Nat) (pk : Int), k ≤ tail.length ∧ i = .int .i64 (k + 1 : Nat) ∧ pv = .int .i64 pk ∧ 0 ≤ pk ∧ pk ≤ bnd k ∧ tail.all contB = (tail.drop k).all contB ∧ tailAcc p0 tail = tailAcc pk (tail.drop k)) (fun _ i => tail.length + 1 - (intOf i).toNat)
  case atStart => exact ⟨0, p0, by omega, rfl, rfl, hp0, hp1, rfl, rfl⟩
  case round =>
    obtain ⟨k, pk, hk, rfl, rfl, k0, k1, ha, hb⟩ := hrel
    have HA := Lib.hid ha
    have HB := Lib.hid hb
    clear ha hb
    have hbd := bnd_le k (by omega)
    by_cases hlt : k < tail.length
    · have c0 := HC.out (k + 1) (by simp; omega)
      have HS := Lib.hid (tail_step tail k pk hlt)
      have HI := Lib.hid (contB_int tail[k])
      have hx := byte_lt tail[k]
      have e0 : (a :: tail).getD (k + 1) 0 = tail[k] := by simp [hlt]
      rw [e0] at c0
      clear e0
      have hr : (0 : Int) ≤ (tail[k].toNat : Int) % 64 ∧ (tail[k].toNat : Int) % 64 < 64 := by omega
      cases hq : ((tail[k].toNat : Int) / 64 != 2)
      · go_wp2
        exact ⟨⟨k + 1, _, by omega, by go_num, rfl, by omega, by show _ ≤ bnd k * 64 + 63; omega, by rw [HA.out, HS.out.2, HI.out, hq]; rfl, by rw [HB.out, HS.out.1]⟩, by simp [intOf]; omega⟩
      · go_wp2
        go_ret
        exact ⟨ret_bool (by rw [begins_no]; rw [HA.out, HS.out.2, HI.out, hq]; rfl), Below.refl _ _⟩
    · obtain rfl : k = tail.length := by omega
      have HY : Hid (begins tail 4 p0 = opens pk (4 - (tail.length + 1)) 65536) := by
        have h1 : tail.all contB = true := by rw [HA.out, List.drop_length]; rfl
        have h2 : tailAcc p0 tail = pk := by rw [HB.out, List.drop_length]; rfl
        rw [begins_yes h1, h2]; rfl
      have HL := Lib.hid (lohi_bd pk tail.length k0 k1)
      go_wp2
      go_loop [8, 9, 10] (fun lo hi i => ∃ j : Nat, j + (tail.length + 1) ≤ 4 ∧ i = .int .i64 (tail.length + 1 + j : Nat) ∧ lo = .int .i64 (lo64 pk j) ∧ hi = .int .i64 (hi64 pk j)) (fun _ _ i => 4 - (intOf i).toNat)
      case atStart => exact ⟨0, by omega, rfl, rfl, rfl⟩
      case round =>
        obtain ⟨j, hj, rfl, rfl, rfl⟩ := hrel
        have hl := HL.out j
        have hbj := bnd_le (tail.length + j) (by omega)
        by_cases hlt2 : tail.length + 1 + j < 4
        · go_wp2
          exact ⟨⟨j + 1, by omega, by go_num, rfl, rfl⟩, by simp [intOf]; omega⟩
        · have hjn : 4 - (tail.length + 1) = j := by omega
          rw [hjn] at HY
          clear hjn
          by_cases g1 : maxI (lo64 pk j) 65536 ≤ minI (hi64 pk j) 1114111
          · by_cases g2 : 55296 ≤ maxI (lo64 pk j) 65536
            · by_cases g3 : minI (hi64 pk j) 1114111 ≤ 57343
              all_goals
                go_wp2_with (first
                  | (go_at_call 96; refine (l1Max_any _ _ _).mono ?_; rintro e w' ⟨rfl, rfl⟩)
                  | (go_at_call 97; refine (l1Min_first _ _ _).mono ?_; rintro e w' ⟨rfl, rfl⟩))
                go_ret
                exact ⟨ret_bool (by rw [HY.out]; simp [opens, *]), (Below.refl _ _).alloc (Nat.le_refl _) _⟩
            · go_wp2_with (first
                | (go_at_call 96; refine (l1Max_any _ _ _).mono ?_; rintro e w' ⟨rfl, rfl⟩)
                | (go_at_call 97; refine (l1Min_first _ _ _).mono ?_; rintro e w' ⟨rfl, rfl⟩))
              all_goals
                go_ret
                exact ⟨ret_bool (by rw [HY.out]; simp [opens]; omega), (Below.refl _ _).alloc (Nat.le_refl _) _⟩
          · go_wp2_with (first
              | (go_at_call 96; refine (l1Max_any _ _ _).mono ?_; rintro e w' ⟨rfl, rfl⟩)
              | (go_at_call 97; refine (l1Min_first _ _ _).mono ?_; rintro e w' ⟨rfl, rfl⟩))
            all_goals
              go_ret
              exact ⟨ret_bool (by rw [HY.out]; simp [opens]; omega), (Below.refl _ _).alloc (Nat.le_refl _) _⟩

end Go.Proofs.YtbnpodledgaipaaGreatDoor
