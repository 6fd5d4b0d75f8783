/- The model's first code point of bytes: l1Lead, l1Begins, l1First, FirstPoint. -/
import Derived.Test.YtjopjddhgaiddabGreatDoorQPutToBytesRes
import Derived.Deep.RegionWith
namespace Go.Proofs.YtjopjddhgaiddabGreatDoor
open Go.RowKit

/-- how many bytes a point has by its first byte, and what that byte tells -/
def leadN (b : Nat) : Nat := if b < 128 then 1 else if 192 ≤ b ∧ b < 224 then 2 else if 224 ≤ b ∧ b < 240 then 3 else if 240 ≤ b ∧ b < 248 then 4 else 0
def leadP (b : Nat) : Int := if b < 128 then b else if 192 ≤ b ∧ b < 224 then b - 192 else if 224 ≤ b ∧ b < 240 then b - 224 else if 240 ≤ b ∧ b < 248 then b - 240 else 0
theorem leadN_le (b : Nat) : leadN b ≤ 4 := by unfold leadN; repeat (first | omega | split)
theorem leadP_bd (b : Nat) : 0 ≤ leadP b ∧ leadP b ≤ 127 := by unfold leadP; repeat (first | omega | split)

theorem byte_lt (b : UInt8) : b.toNat < 256 := UInt8.toNat_lt b

/-- the pair that l1Lead hands back -/
theorem lead_tuple {a b : Int} {n m : Int} (h : a = n) (k : b = m) : Ending.returned (.tuple #[.int .i64 a, .int .i64 b]) = .returned (.tuple #[.int .i64 n, .int .i64 m]) := by rw [h, k]

set_option maxRecDepth 100000 in
set_option maxHeartbeats 1000000 in
theorem l1Lead_any (b : UInt8) (w : World) :
    Calls Tryz.prog 115 #[.int .u8 (b.toNat : Int)] w fun e w' => e = .returned (.tuple #[.int .i64 (leadN b.toNat), .int .i64 (leadP b.toNat)]) ∧ w = w' := by
  have hb := byte_lt b
  generalize b.toNat = x at *
  by_cases h1 : (x : Int) < 128
  · go_enter Tryz.func115, Tryz.ntmps115
    go_wp2
    go_ret2
    exact ⟨lead_tuple (by unfold leadN; rw [if_pos (by omega)]; rfl) (by unfold leadP; rw [if_pos (by omega)]), rfl⟩
  by_cases h2 : (192 : Int) ≤ x
  · by_cases h3 : (x : Int) < 224
    · go_enter Tryz.func115, Tryz.ntmps115
      go_wp2
      go_ret2
      exact ⟨lead_tuple (by unfold leadN; rw [if_neg (by omega), if_pos (by omega)]; rfl) (by unfold leadP; rw [if_neg (by omega), if_pos (by omega)]), rfl⟩
    by_cases h4 : (x : Int) < 240
    · have h3' : (224 : Int) ≤ x := by omega
      go_enter Tryz.func115, Tryz.ntmps115
      go_wp2
      go_ret2
      exact ⟨lead_tuple (by unfold leadN; rw [if_neg (by omega), if_neg (by omega), if_pos (by omega)]; rfl) (by unfold leadP; rw [if_neg (by omega), if_neg (by omega), if_pos (by omega)]), rfl⟩
    by_cases h5 : (x : Int) < 248
    · have h3' : (224 : Int) ≤ x := by omega
      have h4' : (240 : Int) ≤ x := by omega
      go_enter Tryz.func115, Tryz.ntmps115
      go_wp2
      go_ret2
      exact ⟨lead_tuple (by unfold leadN; rw [if_neg (by omega), if_neg (by omega), if_neg (by omega), if_pos (by omega)]; rfl) (by unfold leadP; rw [if_neg (by omega), if_neg (by omega), if_neg (by omega), if_pos (by omega)]), rfl⟩
    · have h3' : (224 : Int) ≤ x := by omega
      have h4' : (240 : Int) ≤ x := by omega
      go_enter Tryz.func115, Tryz.ntmps115
      go_wp2
      go_ret2
      exact ⟨lead_tuple (by unfold leadN; rw [if_neg (by omega), if_neg (by omega), if_neg (by omega), if_neg (by omega)]; rfl) (by unfold leadP; rw [if_neg (by omega), if_neg (by omega), if_neg (by omega), if_neg (by omega)]), rfl⟩
  · have h3' : ¬ (224 : Int) ≤ x := by omega
    have h4' : ¬ (240 : Int) ≤ x := by omega
    go_enter Tryz.func115, Tryz.ntmps115
    go_wp2
    go_ret2
    exact ⟨lead_tuple (by unfold leadN; rw [if_neg (by omega), if_neg (by omega), if_neg (by omega), if_neg (by omega)]; rfl) (by unfold leadP; rw [if_neg (by omega), if_neg (by omega), if_neg (by omega), if_neg (by omega)]), rfl⟩

/-- what the bytes behind the first one add -/
def tailAcc (p : Int) : List UInt8 → Int
  | [] => p
  | b :: r => tailAcc (p * 64 + (b.toNat : Int) % 64) r
/-- a byte that goes on -/
def contB (b : UInt8) : Bool := b.toNat / 64 == 2
def lo64 (p : Int) : Nat → Int
  | 0 => p
  | j + 1 => lo64 p j * 64
def hi64 (p : Int) : Nat → Int
  | 0 => p
  | j + 1 => hi64 p j * 64 + 63
def bnd : Nat → Int
  | 0 => 127
  | k + 1 => bnd k * 64 + 63
theorem bnd_le (k : Nat) (h : k ≤ 6) : 0 ≤ bnd k ∧ bnd k ≤ 9007199254740991 := by
  match k, h with
  | 0, _ => decide
  | 1, _ => decide
  | 2, _ => decide
  | 3, _ => decide
  | 4, _ => decide
  | 5, _ => decide
  | 6, _ => decide
theorem lohi_bd (p : Int) (k : Nat) (h0 : 0 ≤ p) (h1 : p ≤ bnd k) : ∀ j, 0 ≤ lo64 p j ∧ lo64 p j ≤ hi64 p j ∧ hi64 p j ≤ bnd (k + j)
  | 0 => ⟨h0, Int.le_refl _, h1⟩
  | j + 1 => by
    have h := lohi_bd p k h0 h1 j
    have e : bnd (k + (j + 1)) = bnd (k + j) * 64 + 63 := rfl
    rw [e]
    simp only [lo64, hi64]
    omega

/-- the least point of n bytes -/
def leastN (n : Nat) : Int := if n = 2 then 128 else if n = 3 then 2048 else 65536
def maxI (a b : Int) : Int := if b < a then a else b
def minI (a b : Int) : Int := if a < b then a else b
/-- some point lies from lo64 to hi64 -/
def opens (p : Int) (j : Nat) (least : Int) : Bool :=
  decide (maxI (lo64 p j) least ≤ minI (hi64 p j) 1114111) && !(decide (55296 ≤ maxI (lo64 p j) least) && decide (minI (hi64 p j) 1114111 ≤ 57343))
def begins (tail : List UInt8) (n : Nat) (p : Int) : Bool := tail.all contB && opens (tailAcc p tail) (n - (tail.length + 1)) (leastN n)

set_option maxRecDepth 100000 in
set_option maxHeartbeats 400000 in
theorem l1Max_any (a b : Int) (w : World) : Calls Tryz.prog 132 #[.int .i64 a, .int .i64 b] w fun e w' => e = .returned (.int .i64 (maxI a b)) ∧ w = w' := by
  by_cases h : b < a
  all_goals
    go_enter Tryz.func132, Tryz.ntmps132
    go_wp2
    go_ret
    exact ⟨ret_int (by unfold maxI; first | rw [if_pos (by omega)] | rw [if_neg (by omega)]), rfl⟩
set_option maxRecDepth 100000 in
set_option maxHeartbeats 400000 in
theorem l1Min_first (a b : Int) (w : World) : Calls Tryz.prog 84 #[.int .i64 a, .int .i64 b] w fun e w' => e = .returned (.int .i64 (minI a b)) ∧ w = w' := by
  by_cases h : a < b
  all_goals
    go_enter Tryz.func84, Tryz.ntmps84
    go_wp2
    go_ret
    exact ⟨ret_int (by unfold minI; first | rw [if_pos (by omega)] | rw [if_neg (by omega)]), rfl⟩

end Go.Proofs.YtjopjddhgaiddabGreatDoor

/- The model's l1Begins. -/
namespace Go.Proofs.YtjopjddhgaiddabGreatDoor
open Go.RowKit

theorem tail_step (tail : List UInt8) (k : Nat) (p : Int) (h : k < tail.length) :
    tailAcc p (tail.drop k) = tailAcc (p * 64 + (tail[k].toNat : Int) % 64) (tail.drop (k + 1)) ∧ (tail.drop k).all contB = (contB tail[k] && (tail.drop (k + 1)).all contB) := by
  rw [List.drop_eq_getElem_cons h]
  exact ⟨rfl, rfl⟩

theorem begins_no {tail : List UInt8} {n : Nat} {p : Int} (h : tail.all contB = false) : begins tail n p = false := by simp [begins, h]
theorem begins_yes {tail : List UInt8} {n : Nat} {p : Int} (h : tail.all contB = true) : begins tail n p = opens (tailAcc p tail) (n - (tail.length + 1)) (leastN n) := by simp [begins, h]

theorem contB_int (b : UInt8) : contB b = !((b.toNat : Int) / 64 != 2) := by
  unfold contB
  rw [Bool.eq_iff_iff]
  simp
  omega

set_option maxRecDepth 100000 in
set_option maxHeartbeats 4000000 in
theorem l1Begins_2 (q : Option Addr) (c : Nat) (a : UInt8) (tail : List UInt8) (p0 : Int) (w : World) {B : Nat} (h : Bs w B q (a :: tail)) (hp0 : 0 ≤ p0) (hp1 : p0 ≤ 127) (ht : tail.length + 1 < 2) :
    Calls Tryz.prog 116 #[.slice q (tail.length + 1) c, .int .i64 2, .int .i64 p0] w fun e w' => e = .returned (.bool (begins tail 2 p0)) ∧ Below w.heap.size w w' := by
  obtain ⟨b, off, rfl, _, hc⟩ := h (by simp)
  have HC := Lib.hid hc
  clear hc
  go_enter Tryz.func116, Tryz.ntmps116
  go_wp2
  go_loop [2, 7] (fun pv i => ∃ (k : Nat) (pk : Int), k ≤ tail.length ∧ i = .int .i64 (k + 1 : Nat) ∧ pv = .int .i64 pk ∧ 0 ≤ pk ∧ pk ≤ bnd k ∧ tail.all contB = (tail.drop k).all contB ∧ tailAcc p0 tail = tailAcc pk (tail.drop k)) (fun _ i => tail.length + 1 - (intOf i).toNat)
  case atStart => exact ⟨0, p0, by omega, rfl, rfl, hp0, hp1, rfl, rfl⟩
  case round =>
    obtain ⟨k, pk, hk, rfl, rfl, k0, k1, ha, hb⟩ := hrel
    have HA := Lib.hid ha
    have HB := Lib.hid hb
    clear ha hb
    have hbd := bnd_le k (by omega)
    by_cases hlt : k < tail.length
    · have c0 := HC.out (k + 1) (by simp; omega)
      have HS := Lib.hid (tail_step tail k pk hlt)
      have HI := Lib.hid (contB_int tail[k])
      have hx := byte_lt tail[k]
      have e0 : (a :: tail).getD (k + 1) 0 = tail[k] := by simp [hlt]
      rw [e0] at c0
      clear e0
      have hr : (0 : Int) ≤ (tail[k].toNat : Int) % 64 ∧ (tail[k].toNat : Int) % 64 < 64 := by omega
      cases hq : ((tail[k].toNat : Int) / 64 != 2)
      · go_wp2
        exact ⟨⟨k + 1, _, by omega, by go_num, rfl, by omega, by show _ ≤ bnd k * 64 + 63; omega, by rw [HA.out, HS.out.2, HI.out, hq]; rfl, by rw [HB.out, HS.out.1]⟩, by simp [intOf]; omega⟩
      · go_wp2
        go_ret
        exact ⟨ret_bool (by rw [begins_no]; rw [HA.out, HS.out.2, HI.out, hq]; rfl), Below.refl _ _⟩
    · obtain rfl : k = tail.length := by omega
      have HY : Hid (begins tail 2 p0 = opens pk (2 - (tail.length + 1)) 128) := by
        have h1 : tail.all contB = true := by rw [HA.out, List.drop_length]; rfl
        have h2 : tailAcc p0 tail = pk := by rw [HB.out, List.drop_length]; rfl
        rw [begins_yes h1, h2]; rfl
      have HL := Lib.hid (lohi_bd pk tail.length k0 k1)
      go_wp2
      go_loop [8, 9, 10] (fun lo hi i => ∃ j : Nat, j + (tail.length + 1) ≤ 2 ∧ i = .int .i64 (tail.length + 1 + j : Nat) ∧ lo = .int .i64 (lo64 pk j) ∧ hi = .int .i64 (hi64 pk j)) (fun _ _ i => 2 - (intOf i).toNat)
      case atStart => exact ⟨0, by omega, rfl, rfl, rfl⟩
      case round =>
        obtain ⟨j, hj, rfl, rfl, rfl⟩ := hrel
        have hl := HL.out j
        have hbj := bnd_le (tail.length + j) (by omega)
        by_cases hlt2 : tail.length + 1 + j < 2
        · go_wp2
          exact ⟨⟨j + 1, by omega, by go_num, rfl, rfl⟩, by simp [intOf]; omega⟩
        · have hjn : 2 - (tail.length + 1) = j := by omega
          rw [hjn] at HY
          clear hjn
          by_cases g1 : maxI (lo64 pk j) 128 ≤ minI (hi64 pk j) 1114111
          · by_cases g2 : 55296 ≤ maxI (lo64 pk j) 128
            · by_cases g3 : minI (hi64 pk j) 1114111 ≤ 57343
              all_goals
                go_wp2_with (first
                  | (go_at_call 132; refine (l1Max_any _ _ _).mono ?_; rintro e w' ⟨rfl, rfl⟩)
                  | (go_at_call 84; refine (l1Min_first _ _ _).mono ?_; rintro e w' ⟨rfl, rfl⟩))
                go_ret
                exact ⟨ret_bool (by rw [HY.out]; simp [opens, *]), (Below.refl _ _).alloc (Nat.le_refl _) _⟩
            · go_wp2_with (first
                | (go_at_call 132; refine (l1Max_any _ _ _).mono ?_; rintro e w' ⟨rfl, rfl⟩)
                | (go_at_call 84; refine (l1Min_first _ _ _).mono ?_; rintro e w' ⟨rfl, rfl⟩))
              all_goals
                go_ret
                exact ⟨ret_bool (by rw [HY.out]; simp [opens]; omega), (Below.refl _ _).alloc (Nat.le_refl _) _⟩
          · go_wp2_with (first
              | (go_at_call 132; refine (l1Max_any _ _ _).mono ?_; rintro e w' ⟨rfl, rfl⟩)
              | (go_at_call 84; refine (l1Min_first _ _ _).mono ?_; rintro e w' ⟨rfl, rfl⟩))
            all_goals
              go_ret
              exact ⟨ret_bool (by rw [HY.out]; simp [opens]; omega), (Below.refl _ _).alloc (Nat.le_refl _) _⟩

set_option maxRecDepth 100000 in
set_option maxHeartbeats 4000000 in
theorem l1Begins_3 (q : Option Addr) (c : Nat) (a : UInt8) (tail : List UInt8) (p0 : Int) (w : World) {B : Nat} (h : Bs w B q (a :: tail)) (hp0 : 0 ≤ p0) (hp1 : p0 ≤ 127) (ht : tail.length + 1 < 3) :
    Calls Tryz.prog 116 #[.slice q (tail.length + 1) c, .int .i64 3, .int .i64 p0] w fun e w' => e = .returned (.bool (begins tail 3 p0)) ∧ Below w.heap.size w w' := by
  obtain ⟨b, off, rfl, _, hc⟩ := h (by simp)
  have HC := Lib.hid hc
  clear hc
  go_enter Tryz.func116, Tryz.ntmps116
  go_wp2
  go_loop [2, 7] (fun pv i => ∃ (k : Nat) (pk : Int), k ≤ tail.length ∧ i = .int .i64 (k + 1 : Nat) ∧ pv = .int .i64 pk ∧ 0 ≤ pk ∧ pk ≤ bnd k ∧ tail.all contB = (tail.drop k).all contB ∧ tailAcc p0 tail = tailAcc pk (tail.drop k)) (fun _ i => tail.length + 1 - (intOf i).toNat)
  case atStart => exact ⟨0, p0, by omega, rfl, rfl, hp0, hp1, rfl, rfl⟩
  case round =>
    obtain ⟨k, pk, hk, rfl, rfl, k0, k1, ha, hb⟩ := hrel
    have HA := Lib.hid ha
    have HB := Lib.hid hb
    clear ha hb
    have hbd := bnd_le k (by omega)
    by_cases hlt : k < tail.length
    · have c0 := HC.out (k + 1) (by simp; omega)
      have HS := Lib.hid (tail_step tail k pk hlt)
      have HI := Lib.hid (contB_int tail[k])
      have hx := byte_lt tail[k]
      have e0 : (a :: tail).getD (k + 1) 0 = tail[k] := by simp [hlt]
      rw [e0] at c0
      clear e0
      have hr : (0 : Int) ≤ (tail[k].toNat : Int) % 64 ∧ (tail[k].toNat : Int) % 64 < 64 := by omega
      cases hq : ((tail[k].toNat : Int) / 64 != 2)
      · go_wp2
        exact ⟨⟨k + 1, _, by omega, by go_num, rfl, by omega, by show _ ≤ bnd k * 64 + 63; omega, by rw [HA.out, HS.out.2, HI.out, hq]; rfl, by rw [HB.out, HS.out.1]⟩, by simp [intOf]; omega⟩
      · go_wp2
        go_ret
        exact ⟨ret_bool (by rw [begins_no]; rw [HA.out, HS.out.2, HI.out, hq]; rfl), Below.refl _ _⟩
    · obtain rfl : k = tail.length := by omega
      have HY : Hid (begins tail 3 p0 = opens pk (3 - (tail.length + 1)) 2048) := by
        have h1 : tail.all contB = true := by rw [HA.out, List.drop_length]; rfl
        have h2 : tailAcc p0 tail = pk := by rw [HB.out, List.drop_length]; rfl
        rw [begins_yes h1, h2]; rfl
      have HL := Lib.hid (lohi_bd pk tail.length k0 k1)
      go_wp2
      go_loop [8, 9, 10] (fun lo hi i => ∃ j : Nat, j + (tail.length + 1) ≤ 3 ∧ i = .int .i64 (tail.length + 1 + j : Nat) ∧ lo = .int .i64 (lo64 pk j) ∧ hi = .int .i64 (hi64 pk j)) (fun _ _ i => 3 - (intOf i).toNat)
      case atStart => exact ⟨0, by omega, rfl, rfl, rfl⟩
      case round =>
        obtain ⟨j, hj, rfl, rfl, rfl⟩ := hrel
        have hl := HL.out j
        have hbj := bnd_le (tail.length + j) (by omega)
        by_cases hlt2 : tail.length + 1 + j < 3
        · go_wp2
          exact ⟨⟨j + 1, by omega, by go_num, rfl, rfl⟩, by simp [intOf]; omega⟩
        · have hjn : 3 - (tail.length + 1) = j := by omega
          rw [hjn] at HY
          clear hjn
          by_cases g1 : maxI (lo64 pk j) 2048 ≤ minI (hi64 pk j) 1114111
          · by_cases g2 : 55296 ≤ maxI (lo64 pk j) 2048
            · by_cases g3 : minI (hi64 pk j) 1114111 ≤ 57343
              all_goals
                go_wp2_with (first
                  | (go_at_call 132; refine (l1Max_any _ _ _).mono ?_; rintro e w' ⟨rfl, rfl⟩)
                  | (go_at_call 84; refine (l1Min_first _ _ _).mono ?_; rintro e w' ⟨rfl, rfl⟩))
                go_ret
                exact ⟨ret_bool (by rw [HY.out]; simp [opens, *]), (Below.refl _ _).alloc (Nat.le_refl _) _⟩
            · go_wp2_with (first
                | (go_at_call 132; refine (l1Max_any _ _ _).mono ?_; rintro e w' ⟨rfl, rfl⟩)
                | (go_at_call 84; refine (l1Min_first _ _ _).mono ?_; rintro e w' ⟨rfl, rfl⟩))
              all_goals
                go_ret
                exact ⟨ret_bool (by rw [HY.out]; simp [opens]; omega), (Below.refl _ _).alloc (Nat.le_refl _) _⟩
          · go_wp2_with (first
              | (go_at_call 132; refine (l1Max_any _ _ _).mono ?_; rintro e w' ⟨rfl, rfl⟩)
              | (go_at_call 84; refine (l1Min_first _ _ _).mono ?_; rintro e w' ⟨rfl, rfl⟩))
            all_goals
              go_ret
              exact ⟨ret_bool (by rw [HY.out]; simp [opens]; omega), (Below.refl _ _).alloc (Nat.le_refl _) _⟩

set_option maxRecDepth 100000 in
set_option maxHeartbeats 4000000 in
theorem l1Begins_4 (q : Option Addr) (c : Nat) (a : UInt8) (tail : List UInt8) (p0 : Int) (w : World) {B : Nat} (h : Bs w B q (a :: tail)) (hp0 : 0 ≤ p0) (hp1 : p0 ≤ 127) (ht : tail.length + 1 < 4) :
    Calls Tryz.prog 116 #[.slice q (tail.length + 1) c, .int .i64 4, .int .i64 p0] w fun e w' => e = .returned (.bool (begins tail 4 p0)) ∧ Below w.heap.size w w' := by
  obtain ⟨b, off, rfl, _, hc⟩ := h (by simp)
  have HC := Lib.hid hc
  clear hc
  go_enter Tryz.func116, Tryz.ntmps116
  go_wp2
  go_loop [2, 7] (fun pv i => ∃ (k : Nat) (pk : Int), k ≤ tail.length ∧ i = .int .i64 (k + 1 : Nat) ∧ pv = .int .i64 pk ∧ 0 ≤ pk ∧ pk ≤ bnd k ∧ tail.all contB = (tail.drop k).all contB ∧ tailAcc p0 tail = tailAcc pk (tail.drop k)) (fun _ i => tail.length + 1 - (intOf i).toNat)
  case atStart => exact ⟨0, p0, by omega, rfl, rfl, hp0, hp1, rfl, rfl⟩
  case round =>
    obtain ⟨k, pk, hk, rfl, rfl, k0, k1, ha, hb⟩ := hrel
    have HA := Lib.hid ha
    have HB := Lib.hid hb
    clear ha hb
    have hbd := bnd_le k (by omega)
    by_cases hlt : k < tail.length
    · have c0 := HC.out (k + 1) (by simp; omega)
      have HS := Lib.hid (tail_step tail k pk hlt)
      have HI := Lib.hid (contB_int tail[k])
      have hx := byte_lt tail[k]
      have e0 : (a :: tail).getD (k + 1) 0 = tail[k] := by simp [hlt]
      rw [e0] at c0
      clear e0
      have hr : (0 : Int) ≤ (tail[k].toNat : Int) % 64 ∧ (tail[k].toNat : Int) % 64 < 64 := by omega
      cases hq : ((tail[k].toNat : Int) / 64 != 2)
      · go_wp2
        exact ⟨⟨k + 1, _, by omega, by go_num, rfl, by omega, by show _ ≤ bnd k * 64 + 63; omega, by rw [HA.out, HS.out.2, HI.out, hq]; rfl, by rw [HB.out, HS.out.1]⟩, by simp [intOf]; omega⟩
      · go_wp2
        go_ret
        exact ⟨ret_bool (by rw [begins_no]; rw [HA.out, HS.out.2, HI.out, hq]; rfl), Below.refl _ _⟩
    · obtain rfl : k = tail.length := by omega
      have HY : Hid (begins tail 4 p0 = opens pk (4 - (tail.length + 1)) 65536) := by
        have h1 : tail.all contB = true := by rw [HA.out, List.drop_length]; rfl
        have h2 : tailAcc p0 tail = pk := by rw [HB.out, List.drop_length]; rfl
        rw [begins_yes h1, h2]; rfl
      have HL := Lib.hid (lohi_bd pk tail.length k0 k1)
      go_wp2
      go_loop [8, 9, 10] (fun lo hi i => ∃ j : Nat, j + (tail.length + 1) ≤ 4 ∧ i = .int .i64 (tail.length + 1 + j : Nat) ∧ lo = .int .i64 (lo64 pk j) ∧ hi = .int .i64 (hi64 pk j)) (fun _ _ i => 4 - (intOf i).toNat)
      case atStart => exact ⟨0, by omega, rfl, rfl, rfl⟩
      case round =>
        obtain ⟨j, hj, rfl, rfl, rfl⟩ := hrel
        have hl := HL.out j
        have hbj := bnd_le (tail.length + j) (by omega)
        by_cases hlt2 : tail.length + 1 + j < 4
        · go_wp2
          exact ⟨⟨j + 1, by omega, by go_num, rfl, rfl⟩, by simp [intOf]; omega⟩
        · have hjn : 4 - (tail.length + 1) = j := by omega
          rw [hjn] at HY
          clear hjn
          by_cases g1 : maxI (lo64 pk j) 65536 ≤ minI (hi64 pk j) 1114111
          · by_cases g2 : 55296 ≤ maxI (lo64 pk j) 65536
            · by_cases g3 : minI (hi64 pk j) 1114111 ≤ 57343
              all_goals
                go_wp2_with (first
                  | (go_at_call 132; refine (l1Max_any _ _ _).mono ?_; rintro e w' ⟨rfl, rfl⟩)
                  | (go_at_call 84; refine (l1Min_first _ _ _).mono ?_; rintro e w' ⟨rfl, rfl⟩))
                go_ret
                exact ⟨ret_bool (by rw [HY.out]; simp [opens, *]), (Below.refl _ _).alloc (Nat.le_refl _) _⟩
            · go_wp2_with (first
                | (go_at_call 132; refine (l1Max_any _ _ _).mono ?_; rintro e w' ⟨rfl, rfl⟩)
                | (go_at_call 84; refine (l1Min_first _ _ _).mono ?_; rintro e w' ⟨rfl, rfl⟩))
              all_goals
                go_ret
                exact ⟨ret_bool (by rw [HY.out]; simp [opens]; omega), (Below.refl _ _).alloc (Nat.le_refl _) _⟩
          · go_wp2_with (first
              | (go_at_call 132; refine (l1Max_any _ _ _).mono ?_; rintro e w' ⟨rfl, rfl⟩)
              | (go_at_call 84; refine (l1Min_first _ _ _).mono ?_; rintro e w' ⟨rfl, rfl⟩))
            all_goals
              go_ret
              exact ⟨ret_bool (by rw [HY.out]; simp [opens]; omega), (Below.refl _ _).alloc (Nat.le_refl _) _⟩

end Go.Proofs.YtjopjddhgaiddabGreatDoor

/- The model's l1First and FirstPoint. -/
namespace Go.Proofs.YtjopjddhgaiddabGreatDoor
open Go.RowKit

/-- code, point and size of the first point of a :: tail, as the model reckons them -/
def specFirst (a : UInt8) (tail : List UInt8) : Int × Int × Int :=
  if leadN a.toNat = 0 then (5, 0, 0)
  else if tail.length + 1 < leadN a.toNat then (if begins tail (leadN a.toNat) (leadP a.toNat) = true then (6, 0, 0) else (5, 0, 0))
  else if point (tailAcc (leadP a.toNat) (tail.take (leadN a.toNat - 1))) = true ∧ putB (tailAcc (leadP a.toNat) (tail.take (leadN a.toNat - 1))) = (a :: tail).take (leadN a.toNat) then
    (0, tailAcc (leadP a.toNat) (tail.take (leadN a.toNat - 1)), leadN a.toNat)
  else (5, 0, 0)

theorem ret3 {a b c x y z : Int} (h1 : a = x) (h2 : b = y) (h3 : c = z) :
    Ending.returned (.tuple #[.int .i64 a, .int .i64 b, .int .i64 c]) = .returned (.tuple #[.int .i64 x, .int .i64 y, .int .i64 z]) := by rw [h1, h2, h3]

/-- what l1First hands back -/
def FirstPost (w : World) (r : Int × Int × Int) (e : Ending) (w' : World) : Prop :=
  e = .returned (.tuple #[.int .i64 r.2.1, .int .i64 r.2.2, .int .i64 r.1]) ∧ Below w.heap.size w w'

theorem l1Begins_any (q : Option Addr) (c : Nat) (a : UInt8) (tail : List UInt8) (n : Nat) (p0 : Int) (w : World) {B : Nat} (h : Bs w B q (a :: tail)) (hp0 : 0 ≤ p0) (hp1 : p0 ≤ 127) (hn : n = 2 ∨ n = 3 ∨ n = 4) (ht : tail.length + 1 < n) :
    Calls Tryz.prog 116 #[.slice q (tail.length + 1) c, .int .i64 n, .int .i64 p0] w fun e w' => e = .returned (.bool (begins tail n p0)) ∧ Below w.heap.size w w' := by
  rcases hn with rfl | rfl | rfl
  · exact l1Begins_2 q c a tail p0 w h hp0 hp1 ht
  · exact l1Begins_3 q c a tail p0 w h hp0 hp1 ht
  · exact l1Begins_4 q c a tail p0 w h hp0 hp1 ht

theorem leadN_cases {x : Nat} (h : ¬ leadN x = 0) (h1 : ¬ leadN x = 1) : leadN x = 2 ∨ leadN x = 3 ∨ leadN x = 4 := by have := leadN_le x; omega

/-- ahead of its loop: no such byte, or fewer bytes than its point has -/
theorem specFirst_none {a : UInt8} {tail : List UInt8} (h : leadN a.toNat = 0) : specFirst a tail = (5, 0, 0) := by unfold specFirst; rw [if_pos h]
theorem specFirst_short {a : UInt8} {tail : List UInt8} (h : ¬ leadN a.toNat = 0) (k : tail.length + 1 < leadN a.toNat) : specFirst a tail = if begins tail (leadN a.toNat) (leadP a.toNat) = true then (6, 0, 0) else (5, 0, 0) := by
  unfold specFirst; rw [if_neg h, if_pos k]
theorem specFirst_long {a : UInt8} {tail : List UInt8} (h : ¬ leadN a.toNat = 0) (k : ¬ tail.length + 1 < leadN a.toNat) (P : Int) (hP : tailAcc (leadP a.toNat) (tail.take (leadN a.toNat - 1)) = P) :
    specFirst a tail = if point P = true ∧ putB P = (a :: tail).take (leadN a.toNat) then (0, P, (leadN a.toNat : Int)) else (5, 0, 0) := by
  subst hP; unfold specFirst; rw [if_neg h, if_neg k]

set_option maxRecDepth 100000 in
set_option maxHeartbeats 4000000 in
theorem l1First_short (q : Option Addr) (c : Nat) (a : UInt8) (tail : List UInt8) (w : World) (h : Bs w w.heap.size q (a :: tail)) (hs : leadN a.toNat = 0 ∨ tail.length + 1 < leadN a.toNat) :
    Calls Tryz.prog 82 #[.slice q (tail.length + 1) c] w (FirstPost w (specFirst a tail)) := by
  have hx := byte_lt a
  have hlp := leadP_bd a.toNat
  have hle := leadN_le a.toNat
  obtain ⟨b, off, rfl, _, hc⟩ := h (by simp)
  have c0 := hc 0 (by simp)
  simp at c0
  clear hc
  have hlen : (0 : Int) < (tail.length : Int) + 1 := by omega
  by_cases hz : leadN a.toNat = 0
  · have HR := Lib.hid (specFirst_none (tail := tail) hz)
    have hz' : ((leadN a.toNat : Int) == 0) = true := by simp [hz]
    clear hz hs
    go_enter Tryz.func82, Tryz.ntmps82
    go_wp2_with (go_at_call 115; refine (l1Lead_any a _).mono ?_; rintro e w' ⟨rfl, rfl⟩)
    go_ret3
    rw [HR.out]
    exact ⟨rfl, Below.refl _ _⟩
  · have hsh : tail.length + 1 < leadN a.toNat := by omega
    have HR := Lib.hid (specFirst_short hz hsh)
    have HN := Lib.hid (leadN_cases hz (by omega))
    have hz' : ((leadN a.toNat : Int) == 0) = false := by simp; omega
    have hsh' : (tail.length : Int) + 1 < (leadN a.toNat : Int) := by omega
    clear hs hz
    cases hbg : begins tail (leadN a.toNat) (leadP a.toNat)
    · go_enter Tryz.func82, Tryz.ntmps82
      go_wp2_with (first
        | (go_at_call 115; refine (l1Lead_any a _).mono ?_; rintro e w' ⟨rfl, rfl⟩)
        | (go_at_call 116; refine (l1Begins_any _ _ a tail _ _ _ h hlp.1 hlp.2 HN.out hsh).mono ?_; rintro e w1 ⟨rfl, hb1⟩))
      go_ret3
      rw [HR.out, hbg]
      exact ⟨rfl, hb1⟩
    · go_enter Tryz.func82, Tryz.ntmps82
      go_wp2_with (first
        | (go_at_call 115; refine (l1Lead_any a _).mono ?_; rintro e w' ⟨rfl, rfl⟩)
        | (go_at_call 116; refine (l1Begins_any _ _ a tail _ _ _ h hlp.1 hlp.2 HN.out hsh).mono ?_; rintro e w1 ⟨rfl, hb1⟩))
      go_ret3
      rw [HR.out, hbg]
      exact ⟨rfl, hb1⟩

theorem acc_step (T : List UInt8) (k : Nat) (p : Int) (h : k < T.length) : tailAcc p (T.drop k) = tailAcc (p * 64 + (T[k].toNat : Int) % 64) (T.drop (k + 1)) := (tail_step T k p h).1
theorem bs_take {w : World} {B : Nat} {p : Option Addr} {l : List UInt8} (h : Bs w B p l) (n : Nat) : Bs w B p (l.take n) := fun hne => by
  have hl : l ≠ [] := fun e => hne (by rw [e]; simp)
  obtain ⟨b, off, e, hb, hc⟩ := h hl
  refine ⟨b, off, e, hb, fun i hi => ?_⟩
  simp only [List.length_take] at hi
  have h1 : i < n := by omega
  rw [hc i (by omega)]
  simp [h1]

set_option maxRecDepth 100000 in
set_option maxHeartbeats 4000000 in
theorem l1First_long (q : Option Addr) (c : Nat) (a : UInt8) (tail : List UInt8) (w : World) (h : Bs w w.heap.size q (a :: tail)) (hs : ¬ leadN a.toNat = 0) (hk : ¬ tail.length + 1 < leadN a.toNat) (hl : tail.length + 1 ≤ 1048576) (hcap : tail.length + 1 ≤ c) :
    Calls Tryz.prog 82 #[.slice q (tail.length + 1) c] w (FirstPost w (specFirst a tail)) := by
  have hx := byte_lt a
  have hlp := leadP_bd a.toNat
  have hle := leadN_le a.toNat
  have hT : (tail.take (leadN a.toNat - 1)).length = leadN a.toNat - 1 := by simp; omega
  have HR := Lib.hid (fun P hP => specFirst_long (tail := tail) hs hk P hP)
  have HLe := Lib.hid (l1Lead_any a)
  have HTG : Hid (∀ k, k < leadN a.toNat - 1 → (tail.take (leadN a.toNat - 1))[k]? = tail[k]?) := fun k h => by rw [List.getElem?_take, if_pos h]
  generalize hN : leadN a.toNat = N at *
  generalize hT0 : tail.take (N - 1) = T at *
  have HH := Lib.hid h
  obtain ⟨b, off, rfl, _, hc⟩ := h (by simp)
  have HC := Lib.hid hc
  have HT := Lib.hid hT
  have c0 := hc 0 (by simp)
  simp at c0
  have hTl : T.length ≤ N - 1 := Nat.le_of_eq hT
  have hTl' : N - 1 ≤ T.length := Nat.le_of_eq hT.symm
  clear hc h hT hN hT0
  have hlen : (0 : Int) < (tail.length : Int) + 1 := by omega
  have hz' : ((N : Int) == 0) = false := by simp; omega
  have hsh' : ¬ (tail.length : Int) + 1 < (N : Int) := by omega
  clear hs
  go_enter Tryz.func82, Tryz.ntmps82
  go_wp2_with (go_at_call 115; refine (HLe.out _).mono ?_; rintro e w' ⟨rfl, rfl⟩)
  go_loop [6, 7] (fun pv i => ∃ (k : Nat) (pk : Int), k ≤ N - 1 ∧ i = .int .i64 (k + 1 : Nat) ∧ pv = .int .i64 pk ∧ 0 ≤ pk ∧ pk ≤ bnd k ∧ tailAcc (leadP a.toNat) T = tailAcc pk (T.drop k)) (fun _ i => N - (intOf i).toNat)
  case atStart => exact ⟨0, _, by omega, rfl, rfl, hlp.1, hlp.2, rfl⟩
  case round =>
    obtain ⟨k, pk, hkk, rfl, rfl, k0, k1, hb⟩ := hrel
    have HB := Lib.hid hb
    clear hb
    have hbd := bnd_le k (by omega)
    by_cases hlt : k + 1 < N
    · have ck := HC.out (k + 1) (by simp; omega)
      have hkt : k < tail.length := by omega
      have e0 : (a :: tail).getD (k + 1) 0 = tail[k] := by simp [hkt]
      rw [e0] at ck
      clear e0
      have HS := Lib.hid (acc_step T k pk (by omega))
      have HG : Hid (T[k]'(by omega) = tail[k]) := by
        have := HTG.out k (by omega)
        rw [List.getElem?_eq_getElem hkt, List.getElem?_eq_getElem (show k < T.length by omega)] at this
        exact Option.some.inj this
      have hr : (0 : Int) ≤ (tail[k].toNat : Int) % 64 ∧ (tail[k].toNat : Int) % 64 < 64 := by omega
      have hxk := byte_lt tail[k]
      go_wp2
      exact ⟨⟨k + 1, _, by omega, by go_num, rfl, by omega, by show _ ≤ bnd k * 64 + 63; omega, by rw [HB.out, HS.out, HG.out]⟩, by simp [intOf]; omega⟩
    · have hkN : k = N - 1 := by omega
      have HP : Hid (tailAcc (leadP a.toNat) T = pk) := by
        have e : T.drop k = [] := List.drop_eq_nil_of_le (by omega)
        have := HB.out
        rw [e] at this
        exact this
      have HF := Lib.hid (HR.out pk HP.out)
      clear HB HP HR hkN
      cases hpt : point pk
      · have HQ : Hid (∀ n, Calls Tryz.prog 105 #[.int .i64 pk] (w.drewN n) fun e w'' => e = .returned (.bool false) ∧ ∃ m, w'' = w.drewN m) := fun n =>
          (l1Point_any pk (w.drewN n)).mono fun _ _ ⟨he, hw⟩ => ⟨by rw [he, hpt], n, hw.symm⟩
        go_wp2
        go_quiet ((go_at_call 105; exact HQ.out _))
        go_wp2
        go_ret3
        rw [HF.out, hpt]
        exact ⟨rfl, below_drewN (Below.refl _ _) _⟩
      · obtain ⟨p0, p1, _⟩ := point_range hpt
        have HQ : Hid (∀ w', Calls Tryz.prog 105 #[.int .i64 pk] w' fun e w'' => e = .returned (.bool true) ∧ w' = w'') := fun w' =>
          (l1Point_any pk w').mono fun _ _ ⟨he, hw⟩ => ⟨by rw [he, hpt], hw⟩
        have hcut : (N : Int) ≤ (c : Int) := by omega
        have hNl : ((a :: tail).take N).length = N := by simp; omega
        have HV : Hid (∀ w', Below w.heap.size w w' → (convert 24 9 (.slice (some ⟨b, off, none⟩) N c)).run Tryz.prog w' = .ok (.string ⟨((a :: tail).take N).toArray⟩) w') := fun w' hb' => by
          have hh := convert_str (P := Tryz.prog) Tryz.underlying24 Tryz.underlying5 Tryz.underlying9 (some ⟨b, off, none⟩) c ((a :: tail).take N) w' (bs_take (HH.out.on hb') N)
          rw [hNl] at hh
          exact hh
        have v1 := HV.out w.drew (Below.refl _ _).drew
        clear hNl
        go_wp2
        go_region_with (first
          | (go_at_call 105; refine (HQ.out _).mono ?_; rintro e w' ⟨rfl, rfl⟩)
          | (go_at_call 111; refine (l1Put_any pk _ p0 p1).mono ?_; rintro e w1 ⟨v, rfl, ho, hb1⟩; obtain ⟨pp, cc, hv⟩ := ho.slice; subst hv; have v2 := HV.out w1 (below_on ((Below.refl _ _).drew) hb1); have v3 := convert_str (P := Tryz.prog) Tryz.underlying24 Tryz.underlying5 Tryz.underlying9 pp cc (putB pk) w1 ho.bs.2))
        all_goals go_wp2
        all_goals
          go_ret3
          first
            | (have hne : (!putB pk == List.take N (a :: tail)) = true := by assumption
               rw [HF.out, if_neg (fun hh => by rw [hh.2] at hne; simp at hne)]
               exact ⟨rfl, below_on ((Below.refl _ _).drew) hb1⟩)
            | (have heq : (!putB pk == List.take N (a :: tail)) = false := by assumption
               rw [HF.out, if_pos ⟨hpt, by simpa using heq⟩]
               exact ⟨rfl, below_on ((Below.refl _ _).drew) hb1⟩)

theorem l1First_any (q : Option Addr) (c : Nat) (a : UInt8) (tail : List UInt8) (w : World) (h : Bs w w.heap.size q (a :: tail)) (hl : tail.length + 1 ≤ 1048576) (hcap : tail.length + 1 ≤ c) :
    Calls Tryz.prog 82 #[.slice q (tail.length + 1) c] w (FirstPost w (specFirst a tail)) := by
  by_cases h0 : leadN a.toNat = 0
  · exact l1First_short q c a tail w h (.inl h0)
  by_cases h1 : tail.length + 1 < leadN a.toNat
  · exact l1First_short q c a tail w h (.inr h1)
  · exact l1First_long q c a tail w h h0 h1 hl hcap

/-- a PointResult as a value -/
def prV (r : Int × Int × Int) : Value := .agg #[.int .i64 r.1, .int .i64 r.2.1, .int .i64 r.2.2]
/-- the model's FirstPoint -/
def specFP : List UInt8 → Int × Int × Int
  | [] => (4, 0, 0)
  | a :: tail => specFirst a tail



end Go.Proofs.YtjopjddhgaiddabGreatDoor
