/- The program's first code point and the model's are the same: plain reckoning. -/
import Derived.Test.YtjopjddhgaiddabGreatDoorQFirstSpecToFirstSpec3
import Derived.Test.YtjopjddhgaiddabGreatDoorQFaultToFirstFull
namespace Go.Proofs.YtjopjddhgaiddabGreatDoor
open Go.RowKit

def slow2 (lo hi : Int) (a : UInt8) : List UInt8 → Int × Int
  | b :: _ => if mid lo hi b = true then ((a.toNat : Int) % 32 * 64 + (b.toNat : Int) % 64, 2) else (65533, 1)
  | [] => (65533, 1)
def slow3 (lo hi : Int) (a : UInt8) : List UInt8 → Int × Int
  | b :: c :: _ => if (mid lo hi b && mid 128 191 c) = true then ((a.toNat : Int) % 16 * 4096 + (b.toNat : Int) % 64 * 64 + (c.toNat : Int) % 64, 3) else (65533, 1)
  | _ => (65533, 1)
def slow4 (lo hi : Int) (a : UInt8) : List UInt8 → Int × Int
  | b :: c :: d :: _ => if (mid lo hi b && mid 128 191 c && mid 128 191 d) = true then ((a.toNat : Int) % 8 * 262144 + (b.toNat : Int) % 64 * 4096 + (c.toNat : Int) % 64 * 64 + (d.toNat : Int) % 64, 4) else (65533, 1)
  | _ => (65533, 1)
def full2 : List UInt8 → Bool
  | [] => false
  | _ => true
def full3 (lo hi : Int) : List UInt8 → Bool
  | [] => false
  | [b] => !mid lo hi b
  | _ => true
def full4 (lo hi : Int) : List UInt8 → Bool
  | [] => false
  | [b] => !mid lo hi b
  | [b, c] => !(mid lo hi b && mid 128 191 c)
  | _ => true
/-- utf8.decodeRuneSlow -/
def slowZ (a : UInt8) (r : List UInt8) : Int × Int :=
  if firstX a.toNat = 2 then slow2 128 191 a r else if firstX a.toNat = 19 then slow3 160 191 a r else if firstX a.toNat = 3 then slow3 128 191 a r else if firstX a.toNat = 35 then slow3 128 159 a r
  else if firstX a.toNat = 52 then slow4 144 191 a r else if firstX a.toNat = 4 then slow4 128 191 a r else if firstX a.toNat = 68 then slow4 128 143 a r else (65533, 1)
/-- utf8.FullRune -/
def fullZ (a : UInt8) (r : List UInt8) : Bool :=
  if firstX a.toNat = 2 then full2 r else if firstX a.toNat = 19 then full3 160 191 r else if firstX a.toNat = 3 then full3 128 191 r else if firstX a.toNat = 35 then full3 128 159 r
  else if firstX a.toNat = 52 then full4 144 191 r else if firstX a.toNat = 4 then full4 128 191 r else if firstX a.toNat = 68 then full4 128 143 r else true
/-- utf8.DecodeRune -/
def decZ (a : UInt8) (r : List UInt8) : Int × Int := if a.toNat < 128 then ((a.toNat : Int), 1) else slowZ a r
/-- the program's FirstPoint -/
def implFP : List UInt8 → Int × Int × Int
  | [] => (4, 0, 0)
  | a :: r => if fullZ a r = false then (6, 0, 0) else if (decZ a r).1 = 65533 ∧ (decZ a r).2 = 1 then (5, 0, 0) else (0, (decZ a r).1, (decZ a r).2)

theorem putB_iff {p : Int} (h0 : 0 ≤ p) (h1 : p ≤ 1114111) (l : List UInt8) : putB p = l ↔ putZ p = l.map (fun b : UInt8 => (b.toNat : Int)) := by
  constructor
  · intro h
    have hz := putZ_range h0 h1
    subst h
    unfold putB
    rw [List.map_map]
    conv => lhs; rw [← List.map_id (putZ p)]
    apply List.map_congr_left
    intro x hx
    have := hz x hx
    simp
    omega
  · intro h
    unfold putB
    rw [h, List.map_map]
    conv => rhs; rw [← List.map_id l]
    apply List.map_congr_left
    intro x _
    simp

theorem point_iff (p : Int) : point p = true ↔ 0 ≤ p ∧ p ≤ 1114111 ∧ ¬ (55296 ≤ p ∧ p ≤ 57343) := by
  simp [point, inR]; omega

/-- the classes of a first byte -/
theorem firstX_2 {n : Nat} : firstX n = 2 ↔ 194 ≤ n ∧ n < 224 := by unfold firstX; repeat (first | omega | split)
theorem firstX_19 {n : Nat} : firstX n = 19 ↔ n = 224 := by unfold firstX; repeat (first | omega | split)
theorem firstX_3 {n : Nat} : firstX n = 3 ↔ (225 ≤ n ∧ n < 237) ∨ n = 238 ∨ n = 239 := by unfold firstX; repeat (first | omega | split)
theorem firstX_35 {n : Nat} : firstX n = 35 ↔ n = 237 := by unfold firstX; repeat (first | omega | split)
theorem firstX_52 {n : Nat} : firstX n = 52 ↔ n = 240 := by unfold firstX; repeat (first | omega | split)
theorem firstX_4 {n : Nat} : firstX n = 4 ↔ 241 ≤ n ∧ n < 244 := by unfold firstX; repeat (first | omega | split)
theorem firstX_68 {n : Nat} : firstX n = 68 ↔ n = 244 := by unfold firstX; repeat (first | omega | split)
theorem firstX_240 {n : Nat} : firstX n = 240 ↔ n < 128 := by unfold firstX; repeat (first | omega | split)
theorem firstX_all (n : Nat) : firstX n = 240 ∨ firstX n = 241 ∨ firstX n = 2 ∨ firstX n = 19 ∨ firstX n = 3 ∨ firstX n = 35 ∨ firstX n = 52 ∨ firstX n = 4 ∨ firstX n = 68 := by
  unfold firstX; repeat (first | omega | split)

theorem lead_2 {n : Nat} (h : 192 ≤ n) (k : n < 224) : leadN n = 2 ∧ leadP n = (n : Int) - 192 := by
  unfold leadN leadP; rw [if_neg (by omega), if_pos ⟨h, k⟩, if_neg (by omega), if_pos ⟨h, k⟩]; exact ⟨rfl, rfl⟩
theorem lead_3 {n : Nat} (h : 224 ≤ n) (k : n < 240) : leadN n = 3 ∧ leadP n = (n : Int) - 224 := by
  unfold leadN leadP; rw [if_neg (by omega), if_neg (by omega), if_pos ⟨h, k⟩, if_neg (by omega), if_neg (by omega), if_pos ⟨h, k⟩]; exact ⟨rfl, rfl⟩
theorem lead_4 {n : Nat} (h : 240 ≤ n) (k : n < 248) : leadN n = 4 ∧ leadP n = (n : Int) - 240 := by
  unfold leadN leadP; rw [if_neg (by omega), if_neg (by omega), if_neg (by omega), if_pos ⟨h, k⟩, if_neg (by omega), if_neg (by omega), if_neg (by omega), if_pos ⟨h, k⟩]; exact ⟨rfl, rfl⟩

theorem putZ_eq2 {p x y : Int} (h : putZ p = [x, y]) : 128 ≤ p ∧ p < 2048 ∧ x = 192 + p / 64 ∧ y = 128 + p % 64 := by
  unfold putZ at h
  by_cases c1 : p < 128
  · rw [if_pos c1] at h; simp at h
  rw [if_neg c1] at h
  by_cases c2 : p < 2048
  · rw [if_pos c2] at h; simp at h; omega
  rw [if_neg c2] at h
  by_cases c3 : p < 65536
  · rw [if_pos c3] at h; simp at h
  · rw [if_neg c3] at h; simp at h
theorem putZ_eq3 {p x y z : Int} (h : putZ p = [x, y, z]) : 2048 ≤ p ∧ p < 65536 ∧ x = 224 + p / 4096 ∧ y = 128 + p / 64 % 64 ∧ z = 128 + p % 64 := by
  unfold putZ at h
  by_cases c1 : p < 128
  · rw [if_pos c1] at h; simp at h
  rw [if_neg c1] at h
  by_cases c2 : p < 2048
  · rw [if_pos c2] at h; simp at h
  rw [if_neg c2] at h
  by_cases c3 : p < 65536
  · rw [if_pos c3] at h; simp at h; omega
  · rw [if_neg c3] at h; simp at h
theorem putZ_eq4 {p x y z u : Int} (h : putZ p = [x, y, z, u]) : 65536 ≤ p ∧ x = 240 + p / 262144 ∧ y = 128 + p / 4096 % 64 ∧ z = 128 + p / 64 % 64 ∧ u = 128 + p % 64 := by
  unfold putZ at h
  by_cases c1 : p < 128
  · rw [if_pos c1] at h; simp at h
  rw [if_neg c1] at h
  by_cases c2 : p < 2048
  · rw [if_pos c2] at h; simp at h
  rw [if_neg c2] at h
  by_cases c3 : p < 65536
  · rw [if_pos c3] at h; simp at h
  · rw [if_neg c3] at h; simp at h; omega

/-- 'begins' as numbers -/
theorem begins_iff (tail : List UInt8) (n : Nat) (p : Int) : begins tail n p = true ↔ tail.all contB = true ∧ maxI (lo64 (tailAcc p tail) (n - (tail.length + 1))) (leastN n) ≤ minI (hi64 (tailAcc p tail) (n - (tail.length + 1))) 1114111 ∧
    ¬ (55296 ≤ maxI (lo64 (tailAcc p tail) (n - (tail.length + 1))) (leastN n) ∧ minI (hi64 (tailAcc p tail) (n - (tail.length + 1))) 1114111 ≤ 57343) := by
  simp [begins, opens]
  intro _ _
  omega
theorem max_le {a b c : Int} : maxI a b ≤ c ↔ a ≤ c ∧ b ≤ c := by unfold maxI; split <;> omega
theorem le_max {a b c : Int} : c ≤ maxI a b ↔ c ≤ a ∨ c ≤ b := by unfold maxI; split <;> omega
theorem le_min {a b c : Int} : c ≤ minI a b ↔ c ≤ a ∧ c ≤ b := by unfold minI; split <;> omega
theorem min_le {a b c : Int} : minI a b ≤ c ↔ a ≤ c ∨ b ≤ c := by unfold minI; split <;> omega
theorem contB_iff (b : UInt8) : contB b = true ↔ 128 ≤ b.toNat ∧ b.toNat ≤ 191 := by simp [contB]; omega
theorem mid_iff (lo hi : Int) (b : UInt8) : mid lo hi b = true ↔ lo ≤ (b.toNat : Int) ∧ (b.toNat : Int) ≤ hi := by simp [mid]

/-- two bytes -/
theorem same_2 (a : UInt8) (r : List UInt8) (h : 192 ≤ a.toNat) (k : a.toNat < 224) :
    specFirst a r = match r with
      | [] => if 194 ≤ a.toNat then (6, 0, 0) else (5, 0, 0)
      | b :: _ => if 194 ≤ a.toNat ∧ mid 128 191 b = true then (0, (a.toNat : Int) % 32 * 64 + (b.toNat : Int) % 64, 2) else (5, 0, 0) := by
  obtain ⟨e1, e2⟩ := lead_2 h k
  cases r with
  | nil =>
    rw [specFirst_short (by rw [e1]; omega) (by rw [e1]; simp), e1, e2]
    have hb : begins [] 2 ((a.toNat : Int) - 192) = true ↔ 194 ≤ a.toNat := by
      rw [begins_iff]
      simp only [tailAcc, List.all_nil, List.length_nil, lo64, hi64, leastN, max_le, le_max, le_min, min_le]
      simp
      omega
    by_cases g : 194 ≤ a.toNat
    · rw [if_pos (hb.2 g), if_pos g]
    · rw [if_neg (fun x => g (hb.1 x)), if_neg g]
  | cons b r =>
    have hb := byte_lt b
    rw [specFirst_long (by rw [e1]; omega) (by rw [e1]; simp) _ rfl, e1, e2]
    simp only [List.take_succ_cons, List.take_zero, tailAcc, Nat.add_one_sub_one]
    by_cases g : 194 ≤ a.toNat ∧ mid 128 191 b = true
    · rw [if_pos g]
      rw [mid_iff] at g
      have e : (a.toNat : Int) % 32 * 64 + (b.toNat : Int) % 64 = ((a.toNat : Int) - 192) * 64 + (b.toNat : Int) % 64 := by omega
      rw [if_pos, e]
      · rfl
      refine ⟨(point_iff _).2 (by omega), (putB_iff (by omega) (by omega) _).2 ?_⟩
      rw [putZ_2 (by omega) (by omega)]
      simp
      omega
    · rw [if_neg g, if_neg]
      rintro ⟨h1, h2⟩
      have hp := (point_iff _).1 h1
      rw [putB_iff (by omega) (by omega)] at h2
      apply g
      rw [mid_iff]
      simp only [List.map_cons, List.map_nil] at h2
      have := putZ_eq2 h2
      omega

/-- three bytes: the second one's range -/
def lo3 (n : Nat) : Int := if n = 224 then 160 else 128
def hi3 (n : Nat) : Int := if n = 237 then 159 else 191
theorem same_3 (a : UInt8) (r : List UInt8) (h : 224 ≤ a.toNat) (k : a.toNat < 240) :
    specFirst a r = match r with
      | [] => (6, 0, 0)
      | [b] => if mid (lo3 a.toNat) (hi3 a.toNat) b = true then (6, 0, 0) else (5, 0, 0)
      | b :: c :: _ => if mid (lo3 a.toNat) (hi3 a.toNat) b = true ∧ mid 128 191 c = true then (0, (a.toNat : Int) % 16 * 4096 + (b.toNat : Int) % 64 * 64 + (c.toNat : Int) % 64, 3) else (5, 0, 0) := by
  obtain ⟨e1, e2⟩ := lead_3 h k
  have hlo : lo3 a.toNat = if a.toNat = 224 then 160 else 128 := rfl
  have hhi : hi3 a.toNat = if a.toNat = 237 then 159 else 191 := rfl
  match r with
  | [] =>
    rw [specFirst_short (by rw [e1]; omega) (by rw [e1]; simp), e1, e2]
    have hb : begins [] 3 ((a.toNat : Int) - 224) = true := by
      rw [begins_iff]
      simp only [tailAcc, List.all_nil, List.length_nil, lo64, hi64, leastN, max_le, le_max, le_min, min_le]
      simp
      omega
    rw [if_pos hb]
  | [b] =>
    dsimp only
    have hbb := byte_lt b
    rw [specFirst_short (by rw [e1]; omega) (by rw [e1]; simp), e1, e2]
    have hb : begins [b] 3 ((a.toNat : Int) - 224) = true ↔ mid (lo3 a.toNat) (hi3 a.toNat) b = true := by
      rw [begins_iff, mid_iff, hlo, hhi]
      simp only [tailAcc, List.all_cons, List.all_nil, Bool.and_true, contB_iff, List.length_cons, List.length_nil, lo64, hi64, leastN, max_le, le_max, le_min, min_le]
      simp
      split <;> split <;> omega
    by_cases g : mid (lo3 a.toNat) (hi3 a.toNat) b = true
    · rw [if_pos (hb.2 g), if_pos g]
    · rw [if_neg (fun x => g (hb.1 x)), if_neg g]
  | b :: c :: r =>
    dsimp only
    have hbb := byte_lt b
    have hcc := byte_lt c
    rw [specFirst_long (by rw [e1]; omega) (by rw [e1]; simp) _ rfl, e1, e2]
    simp only [List.take_succ_cons, List.take_zero, tailAcc, Nat.add_one_sub_one]
    by_cases g : mid (lo3 a.toNat) (hi3 a.toNat) b = true ∧ mid 128 191 c = true
    · rw [if_pos g]
      rw [mid_iff, mid_iff, hlo, hhi] at g
      have g' : (a.toNat = 224 → 160 ≤ b.toNat) ∧ (a.toNat = 237 → b.toNat ≤ 159) ∧ 128 ≤ b.toNat ∧ b.toNat ≤ 191 ∧ 128 ≤ c.toNat ∧ c.toNat ≤ 191 := by
        obtain ⟨⟨g1, g2⟩, g3⟩ := g
        split at g1 <;> split at g2 <;> omega
      have e : (a.toNat : Int) % 16 * 4096 + (b.toNat : Int) % 64 * 64 + (c.toNat : Int) % 64 = (((a.toNat : Int) - 224) * 64 + (b.toNat : Int) % 64) * 64 + (c.toNat : Int) % 64 := by omega
      rw [if_pos, e]
      · rfl
      refine ⟨(point_iff _).2 (by omega), (putB_iff (by omega) (by omega) _).2 ?_⟩
      rw [putZ_3 (by omega) (by omega)]
      simp
      omega
    · rw [if_neg g, if_neg]
      rintro ⟨h1, h2⟩
      have hp := (point_iff _).1 h1
      rw [putB_iff (by omega) (by omega)] at h2
      apply g
      rw [mid_iff, mid_iff, hlo, hhi]
      simp only [List.map_cons, List.map_nil] at h2
      have := putZ_eq3 h2
      split <;> split <;> omega

/-- four bytes: the second one's range -/
def lo4 (n : Nat) : Int := if n = 240 then 144 else 128
def hi4 (n : Nat) : Int := if n = 244 then 143 else 191
theorem same_4 (a : UInt8) (r : List UInt8) (h : 240 ≤ a.toNat) (k : a.toNat < 248) :
    specFirst a r = if 245 ≤ a.toNat then ((5, 0, 0) : Int × Int × Int) else match r with
      | [] => (6, 0, 0)
      | [b] => if mid (lo4 a.toNat) (hi4 a.toNat) b = true then (6, 0, 0) else (5, 0, 0)
      | [b, c] => if mid (lo4 a.toNat) (hi4 a.toNat) b = true ∧ mid 128 191 c = true then (6, 0, 0) else (5, 0, 0)
      | b :: c :: d :: _ => if mid (lo4 a.toNat) (hi4 a.toNat) b = true ∧ mid 128 191 c = true ∧ mid 128 191 d = true then (0, (a.toNat : Int) % 8 * 262144 + (b.toNat : Int) % 64 * 4096 + (c.toNat : Int) % 64 * 64 + (d.toNat : Int) % 64, 4) else (5, 0, 0) := by
  obtain ⟨e1, e2⟩ := lead_4 h k
  have hlo : lo4 a.toNat = if a.toNat = 240 then 144 else 128 := rfl
  have hhi : hi4 a.toNat = if a.toNat = 244 then 143 else 191 := rfl
  match r with
  | [] =>
    rw [specFirst_short (by rw [e1]; omega) (by rw [e1]; simp), e1, e2]
    have hb : begins [] 4 ((a.toNat : Int) - 240) = true ↔ ¬ 245 ≤ a.toNat := by
      rw [begins_iff]
      simp only [tailAcc, List.all_nil, List.length_nil, lo64, hi64, leastN, max_le, le_max, le_min, min_le]
      simp
      omega
    by_cases g : 245 ≤ a.toNat
    · rw [if_neg (fun x => hb.1 x g), if_pos g]
    · rw [if_pos (hb.2 g), if_neg g]
  | [b] =>
    dsimp only
    have hbb := byte_lt b
    rw [specFirst_short (by rw [e1]; omega) (by rw [e1]; simp), e1, e2]
    have hb : begins [b] 4 ((a.toNat : Int) - 240) = true ↔ ¬ 245 ≤ a.toNat ∧ mid (lo4 a.toNat) (hi4 a.toNat) b = true := by
      rw [begins_iff, mid_iff, hlo, hhi]
      simp only [tailAcc, List.all_cons, List.all_nil, Bool.and_true, contB_iff, List.length_cons, List.length_nil, lo64, hi64, leastN, max_le, le_max, le_min, min_le]
      simp
      split <;> split <;> omega
    by_cases g0 : 245 ≤ a.toNat
    · rw [if_neg (fun x => (hb.1 x).1 g0), if_pos g0]
    rw [if_neg g0]
    by_cases g : mid (lo4 a.toNat) (hi4 a.toNat) b = true
    · rw [if_pos (hb.2 ⟨g0, g⟩), if_pos g]
    · rw [if_neg (fun x => g (hb.1 x).2), if_neg g]
  | [b, c] =>
    dsimp only
    have hbb := byte_lt b
    have hcc := byte_lt c
    rw [specFirst_short (by rw [e1]; omega) (by rw [e1]; simp), e1, e2]
    have hb : begins [b, c] 4 ((a.toNat : Int) - 240) = true ↔ ¬ 245 ≤ a.toNat ∧ mid (lo4 a.toNat) (hi4 a.toNat) b = true ∧ mid 128 191 c = true := by
      rw [begins_iff, mid_iff, mid_iff, hlo, hhi]
      simp only [tailAcc, List.all_cons, List.all_nil, Bool.and_true, Bool.and_eq_true, contB_iff, List.length_cons, List.length_nil, lo64, hi64, leastN, max_le, le_max, le_min, min_le]
      simp
      split <;> split <;> omega
    by_cases g0 : 245 ≤ a.toNat
    · rw [if_neg (fun x => (hb.1 x).1 g0), if_pos g0]
    rw [if_neg g0]
    by_cases g : mid (lo4 a.toNat) (hi4 a.toNat) b = true ∧ mid 128 191 c = true
    · rw [if_pos (hb.2 ⟨g0, g⟩), if_pos g]
    · rw [if_neg (fun x => g (hb.1 x).2), if_neg g]
  | b :: c :: d :: r =>
    dsimp only
    have hbb := byte_lt b
    have hcc := byte_lt c
    have hdd := byte_lt d
    rw [specFirst_long (by rw [e1]; omega) (by rw [e1]; simp) _ rfl, e1, e2]
    simp only [List.take_succ_cons, List.take_zero, tailAcc, Nat.add_one_sub_one]
    by_cases g0 : 245 ≤ a.toNat
    · rw [if_pos g0, if_neg]
      rintro ⟨h1, _⟩
      have hp := (point_iff _).1 h1
      omega
    rw [if_neg g0]
    by_cases g : mid (lo4 a.toNat) (hi4 a.toNat) b = true ∧ mid 128 191 c = true ∧ mid 128 191 d = true
    · rw [if_pos g]
      rw [mid_iff, mid_iff, mid_iff, hlo, hhi] at g
      have g' : (a.toNat = 240 → 144 ≤ b.toNat) ∧ (a.toNat = 244 → b.toNat ≤ 143) ∧ 128 ≤ b.toNat ∧ b.toNat ≤ 191 ∧ 128 ≤ c.toNat ∧ c.toNat ≤ 191 ∧ 128 ≤ d.toNat ∧ d.toNat ≤ 191 := by
        obtain ⟨⟨g1, g2⟩, g3⟩ := g
        split at g1 <;> split at g2 <;> omega
      have e : (a.toNat : Int) % 8 * 262144 + (b.toNat : Int) % 64 * 4096 + (c.toNat : Int) % 64 * 64 + (d.toNat : Int) % 64 = ((((a.toNat : Int) - 240) * 64 + (b.toNat : Int) % 64) * 64 + (c.toNat : Int) % 64) * 64 + (d.toNat : Int) % 64 := by omega
      rw [if_pos, e]
      · rfl
      refine ⟨(point_iff _).2 (by omega), (putB_iff (by omega) (by omega) _).2 ?_⟩
      rw [putZ_4 (by omega)]
      simp
      omega
    · rw [if_neg g, if_neg]
      rintro ⟨h1, h2⟩
      have hp := (point_iff _).1 h1
      rw [putB_iff (by omega) (by omega)] at h2
      apply g
      rw [mid_iff, mid_iff, mid_iff, hlo, hhi]
      simp only [List.map_cons, List.map_nil] at h2
      have := putZ_eq4 h2
      split <;> split <;> omega

/-- one byte, and no such byte -/
theorem same_1 (a : UInt8) (r : List UInt8) (h : a.toNat < 128) : specFirst a r = (0, (a.toNat : Int), 1) := by
  have e1 : leadN a.toNat = 1 := by unfold leadN; rw [if_pos h]
  have e2 : leadP a.toNat = (a.toNat : Int) := by unfold leadP; rw [if_pos h]
  rw [specFirst_long (by rw [e1]; omega) (by rw [e1]; omega) _ rfl, e1, e2]
  simp only [List.take_succ_cons, List.take_zero, tailAcc, Nat.sub_self]
  rw [if_pos]
  · rfl
  refine ⟨(point_iff _).2 (by omega), (putB_iff (by omega) (by omega) _).2 ?_⟩
  rw [putZ_1 (by omega)]
  simp
theorem same_0 (a : UInt8) (r : List UInt8) (h : (128 ≤ a.toNat ∧ a.toNat < 192) ∨ 248 ≤ a.toNat) : specFirst a r = (5, 0, 0) := by
  apply specFirst_none
  unfold leadN
  rw [if_neg (by omega), if_neg (by omega), if_neg (by omega), if_neg (by omega)]

/-- what FirstPoint makes of the two answers -/
def fin (f : Bool) (d : Int × Int) : Int × Int × Int := if f = false then (6, 0, 0) else if d.1 = 65533 ∧ d.2 = 1 then (5, 0, 0) else (0, d.1, d.2)
theorem fin_no (d : Int × Int) : fin false d = (6, 0, 0) := rfl
theorem fin_bad : fin true (65533, 1) = (5, 0, 0) := rfl
theorem fin_ok {v s : Int} (h : v ≠ 65533 ∨ s ≠ 1) : fin true (v, s) = (0, v, s) := by
  unfold fin
  rw [if_neg (by simp), if_neg (by simp; omega)]
theorem implFP_cons (a : UInt8) (r : List UInt8) : implFP (a :: r) = fin (fullZ a r) (decZ a r) := rfl

theorem fin_2 (lo hi : Int) (a : UInt8) (r : List UInt8) : fin (full2 r) (slow2 lo hi a r) = match r with
    | [] => (6, 0, 0)
    | b :: _ => if mid lo hi b = true then (0, (a.toNat : Int) % 32 * 64 + (b.toNat : Int) % 64, 2) else (5, 0, 0) := by
  cases r with
  | nil => rfl
  | cons b r =>
    dsimp only [full2, slow2]
    by_cases g : mid lo hi b = true
    · rw [if_pos g, if_pos g, fin_ok (.inr (by omega))]
    · rw [if_neg g, if_neg g, fin_bad]
theorem fin_3 (lo hi : Int) (a : UInt8) (r : List UInt8) : fin (full3 lo hi r) (slow3 lo hi a r) = match r with
    | [] => (6, 0, 0)
    | [b] => if mid lo hi b = true then (6, 0, 0) else (5, 0, 0)
    | b :: c :: _ => if mid lo hi b = true ∧ mid 128 191 c = true then (0, (a.toNat : Int) % 16 * 4096 + (b.toNat : Int) % 64 * 64 + (c.toNat : Int) % 64, 3) else (5, 0, 0) := by
  match r with
  | [] => rfl
  | [b] =>
    dsimp only [full3, slow3]
    cases g : mid lo hi b
    · rw [if_neg (by simp)]; rfl
    · rw [if_pos rfl]; rfl
  | b :: c :: r =>
    dsimp only [full3, slow3]
    by_cases g : (mid lo hi b && mid 128 191 c) = true
    · rw [if_pos g, if_pos (by simpa using g), fin_ok (.inr (by omega))]
    · rw [if_neg g, if_neg (by simpa using g), fin_bad]
theorem fin_4 (lo hi : Int) (a : UInt8) (r : List UInt8) : fin (full4 lo hi r) (slow4 lo hi a r) = match r with
    | [] => (6, 0, 0)
    | [b] => if mid lo hi b = true then (6, 0, 0) else (5, 0, 0)
    | [b, c] => if mid lo hi b = true ∧ mid 128 191 c = true then (6, 0, 0) else (5, 0, 0)
    | b :: c :: d :: _ => if mid lo hi b = true ∧ mid 128 191 c = true ∧ mid 128 191 d = true then (0, (a.toNat : Int) % 8 * 262144 + (b.toNat : Int) % 64 * 4096 + (c.toNat : Int) % 64 * 64 + (d.toNat : Int) % 64, 4) else (5, 0, 0) := by
  match r with
  | [] => rfl
  | [b] =>
    dsimp only [full4, slow4]
    cases g : mid lo hi b
    · rw [if_neg (by simp)]; rfl
    · rw [if_pos rfl]; rfl
  | [b, c] =>
    dsimp only [full4, slow4]
    cases g : (mid lo hi b && mid 128 191 c)
    · rw [if_neg (fun x => by rw [x.1, x.2] at g; cases g)]; rfl
    · rw [if_pos (by simpa using g)]; rfl
  | b :: c :: d :: r =>
    dsimp only [full4, slow4]
    by_cases g : (mid lo hi b && mid 128 191 c && mid 128 191 d) = true
    · rw [if_pos g, if_pos (by simpa [and_assoc] using g), fin_ok (.inr (by omega))]
    · rw [if_neg g, if_neg (by simpa [and_assoc] using g), fin_bad]

/-- the program and the model read the same -/
theorem same_point (l : List UInt8) : implFP l = specFP l := by
  cases l with
  | nil => rfl
  | cons a r =>
    have ha := byte_lt a
    show implFP (a :: r) = specFirst a r
    rw [implFP_cons]
    have hx2 := firstX_2 (n := a.toNat)
    have hx19 := firstX_19 (n := a.toNat)
    have hx3 := firstX_3 (n := a.toNat)
    have hx35 := firstX_35 (n := a.toNat)
    have hx52 := firstX_52 (n := a.toNat)
    have hx4 := firstX_4 (n := a.toNat)
    have hx68 := firstX_68 (n := a.toNat)
    have hx240 := firstX_240 (n := a.toNat)
    rcases firstX_all a.toNat with h | h | h | h | h | h | h | h | h
    · have hh := hx240.1 h
      have f : fullZ a r = true := by unfold fullZ; rw [h]; rfl
      have d : decZ a r = ((a.toNat : Int), 1) := by unfold decZ; rw [if_pos hh]
      rw [same_1 a r hh, f, d, fin_ok (.inl (by omega))]
    · have f : fullZ a r = true := by unfold fullZ; rw [h]; rfl
      have d : decZ a r = (65533, 1) := by unfold decZ slowZ; rw [if_neg (by omega), h]; rfl
      rw [f, d, fin_bad]
      by_cases g1 : a.toNat < 192
      · rw [same_0 a r (by omega)]
      by_cases g2 : a.toNat < 224
      · rw [same_2 a r (by omega) g2]
        cases r with
        | nil => dsimp only; rw [if_neg (by omega)]
        | cons b r => dsimp only; rw [if_neg (by omega)]
      by_cases g3 : a.toNat < 248
      · rw [same_4 a r (by omega) g3, if_pos (by omega)]
      · rw [same_0 a r (by omega)]
    · have hh := hx2.1 h
      have d : decZ a r = slow2 128 191 a r := by unfold decZ slowZ; rw [if_neg (by omega), if_pos h]
      have f : fullZ a r = full2 r := by unfold fullZ; rw [if_pos h]
      rw [d, f, fin_2, same_2 a r (by omega) hh.2]
      cases r with
      | nil => dsimp only; rw [if_pos hh.1]
      | cons b r =>
        dsimp only
        by_cases g : mid 128 191 b = true
        · rw [if_pos g, if_pos ⟨hh.1, g⟩]
        · rw [if_neg g, if_neg (fun x => g x.2)]
    · have hh := hx19.1 h
      have d : decZ a r = slow3 160 191 a r := by unfold decZ slowZ; rw [if_neg (by omega), h]; rfl
      have f : fullZ a r = full3 160 191 r := by unfold fullZ; rw [h]; rfl
      have e1 : lo3 a.toNat = 160 := by unfold lo3; rw [if_pos hh]
      have e2 : hi3 a.toNat = 191 := by unfold hi3; rw [if_neg (by omega)]
      rw [d, f, fin_3, same_3 a r (by omega) (by omega), e1, e2]
    · have hh := hx3.1 h
      have d : decZ a r = slow3 128 191 a r := by unfold decZ slowZ; rw [if_neg (by omega), h]; rfl
      have f : fullZ a r = full3 128 191 r := by unfold fullZ; rw [h]; rfl
      have e1 : lo3 a.toNat = 128 := by unfold lo3; rw [if_neg (by omega)]
      have e2 : hi3 a.toNat = 191 := by unfold hi3; rw [if_neg (by omega)]
      rw [d, f, fin_3, same_3 a r (by omega) (by omega), e1, e2]
    · have hh := hx35.1 h
      have d : decZ a r = slow3 128 159 a r := by unfold decZ slowZ; rw [if_neg (by omega), h]; rfl
      have f : fullZ a r = full3 128 159 r := by unfold fullZ; rw [h]; rfl
      have e1 : lo3 a.toNat = 128 := by unfold lo3; rw [if_neg (by omega)]
      have e2 : hi3 a.toNat = 159 := by unfold hi3; rw [if_pos hh]
      rw [d, f, fin_3, same_3 a r (by omega) (by omega), e1, e2]
    · have hh := hx52.1 h
      have d : decZ a r = slow4 144 191 a r := by unfold decZ slowZ; rw [if_neg (by omega), h]; rfl
      have f : fullZ a r = full4 144 191 r := by unfold fullZ; rw [h]; rfl
      have e1 : lo4 a.toNat = 144 := by unfold lo4; rw [if_pos hh]
      have e2 : hi4 a.toNat = 191 := by unfold hi4; rw [if_neg (by omega)]
      rw [d, f, fin_4, same_4 a r (by omega) (by omega), if_neg (by omega), e1, e2]
    · have hh := hx4.1 h
      have d : decZ a r = slow4 128 191 a r := by unfold decZ slowZ; rw [if_neg (by omega), h]; rfl
      have f : fullZ a r = full4 128 191 r := by unfold fullZ; rw [h]; rfl
      have e1 : lo4 a.toNat = 128 := by unfold lo4; rw [if_neg (by omega)]
      have e2 : hi4 a.toNat = 191 := by unfold hi4; rw [if_neg (by omega)]
      rw [d, f, fin_4, same_4 a r (by omega) (by omega), if_neg (by omega), e1, e2]
    · have hh := hx68.1 h
      have d : decZ a r = slow4 128 143 a r := by unfold decZ slowZ; rw [if_neg (by omega), h]; rfl
      have f : fullZ a r = full4 128 143 r := by unfold fullZ; rw [h]; rfl
      have e1 : lo4 a.toNat = 128 := by unfold lo4; rw [if_neg (by omega)]
      have e2 : hi4 a.toNat = 143 := by unfold hi4; rw [if_pos hh]
      rw [d, f, fin_4, same_4 a r (by omega) (by omega), if_neg (by omega), e1, e2]

end Go.Proofs.YtjopjddhgaiddabGreatDoor

/- utf8.FullRune, DecodeRune and the program's FirstPoint, whole. -/
namespace Go.Proofs.YtjopjddhgaiddabGreatDoor
open Go.RowKit

theorem full_of {w w' : World} {e : Ending} {x y : Bool} (h : e = .returned (.bool x) ∧ Below w.heap.size w w') (k : y = x) : e = .returned (.bool y) ∧ Below w.heap.size w w' := ⟨by rw [h.1, k], h.2⟩

theorem fullRune_any (a : UInt8) (r : List UInt8) (q : Option Addr) (cap : Nat) (w : World) (h : Bs w w.heap.size q (a :: r)) (ht : Tabs w) :
    Calls Tryz.prog 151 #[.slice q (r.length + 1) cap] w fun e w' => e = .returned (.bool (fullZ a r)) ∧ Below w.heap.size w w' := by
  rcases firstX_all a.toNat with x | x | x | x | x | x | x | x | x
  · exact (fullLong_240 a r q cap w h ht x).mono fun _ _ hh => full_of hh (by unfold fullZ; rw [x]; rfl)
  · exact (fullLong_241 a r q cap w h ht x (by omega)).mono fun _ _ hh => full_of hh (by unfold fullZ; rw [x]; rfl)
  · match r, h with
    | [], h => exact (fullShort_2_1 a  q cap w h ht x).mono fun _ _ hh => full_of hh (by unfold fullZ; rw [x]; rfl)
    | b :: r, h => exact (fullLong_2 a (b :: r) q cap w h ht x (by simp)).mono fun _ _ hh => full_of hh (by unfold fullZ; rw [x]; rfl)
  · match r, h with
    | [], h => exact (fullShort_19_1 a  q cap w h ht x).mono fun _ _ hh => full_of hh (by unfold fullZ; rw [x]; rfl)
    | [b], h => exact (fullShort_19_2 a b q cap w h ht x).mono fun _ _ hh => full_of hh (by unfold fullZ; rw [x]; rfl)
    | b :: c :: r, h => exact (fullLong_19 a (b :: c :: r) q cap w h ht x (by simp)).mono fun _ _ hh => full_of hh (by unfold fullZ; rw [x]; rfl)
  · match r, h with
    | [], h => exact (fullShort_3_1 a  q cap w h ht x).mono fun _ _ hh => full_of hh (by unfold fullZ; rw [x]; rfl)
    | [b], h => exact (fullShort_3_2 a b q cap w h ht x).mono fun _ _ hh => full_of hh (by unfold fullZ; rw [x]; rfl)
    | b :: c :: r, h => exact (fullLong_3 a (b :: c :: r) q cap w h ht x (by simp)).mono fun _ _ hh => full_of hh (by unfold fullZ; rw [x]; rfl)
  · match r, h with
    | [], h => exact (fullShort_35_1 a  q cap w h ht x).mono fun _ _ hh => full_of hh (by unfold fullZ; rw [x]; rfl)
    | [b], h => exact (fullShort_35_2 a b q cap w h ht x).mono fun _ _ hh => full_of hh (by unfold fullZ; rw [x]; rfl)
    | b :: c :: r, h => exact (fullLong_35 a (b :: c :: r) q cap w h ht x (by simp)).mono fun _ _ hh => full_of hh (by unfold fullZ; rw [x]; rfl)
  · match r, h with
    | [], h => exact (fullShort_52_1 a  q cap w h ht x).mono fun _ _ hh => full_of hh (by unfold fullZ; rw [x]; rfl)
    | [b], h => exact (fullShort_52_2 a b q cap w h ht x).mono fun _ _ hh => full_of hh (by unfold fullZ; rw [x]; rfl)
    | [b, c], h => exact (fullShort_52_3 a b c q cap w h ht x).mono fun _ _ hh => full_of hh (by unfold fullZ; rw [x]; rfl)
    | b :: c :: d :: r, h => exact (fullLong_52 a (b :: c :: d :: r) q cap w h ht x (by simp)).mono fun _ _ hh => full_of hh (by unfold fullZ; rw [x]; rfl)
  · match r, h with
    | [], h => exact (fullShort_4_1 a  q cap w h ht x).mono fun _ _ hh => full_of hh (by unfold fullZ; rw [x]; rfl)
    | [b], h => exact (fullShort_4_2 a b q cap w h ht x).mono fun _ _ hh => full_of hh (by unfold fullZ; rw [x]; rfl)
    | [b, c], h => exact (fullShort_4_3 a b c q cap w h ht x).mono fun _ _ hh => full_of hh (by unfold fullZ; rw [x]; rfl)
    | b :: c :: d :: r, h => exact (fullLong_4 a (b :: c :: d :: r) q cap w h ht x (by simp)).mono fun _ _ hh => full_of hh (by unfold fullZ; rw [x]; rfl)
  · match r, h with
    | [], h => exact (fullShort_68_1 a  q cap w h ht x).mono fun _ _ hh => full_of hh (by unfold fullZ; rw [x]; rfl)
    | [b], h => exact (fullShort_68_2 a b q cap w h ht x).mono fun _ _ hh => full_of hh (by unfold fullZ; rw [x]; rfl)
    | [b, c], h => exact (fullShort_68_3 a b c q cap w h ht x).mono fun _ _ hh => full_of hh (by unfold fullZ; rw [x]; rfl)
    | b :: c :: d :: r, h => exact (fullLong_68 a (b :: c :: d :: r) q cap w h ht x (by simp)).mono fun _ _ hh => full_of hh (by unfold fullZ; rw [x]; rfl)

theorem slow_of {w w' : World} {e : Ending} {v s : Int} {d : Int × Int} (h : e = .returned (.tuple #[.int .i32 v, .int .i64 s]) ∧ Below w.heap.size w w') (k : d = (v, s)) : e = .returned (.tuple #[.int .i32 d.1, .int .i64 d.2]) ∧ Below w.heap.size w w' := by
  subst k; exact h
theorem pick_of {w w' : World} {e : Ending} {c : Bool} {v s : Int} {d : Int × Int} (h : e = .returned (pickT c (.tuple #[.int .i32 v, .int .i64 s]) (.tuple #[.int .i32 65533, .int .i64 1])) ∧ Below w.heap.size w w') (k : d = if c = true then (v, s) else (65533, 1)) :
    e = .returned (.tuple #[.int .i32 d.1, .int .i64 d.2]) ∧ Below w.heap.size w w' := by
  subst k
  cases c
  · exact ⟨h.1.trans rfl, h.2⟩
  · exact ⟨h.1.trans rfl, h.2⟩

theorem slowRune_any (a : UInt8) (r : List UInt8) (q : Option Addr) (cap : Nat) (w : World) (h : Bs w w.heap.size q (a :: r)) (ht : Tabs w) (hx : 128 ≤ a.toNat) :
    Calls Tryz.prog 164 #[.slice q (r.length + 1) cap] w fun e w' => e = .returned (.tuple #[.int .i32 (slowZ a r).1, .int .i64 (slowZ a r).2]) ∧ Below w.heap.size w w' := by
  rcases firstX_all a.toNat with x | x | x | x | x | x | x | x | x
  · exact absurd (firstX_240.1 x) (by omega)
  · exact (slowBad a r q cap w h ht x).mono fun _ _ hh => slow_of hh (by unfold slowZ; rw [x]; rfl)
  · match r, h with
    | [], h => exact (slowShort_2 a [] q cap w h ht x (by simp)).mono fun _ _ hh => slow_of hh (by unfold slowZ; rw [x]; rfl)
    | b :: r, h => exact (slow_2 a b r q cap w h ht x).mono fun _ _ hh => pick_of hh (by unfold slowZ; rw [x]; rfl)
  · match r, h with
    | [], h => exact (slowShort_19 a [] q cap w h ht x (by simp)).mono fun _ _ hh => slow_of hh (by unfold slowZ; rw [x]; rfl)
    | [b], h => exact (slowShort_19 a [b] q cap w h ht x (by simp)).mono fun _ _ hh => slow_of hh (by unfold slowZ; rw [x]; rfl)
    | b :: c :: r, h => exact (slow_19 a b c r q cap w h ht x).mono fun _ _ hh => pick_of hh (by unfold slowZ; rw [x]; rfl)
  · match r, h with
    | [], h => exact (slowShort_3 a [] q cap w h ht x (by simp)).mono fun _ _ hh => slow_of hh (by unfold slowZ; rw [x]; rfl)
    | [b], h => exact (slowShort_3 a [b] q cap w h ht x (by simp)).mono fun _ _ hh => slow_of hh (by unfold slowZ; rw [x]; rfl)
    | b :: c :: r, h => exact (slow_3 a b c r q cap w h ht x).mono fun _ _ hh => pick_of hh (by unfold slowZ; rw [x]; rfl)
  · match r, h with
    | [], h => exact (slowShort_35 a [] q cap w h ht x (by simp)).mono fun _ _ hh => slow_of hh (by unfold slowZ; rw [x]; rfl)
    | [b], h => exact (slowShort_35 a [b] q cap w h ht x (by simp)).mono fun _ _ hh => slow_of hh (by unfold slowZ; rw [x]; rfl)
    | b :: c :: r, h => exact (slow_35 a b c r q cap w h ht x).mono fun _ _ hh => pick_of hh (by unfold slowZ; rw [x]; rfl)
  · match r, h with
    | [], h => exact (slowShort_52 a [] q cap w h ht x (by simp)).mono fun _ _ hh => slow_of hh (by unfold slowZ; rw [x]; rfl)
    | [b], h => exact (slowShort_52 a [b] q cap w h ht x (by simp)).mono fun _ _ hh => slow_of hh (by unfold slowZ; rw [x]; rfl)
    | [b, c], h => exact (slowShort_52 a [b, c] q cap w h ht x (by simp)).mono fun _ _ hh => slow_of hh (by unfold slowZ; rw [x]; rfl)
    | b :: c :: d :: r, h => exact (slow_52 a b c d r q cap w h ht x).mono fun _ _ hh => pick_of hh (by unfold slowZ; rw [x]; rfl)
  · match r, h with
    | [], h => exact (slowShort_4 a [] q cap w h ht x (by simp)).mono fun _ _ hh => slow_of hh (by unfold slowZ; rw [x]; rfl)
    | [b], h => exact (slowShort_4 a [b] q cap w h ht x (by simp)).mono fun _ _ hh => slow_of hh (by unfold slowZ; rw [x]; rfl)
    | [b, c], h => exact (slowShort_4 a [b, c] q cap w h ht x (by simp)).mono fun _ _ hh => slow_of hh (by unfold slowZ; rw [x]; rfl)
    | b :: c :: d :: r, h => exact (slow_4 a b c d r q cap w h ht x).mono fun _ _ hh => pick_of hh (by unfold slowZ; rw [x]; rfl)
  · match r, h with
    | [], h => exact (slowShort_68 a [] q cap w h ht x (by simp)).mono fun _ _ hh => slow_of hh (by unfold slowZ; rw [x]; rfl)
    | [b], h => exact (slowShort_68 a [b] q cap w h ht x (by simp)).mono fun _ _ hh => slow_of hh (by unfold slowZ; rw [x]; rfl)
    | [b, c], h => exact (slowShort_68 a [b, c] q cap w h ht x (by simp)).mono fun _ _ hh => slow_of hh (by unfold slowZ; rw [x]; rfl)
    | b :: c :: d :: r, h => exact (slow_68 a b c d r q cap w h ht x).mono fun _ _ hh => pick_of hh (by unfold slowZ; rw [x]; rfl)

set_option maxRecDepth 100000 in
set_option maxHeartbeats 1000000 in
theorem decodeRune_any (a : UInt8) (r : List UInt8) (q : Option Addr) (cap : Nat) (w : World) (h : Bs w w.heap.size q (a :: r)) (ht : Tabs w) (hl : r.length + 1 ≤ 1048576) :
    Calls Tryz.prog 152 #[.slice q (r.length + 1) cap] w fun e w' => e = .returned (.tuple #[.int .i32 (decZ a r).1, .int .i64 (decZ a r).2]) ∧ Below w.heap.size w w' := by
  have H := Lib.hid h
  obtain ⟨bl, off, rfl, _, hc⟩ := h (by simp)
  have e0 := hc 0 (by simp)
  simp at e0
  clear hc
  have ha := byte_lt a
  have i0 : (0 : Int) < (r.length : Int) + 1 := by omega
  by_cases hx : a.toNat < 128
  · have HD : Hid (decZ a r = ((a.toNat : Int), 1)) := by unfold decZ; rw [if_pos hx]; rfl
    have hx' : (a.toNat : Int) < 128 := by omega
    clear hx
    go_enter Tryz.func152, Tryz.ntmps152
    go_wp2
    go_loop [2, 3, 5, 8] (fun _ _ _ i => i = .int .i64 0) (fun _ _ _ _ => 0)
    case atStart => rfl
    case round =>
      obtain rfl := hrel
      go_wp2
      go_ret2
      rw [HD.out]
      exact ⟨rfl, Below.refl _ _⟩
  · have HD : Hid (decZ a r = slowZ a r) := by unfold decZ; rw [if_neg hx]; rfl
    have hx' : ¬ (a.toNat : Int) < 128 := by omega
    go_enter Tryz.func152, Tryz.ntmps152
    go_wp2
    go_loop [2, 3, 5, 8] (fun _ _ _ i => i = .int .i64 0) (fun _ _ _ _ => 0)
    case atStart => rfl
    case round =>
      obtain rfl := hrel
      go_wp2_with (go_at_call 164; refine (slowRune_any a r _ _ _ H.out ht (by omega)).mono ?_; rintro e w1 ⟨rfl, hb1⟩)
      go_ret2
      rw [HD.out]
      exact ⟨rfl, hb1⟩

theorem slow_bd (a : UInt8) (r : List UInt8) : 0 ≤ (slowZ a r).1 ∧ (slowZ a r).1 ≤ 2097151 ∧ 0 ≤ (slowZ a r).2 ∧ (slowZ a r).2 ≤ 4 := by
  have h2 : ∀ lo hi, 0 ≤ (slow2 lo hi a r).1 ∧ (slow2 lo hi a r).1 ≤ 2097151 ∧ 0 ≤ (slow2 lo hi a r).2 ∧ (slow2 lo hi a r).2 ≤ 4 := fun lo hi => by
    unfold slow2
    repeat (first | (split <;> omega) | split | omega)
  have h3 : ∀ lo hi, 0 ≤ (slow3 lo hi a r).1 ∧ (slow3 lo hi a r).1 ≤ 2097151 ∧ 0 ≤ (slow3 lo hi a r).2 ∧ (slow3 lo hi a r).2 ≤ 4 := fun lo hi => by
    unfold slow3
    repeat (first | (split <;> omega) | split | omega)
  have h4 : ∀ lo hi, 0 ≤ (slow4 lo hi a r).1 ∧ (slow4 lo hi a r).1 ≤ 2097151 ∧ 0 ≤ (slow4 lo hi a r).2 ∧ (slow4 lo hi a r).2 ≤ 4 := fun lo hi => by
    unfold slow4
    repeat (first | (split <;> omega) | split | omega)
  unfold slowZ
  repeat (first | exact h2 _ _ | exact h3 _ _ | exact h4 _ _ | (split; exact h2 _ _) | (split; exact h3 _ _) | (split; exact h4 _ _) | decide)
theorem dec_bd (a : UInt8) (r : List UInt8) : 0 ≤ (decZ a r).1 ∧ (decZ a r).1 ≤ 2097151 ∧ 0 ≤ (decZ a r).2 ∧ (decZ a r).2 ≤ 4 := by
  have ha := byte_lt a
  have h := slow_bd a r
  unfold decZ
  split
  · dsimp only; omega
  · exact h

set_option maxRecDepth 100000 in
set_option maxHeartbeats 2000000 in
/-- the program's FirstPoint -/
theorem implFirstPoint_any (q : Option Addr) (c : Nat) (l : List UInt8) (w : World) (h : Bs w w.heap.size q l) (ht : Tabs w) (hl : l.length ≤ 1048576) :
    Calls Tryz.prog 139 #[.slice q l.length c] w fun e w' => e = .returned (prV (implFP l)) ∧ Below w.heap.size w w' := by
  cases l with
  | nil =>
    go_enter Tryz.func139, Tryz.ntmps139
    go_wp2
    exact bodyPost_ret (v := prV (4, 0, 0)) (by simp [results, Tryz.results139, prV, go_sem]) rfl ⟨rfl, (Below.refl _ _).alloc (Nat.le_refl _) _⟩
  | cons a r =>
    have hl' : r.length + 1 ≤ 1048576 := hl
    have hne : ((r.length : Int) + 1 == 0) = false := by simp; omega
    have B0 := (Below.refl w.heap.size w).alloc (Nat.le_refl _) (.cells #[.int .i64 0, .int .i64 0, .int .i64 0] 139)
    clear hl
    show Calls Tryz.prog 139 #[.slice q (r.length + 1) c] w _
    cases hf : fullZ a r
    · have HD : Hid (implFP (a :: r) = (6, 0, 0)) := by rw [implFP_cons, hf]; rfl
      go_enter Tryz.func139, Tryz.ntmps139
      go_wp2_with (go_at_call 151; refine (fullRune_any a r q c _ (h.on B0) (ht.on B0)).mono ?_; rintro e w1 ⟨rfl, hb1⟩; obtain ⟨hc1, hf1⟩ := bcell hb1)
      rw [HD.out]
      refine bodyPost_ret (v := prV (6, 0, 0)) (by simp [results, Tryz.results139, prV, go_sem, hc1]) rfl ⟨rfl, ?_⟩
      exact ((((below_on B0 hb1).setCell (Nat.le_refl _) _).setCell (Nat.le_refl _) _).setCell (Nat.le_refl _) _)
    · have hbd := dec_bd a r
      have HI : Hid (implFP (a :: r) = fin true (decZ a r)) := by rw [implFP_cons, hf]; rfl
      generalize hd : decZ a r = d at *
      obtain ⟨d1, d2⟩ := d
      have HDe := Lib.hid (fun w0 h0 t0 => decodeRune_any a r q c w0 h0 t0 hl')
      rw [hd] at HDe
      clear hd
      simp only at hbd HDe
      cases g1 : (d1 == 65533)
      · have HF : Hid (implFP (a :: r) = (0, d1, d2)) := by rw [HI.out, fin_ok (.inl (by simpa using g1))]; rfl
        go_enter Tryz.func139, Tryz.ntmps139
        go_wp2_with (first
          | (go_at_call 151; refine (fullRune_any a r q c _ (h.on B0) (ht.on B0)).mono ?_; rintro e w1 ⟨rfl, hb1⟩; obtain ⟨hc1, hf1⟩ := bcell hb1)
          | (go_at_call 152; refine (HDe.out _ ((h.on B0).on hb1) ((ht.on B0).on hb1)).mono ?_; rintro e w2 ⟨rfl, hb2⟩; have hc2 := bcell_at hb2 w.heap.size (by have := hb1.size; simp at this; omega); have hf2 := bfrozen_at hb2 w.heap.size (by have := hb1.size; simp at this; omega)))
        rw [HF.out]
        refine bodyPost_ret (v := prV (0, d1, d2)) (by simp [results, Tryz.results139, prV, go_sem, hc1, hc2]) rfl ⟨rfl, ?_⟩
        exact ((((below_on (below_on B0 hb1) hb2).setCell (Nat.le_refl _) _).setCell (Nat.le_refl _) _).setCell (Nat.le_refl _) _)
      cases g2 : (d2 == 1)
      · have HF : Hid (implFP (a :: r) = (0, d1, d2)) := by rw [HI.out, fin_ok (.inr (by simpa using g2))]; rfl
        go_enter Tryz.func139, Tryz.ntmps139
        go_wp2_with (first
          | (go_at_call 151; refine (fullRune_any a r q c _ (h.on B0) (ht.on B0)).mono ?_; rintro e w1 ⟨rfl, hb1⟩; obtain ⟨hc1, hf1⟩ := bcell hb1)
          | (go_at_call 152; refine (HDe.out _ ((h.on B0).on hb1) ((ht.on B0).on hb1)).mono ?_; rintro e w2 ⟨rfl, hb2⟩; have hc2 := bcell_at hb2 w.heap.size (by have := hb1.size; simp at this; omega); have hf2 := bfrozen_at hb2 w.heap.size (by have := hb1.size; simp at this; omega)))
        rw [HF.out]
        refine bodyPost_ret (v := prV (0, d1, d2)) (by simp [results, Tryz.results139, prV, go_sem, hc1, hc2]) rfl ⟨rfl, ?_⟩
        exact ((((below_on (below_on B0 hb1) hb2).setCell (Nat.le_refl _) _).setCell (Nat.le_refl _) _).setCell (Nat.le_refl _) _)
      · have HF : Hid (implFP (a :: r) = (5, 0, 0)) := by
          have e1 : d1 = 65533 := by simpa using g1
          have e2 : d2 = 1 := by simpa using g2
          rw [HI.out, e1, e2]; rfl
        go_enter Tryz.func139, Tryz.ntmps139
        go_wp2_with (first
          | (go_at_call 151; refine (fullRune_any a r q c _ (h.on B0) (ht.on B0)).mono ?_; rintro e w1 ⟨rfl, hb1⟩; obtain ⟨hc1, hf1⟩ := bcell hb1)
          | (go_at_call 152; refine (HDe.out _ ((h.on B0).on hb1) ((ht.on B0).on hb1)).mono ?_; rintro e w2 ⟨rfl, hb2⟩; have hc2 := bcell_at hb2 w.heap.size (by have := hb1.size; simp at this; omega); have hf2 := bfrozen_at hb2 w.heap.size (by have := hb1.size; simp at this; omega)))
        rw [HF.out]
        refine bodyPost_ret (v := prV (5, 0, 0)) (by simp [results, Tryz.results139, prV, go_sem, hc1, hc2]) rfl ⟨rfl, ?_⟩
        exact ((((below_on (below_on B0 hb1) hb2).setCell (Nat.le_refl _) _).setCell (Nat.le_refl _) _).setCell (Nat.le_refl _) _)

end Go.Proofs.YtjopjddhgaiddabGreatDoor

/- FirstPoint and the bytes of a point: there and back. -/
namespace Go.Proofs.YtjopjddhgaiddabGreatDoor
open Go.RowKit

/-- the point that was found: its bytes are the first ones -/
def Back (a : UInt8) (r : List UInt8) (p s : Int) : Prop := point p = true ∧ putB p = (a :: r).take s.toNat ∧ 1 ≤ s ∧ s ≤ (r.length : Int) + 1

theorem first_back (a : UInt8) (r : List UInt8) {p s : Int} (h : specFirst a r = (0, p, s)) : Back a r p s := by
  have ha := a.toNat_lt
  by_cases c1 : a.toNat < 128
  · rw [same_1 a r c1] at h
    simp only [Prod.mk.injEq] at h
    obtain ⟨-, rfl, rfl⟩ := h
    refine ⟨(point_iff _).2 (by omega), (putB_iff (by omega) (by omega) _).2 ?_, by omega, by omega⟩
    rw [putZ_1 (by omega)]
    rfl
  by_cases c2 : a.toNat < 192
  · rw [same_0 a r (.inl ⟨by omega, c2⟩)] at h
    simp at h
  by_cases c3 : a.toNat < 224
  · rw [same_2 a r (by omega) c3] at h
    match r, h with
    | [], h => simp only at h; split at h <;> simp at h
    | b :: r', h =>
      simp only at h
      split at h
      · rename_i hc
        obtain ⟨k1, k2⟩ := hc
        rw [mid_iff] at k2
        simp only [Prod.mk.injEq] at h
        obtain ⟨-, rfl, rfl⟩ := h
        refine ⟨(point_iff _).2 (by omega), (putB_iff (by omega) (by omega) _).2 ?_, by omega, by simp; omega⟩
        rw [putZ_2 (by omega) (by omega)]
        simp
        omega
      · simp at h
  by_cases c4 : a.toNat < 240
  · rw [same_3 a r (by omega) c4] at h
    match r, h with
    | [], h => simp at h
    | [b], h => simp only at h; split at h <;> simp at h
    | b :: c :: r', h =>
      simp only at h
      split at h
      · rename_i hc
        obtain ⟨k1, k2⟩ := hc
        rw [mid_iff] at k1 k2
        have k1' := k1.1
        have k1'' := k1.2
        unfold lo3 at k1'
        unfold hi3 at k1''
        simp only [Prod.mk.injEq] at h
        obtain ⟨-, rfl, rfl⟩ := h
        have hb := b.toNat_lt
        have e : 128 ≤ b.toNat ∧ b.toNat ≤ 191 ∧ (a.toNat = 224 → 160 ≤ b.toNat) ∧ (a.toNat = 237 → b.toNat ≤ 159) := by split at k1' <;> split at k1'' <;> omega
        clear k1 k1' k1''
        refine ⟨(point_iff _).2 (by omega), (putB_iff (by omega) (by omega) _).2 ?_, by omega, by simp; omega⟩
        rw [putZ_3 (by omega) (by omega)]
        simp
        omega
      · simp at h
  by_cases c5 : a.toNat < 248
  · rw [same_4 a r (by omega) c5] at h
    by_cases c6 : 245 ≤ a.toNat
    · rw [if_pos c6] at h; simp at h
    rw [if_neg c6] at h
    match r, h with
    | [], h => simp at h
    | [b], h => simp only at h; split at h <;> simp at h
    | [b, c], h => simp only at h; split at h <;> simp at h
    | b :: c :: d :: r', h =>
      simp only at h
      split at h
      · rename_i hc
        obtain ⟨k1, k2, k3⟩ := hc
        rw [mid_iff] at k1 k2 k3
        have k1' := k1.1
        have k1'' := k1.2
        unfold lo4 at k1'
        unfold hi4 at k1''
        simp only [Prod.mk.injEq] at h
        obtain ⟨-, rfl, rfl⟩ := h
        have e : 128 ≤ b.toNat ∧ b.toNat ≤ 191 ∧ (a.toNat = 240 → 144 ≤ b.toNat) ∧ (a.toNat = 244 → b.toNat ≤ 143) := by split at k1' <;> split at k1'' <;> omega
        clear k1 k1' k1''
        refine ⟨(point_iff _).2 (by omega), (putB_iff (by omega) (by omega) _).2 ?_, by omega, by simp; omega⟩
        rw [putZ_4 (by omega)]
        simp
        omega
      · simp at h
  · rw [same_0 a r (.inr (by omega))] at h
    simp at h

theorem byteOf (x : Int) (h0 : 0 ≤ x) (h1 : x < 256) : ((UInt8.ofNat x.toNat).toNat : Int) = x := by simp; omega

theorem first_put {p : Int} (h : point p = true) (rest : List UInt8) : ∃ a r, putB p ++ rest = a :: r ∧ specFirst a r = (0, p, ((putB p).length : Int)) := by
  rw [point_iff] at h
  obtain ⟨h0, h1, h2⟩ := h
  by_cases c1 : p < 128
  · have e : putB p = [UInt8.ofNat p.toNat] := by unfold putB; rw [putZ_1 c1]; rfl
    have k1 := byteOf p (by omega) (by omega)
    refine ⟨UInt8.ofNat p.toNat, rest, by rw [e]; rfl, ?_⟩
    rw [same_1 _ _ (by omega), k1, e]
    rfl
  by_cases c2 : p < 2048
  · have e : putB p = [UInt8.ofNat (192 + p / 64).toNat, UInt8.ofNat (128 + p % 64).toNat] := by unfold putB; rw [putZ_2 (by omega) c2]; rfl
    have k1 := byteOf (192 + p / 64) (by omega) (by omega)
    have k2 := byteOf (128 + p % 64) (by omega) (by omega)
    refine ⟨UInt8.ofNat (192 + p / 64).toNat, UInt8.ofNat (128 + p % 64).toNat :: rest, by rw [e]; rfl, ?_⟩
    rw [same_2 _ _ (by omega) (by omega), e]
    dsimp only
    rw [if_pos ⟨by omega, (mid_iff _ _ _).2 (by omega)⟩, k1, k2]
    simp
    omega
  by_cases c3 : p < 65536
  · have e : putB p = [UInt8.ofNat (224 + p / 4096).toNat, UInt8.ofNat (128 + p / 64 % 64).toNat, UInt8.ofNat (128 + p % 64).toNat] := by unfold putB; rw [putZ_3 (by omega) c3]; rfl
    have k1 := byteOf (224 + p / 4096) (by omega) (by omega)
    have k2 := byteOf (128 + p / 64 % 64) (by omega) (by omega)
    have k3 := byteOf (128 + p % 64) (by omega) (by omega)
    have m1 : mid (lo3 (UInt8.ofNat (224 + p / 4096).toNat).toNat) (hi3 (UInt8.ofNat (224 + p / 4096).toNat).toNat) (UInt8.ofNat (128 + p / 64 % 64).toNat) = true := (mid_iff _ _ _).2 ⟨by unfold lo3; split <;> omega, by unfold hi3; split <;> omega⟩
    refine ⟨UInt8.ofNat (224 + p / 4096).toNat, UInt8.ofNat (128 + p / 64 % 64).toNat :: UInt8.ofNat (128 + p % 64).toNat :: rest, by rw [e]; rfl, ?_⟩
    rw [same_3 _ _ (by omega) (by omega), e]
    dsimp only
    rw [if_pos ⟨m1, (mid_iff _ _ _).2 (by omega)⟩, k1, k2, k3]
    simp
    omega
  · have e : putB p = [UInt8.ofNat (240 + p / 262144).toNat, UInt8.ofNat (128 + p / 4096 % 64).toNat, UInt8.ofNat (128 + p / 64 % 64).toNat, UInt8.ofNat (128 + p % 64).toNat] := by unfold putB; rw [putZ_4 (by omega)]; rfl
    have k1 := byteOf (240 + p / 262144) (by omega) (by omega)
    have k2 := byteOf (128 + p / 4096 % 64) (by omega) (by omega)
    have k3 := byteOf (128 + p / 64 % 64) (by omega) (by omega)
    have k4 := byteOf (128 + p % 64) (by omega) (by omega)
    have m1 : mid (lo4 (UInt8.ofNat (240 + p / 262144).toNat).toNat) (hi4 (UInt8.ofNat (240 + p / 262144).toNat).toNat) (UInt8.ofNat (128 + p / 4096 % 64).toNat) = true := (mid_iff _ _ _).2 ⟨by unfold lo4; split <;> omega, by unfold hi4; split <;> omega⟩
    refine ⟨UInt8.ofNat (240 + p / 262144).toNat, UInt8.ofNat (128 + p / 4096 % 64).toNat :: UInt8.ofNat (128 + p / 64 % 64).toNat :: UInt8.ofNat (128 + p % 64).toNat :: rest, by rw [e]; rfl, ?_⟩
    rw [same_4 _ _ (by omega) (by omega), if_neg (by omega), e]
    dsimp only
    rw [if_pos ⟨m1, (mid_iff _ _ _).2 (by omega), (mid_iff _ _ _).2 (by omega)⟩, k1, k2, k3, k4]
    simp
    omega

end Go.Proofs.YtjopjddhgaiddabGreatDoor
