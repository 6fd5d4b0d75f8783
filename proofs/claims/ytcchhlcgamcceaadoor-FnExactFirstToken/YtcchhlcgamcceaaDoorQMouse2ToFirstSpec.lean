/- MouseOfParts of the program: the way on which it is a mouse. -/
import Derived.Test.YtcchhlcgamcceaaDoorQMouse
import Derived.Test.YtcchhlcgamcceaaDoorQPaste2ToFields
import Derived.WalkLawsBesides
import Derived.Test.YtcchhlcgamcceaaDoorQLaidToMarks0
import Derived.Deep.RegionWith
namespace Go.Proofs.YtcchhlcgamcceaaDoor
open Go.RowKit

set_option maxRecDepth 100000 in
set_option maxHeartbeats 4000000 in
theorem implMouseOfParts_y (b off c : Nat) (n x y a : Int) (d : Bool) (size fin : Int) (w : World) (hb : b < w.heap.size) (hc0 : w.cell? ⟨b, off, none⟩ = some (.int .i64 n)) (hc1 : w.cell? ⟨b, off + 1, none⟩ = some (.int .i64 x)) (hc2 : w.cell? ⟨b, off + 2, none⟩ = some (.int .i64 y)) (HA : Hid (∀ w, Calls Tryd.prog 81 #[.int .i64 n, .int .u8 fin] w fun e w' => e = .returned (.tuple #[.int .i64 a, .bool d]) ∧ Below w.heap.size w w')) (hd : d = true) (h1 : (n.tmod 4 == 3) = false) (h2 : inR x 1 200 = true) (h3 : inR y 1 200 = true) (hn : 0 ≤ n) (hn2 : n ≤ 9999999) :
    Calls Tryd.prog 69 #[.agg #[.int .i64 0, .bool true, .slice (some ⟨b, off, none⟩) 3 c, .int .u8 fin, .int .i64 size]] w (PlainTk w (mouseTk n a x y size)) := by
  have hx : 1 ≤ x ∧ x ≤ 200 := by simpa [inR] using h2
  have hy : 1 ≤ y ∧ y ≤ 200 := by simpa [inR] using h3
  subst hd
  have hwr : IntKind.i64.wrap (n.tdiv 4) = n.tdiv 4 := by
    rw [Int.tdiv_eq_ediv_of_nonneg hn]
    exact IntWalk.i64_in _ ⟨by omega, by omega⟩
  clear hn hn2
  go_enter Tryd.func69, Tryd.ntmps69
  go_wp2_with fail
  go_quiet (fail)
  go_wp2_with fail
  refine (HA.out _).mono ?_
  rintro e w1 ⟨rfl, hb1⟩
  replace hb1 := below_undrewM hb1
  have HB1 := Lib.hid hb1
  obtain ⟨hcc, hf⟩ := bcell hb1
  clear hb1
  go_wp2_with fail
  refine (isWithin_two x 1 200 w1 _ _ (by simp)).mono ?_
  rintro e w2 ⟨rfl, hw2⟩
  rw [h2]
  have HB2 := Lib.hid (HB1.out.trans ((show Below w1.heap.size w1 w2 by rw [← hw2]; exact below_mk _ _).mono HB1.out.size))
  clear hcc hf hw2
  obtain ⟨hcc, hf⟩ := bcell HB2.out
  go_wp2_with fail
  refine (isWithin_two y 1 200 w2 _ _ (by simp)).mono ?_
  rintro e w3 ⟨rfl, hw3⟩
  rw [h3]
  have HB3 := Lib.hid (HB2.out.trans ((show Below w2.heap.size w2 w3 by rw [← hw3]; exact below_mk _ _).mono HB2.out.size))
  clear hcc hf hw3
  obtain ⟨hcc, hf⟩ := bcell HB3.out
  have hs3 := HB3.out.size
  simp only [World.size_alloc] at hs3
  have l0 : w.heap.size < w3.heap.size := by omega
  have l1 : w.heap.size + 1 < w3.heap.size := by omega
  have n0 : ¬ w.heap.size = w3.heap.size := by omega
  have n1 : ¬ w.heap.size + 1 = w3.heap.size := by omega
  clear hs3
  go_wp2_with fail
  have HE : ∀ A : Obj, Hid (PlainTk w (mouseTk n a x y size) (.returned (tkV (mouseTk n a x y size) (.slice none 0 0))) ((sets w3 (w.heap.size + 1) 0 (tkL (mouseTk n a x y size) (.slice none 0 0))).alloc A)) := fun A => ⟨rfl, below_on (tk_end_plain2 (t := mouseTk n a x y size) (tkL (mouseTk n a x y size) (.slice none 0 0)) HB3.out).2 (below_mk _ A)⟩
  refine bodyPost_ret (v := tkV (mouseTk n a x y size) (.slice none 0 0)) ?_ rfl (HE _).out
  simp [results, Tryd.results69, tkV, mouseTk, mouseEv, go_sem, hcc, l1]

theorem implMouseOfParts_any (r : Pt) (p : Option Addr) (c : Nat) (w : World) (h : Is w w.heap.size p r.nums) (hl : r.nums.length ≤ 4) (hN : ∀ x ∈ r.nums, 0 ≤ x ∧ x ≤ 9999999) :
    Calls Tryd.prog 69 #[ptV r (.slice p r.nums.length c)] w (PlainTk w (mouseP r)) := by
  obtain ⟨code, priv, nums, fin, size⟩ := r
  dsimp only at *
  unfold ptV mouseP
  dsimp only
  by_cases h1 : code = 0
  · by_cases h2 : priv = true
    · rw [if_pos ⟨h1, h2⟩]
      subst h1 h2
      match nums, h, hl, hN with
      | [], _, _, _ => exact implMouseOfParts_bad p c 0 0 size fin true w (by omega) (.inr (.inr ⟨rfl, rfl, by omega⟩))
      | [_], _, _, _ => exact implMouseOfParts_bad p c 1 0 size fin true w (by omega) (.inr (.inr ⟨rfl, rfl, by omega⟩))
      | [_, _], _, _, _ => exact implMouseOfParts_bad p c 2 0 size fin true w (by omega) (.inr (.inr ⟨rfl, rfl, by omega⟩))
      | [n, x, y], h, _, hN =>
        obtain ⟨g, off, rfl, hg, hc⟩ := h.cons
        have hc0 := hc 0 (by simp)
        have hc1 := hc 1 (by simp)
        have hc2 := hc 2 (by simp)
        have hn := hN n (by simp)
        show Calls _ _ _ _ (PlainTk w (mouse3 n x y fin size))
        unfold mouse3
        have HA : Hid (∀ w, Calls Tryd.prog 81 #[.int .i64 n, .int .u8 fin] w fun e w' => e = .returned (.tuple #[.int .i64 (actT n fin).1, .bool (actT n fin).2]) ∧ Below w.heap.size w w') := Lib.hid (fun w => actOfNumber_any n fin w)
        by_cases d1 : (actT n fin).2 = true
        · by_cases d2 : n.tmod 4 = 3
          · rw [if_neg (by simp [d2])]
            exact implMouseOfParts_x g off c n x y _ _ size fin w hg hc0 hc1 hc2 HA (.inr (.inl ⟨d1, by simp [d2]⟩))
          · by_cases d3 : inR x 1 200 = true
            · by_cases d4 : inR y 1 200 = true
              · rw [if_pos ⟨d1, d2, d3, d4⟩]
                exact implMouseOfParts_y g off c n x y _ _ size fin w hg hc0 hc1 hc2 HA d1 (by simp [d2]) d3 d4 hn.1 hn.2
              · rw [if_neg (fun hh => d4 hh.2.2.2)]
                exact implMouseOfParts_x g off c n x y _ _ size fin w hg hc0 hc1 hc2 HA (.inr (.inr (.inr ⟨d1, by simp [d2], d3, by simpa using d4⟩)))
            · rw [if_neg (fun hh => d3 hh.2.2.1)]
              exact implMouseOfParts_x g off c n x y _ _ size fin w hg hc0 hc1 hc2 HA (.inr (.inr (.inl ⟨d1, by simp [d2], by simpa using d3⟩)))
        · rw [if_neg (fun hh => d1 hh.1)]
          exact implMouseOfParts_x g off c n x y _ _ size fin w hg hc0 hc1 hc2 HA (.inl (by simpa using d1))
      | [_, _, _, _], _, _, _ => exact implMouseOfParts_bad p c 4 0 size fin true w (by omega) (.inr (.inr ⟨rfl, rfl, by omega⟩))
      | _ :: _ :: _ :: _ :: _ :: _, _, hl, _ => exact absurd hl (by simp)
    · rw [if_neg (fun hh => h2 hh.2)]
      exact implMouseOfParts_bad p c nums.length code size fin priv w hl (.inr (.inl ⟨by simp [h1], by simpa using h2⟩))
  · rw [if_neg (fun hh => h1 hh.1)]
    exact implMouseOfParts_bad p c nums.length code size fin priv w hl (.inl (by simpa using h1))

end Go.Proofs.YtcchhlcgamcceaaDoor

/- Pastes: tokenWithin of the program, FirstPaste of the model. -/
namespace Go.Proofs.YtcchhlcgamcceaaDoor
open Go.RowKit

theorem ends_iff (l : List UInt8) : pre endB (l.drop (unt l)) = decide (unt l + 6 ≤ l.length) := by
  by_cases h : unt l + 6 ≤ l.length
  · have h1 := unt_stops l (by omega)
    rw [stops_ge _ (by simp; omega)] at h1
    simp only [h, decide_true]
    exact h1
  · rw [pre_long (by simp [endB]; omega)]
    simp [h]

theorem firstPaste_none : firstPaste [] = badTk 4 := rfl
theorem firstPaste_long {l : List UInt8} (h0 : l ≠ []) (h : 32 ≤ unt l) : firstPaste l = pasteTk (l.take 32) := by unfold firstPaste; rw [if_neg h0, if_pos h]
theorem firstPaste_full {l : List UInt8} (h0 : l ≠ []) (h : ¬ 32 ≤ unt l) (h6 : l.length < unt l + 6) : firstPaste l = badTk 6 := by unfold firstPaste; rw [if_neg h0, if_neg h, if_pos h6]
theorem firstPaste_some {l : List UInt8} (h0 : l ≠ []) (h : ¬ 32 ≤ unt l) (h6 : ¬ l.length < unt l + 6) (hp : 0 < unt l) : firstPaste l = pasteTk (l.take (unt l)) := by unfold firstPaste; rw [if_neg h0, if_neg h, if_neg h6, if_pos hp]
theorem firstPaste_end {l : List UInt8} (h0 : l ≠ []) (h : ¬ 32 ≤ unt l) (h6 : ¬ l.length < unt l + 6) (hp : ¬ 0 < unt l) : firstPaste l = ⟨0, noEv, 6, false, true⟩ := by unfold firstPaste; rw [if_neg h0, if_neg h, if_neg h6, if_neg hp]

theorem l3Pasted_cut (p : Option Addr) (c k : Nat) (l : List UInt8) (w : World) (h : Bs w w.heap.size p l) (hk : k ≤ l.length) (hc : l.length ≤ c) (hl : l.length ≤ 1048576) :
    Calls Tryd.prog 26 #[.slice p k c] w (NewTk w (pasteTk (l.take (min 32 k)))) := by
  have := l3Pasted_any p c (l.take k) w (h.head k) (by simp; omega) (by simp; omega)
  rw [show (l.take k).length = k by simp; omega, List.take_take] at this
  exact this



end Go.Proofs.YtcchhlcgamcceaaDoor

/- Pastes: tokenWithin of the program. -/
namespace Go.Proofs.YtcchhlcgamcceaaDoor
open Go.RowKit

/-- the panic of what has not arrived -/
def waitPanic : List PanicEntry := [{ v := .iface 9 (.string ⟨#[116, 104, 101, 32, 116, 111, 107, 101, 110, 32, 105, 115, 32, 105, 110, 99, 111, 109, 112, 108, 101, 116, 101]⟩), recovered := false }]
/-- what a call leaves that waits -/
def Waits (w : World) (e : Ending) (w' : World) : Prop := e = .panicked waitPanic ∧ Below w.heap.size w w'

theorem pasteToken_cut (p : Option Addr) (c k : Nat) (l : List UInt8) (w : World) (h : Bs w w.heap.size p l) (hk : k ≤ l.length) (h0 : 0 < k) (hl : l.length ≤ 1048576) :
    Calls Tryd.prog 28 #[.slice p k c] w (NewTok w (pasteEv (l.take k)) k true false) := by
  have e : (l.take k).length = k := by simp; omega
  have := pasteToken_any p c (l.take k) w (h.head k) (by simp; omega) (by intro e'; rw [e'] at e; simp at e; omega)
  rw [e] at this
  exact this











end Go.Proofs.YtcchhlcgamcceaaDoor

/- The model's first code point of bytes: l1Lead, l1Begins, l1First, FirstPoint. -/
namespace Go.Proofs.YtcchhlcgamcceaaDoor
open Go.RowKit

/-- how many bytes a point has by its first byte, and what that byte tells -/
def leadN (b : Nat) : Nat := if b < 128 then 1 else if 192 ≤ b ∧ b < 224 then 2 else if 224 ≤ b ∧ b < 240 then 3 else if 240 ≤ b ∧ b < 248 then 4 else 0
def leadP (b : Nat) : Int := if b < 128 then b else if 192 ≤ b ∧ b < 224 then b - 192 else if 224 ≤ b ∧ b < 240 then b - 224 else if 240 ≤ b ∧ b < 248 then b - 240 else 0
theorem leadN_le (b : Nat) : leadN b ≤ 4 := by unfold leadN; repeat (first | omega | split)
theorem leadP_bd (b : Nat) : 0 ≤ leadP b ∧ leadP b ≤ 127 := by unfold leadP; repeat (first | omega | split)

theorem byte_lt (b : UInt8) : b.toNat < 256 := UInt8.toNat_lt b

/-- the pair that l1Lead hands back -/
theorem lead_tuple {a b : Int} {n m : Int} (h : a = n) (k : b = m) : Ending.returned (.tuple #[.int .i64 a, .int .i64 b]) = .returned (.tuple #[.int .i64 n, .int .i64 m]) := by rw [h, k]

set_option maxRecDepth 100000 in
set_option maxHeartbeats 1000000 in
theorem l1Lead_any (b : UInt8) (w : World) :
    Calls Tryd.prog 36 #[.int .u8 (b.toNat : Int)] w fun e w' => e = .returned (.tuple #[.int .i64 (leadN b.toNat), .int .i64 (leadP b.toNat)]) ∧ w = w' := by
  have hb := byte_lt b
  generalize b.toNat = x at *
  by_cases h1 : (x : Int) < 128
  · go_enter Tryd.func36, Tryd.ntmps36
    go_wp2
    go_ret2
    exact ⟨lead_tuple (by unfold leadN; rw [if_pos (by omega)]; rfl) (by unfold leadP; rw [if_pos (by omega)]), rfl⟩
  by_cases h2 : (192 : Int) ≤ x
  · by_cases h3 : (x : Int) < 224
    · go_enter Tryd.func36, Tryd.ntmps36
      go_wp2
      go_ret2
      exact ⟨lead_tuple (by unfold leadN; rw [if_neg (by omega), if_pos (by omega)]; rfl) (by unfold leadP; rw [if_neg (by omega), if_pos (by omega)]), rfl⟩
    by_cases h4 : (x : Int) < 240
    · have h3' : (224 : Int) ≤ x := by omega
      go_enter Tryd.func36, Tryd.ntmps36
      go_wp2
      go_ret2
      exact ⟨lead_tuple (by unfold leadN; rw [if_neg (by omega), if_neg (by omega), if_pos (by omega)]; rfl) (by unfold leadP; rw [if_neg (by omega), if_neg (by omega), if_pos (by omega)]), rfl⟩
    by_cases h5 : (x : Int) < 248
    · have h3' : (224 : Int) ≤ x := by omega
      have h4' : (240 : Int) ≤ x := by omega
      go_enter Tryd.func36, Tryd.ntmps36
      go_wp2
      go_ret2
      exact ⟨lead_tuple (by unfold leadN; rw [if_neg (by omega), if_neg (by omega), if_neg (by omega), if_pos (by omega)]; rfl) (by unfold leadP; rw [if_neg (by omega), if_neg (by omega), if_neg (by omega), if_pos (by omega)]), rfl⟩
    · have h3' : (224 : Int) ≤ x := by omega
      have h4' : (240 : Int) ≤ x := by omega
      go_enter Tryd.func36, Tryd.ntmps36
      go_wp2
      go_ret2
      exact ⟨lead_tuple (by unfold leadN; rw [if_neg (by omega), if_neg (by omega), if_neg (by omega), if_neg (by omega)]; rfl) (by unfold leadP; rw [if_neg (by omega), if_neg (by omega), if_neg (by omega), if_neg (by omega)]), rfl⟩
  · have h3' : ¬ (224 : Int) ≤ x := by omega
    have h4' : ¬ (240 : Int) ≤ x := by omega
    go_enter Tryd.func36, Tryd.ntmps36
    go_wp2
    go_ret2
    exact ⟨lead_tuple (by unfold leadN; rw [if_neg (by omega), if_neg (by omega), if_neg (by omega), if_neg (by omega)]; rfl) (by unfold leadP; rw [if_neg (by omega), if_neg (by omega), if_neg (by omega), if_neg (by omega)]), rfl⟩

/-- what the bytes behind the first one add -/
def tailAcc (p : Int) : List UInt8 → Int
  | [] => p
  | b :: r => tailAcc (p * 64 + (b.toNat : Int) % 64) r
/-- a byte that goes on -/
def contB (b : UInt8) : Bool := b.toNat / 64 == 2
def lo64 (p : Int) : Nat → Int
  | 0 => p
  | j + 1 => lo64 p j * 64
def hi64 (p : Int) : Nat → Int
  | 0 => p
  | j + 1 => hi64 p j * 64 + 63
def bnd : Nat → Int
  | 0 => 127
  | k + 1 => bnd k * 64 + 63
theorem bnd_le (k : Nat) (h : k ≤ 6) : 0 ≤ bnd k ∧ bnd k ≤ 9007199254740991 := by
  match k, h with
  | 0, _ => decide
  | 1, _ => decide
  | 2, _ => decide
  | 3, _ => decide
  | 4, _ => decide
  | 5, _ => decide
  | 6, _ => decide
theorem lohi_bd (p : Int) (k : Nat) (h0 : 0 ≤ p) (h1 : p ≤ bnd k) : ∀ j, 0 ≤ lo64 p j ∧ lo64 p j ≤ hi64 p j ∧ hi64 p j ≤ bnd (k + j)
  | 0 => ⟨h0, Int.le_refl _, h1⟩
  | j + 1 => by
    have h := lohi_bd p k h0 h1 j
    have e : bnd (k + (j + 1)) = bnd (k + j) * 64 + 63 := rfl
    rw [e]
    simp only [lo64, hi64]
    omega

/-- the least point of n bytes -/
def leastN (n : Nat) : Int := if n = 2 then 128 else if n = 3 then 2048 else 65536
def maxI (a b : Int) : Int := if b < a then a else b
def minI (a b : Int) : Int := if a < b then a else b
/-- some point lies from lo64 to hi64 -/
def opens (p : Int) (j : Nat) (least : Int) : Bool :=
  decide (maxI (lo64 p j) least ≤ minI (hi64 p j) 1114111) && !(decide (55296 ≤ maxI (lo64 p j) least) && decide (minI (hi64 p j) 1114111 ≤ 57343))
def begins (tail : List UInt8) (n : Nat) (p : Int) : Bool := tail.all contB && opens (tailAcc p tail) (n - (tail.length + 1)) (leastN n)

set_option maxRecDepth 100000 in
set_option maxHeartbeats 400000 in
theorem l1Max_any (a b : Int) (w : World) : Calls Tryd.prog 52 #[.int .i64 a, .int .i64 b] w fun e w' => e = .returned (.int .i64 (maxI a b)) ∧ w = w' := by
  by_cases h : b < a
  all_goals
    go_enter Tryd.func52, Tryd.ntmps52
    go_wp2
    go_ret
    exact ⟨ret_int (by unfold maxI; first | rw [if_pos (by omega)] | rw [if_neg (by omega)]), rfl⟩
set_option maxRecDepth 100000 in
set_option maxHeartbeats 400000 in
theorem l1Min_first (a b : Int) (w : World) : Calls Tryd.prog 33 #[.int .i64 a, .int .i64 b] w fun e w' => e = .returned (.int .i64 (minI a b)) ∧ w = w' := by
  by_cases h : a < b
  all_goals
    go_enter Tryd.func33, Tryd.ntmps33
    go_wp2
    go_ret
    exact ⟨ret_int (by unfold minI; first | rw [if_pos (by omega)] | rw [if_neg (by omega)]), rfl⟩

end Go.Proofs.YtcchhlcgamcceaaDoor
