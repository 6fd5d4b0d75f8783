/- The contracts of the program's EventFault and of what it calls. -/
import Derived.Test.YtjopjddhgaiddabGreatDoorQEvents
import Derived.BigGuardPart
import Derived.Deep.QuietTactic
import Derived.BigQuiet
namespace Go.Proofs.YtjopjddhgaiddabGreatDoor
open Go.RowKit

/-- old cells and marks read as before -/
theorem bcell {W w1 : World} (hb : Below W.heap.size W w1) : (∀ b o, b < W.heap.size → w1.cell? ⟨b, o, none⟩ = W.cell? ⟨b, o, none⟩) ∧ (∀ b o, b < W.heap.size → w1.frozen? ⟨b, o, none⟩ = W.frozen? ⟨b, o, none⟩) :=
  ⟨fun b o h => hb.cell (p := ⟨b, o, none⟩) h, fun b o h => hb.frozen (p := ⟨b, o, none⟩) h⟩

theorem bcell_at {W w1 : World} (hb : Below W.heap.size W w1) (b : Nat) (h : b < W.heap.size) : ∀ o, w1.cell? ⟨b, o, none⟩ = W.cell? ⟨b, o, none⟩ := fun o => hb.cell (p := ⟨b, o, none⟩) h

theorem bfrozen_at {W w1 : World} (hb : Below W.heap.size W w1) (b : Nat) (h : b < W.heap.size) : ∀ o, w1.frozen? ⟨b, o, none⟩ = W.frozen? ⟨b, o, none⟩ := fun o => hb.frozen (p := ⟨b, o, none⟩) h

/-- the numbers of an event are in range -/
def Ev.nums (e : Ev) : Bool :=
  if e.kind = 1 then keyCode e.code && inR e.mods 0 7
  else if e.kind = 2 then inR e.button 0 2 && (inR e.act 1 3 && (inR e.mods 0 7 && (inR e.col 0 199 && inR e.row 0 199)))
  else true
/-- its data are as many as its kind lets -/
def Ev.fits (e : Ev) : Bool :=
  if e.kind = 3 then inR e.data.length 1 32 else if e.kind = 4 then inR e.data.length 1 24 else true
/-- EventFault -/
def Ev.fault (e : Ev) : Int := if e.form = false then 1 else if e.nums = false then 3 else if e.fits = false then 2 else 0

theorem point_pairs (c : Int) : (inR c 0 55295 || inR c 57344 1114111) = point c := by
  rw [Bool.eq_iff_iff]; simp [point, inR]; omega

set_option maxHeartbeats 400000 in
theorem implIsPoint_any (c : Int) (w : World) :
    Calls Tryz.prog 120 #[.int .i64 c] w fun e w' => e = .returned (.bool (point c)) ∧ Below w.heap.size w w' := by
  have HP := Lib.hid (point_pairs c)
  go_enter Tryz.func120, Tryz.ntmps120
  go_wp2_with (go_at_call 62; refine (isWithin_four _ _ _ _ _ _ _ _ (by simp)).mono ?_; rintro e w' ⟨rfl, rfl⟩)
  go_ret
  exact ⟨ret_bool HP.out, (Below.refl _ _).alloc (Nat.le_refl _) _⟩

set_option maxHeartbeats 800000 in
theorem implIsKeyCode_any (c : Int) (w : World) :
    Calls Tryz.prog 118 #[.int .i64 c] w fun e w' => e = .returned (.bool (keyCode c)) ∧ Below w.heap.size w w' := by
  cases h0 : special c
  · cases h1 : point c
    · go_enter Tryz.func118, Tryz.ntmps118
      go_wp2_with (first
        | (go_at_call 89; refine (implIsSpecial_any _ _).mono ?_; rintro e w1 ⟨rfl, hb1⟩)
        | (go_at_call 120; refine (implIsPoint_any _ _).mono ?_; rintro e w2 ⟨rfl, hb2⟩))
      go_ret
      exact ⟨ret_bool (by simp [keyCode, h0, h1]), below_on hb1 hb2⟩
    · by_cases h2 : 32 ≤ c
      · cases h3 : (c != 127)
        all_goals
          go_enter Tryz.func118, Tryz.ntmps118
          go_wp2_with (first
            | (go_at_call 89; refine (implIsSpecial_any _ _).mono ?_; rintro e w1 ⟨rfl, hb1⟩)
            | (go_at_call 120; refine (implIsPoint_any _ _).mono ?_; rintro e w2 ⟨rfl, hb2⟩))
          go_ret
          exact ⟨ret_bool (by simp [keyCode, h0, h1, h2, h3]), below_on hb1 hb2⟩
      · go_enter Tryz.func118, Tryz.ntmps118
        go_wp2_with (first
          | (go_at_call 89; refine (implIsSpecial_any _ _).mono ?_; rintro e w1 ⟨rfl, hb1⟩)
          | (go_at_call 120; refine (implIsPoint_any _ _).mono ?_; rintro e w2 ⟨rfl, hb2⟩))
        go_ret
        exact ⟨ret_bool (by simp [keyCode, h0, h1]; omega), below_on hb1 hb2⟩
  · go_enter Tryz.func118, Tryz.ntmps118
    go_wp2_with (first
      | (go_at_call 89; refine (implIsSpecial_any _ _).mono ?_; rintro e w1 ⟨rfl, hb1⟩)
      | (go_at_call 120; refine (implIsPoint_any _ _).mono ?_; rintro e w2 ⟨rfl, hb2⟩))
    go_ret
    exact ⟨ret_bool (by simp [keyCode, h0]), hb1⟩

theorem zeros4 (a b c d : Int) : zeros [a, b, c, d] = (a == 0 && (b == 0 && (c == 0 && d == 0))) := by simp [zeros]
theorem zeros6 (a b c d x y : Int) : zeros [a, b, c, d, x, y] = (a == 0 && (b == 0 && (c == 0 && (d == 0 && (x == 0 && y == 0))))) := by simp [zeros]

/-- the kinds of an event, as the walks ask for them -/
theorem kinds (k : Int) : ((k == 1) = true ∧ (k == 2) = false ∧ (k == 3) = false ∧ (k == 4) = false) ∨ ((k == 1) = false ∧ (k == 2) = true ∧ (k == 3) = false ∧ (k == 4) = false) ∨
    ((k == 1) = false ∧ (k == 2) = false ∧ (k == 3) = true ∧ (k == 4) = false) ∨ ((k == 1) = false ∧ (k == 2) = false ∧ (k == 3) = false ∧ (k == 4) = true) ∨
    ((k == 1) = false ∧ (k == 2) = false ∧ (k == 3) = false ∧ (k == 4) = false) := by
  simp; omega

set_option maxHeartbeats 2000000 in
theorem hasForm_any (e : Ev) (p : Option Addr) (c : Nat) (w : World) :
    Calls Tryz.prog 85 #[evV e p c] w fun en w' => en = .returned (.bool e.form) ∧ Below w.heap.size w w' := by
  unfold evV
  have hl := len_zero e.data
  have Z4 := Lib.hid (zeros4 e.button e.act e.col e.row)
  have Z6 := Lib.hid (zeros6 e.code e.mods e.button e.act e.col e.row)
  rcases kinds e.kind with ⟨k1, k2, k3, k4⟩ | ⟨k1, k2, k3, k4⟩ | ⟨k1, k2, k3, k4⟩ | ⟨k1, k2, k3, k4⟩ | ⟨k1, k2, k3, k4⟩
  · have HF : Hid (e.form = (zeros [e.button, e.act, e.col, e.row] && e.data.isEmpty)) := by
      rw [Z4.out]; unfold Ev.form; rw [if_pos (by simpa using k1)]; rfl
    cases hz : zeros [e.button, e.act, e.col, e.row]
    all_goals
      go_enter Tryz.func85, Tryz.ntmps85
      go_wp2_with (go_at_call 117; refine (areZero_four _ _ _ _ _ _ _ (by simp)).mono ?_; rintro e w' ⟨rfl, rfl⟩)
      go_ret
      exact ⟨ret_bool (by rw [HF.out, hz]; simp), ((Below.refl _ _).alloc (Nat.le_refl _) _).alloc (by simp) _⟩
  · have HF : Hid (e.form = (e.code == 0 && e.data.isEmpty)) := by
      unfold Ev.form; rw [if_neg (by simpa using k1), if_pos (by simpa using k2)]; rfl
    cases hz : (e.code == 0)
    all_goals
      go_enter Tryz.func85, Tryz.ntmps85
      go_wp2
      go_ret
      exact ⟨ret_bool (by rw [HF.out, hz]; simp), (Below.refl _ _).alloc (Nat.le_refl _) _⟩
  · have HF : Hid (e.form = zeros [e.code, e.mods, e.button, e.act, e.col, e.row]) := by
      rw [Z6.out]; unfold Ev.form; rw [if_neg (by simpa using k1), if_neg (by simpa using k2), if_pos (.inl (by simpa using k3))]; rfl
    go_enter Tryz.func85, Tryz.ntmps85
    go_wp2_with (go_at_call 117; refine (areZero_six _ _ _ _ _ _ _ _ _ (by simp)).mono ?_; rintro e w' ⟨rfl, rfl⟩)
    go_ret
    exact ⟨ret_bool (by rw [HF.out]), ((Below.refl _ _).alloc (Nat.le_refl _) _).alloc (by simp) _⟩
  · have HF : Hid (e.form = zeros [e.code, e.mods, e.button, e.act, e.col, e.row]) := by
      rw [Z6.out]; unfold Ev.form; rw [if_neg (by simpa using k1), if_neg (by simpa using k2), if_pos (.inr (by simpa using k4))]; rfl
    go_enter Tryz.func85, Tryz.ntmps85
    go_wp2_with (go_at_call 117; refine (areZero_six _ _ _ _ _ _ _ _ _ (by simp)).mono ?_; rintro e w' ⟨rfl, rfl⟩)
    go_ret
    exact ⟨ret_bool (by rw [HF.out]), ((Below.refl _ _).alloc (Nat.le_refl _) _).alloc (by simp) _⟩
  · have HF : Hid (e.form = false) := by
      unfold Ev.form; rw [if_neg (by simpa using k1), if_neg (by simpa using k2), if_neg (by simp at k3 k4; omega)]; rfl
    go_enter Tryz.func85, Tryz.ntmps85
    go_wp2
    go_ret
    exact ⟨ret_bool (by rw [HF.out]), (Below.refl _ _).alloc (Nat.le_refl _) _⟩

set_option maxHeartbeats 4000000 in
theorem numbersFit_any (e : Ev) (p : Option Addr) (c : Nat) (w : World) :
    Calls Tryz.prog 86 #[evV e p c] w fun en w' => en = .returned (.bool e.nums) ∧ Below w.heap.size w w' := by
  unfold evV
  rcases kinds e.kind with ⟨k1, k2, k3, k4⟩ | ⟨k1, k2, k3, k4⟩ | ⟨k1, k2, k3, k4⟩ | ⟨k1, k2, k3, k4⟩ | ⟨k1, k2, k3, k4⟩
  · have HF : Hid (e.nums = (keyCode e.code && inR e.mods 0 7)) := by
      unfold Ev.nums; rw [if_pos (by simpa using k1)]; rfl
    cases hz : keyCode e.code
    · go_enter Tryz.func86, Tryz.ntmps86
      go_wp2_with (go_at_call 118; refine (implIsKeyCode_any _ _).mono ?_; rintro e w1 ⟨rfl, hb1⟩)
      go_ret
      exact ⟨ret_bool (by rw [HF.out, hz]; simp), below_on ((Below.refl _ _).alloc (Nat.le_refl _) _) hb1⟩
    · go_enter Tryz.func86, Tryz.ntmps86
      go_wp2_with (first
        | (go_at_call 118; refine (implIsKeyCode_any _ _).mono ?_; rintro e w1 ⟨rfl, hb1⟩; obtain ⟨hc1, hf1⟩ := bcell hb1)
        | (go_at_call 62; refine (isWithin_two _ _ _ _ _ _ (by simp)).mono ?_; rintro e w' ⟨rfl, rfl⟩))
      go_ret
      exact ⟨ret_bool (by rw [HF.out, hz]; simp), (below_on ((Below.refl _ _).alloc (Nat.le_refl _) _) hb1).alloc (by have := hb1.size; simp at this; omega) _⟩
  · have HF : Hid (e.nums = (inR e.button 0 2 && (inR e.act 1 3 && (inR e.mods 0 7 && (inR e.col 0 199 && inR e.row 0 199))))) := by
      unfold Ev.nums; rw [if_neg (by simpa using k1), if_pos (by simpa using k2)]; rfl
    go_enter Tryz.func86, Tryz.ntmps86
    go_wp2_with (go_at_call 62; refine (isWithin_two _ _ _ _ _ _ (by simp)).mono ?_; rintro e w' ⟨rfl, rfl⟩)
    all_goals
      go_ret
      refine ⟨ret_bool (by rw [HF.out]; simp [*]), ?_⟩
      repeat (first | exact Below.refl _ _ | (refine Below.alloc ?_ (by simp; try omega) _))
  all_goals
    have HF : Hid (e.nums = true) := by
      unfold Ev.nums; rw [if_neg (by simpa using k1), if_neg (by simpa using k2)]; rfl
    go_enter Tryz.func86, Tryz.ntmps86
    go_wp2
    go_ret
    exact ⟨ret_bool (by rw [HF.out]), (Below.refl _ _).alloc (Nat.le_refl _) _⟩

set_option maxHeartbeats 2000000 in
theorem dataFits_any (e : Ev) (p : Option Addr) (c : Nat) (w : World) :
    Calls Tryz.prog 87 #[evV e p c] w fun en w' => en = .returned (.bool e.fits) ∧ Below w.heap.size w w' := by
  unfold evV
  rcases kinds e.kind with ⟨k1, k2, k3, k4⟩ | ⟨k1, k2, k3, k4⟩ | ⟨k1, k2, k3, k4⟩ | ⟨k1, k2, k3, k4⟩ | ⟨k1, k2, k3, k4⟩
  case inr.inr.inl =>
    have HF : Hid (e.fits = inR e.data.length 1 32) := by
      unfold Ev.fits; rw [if_pos (by simpa using k3)]; rfl
    go_enter Tryz.func87, Tryz.ntmps87
    go_wp2_with (go_at_call 62; refine (isWithin_two _ _ _ _ _ _ (by simp)).mono ?_; rintro e w' ⟨rfl, rfl⟩)
    go_ret
    exact ⟨ret_bool (by rw [HF.out]), ((Below.refl _ _).alloc (Nat.le_refl _) _).alloc (by simp) _⟩
  case inr.inr.inr.inl =>
    have HF : Hid (e.fits = inR e.data.length 1 24) := by
      unfold Ev.fits; rw [if_neg (by simpa using k3), if_pos (by simpa using k4)]; rfl
    go_enter Tryz.func87, Tryz.ntmps87
    go_wp2_with (go_at_call 62; refine (isWithin_two _ _ _ _ _ _ (by simp)).mono ?_; rintro e w' ⟨rfl, rfl⟩)
    go_ret
    exact ⟨ret_bool (by rw [HF.out]), ((Below.refl _ _).alloc (Nat.le_refl _) _).alloc (by simp) _⟩
  all_goals
    have HF : Hid (e.fits = true) := by
      unfold Ev.fits; rw [if_neg (by simpa using k3), if_neg (by simpa using k4)]; rfl
    go_enter Tryz.func87, Tryz.ntmps87
    go_wp2
    go_ret
    exact ⟨ret_bool (by rw [HF.out]), (Below.refl _ _).alloc (Nat.le_refl _) _⟩

theorem fault_1 {e : Ev} (h : e.form = false) : e.fault = 1 := by unfold Ev.fault; rw [if_pos h]
theorem fault_3 {e : Ev} (h : e.form = true) (k : e.nums = false) : e.fault = 3 := by unfold Ev.fault; rw [if_neg (by simp [h]), if_pos k]
theorem fault_2 {e : Ev} (h : e.form = true) (k : e.nums = true) (l : e.fits = false) : e.fault = 2 := by unfold Ev.fault; rw [if_neg (by simp [h]), if_neg (by simp [k]), if_pos l]
theorem fault_0 {e : Ev} (h : e.form = true) (k : e.nums = true) (l : e.fits = true) : e.fault = 0 := by unfold Ev.fault; rw [if_neg (by simp [h]), if_neg (by simp [k]), if_neg (by simp [l])]

set_option maxHeartbeats 2000000 in
theorem implEventFault_any (e : Ev) (p : Option Addr) (c : Nat) (w : World) :
    Calls Tryz.prog 52 #[evV e p c] w fun en w' => en = .returned (.int .i64 e.fault) ∧ Below w.heap.size w w' := by
  unfold evV
  cases h1 : e.form
  · have HF := Lib.hid (fault_1 h1)
    go_enter Tryz.func52, Tryz.ntmps52
    go_wp2_with (go_at_call 85; refine (hasForm_any e p c _).mono ?_; rintro en w1 ⟨rfl, hb1⟩)
    go_ret
    exact ⟨ret_int HF.out.symm, below_on ((Below.refl _ _).alloc (Nat.le_refl _) _) hb1⟩
  cases h2 : e.nums
  · have HF := Lib.hid (fault_3 h1 h2)
    go_enter Tryz.func52, Tryz.ntmps52
    go_wp2_with (first
      | (go_at_call 85; refine (hasForm_any e p c _).mono ?_; rintro en w1 ⟨rfl, hb1⟩; obtain ⟨hc1, hf1⟩ := bcell hb1)
      | (go_at_call 86; refine (numbersFit_any e p c _).mono ?_; rintro en w2 ⟨rfl, hb2⟩))
    go_ret
    exact ⟨ret_int HF.out.symm, below_on (below_on ((Below.refl _ _).alloc (Nat.le_refl _) _) hb1) hb2⟩
  cases h3 : e.fits
  · have HF := Lib.hid (fault_2 h1 h2 h3)
    go_enter Tryz.func52, Tryz.ntmps52
    go_wp2_with (first
      | (go_at_call 85; refine (hasForm_any e p c _).mono ?_; rintro en w1 ⟨rfl, hb1⟩; obtain ⟨hc1, hf1⟩ := bcell hb1)
      | (go_at_call 86; refine (numbersFit_any e p c _).mono ?_; rintro en w2 ⟨rfl, hb2⟩; have hc2 := bcell_at hb2 w.heap.size (by have := hb1.size; simp at this; omega))
      | (go_at_call 87; refine (dataFits_any e p c _).mono ?_; rintro en w3 ⟨rfl, hb3⟩))
    go_ret
    exact ⟨ret_int HF.out.symm, below_on (below_on (below_on ((Below.refl _ _).alloc (Nat.le_refl _) _) hb1) hb2) hb3⟩
  · have HF := Lib.hid (fault_0 h1 h2 h3)
    go_enter Tryz.func52, Tryz.ntmps52
    go_wp2_with (first
      | (go_at_call 85; refine (hasForm_any e p c _).mono ?_; rintro en w1 ⟨rfl, hb1⟩; obtain ⟨hc1, hf1⟩ := bcell hb1)
      | (go_at_call 86; refine (numbersFit_any e p c _).mono ?_; rintro en w2 ⟨rfl, hb2⟩; have hc2 := bcell_at hb2 w.heap.size (by have := hb1.size; simp at this; omega))
      | (go_at_call 87; refine (dataFits_any e p c _).mono ?_; rintro en w3 ⟨rfl, hb3⟩))
    go_ret
    exact ⟨ret_int HF.out.symm, below_on (below_on (below_on ((Below.refl _ _).alloc (Nat.le_refl _) _) hb1) hb2) hb3⟩

end Go.Proofs.YtjopjddhgaiddabGreatDoor

/- utf8.FullRune, DecodeRune: their contracts over bytes, by the class of the first byte. -/
namespace Go.Proofs.YtjopjddhgaiddabGreatDoor
open Go.RowKit

/-- Go's table utf8.first, by ranges -/
def firstX (b : Nat) : Int :=
  if b < 128 then 240 else if b < 194 then 241 else if b < 224 then 2 else if b = 224 then 19 else if b = 237 then 35 else if b < 240 then 3 else if b = 240 then 52 else if b < 244 then 4 else if b = 244 then 68 else 241

/-- the two tables of utf8, as the start lays them -/
structure Tabs (w : World) : Prop where
  first : ∀ i, i < 256 → w.cell? ⟨0, i, none⟩ = some (.int .u8 (firstX i))
  l0 : w.cell? ⟨1, 0, none⟩ = some (.int .u8 128)
  h0 : w.cell? ⟨1, 1, none⟩ = some (.int .u8 191)
  l1 : w.cell? ⟨1, 2, none⟩ = some (.int .u8 160)
  h1 : w.cell? ⟨1, 3, none⟩ = some (.int .u8 191)
  l2 : w.cell? ⟨1, 4, none⟩ = some (.int .u8 128)
  h2 : w.cell? ⟨1, 5, none⟩ = some (.int .u8 159)
  l3 : w.cell? ⟨1, 6, none⟩ = some (.int .u8 144)
  h3 : w.cell? ⟨1, 7, none⟩ = some (.int .u8 191)
  l4 : w.cell? ⟨1, 8, none⟩ = some (.int .u8 128)
  h4 : w.cell? ⟨1, 9, none⟩ = some (.int .u8 143)

theorem Tabs.lt0 {w : World} (h : Tabs w) : 0 < w.heap.size := World.block_lt_of_cell? _ _ (h.first 0 (by omega))
theorem Tabs.lt1 {w : World} (h : Tabs w) : 1 < w.heap.size := World.block_lt_of_cell? _ _ h.l0
theorem Tabs.on {w w' : World} (h : Tabs w) (hb : Below w.heap.size w w') : Tabs w' := by
  have k0 : ∀ o, w'.cell? ⟨0, o, none⟩ = w.cell? ⟨0, o, none⟩ := fun o => hb.cell (p := ⟨0, o, none⟩) h.lt0
  have k1 : ∀ o, w'.cell? ⟨1, o, none⟩ = w.cell? ⟨1, o, none⟩ := fun o => hb.cell (p := ⟨1, o, none⟩) h.lt1
  exact ⟨fun i hi => (k0 i).trans (h.first i hi), (k1 _).trans h.l0, (k1 _).trans h.h0, (k1 _).trans h.l1, (k1 _).trans h.h1, (k1 _).trans h.l2, (k1 _).trans h.h2, (k1 _).trans h.l3, (k1 _).trans h.h3, (k1 _).trans h.l4, (k1 _).trans h.h4⟩

theorem byte_lt' (b : UInt8) : b.toNat < 256 := UInt8.toNat_lt b

/-- one of two values -/
def pickT (c : Bool) (u v : Value) : Value := if c = true then u else v
theorem pickT_yes {c : Bool} {u v x : Value} (h : c = true) (k : x = u) : Ending.returned x = .returned (pickT c u v) := by rw [k]; unfold pickT; rw [if_pos h]
theorem pickT_no {c : Bool} {u v x : Value} (h : c = false) (k : x = v) : Ending.returned x = .returned (pickT c u v) := by rw [k]; unfold pickT; rw [if_neg (by simp [h])]
/-- a byte of the middle -/
def mid (lo hi : Int) (b : UInt8) : Bool := decide (lo ≤ (b.toNat : Int)) && decide ((b.toNat : Int) ≤ hi)

set_option maxRecDepth 100000 in
set_option maxHeartbeats 4000000 in
theorem slow_2 (a b : UInt8) (r : List UInt8) (q : Option Addr) (cap : Nat) (w : World) (h : Bs w w.heap.size q (a :: b :: r)) (ht : Tabs w) (hx : firstX a.toNat = 2) :
    Calls Tryz.prog 164 #[.slice q (r.length + 1 + 1) cap] w fun e w' => e = .returned (pickT (mid 128 191 b) (.tuple #[.int .i32 ((a.toNat : Int) % 32 * 64 + (b.toNat : Int) % 64), .int .i64 2]) (.tuple #[.int .i32 65533, .int .i64 1])) ∧ Below w.heap.size w w' := by
  obtain ⟨bl, off, rfl, _, hc⟩ := h (by simp)
  have e0 := hc 0 (by simp)
  have e1 := hc 1 (by simp)
  simp at e0 e1
  have t0 := ht.first a.toNat (byte_lt' a)
  rw [hx] at t0
  have lo := ht.l0
  have hi := ht.h0
  have z0 := ht.lt0
  have z1 := ht.lt1
  have ha := byte_lt' a
  have g0 := byte_lt' b
  clear hc ht hx h
  have i0 : (0 : Int) < (r.length : Int) + 1 + 1 := by omega
  have i1 : (1 : Int) < (r.length : Int) + 1 + 1 := by omega
  generalize hcnd : (mid 128 191 b) = cnd
  unfold mid at hcnd
  generalize a.toNat = x at *
  generalize b.toNat = y0 at *
  have HCnd := Lib.hid hcnd
  clear hcnd
  go_enter Tryz.func164, Tryz.ntmps164
  go_wp2
  all_goals go_ret2
  all_goals refine ⟨?_, (Below.refl _ _).alloc (Nat.le_refl _) _⟩
  all_goals first
    | exact pickT_no (by rw [← HCnd.out, Bool.eq_false_iff]; simp; omega) rfl
    | exact pickT_yes (by rw [← HCnd.out]; simp; omega) rfl

set_option maxRecDepth 100000 in
set_option maxHeartbeats 4000000 in
theorem slow_19 (a b c : UInt8) (r : List UInt8) (q : Option Addr) (cap : Nat) (w : World) (h : Bs w w.heap.size q (a :: b :: c :: r)) (ht : Tabs w) (hx : firstX a.toNat = 19) :
    Calls Tryz.prog 164 #[.slice q (r.length + 1 + 1 + 1) cap] w fun e w' => e = .returned (pickT (mid 160 191 b && mid 128 191 c) (.tuple #[.int .i32 ((a.toNat : Int) % 16 * 4096 + (b.toNat : Int) % 64 * 64 + (c.toNat : Int) % 64), .int .i64 3]) (.tuple #[.int .i32 65533, .int .i64 1])) ∧ Below w.heap.size w w' := by
  obtain ⟨bl, off, rfl, _, hc⟩ := h (by simp)
  have e0 := hc 0 (by simp)
  have e1 := hc 1 (by simp)
  have e2 := hc 2 (by simp)
  simp at e0 e1 e2
  have t0 := ht.first a.toNat (byte_lt' a)
  rw [hx] at t0
  have lo := ht.l1
  have hi := ht.h1
  have z0 := ht.lt0
  have z1 := ht.lt1
  have ha := byte_lt' a
  have g0 := byte_lt' b
  have g1 := byte_lt' c
  clear hc ht hx h
  have i0 : (0 : Int) < (r.length : Int) + 1 + 1 + 1 := by omega
  have i1 : (1 : Int) < (r.length : Int) + 1 + 1 + 1 := by omega
  have i2 : (2 : Int) < (r.length : Int) + 1 + 1 + 1 := by omega
  generalize hcnd : (mid 160 191 b && mid 128 191 c) = cnd
  unfold mid at hcnd
  generalize a.toNat = x at *
  generalize b.toNat = y0 at *
  generalize c.toNat = y1 at *
  have HCnd := Lib.hid hcnd
  clear hcnd
  go_enter Tryz.func164, Tryz.ntmps164
  go_wp2
  all_goals go_ret2
  all_goals refine ⟨?_, (Below.refl _ _).alloc (Nat.le_refl _) _⟩
  all_goals first
    | exact pickT_no (by rw [← HCnd.out, Bool.eq_false_iff]; simp; omega) rfl
    | exact pickT_yes (by rw [← HCnd.out]; simp; omega) rfl

set_option maxRecDepth 100000 in
set_option maxHeartbeats 4000000 in
theorem slow_3 (a b c : UInt8) (r : List UInt8) (q : Option Addr) (cap : Nat) (w : World) (h : Bs w w.heap.size q (a :: b :: c :: r)) (ht : Tabs w) (hx : firstX a.toNat = 3) :
    Calls Tryz.prog 164 #[.slice q (r.length + 1 + 1 + 1) cap] w fun e w' => e = .returned (pickT (mid 128 191 b && mid 128 191 c) (.tuple #[.int .i32 ((a.toNat : Int) % 16 * 4096 + (b.toNat : Int) % 64 * 64 + (c.toNat : Int) % 64), .int .i64 3]) (.tuple #[.int .i32 65533, .int .i64 1])) ∧ Below w.heap.size w w' := by
  obtain ⟨bl, off, rfl, _, hc⟩ := h (by simp)
  have e0 := hc 0 (by simp)
  have e1 := hc 1 (by simp)
  have e2 := hc 2 (by simp)
  simp at e0 e1 e2
  have t0 := ht.first a.toNat (byte_lt' a)
  rw [hx] at t0
  have lo := ht.l0
  have hi := ht.h0
  have z0 := ht.lt0
  have z1 := ht.lt1
  have ha := byte_lt' a
  have g0 := byte_lt' b
  have g1 := byte_lt' c
  clear hc ht hx h
  have i0 : (0 : Int) < (r.length : Int) + 1 + 1 + 1 := by omega
  have i1 : (1 : Int) < (r.length : Int) + 1 + 1 + 1 := by omega
  have i2 : (2 : Int) < (r.length : Int) + 1 + 1 + 1 := by omega
  generalize hcnd : (mid 128 191 b && mid 128 191 c) = cnd
  unfold mid at hcnd
  generalize a.toNat = x at *
  generalize b.toNat = y0 at *
  generalize c.toNat = y1 at *
  have HCnd := Lib.hid hcnd
  clear hcnd
  go_enter Tryz.func164, Tryz.ntmps164
  go_wp2
  all_goals go_ret2
  all_goals refine ⟨?_, (Below.refl _ _).alloc (Nat.le_refl _) _⟩
  all_goals first
    | exact pickT_no (by rw [← HCnd.out, Bool.eq_false_iff]; simp; omega) rfl
    | exact pickT_yes (by rw [← HCnd.out]; simp; omega) rfl

set_option maxRecDepth 100000 in
set_option maxHeartbeats 4000000 in
theorem slow_35 (a b c : UInt8) (r : List UInt8) (q : Option Addr) (cap : Nat) (w : World) (h : Bs w w.heap.size q (a :: b :: c :: r)) (ht : Tabs w) (hx : firstX a.toNat = 35) :
    Calls Tryz.prog 164 #[.slice q (r.length + 1 + 1 + 1) cap] w fun e w' => e = .returned (pickT (mid 128 159 b && mid 128 191 c) (.tuple #[.int .i32 ((a.toNat : Int) % 16 * 4096 + (b.toNat : Int) % 64 * 64 + (c.toNat : Int) % 64), .int .i64 3]) (.tuple #[.int .i32 65533, .int .i64 1])) ∧ Below w.heap.size w w' := by
  obtain ⟨bl, off, rfl, _, hc⟩ := h (by simp)
  have e0 := hc 0 (by simp)
  have e1 := hc 1 (by simp)
  have e2 := hc 2 (by simp)
  simp at e0 e1 e2
  have t0 := ht.first a.toNat (byte_lt' a)
  rw [hx] at t0
  have lo := ht.l2
  have hi := ht.h2
  have z0 := ht.lt0
  have z1 := ht.lt1
  have ha := byte_lt' a
  have g0 := byte_lt' b
  have g1 := byte_lt' c
  clear hc ht hx h
  have i0 : (0 : Int) < (r.length : Int) + 1 + 1 + 1 := by omega
  have i1 : (1 : Int) < (r.length : Int) + 1 + 1 + 1 := by omega
  have i2 : (2 : Int) < (r.length : Int) + 1 + 1 + 1 := by omega
  generalize hcnd : (mid 128 159 b && mid 128 191 c) = cnd
  unfold mid at hcnd
  generalize a.toNat = x at *
  generalize b.toNat = y0 at *
  generalize c.toNat = y1 at *
  have HCnd := Lib.hid hcnd
  clear hcnd
  go_enter Tryz.func164, Tryz.ntmps164
  go_wp2
  all_goals go_ret2
  all_goals refine ⟨?_, (Below.refl _ _).alloc (Nat.le_refl _) _⟩
  all_goals first
    | exact pickT_no (by rw [← HCnd.out, Bool.eq_false_iff]; simp; omega) rfl
    | exact pickT_yes (by rw [← HCnd.out]; simp; omega) rfl

set_option maxRecDepth 100000 in
set_option maxHeartbeats 4000000 in
theorem slow_52 (a b c d : UInt8) (r : List UInt8) (q : Option Addr) (cap : Nat) (w : World) (h : Bs w w.heap.size q (a :: b :: c :: d :: r)) (ht : Tabs w) (hx : firstX a.toNat = 52) :
    Calls Tryz.prog 164 #[.slice q (r.length + 1 + 1 + 1 + 1) cap] w fun e w' => e = .returned (pickT (mid 144 191 b && mid 128 191 c && mid 128 191 d) (.tuple #[.int .i32 ((a.toNat : Int) % 8 * 262144 + (b.toNat : Int) % 64 * 4096 + (c.toNat : Int) % 64 * 64 + (d.toNat : Int) % 64), .int .i64 4]) (.tuple #[.int .i32 65533, .int .i64 1])) ∧ Below w.heap.size w w' := by
  obtain ⟨bl, off, rfl, _, hc⟩ := h (by simp)
  have e0 := hc 0 (by simp)
  have e1 := hc 1 (by simp)
  have e2 := hc 2 (by simp)
  have e3 := hc 3 (by simp)
  simp at e0 e1 e2 e3
  have t0 := ht.first a.toNat (byte_lt' a)
  rw [hx] at t0
  have lo := ht.l3
  have hi := ht.h3
  have z0 := ht.lt0
  have z1 := ht.lt1
  have ha := byte_lt' a
  have g0 := byte_lt' b
  have g1 := byte_lt' c
  have g2 := byte_lt' d
  clear hc ht hx h
  have i0 : (0 : Int) < (r.length : Int) + 1 + 1 + 1 + 1 := by omega
  have i1 : (1 : Int) < (r.length : Int) + 1 + 1 + 1 + 1 := by omega
  have i2 : (2 : Int) < (r.length : Int) + 1 + 1 + 1 + 1 := by omega
  have i3 : (3 : Int) < (r.length : Int) + 1 + 1 + 1 + 1 := by omega
  generalize hcnd : (mid 144 191 b && mid 128 191 c && mid 128 191 d) = cnd
  unfold mid at hcnd
  generalize a.toNat = x at *
  generalize b.toNat = y0 at *
  generalize c.toNat = y1 at *
  generalize d.toNat = y2 at *
  have HCnd := Lib.hid hcnd
  clear hcnd
  go_enter Tryz.func164, Tryz.ntmps164
  go_wp2
  all_goals go_ret2
  all_goals refine ⟨?_, (Below.refl _ _).alloc (Nat.le_refl _) _⟩
  all_goals first
    | exact pickT_no (by rw [← HCnd.out, Bool.eq_false_iff]; simp; omega) rfl
    | exact pickT_yes (by rw [← HCnd.out]; simp; omega) rfl

set_option maxRecDepth 100000 in
set_option maxHeartbeats 4000000 in
theorem slow_4 (a b c d : UInt8) (r : List UInt8) (q : Option Addr) (cap : Nat) (w : World) (h : Bs w w.heap.size q (a :: b :: c :: d :: r)) (ht : Tabs w) (hx : firstX a.toNat = 4) :
    Calls Tryz.prog 164 #[.slice q (r.length + 1 + 1 + 1 + 1) cap] w fun e w' => e = .returned (pickT (mid 128 191 b && mid 128 191 c && mid 128 191 d) (.tuple #[.int .i32 ((a.toNat : Int) % 8 * 262144 + (b.toNat : Int) % 64 * 4096 + (c.toNat : Int) % 64 * 64 + (d.toNat : Int) % 64), .int .i64 4]) (.tuple #[.int .i32 65533, .int .i64 1])) ∧ Below w.heap.size w w' := by
  obtain ⟨bl, off, rfl, _, hc⟩ := h (by simp)
  have e0 := hc 0 (by simp)
  have e1 := hc 1 (by simp)
  have e2 := hc 2 (by simp)
  have e3 := hc 3 (by simp)
  simp at e0 e1 e2 e3
  have t0 := ht.first a.toNat (byte_lt' a)
  rw [hx] at t0
  have lo := ht.l0
  have hi := ht.h0
  have z0 := ht.lt0
  have z1 := ht.lt1
  have ha := byte_lt' a
  have g0 := byte_lt' b
  have g1 := byte_lt' c
  have g2 := byte_lt' d
  clear hc ht hx h
  have i0 : (0 : Int) < (r.length : Int) + 1 + 1 + 1 + 1 := by omega
  have i1 : (1 : Int) < (r.length : Int) + 1 + 1 + 1 + 1 := by omega
  have i2 : (2 : Int) < (r.length : Int) + 1 + 1 + 1 + 1 := by omega
  have i3 : (3 : Int) < (r.length : Int) + 1 + 1 + 1 + 1 := by omega
  generalize hcnd : (mid 128 191 b && mid 128 191 c && mid 128 191 d) = cnd
  unfold mid at hcnd
  generalize a.toNat = x at *
  generalize b.toNat = y0 at *
  generalize c.toNat = y1 at *
  generalize d.toNat = y2 at *
  have HCnd := Lib.hid hcnd
  clear hcnd
  go_enter Tryz.func164, Tryz.ntmps164
  go_wp2
  all_goals go_ret2
  all_goals refine ⟨?_, (Below.refl _ _).alloc (Nat.le_refl _) _⟩
  all_goals first
    | exact pickT_no (by rw [← HCnd.out, Bool.eq_false_iff]; simp; omega) rfl
    | exact pickT_yes (by rw [← HCnd.out]; simp; omega) rfl

set_option maxRecDepth 100000 in
set_option maxHeartbeats 4000000 in
theorem slow_68 (a b c d : UInt8) (r : List UInt8) (q : Option Addr) (cap : Nat) (w : World) (h : Bs w w.heap.size q (a :: b :: c :: d :: r)) (ht : Tabs w) (hx : firstX a.toNat = 68) :
    Calls Tryz.prog 164 #[.slice q (r.length + 1 + 1 + 1 + 1) cap] w fun e w' => e = .returned (pickT (mid 128 143 b && mid 128 191 c && mid 128 191 d) (.tuple #[.int .i32 ((a.toNat : Int) % 8 * 262144 + (b.toNat : Int) % 64 * 4096 + (c.toNat : Int) % 64 * 64 + (d.toNat : Int) % 64), .int .i64 4]) (.tuple #[.int .i32 65533, .int .i64 1])) ∧ Below w.heap.size w w' := by
  obtain ⟨bl, off, rfl, _, hc⟩ := h (by simp)
  have e0 := hc 0 (by simp)
  have e1 := hc 1 (by simp)
  have e2 := hc 2 (by simp)
  have e3 := hc 3 (by simp)
  simp at e0 e1 e2 e3
  have t0 := ht.first a.toNat (byte_lt' a)
  rw [hx] at t0
  have lo := ht.l4
  have hi := ht.h4
  have z0 := ht.lt0
  have z1 := ht.lt1
  have ha := byte_lt' a
  have g0 := byte_lt' b
  have g1 := byte_lt' c
  have g2 := byte_lt' d
  clear hc ht hx h
  have i0 : (0 : Int) < (r.length : Int) + 1 + 1 + 1 + 1 := by omega
  have i1 : (1 : Int) < (r.length : Int) + 1 + 1 + 1 + 1 := by omega
  have i2 : (2 : Int) < (r.length : Int) + 1 + 1 + 1 + 1 := by omega
  have i3 : (3 : Int) < (r.length : Int) + 1 + 1 + 1 + 1 := by omega
  generalize hcnd : (mid 128 143 b && mid 128 191 c && mid 128 191 d) = cnd
  unfold mid at hcnd
  generalize a.toNat = x at *
  generalize b.toNat = y0 at *
  generalize c.toNat = y1 at *
  generalize d.toNat = y2 at *
  have HCnd := Lib.hid hcnd
  clear hcnd
  go_enter Tryz.func164, Tryz.ntmps164
  go_wp2
  all_goals go_ret2
  all_goals refine ⟨?_, (Below.refl _ _).alloc (Nat.le_refl _) _⟩
  all_goals first
    | exact pickT_no (by rw [← HCnd.out, Bool.eq_false_iff]; simp; omega) rfl
    | exact pickT_yes (by rw [← HCnd.out]; simp; omega) rfl

set_option maxRecDepth 100000 in
set_option maxHeartbeats 4000000 in
theorem slowShort_2 (a : UInt8) (r : List UInt8) (q : Option Addr) (cap : Nat) (w : World) (h : Bs w w.heap.size q (a :: r)) (ht : Tabs w) (hx : firstX a.toNat = 2) (hs : r.length + 1 < 2) :
    Calls Tryz.prog 164 #[.slice q (r.length + 1) cap] w fun e w' => e = .returned (.tuple #[.int .i32 65533, .int .i64 1]) ∧ Below w.heap.size w w' := by
  obtain ⟨bl, off, rfl, _, hc⟩ := h (by simp)
  have e0 := hc 0 (by simp)
  simp at e0
  have t0 := ht.first a.toNat (byte_lt' a)
  rw [hx] at t0
  have lo := ht.l0
  have hi := ht.h0
  have z0 := ht.lt0
  have z1 := ht.lt1
  have ha := byte_lt' a
  clear hc ht hx h
  have i0 : (0 : Int) < (r.length : Int) + 1 := by omega
  have i1 : (r.length : Int) + 1 < 2 := by omega
  generalize a.toNat = x at *
  go_enter Tryz.func164, Tryz.ntmps164
  go_wp2
  go_ret2
  exact ⟨rfl, (Below.refl _ _).alloc (Nat.le_refl _) _⟩

set_option maxRecDepth 100000 in
set_option maxHeartbeats 4000000 in
theorem slowShort_19 (a : UInt8) (r : List UInt8) (q : Option Addr) (cap : Nat) (w : World) (h : Bs w w.heap.size q (a :: r)) (ht : Tabs w) (hx : firstX a.toNat = 19) (hs : r.length + 1 < 3) :
    Calls Tryz.prog 164 #[.slice q (r.length + 1) cap] w fun e w' => e = .returned (.tuple #[.int .i32 65533, .int .i64 1]) ∧ Below w.heap.size w w' := by
  obtain ⟨bl, off, rfl, _, hc⟩ := h (by simp)
  have e0 := hc 0 (by simp)
  simp at e0
  have t0 := ht.first a.toNat (byte_lt' a)
  rw [hx] at t0
  have lo := ht.l1
  have hi := ht.h1
  have z0 := ht.lt0
  have z1 := ht.lt1
  have ha := byte_lt' a
  clear hc ht hx h
  have i0 : (0 : Int) < (r.length : Int) + 1 := by omega
  have i1 : (r.length : Int) + 1 < 3 := by omega
  generalize a.toNat = x at *
  go_enter Tryz.func164, Tryz.ntmps164
  go_wp2
  go_ret2
  exact ⟨rfl, (Below.refl _ _).alloc (Nat.le_refl _) _⟩

set_option maxRecDepth 100000 in
set_option maxHeartbeats 4000000 in
theorem slowShort_3 (a : UInt8) (r : List UInt8) (q : Option Addr) (cap : Nat) (w : World) (h : Bs w w.heap.size q (a :: r)) (ht : Tabs w) (hx : firstX a.toNat = 3) (hs : r.length + 1 < 3) :
    Calls Tryz.prog 164 #[.slice q (r.length + 1) cap] w fun e w' => e = .returned (.tuple #[.int .i32 65533, .int .i64 1]) ∧ Below w.heap.size w w' := by
  obtain ⟨bl, off, rfl, _, hc⟩ := h (by simp)
  have e0 := hc 0 (by simp)
  simp at e0
  have t0 := ht.first a.toNat (byte_lt' a)
  rw [hx] at t0
  have lo := ht.l0
  have hi := ht.h0
  have z0 := ht.lt0
  have z1 := ht.lt1
  have ha := byte_lt' a
  clear hc ht hx h
  have i0 : (0 : Int) < (r.length : Int) + 1 := by omega
  have i1 : (r.length : Int) + 1 < 3 := by omega
  generalize a.toNat = x at *
  go_enter Tryz.func164, Tryz.ntmps164
  go_wp2
  go_ret2
  exact ⟨rfl, (Below.refl _ _).alloc (Nat.le_refl _) _⟩

set_option maxRecDepth 100000 in
set_option maxHeartbeats 4000000 in
theorem slowShort_35 (a : UInt8) (r : List UInt8) (q : Option Addr) (cap : Nat) (w : World) (h : Bs w w.heap.size q (a :: r)) (ht : Tabs w) (hx : firstX a.toNat = 35) (hs : r.length + 1 < 3) :
    Calls Tryz.prog 164 #[.slice q (r.length + 1) cap] w fun e w' => e = .returned (.tuple #[.int .i32 65533, .int .i64 1]) ∧ Below w.heap.size w w' := by
  obtain ⟨bl, off, rfl, _, hc⟩ := h (by simp)
  have e0 := hc 0 (by simp)
  simp at e0
  have t0 := ht.first a.toNat (byte_lt' a)
  rw [hx] at t0
  have lo := ht.l2
  have hi := ht.h2
  have z0 := ht.lt0
  have z1 := ht.lt1
  have ha := byte_lt' a
  clear hc ht hx h
  have i0 : (0 : Int) < (r.length : Int) + 1 := by omega
  have i1 : (r.length : Int) + 1 < 3 := by omega
  generalize a.toNat = x at *
  go_enter Tryz.func164, Tryz.ntmps164
  go_wp2
  go_ret2
  exact ⟨rfl, (Below.refl _ _).alloc (Nat.le_refl _) _⟩

set_option maxRecDepth 100000 in
set_option maxHeartbeats 4000000 in
theorem slowShort_52 (a : UInt8) (r : List UInt8) (q : Option Addr) (cap : Nat) (w : World) (h : Bs w w.heap.size q (a :: r)) (ht : Tabs w) (hx : firstX a.toNat = 52) (hs : r.length + 1 < 4) :
    Calls Tryz.prog 164 #[.slice q (r.length + 1) cap] w fun e w' => e = .returned (.tuple #[.int .i32 65533, .int .i64 1]) ∧ Below w.heap.size w w' := by
  obtain ⟨bl, off, rfl, _, hc⟩ := h (by simp)
  have e0 := hc 0 (by simp)
  simp at e0
  have t0 := ht.first a.toNat (byte_lt' a)
  rw [hx] at t0
  have lo := ht.l3
  have hi := ht.h3
  have z0 := ht.lt0
  have z1 := ht.lt1
  have ha := byte_lt' a
  clear hc ht hx h
  have i0 : (0 : Int) < (r.length : Int) + 1 := by omega
  have i1 : (r.length : Int) + 1 < 4 := by omega
  generalize a.toNat = x at *
  go_enter Tryz.func164, Tryz.ntmps164
  go_wp2
  go_ret2
  exact ⟨rfl, (Below.refl _ _).alloc (Nat.le_refl _) _⟩

set_option maxRecDepth 100000 in
set_option maxHeartbeats 4000000 in
theorem slowShort_4 (a : UInt8) (r : List UInt8) (q : Option Addr) (cap : Nat) (w : World) (h : Bs w w.heap.size q (a :: r)) (ht : Tabs w) (hx : firstX a.toNat = 4) (hs : r.length + 1 < 4) :
    Calls Tryz.prog 164 #[.slice q (r.length + 1) cap] w fun e w' => e = .returned (.tuple #[.int .i32 65533, .int .i64 1]) ∧ Below w.heap.size w w' := by
  obtain ⟨bl, off, rfl, _, hc⟩ := h (by simp)
  have e0 := hc 0 (by simp)
  simp at e0
  have t0 := ht.first a.toNat (byte_lt' a)
  rw [hx] at t0
  have lo := ht.l0
  have hi := ht.h0
  have z0 := ht.lt0
  have z1 := ht.lt1
  have ha := byte_lt' a
  clear hc ht hx h
  have i0 : (0 : Int) < (r.length : Int) + 1 := by omega
  have i1 : (r.length : Int) + 1 < 4 := by omega
  generalize a.toNat = x at *
  go_enter Tryz.func164, Tryz.ntmps164
  go_wp2
  go_ret2
  exact ⟨rfl, (Below.refl _ _).alloc (Nat.le_refl _) _⟩

set_option maxRecDepth 100000 in
set_option maxHeartbeats 4000000 in
theorem slowShort_68 (a : UInt8) (r : List UInt8) (q : Option Addr) (cap : Nat) (w : World) (h : Bs w w.heap.size q (a :: r)) (ht : Tabs w) (hx : firstX a.toNat = 68) (hs : r.length + 1 < 4) :
    Calls Tryz.prog 164 #[.slice q (r.length + 1) cap] w fun e w' => e = .returned (.tuple #[.int .i32 65533, .int .i64 1]) ∧ Below w.heap.size w w' := by
  obtain ⟨bl, off, rfl, _, hc⟩ := h (by simp)
  have e0 := hc 0 (by simp)
  simp at e0
  have t0 := ht.first a.toNat (byte_lt' a)
  rw [hx] at t0
  have lo := ht.l4
  have hi := ht.h4
  have z0 := ht.lt0
  have z1 := ht.lt1
  have ha := byte_lt' a
  clear hc ht hx h
  have i0 : (0 : Int) < (r.length : Int) + 1 := by omega
  have i1 : (r.length : Int) + 1 < 4 := by omega
  generalize a.toNat = x at *
  go_enter Tryz.func164, Tryz.ntmps164
  go_wp2
  go_ret2
  exact ⟨rfl, (Below.refl _ _).alloc (Nat.le_refl _) _⟩

end Go.Proofs.YtjopjddhgaiddabGreatDoor

/- The contracts of the law's own helpers over events: szByteS, szEvent, toEvent, eqEvent. -/
namespace Go.Proofs.YtjopjddhgaiddabGreatDoor
open Go.RowKit

/-- what is left of a budget behind n values: -1 where it is spent -/
def leftOf (left : Int) (n : Nat) : Int := if left - n < 0 then -1 else left - n

set_option maxRecDepth 100000 in
set_option maxHeartbeats 400000 in
theorem szByteS_any (p : Option Addr) (n c : Nat) (left : Int) (w : World) (hn : n ≤ 9223372036854775807) (h0 : 0 ≤ left) (h1 : left ≤ 1048576) :
    Calls Tryz.prog 10 #[.slice p n c, .int .i64 left] w fun e w' => e = .returned (.int .i64 (leftOf left n)) ∧ w = w' := by
  by_cases h : left - (n : Int) < 0
  · go_enter Tryz.func10, Tryz.ntmps10
    go_wp2
    go_ret
    exact ⟨ret_int (by unfold leftOf; rw [if_pos h]), rfl⟩
  · go_enter Tryz.func10, Tryz.ntmps10
    go_wp2
    go_ret
    exact ⟨ret_int (by unfold leftOf; rw [if_neg (by omega)]), rfl⟩

theorem leftOf_neg {left : Int} {n : Nat} (h : leftOf left n < 0) : leftOf left n = -1 := by
  unfold leftOf at h ⊢; split at h <;> simp_all
theorem leftOf_le {left : Int} {n : Nat} (h : 0 ≤ leftOf left n) : leftOf left n ≤ left ∧ (n : Int) ≤ left := by
  unfold leftOf at h ⊢; split at h <;> simp_all <;> omega

set_option maxRecDepth 100000 in
set_option maxHeartbeats 800000 in
theorem szEvent_any (e : Ev) (p : Option Addr) (c : Nat) (left : Int) (w : World) (hn : e.data.length ≤ 9223372036854775807) (h0 : 0 ≤ left) (h1 : left ≤ 1048576) :
    Calls Tryz.prog 4 #[evV e p c, .int .i64 left] w fun en w' => en = .returned (.int .i64 (leftOf left e.data.length)) ∧ Below w.heap.size w w' := by
  unfold evV
  by_cases h : leftOf left e.data.length < 0
  · have HN := Lib.hid (leftOf_neg h)
    go_enter Tryz.func4, Tryz.ntmps4
    go_wp2_with (go_at_call 10; refine (szByteS_any _ _ _ _ _ hn h0 h1).mono ?_; rintro en w1 ⟨rfl, rfl⟩)
    go_ret
    exact ⟨ret_int HN.out.symm, (Below.refl _ _).alloc (Nat.le_refl _) _⟩
  · go_enter Tryz.func4, Tryz.ntmps4
    go_wp2_with (go_at_call 10; refine (szByteS_any _ _ _ _ _ hn h0 h1).mono ?_; rintro en w1 ⟨rfl, rfl⟩)
    go_ret
    exact ⟨rfl, (Below.refl _ _).alloc (Nat.le_refl _) _⟩

theorem Bs.new_at (w : World) (l : List UInt8) (t : TypeId) (g B : Nat) (hg : g = w.heap.size) (hB : w.heap.size < B) : Bs (w.alloc (.cells (bcells l) t)) B (some ⟨g, 0, none⟩) l := by
  subst hg
  exact (Bs.new w l t).more hB

/-- as 'Bs', in a block from lo on -/
def Bsx (w : World) (lo hi : Nat) (p : Option Addr) (l : List UInt8) : Prop :=
  l ≠ [] → ∃ b off, p = some ⟨b, off, none⟩ ∧ lo ≤ b ∧ b < hi ∧ ∀ i, i < l.length → w.cell? ⟨b, off + i, none⟩ = some (.int .u8 ((l.getD i 0).toNat : Int))
theorem Bsx.bs {w : World} {lo hi : Nat} {p : Option Addr} {l : List UInt8} (h : Bsx w lo hi p l) : Bs w hi p l := fun hl => by
  obtain ⟨b, off, e, _, h2, h3⟩ := h hl
  exact ⟨b, off, e, h2, h3⟩
theorem Bsx.keep {w w' : World} {lo lo' hi hi' : Nat} {p : Option Addr} {l : List UInt8} (h : Bsx w lo hi p l) (hlo : lo' ≤ lo) (hhi : hi ≤ hi') (hk : ∀ a : Addr, lo ≤ a.block → a.block < hi → w'.cell? a = w.cell? a) : Bsx w' lo' hi' p l := fun hl => by
  obtain ⟨b, off, e, h1, h2, h3⟩ := h hl
  exact ⟨b, off, e, by omega, by omega, fun i hi => (hk ⟨b, off + i, none⟩ h1 h2).trans (h3 i hi)⟩
theorem Bsx.new_at (w : World) (l : List UInt8) (t : TypeId) (g lo B : Nat) (hg : g = w.heap.size) (hlo : lo ≤ g) (hB : w.heap.size < B) : Bsx (w.alloc (.cells (bcells l) t)) lo B (some ⟨g, 0, none⟩) l := fun hl => by
  subst hg
  obtain ⟨b, off, e, _, h3⟩ := Bs.new w l t hl
  simp at e
  obtain ⟨rfl, rfl⟩ := e
  exact ⟨_, _, rfl, hlo, hB, h3⟩

/-- what a call that hands back a new event leaves: its data lie in a block of the call's own -/
def FreshEv (w : World) (e : Ev) (en : Ending) (w' : World) : Prop :=
  ∃ p, en = .returned (evV e p e.data.length) ∧ Bsx w' w.heap.size w'.heap.size p e.data ∧ Below w.heap.size w w'
/-- what a call that hands back a new event leaves -/
def NewEv (w : World) (e : Ev) (en : Ending) (w' : World) : Prop :=
  ∃ p, en = .returned (evV e p e.data.length) ∧ Bs w' w'.heap.size p e.data ∧ Below w.heap.size w w'

set_option maxRecDepth 100000 in
set_option maxHeartbeats 2000000 in
theorem toEvent_fresh (e : Ev) (p : Option Addr) (c : Nat) (w : World) (h : Bs w w.heap.size p e.data) (hl : e.data.length ≤ 1048576) :
    Calls Tryz.prog 7 #[evV e p c] w (FreshEv w e) := by
  unfold evV
  go_enter Tryz.func7, Tryz.ntmps7
  go_wp2_with fail
  refine (toByteS_any _ _ _ _ (((h.alloc _).alloc _).alloc _) hl).mono ?_
  rintro en w1 ⟨rfl, rfl⟩
  go_wp2
  refine bodyPost_ret (v := evV e (some ⟨w.heap.size + 1 + 1 + 1, 0, none⟩) e.data.length) (by simp [results, Tryz.results7, evV, go_sem]) rfl ⟨_, rfl, Bsx.new_at _ _ _ _ _ _ (by simp) (by omega) (by simp), ?_⟩
  exact ((((Below.refl _ _).alloc (Nat.le_refl _) _).alloc (by simp) _).alloc (by simp; omega) _).alloc (by simp; omega) _

theorem toEvent_any (e : Ev) (p : Option Addr) (c : Nat) (w : World) (h : Bs w w.heap.size p e.data) (hl : e.data.length ≤ 1048576) :
    Calls Tryz.prog 7 #[evV e p c] w (NewEv w e) :=
  (toEvent_fresh e p c w h hl).mono fun _ _ ⟨p, he, hb, hw⟩ => ⟨p, he, hb.bs, hw⟩

set_option maxRecDepth 100000 in
set_option maxHeartbeats 2000000 in
theorem eqEvent_same (e : Ev) (p q : Option Addr) (c d : Nat) (w : World) (h : Bs w w.heap.size p e.data) (k : Bs w w.heap.size q e.data) (hl : e.data.length ≤ 1048576) :
    Calls Tryz.prog 9 #[evV e p c, evV e q d] w fun en w' => en = .returned (.bool true) ∧ Below w.heap.size w w' := by
  unfold evV
  go_enter Tryz.func9, Tryz.ntmps9
  go_wp2_with fail
  refine (eqByteS_same _ _ _ _ _ _ ((h.alloc _).alloc _) ((k.alloc _).alloc _) hl).mono ?_
  rintro en w1 ⟨rfl, hb⟩
  go_wp2
  go_ret
  exact ⟨rfl, below_on (((Below.refl _ _).alloc (Nat.le_refl _) _).alloc (by simp) _) hb⟩

end Go.Proofs.YtjopjddhgaiddabGreatDoor

/- The contract of the model's EventFault. -/
namespace Go.Proofs.YtjopjddhgaiddabGreatDoor
open Go.RowKit

/-- the contract of the model's l1Form (proved in a text of its own) -/
def FormSaid : Prop := ∀ (e : Ev) (p : Option Addr) (c : Nat) (b off : Nat) (w : World) (_ : EvAt w b off e p c),
    Calls Tryz.prog 71 #[.pointer (some ⟨b, off, none⟩)] w fun en w' => en = .returned (.bool e.form) ∧ w = w'

set_option maxRecDepth 100000 in
set_option maxHeartbeats 4000000 in
theorem specEventFault_any (l1Form_any : FormSaid) (e : Ev) (p : Option Addr) (c : Nat) (w : World) :
    Calls Tryz.prog 42 #[evV e p c] w fun en w' => en = .returned (.int .i64 e.fault) ∧ Below w.heap.size w w' := by
  have HE := EvAt.new w e p c 31
  unfold evC at HE
  unfold evV
  cases h1 : e.form
  · have HF := Lib.hid (fault_1 h1)
    go_enter Tryz.func42, Tryz.ntmps42
    go_wp2_with (go_at_call 71; refine (l1Form_any e p c _ _ _ HE).mono ?_; rintro en w1 ⟨rfl, rfl⟩)
    go_ret
    exact ⟨ret_int HF.out.symm, (Below.refl _ _).alloc (Nat.le_refl _) _⟩
  have HN : Hid (∀ x, e.nums = x → e.fits = true → e.fault = if x = false then 3 else 0) := fun x hx hf => by
    cases x
    · exact fault_3 h1 hx
    · exact fault_0 h1 hx hf
  have HD : Hid (∀ x, e.fits = x → e.nums = true → e.fault = if x = false then 2 else 0) := fun x hx hn => by
    cases x
    · exact fault_2 h1 hn hx
    · exact fault_0 h1 hn hx
  rcases kinds e.kind with ⟨k1, k2, k3, k4⟩ | ⟨k1, k2, k3, k4⟩ | ⟨k1, k2, k3, k4⟩ | ⟨k1, k2, k3, k4⟩ | ⟨k1, k2, k3, k4⟩
  · have HF : Hid (e.fits = true) := by unfold Ev.fits; rw [if_neg (by simpa using k3), if_neg (by simpa using k4)]; rfl
    have HU : Hid (e.nums = (keyCode e.code && inR e.mods 0 7)) := by unfold Ev.nums; rw [if_pos (by simpa using k1)]; rfl
    cases h2 : keyCode e.code
    · go_enter Tryz.func42, Tryz.ntmps42
      go_wp2_with (first
        | (go_at_call 71; refine (l1Form_any e p c _ _ _ HE).mono ?_; rintro en w1 ⟨rfl, rfl⟩)
        | (go_at_call 72; refine (l1Key_any _ _).mono ?_; rintro en w1 ⟨rfl, rfl⟩))
      go_ret
      exact ⟨ret_int (by rw [HN.out _ HU.out HF.out, h2]; rfl), (Below.refl _ _).alloc (Nat.le_refl _) _⟩
    · cases h3 : inR e.mods 0 7
      all_goals
        go_enter Tryz.func42, Tryz.ntmps42
        go_wp2_with (first
          | (go_at_call 71; refine (l1Form_any e p c _ _ _ HE).mono ?_; rintro en w1 ⟨rfl, rfl⟩)
          | (go_at_call 72; refine (l1Key_any _ _).mono ?_; rintro en w1 ⟨rfl, rfl⟩)
          | (go_at_call 70; refine (l1In_any _ _ _ _).mono ?_; rintro en w1 ⟨rfl, rfl⟩))
        go_ret
        exact ⟨ret_int (by rw [HN.out _ HU.out HF.out, h2, h3]; rfl), (Below.refl _ _).alloc (Nat.le_refl _) _⟩
  · have HF : Hid (e.fits = true) := by unfold Ev.fits; rw [if_neg (by simpa using k3), if_neg (by simpa using k4)]; rfl
    have HU : Hid (e.nums = (inR e.button 0 2 && (inR e.act 1 3 && (inR e.mods 0 7 && (inR e.col 0 199 && inR e.row 0 199))))) := by
      unfold Ev.nums; rw [if_neg (by simpa using k1), if_pos (by simpa using k2)]; rfl
    cases h6 : inR e.row 0 199
    all_goals
      go_enter Tryz.func42, Tryz.ntmps42
      go_wp2_with (first
        | (go_at_call 71; refine (l1Form_any e p c _ _ _ HE).mono ?_; rintro en w1 ⟨rfl, rfl⟩)
        | (go_at_call 70; refine (l1In_any _ _ _ _).mono ?_; rintro en w1 ⟨rfl, rfl⟩))
      all_goals
        go_ret
        exact ⟨ret_int (by rw [HN.out _ HU.out HF.out]; simp [*]), (Below.refl _ _).alloc (Nat.le_refl _) _⟩
  · have HF : Hid (e.nums = true) := by unfold Ev.nums; rw [if_neg (by simpa using k1), if_neg (by simpa using k2)]; rfl
    have HU : Hid (e.fits = inR e.data.length 1 32) := by unfold Ev.fits; rw [if_pos (by simpa using k3)]; rfl
    cases h2 : inR e.data.length 1 32
    all_goals
      go_enter Tryz.func42, Tryz.ntmps42
      go_wp2_with (first
        | (go_at_call 71; refine (l1Form_any e p c _ _ _ HE).mono ?_; rintro en w1 ⟨rfl, rfl⟩)
        | (go_at_call 70; refine (l1In_any _ _ _ _).mono ?_; rintro en w1 ⟨rfl, rfl⟩))
      go_ret
      exact ⟨ret_int (by rw [HD.out _ HU.out HF.out, h2]; rfl), (Below.refl _ _).alloc (Nat.le_refl _) _⟩
  · have HF : Hid (e.nums = true) := by unfold Ev.nums; rw [if_neg (by simpa using k1), if_neg (by simpa using k2)]; rfl
    have HU : Hid (e.fits = inR e.data.length 1 24) := by unfold Ev.fits; rw [if_neg (by simpa using k3), if_pos (by simpa using k4)]; rfl
    cases h2 : inR e.data.length 1 24
    all_goals
      go_enter Tryz.func42, Tryz.ntmps42
      go_wp2_with (first
        | (go_at_call 71; refine (l1Form_any e p c _ _ _ HE).mono ?_; rintro en w1 ⟨rfl, rfl⟩)
        | (go_at_call 70; refine (l1In_any _ _ _ _).mono ?_; rintro en w1 ⟨rfl, rfl⟩))
      go_ret
      exact ⟨ret_int (by rw [HD.out _ HU.out HF.out, h2]; rfl), (Below.refl _ _).alloc (Nat.le_refl _) _⟩
  · exfalso
    unfold Ev.form at h1
    rw [if_neg (by simpa using k1), if_neg (by simpa using k2), if_neg (by simp at k3 k4; omega)] at h1
    cases h1

end Go.Proofs.YtjopjddhgaiddabGreatDoor

/- utf8.FullRune: its contract over bytes, by the class of the first byte. -/
namespace Go.Proofs.YtjopjddhgaiddabGreatDoor
open Go.RowKit

set_option maxRecDepth 100000 in
theorem drop_byte : ∀ x : Fin 256, bits .or .i32 (bits .andNot .i32 ((x.val : Nat) : Int) (-1)) (bits .and .i32 65533 (-1)) = 65533 := by decide

set_option maxRecDepth 100000 in
set_option maxHeartbeats 4000000 in
theorem slowBad (a : UInt8) (r : List UInt8) (q : Option Addr) (cap : Nat) (w : World) (h : Bs w w.heap.size q (a :: r)) (ht : Tabs w) (hx : firstX a.toNat = 241) :
    Calls Tryz.prog 164 #[.slice q (r.length + 1) cap] w fun e w' => e = .returned (.tuple #[.int .i32 65533, .int .i64 1]) ∧ Below w.heap.size w w' := by
  obtain ⟨bl, off, rfl, _, hc⟩ := h (by simp)
  have e0 := hc 0 (by simp)
  simp at e0
  have t0 := ht.first a.toNat (byte_lt' a)
  rw [hx] at t0
  have lo := ht.l0
  have hi := ht.h0
  have z0 := ht.lt0
  have z1 := ht.lt1
  have ha := byte_lt' a
  clear hc ht hx h
  have HD := Lib.hid (drop_byte ⟨a.toNat, ha⟩)
  have i0 : (0 : Int) < (r.length : Int) + 1 := by omega
  go_enter Tryz.func164, Tryz.ntmps164
  go_wp2
  go_ret2
  refine ⟨?_, Below.refl _ _⟩
  show Ending.returned (.tuple #[.int .i32 (bits .or .i32 (bits .andNot .i32 (a.toNat : Int) (wrap32 517543559168 / 2147483648)) (bits .and .i32 65533 (wrap32 517543559168 / 2147483648))), .int .i64 1]) = _
  rw [show (wrap32 517543559168 / 2147483648 : Int) = -1 from by kernel_rfl]
  have hd := HD.out
  rw [hd]

set_option maxRecDepth 100000 in
set_option maxHeartbeats 2000000 in
theorem fullLong_240 (a : UInt8) (r : List UInt8) (q : Option Addr) (cap : Nat) (w : World) (h : Bs w w.heap.size q (a :: r)) (ht : Tabs w) (hx : firstX a.toNat = 240) :
    Calls Tryz.prog 151 #[.slice q (r.length + 1) cap] w fun e w' => e = .returned (.bool true) ∧ Below w.heap.size w w' := by
  obtain ⟨bl, off, rfl, _, hc⟩ := h (by simp)
  have e0 := hc 0 (by simp)
  simp at e0
  have t0 := ht.first a.toNat (byte_lt' a)
  rw [hx] at t0
  have lo := ht.l0
  have hi := ht.h0
  have z0 := ht.lt0
  have z1 := ht.lt1
  have ha := byte_lt' a
  clear hc ht hx h
  have i0 : (0 : Int) < (r.length : Int) + 1 := by omega
  have i1 : (0 : Int) ≤ (r.length : Int) + 1 := by omega
  have i2 : ((r.length : Int) + 1 == 0) = false := by simp; omega
  generalize a.toNat = x at *
  go_enter Tryz.func151, Tryz.ntmps151
  go_wp2
  go_ret
  exact ⟨rfl, Below.refl _ _⟩

set_option maxRecDepth 100000 in
set_option maxHeartbeats 2000000 in
theorem fullLong_241 (a : UInt8) (r : List UInt8) (q : Option Addr) (cap : Nat) (w : World) (h : Bs w w.heap.size q (a :: r)) (ht : Tabs w) (hx : firstX a.toNat = 241) (hs : 1 ≤ r.length + 1) :
    Calls Tryz.prog 151 #[.slice q (r.length + 1) cap] w fun e w' => e = .returned (.bool true) ∧ Below w.heap.size w w' := by
  obtain ⟨bl, off, rfl, _, hc⟩ := h (by simp)
  have e0 := hc 0 (by simp)
  simp at e0
  have t0 := ht.first a.toNat (byte_lt' a)
  rw [hx] at t0
  have lo := ht.l0
  have hi := ht.h0
  have z0 := ht.lt0
  have z1 := ht.lt1
  have ha := byte_lt' a
  clear hc ht hx h
  have i0 : (0 : Int) < (r.length : Int) + 1 := by omega
  have i1 : (1 : Int) ≤ (r.length : Int) + 1 := by omega
  have i2 : ((r.length : Int) + 1 == 0) = false := by simp; omega
  generalize a.toNat = x at *
  go_enter Tryz.func151, Tryz.ntmps151
  go_wp2
  go_ret
  exact ⟨rfl, Below.refl _ _⟩

set_option maxRecDepth 100000 in
set_option maxHeartbeats 2000000 in
theorem fullLong_2 (a : UInt8) (r : List UInt8) (q : Option Addr) (cap : Nat) (w : World) (h : Bs w w.heap.size q (a :: r)) (ht : Tabs w) (hx : firstX a.toNat = 2) (hs : 2 ≤ r.length + 1) :
    Calls Tryz.prog 151 #[.slice q (r.length + 1) cap] w fun e w' => e = .returned (.bool true) ∧ Below w.heap.size w w' := by
  obtain ⟨bl, off, rfl, _, hc⟩ := h (by simp)
  have e0 := hc 0 (by simp)
  simp at e0
  have t0 := ht.first a.toNat (byte_lt' a)
  rw [hx] at t0
  have lo := ht.l0
  have hi := ht.h0
  have z0 := ht.lt0
  have z1 := ht.lt1
  have ha := byte_lt' a
  clear hc ht hx h
  have i0 : (0 : Int) < (r.length : Int) + 1 := by omega
  have i1 : (2 : Int) ≤ (r.length : Int) + 1 := by omega
  have i2 : ((r.length : Int) + 1 == 0) = false := by simp; omega
  generalize a.toNat = x at *
  go_enter Tryz.func151, Tryz.ntmps151
  go_wp2
  go_ret
  exact ⟨rfl, Below.refl _ _⟩

set_option maxRecDepth 100000 in
set_option maxHeartbeats 2000000 in
theorem fullLong_19 (a : UInt8) (r : List UInt8) (q : Option Addr) (cap : Nat) (w : World) (h : Bs w w.heap.size q (a :: r)) (ht : Tabs w) (hx : firstX a.toNat = 19) (hs : 3 ≤ r.length + 1) :
    Calls Tryz.prog 151 #[.slice q (r.length + 1) cap] w fun e w' => e = .returned (.bool true) ∧ Below w.heap.size w w' := by
  obtain ⟨bl, off, rfl, _, hc⟩ := h (by simp)
  have e0 := hc 0 (by simp)
  simp at e0
  have t0 := ht.first a.toNat (byte_lt' a)
  rw [hx] at t0
  have lo := ht.l1
  have hi := ht.h1
  have z0 := ht.lt0
  have z1 := ht.lt1
  have ha := byte_lt' a
  clear hc ht hx h
  have i0 : (0 : Int) < (r.length : Int) + 1 := by omega
  have i1 : (3 : Int) ≤ (r.length : Int) + 1 := by omega
  have i2 : ((r.length : Int) + 1 == 0) = false := by simp; omega
  generalize a.toNat = x at *
  go_enter Tryz.func151, Tryz.ntmps151
  go_wp2
  go_ret
  exact ⟨rfl, Below.refl _ _⟩

set_option maxRecDepth 100000 in
set_option maxHeartbeats 2000000 in
theorem fullLong_3 (a : UInt8) (r : List UInt8) (q : Option Addr) (cap : Nat) (w : World) (h : Bs w w.heap.size q (a :: r)) (ht : Tabs w) (hx : firstX a.toNat = 3) (hs : 3 ≤ r.length + 1) :
    Calls Tryz.prog 151 #[.slice q (r.length + 1) cap] w fun e w' => e = .returned (.bool true) ∧ Below w.heap.size w w' := by
  obtain ⟨bl, off, rfl, _, hc⟩ := h (by simp)
  have e0 := hc 0 (by simp)
  simp at e0
  have t0 := ht.first a.toNat (byte_lt' a)
  rw [hx] at t0
  have lo := ht.l0
  have hi := ht.h0
  have z0 := ht.lt0
  have z1 := ht.lt1
  have ha := byte_lt' a
  clear hc ht hx h
  have i0 : (0 : Int) < (r.length : Int) + 1 := by omega
  have i1 : (3 : Int) ≤ (r.length : Int) + 1 := by omega
  have i2 : ((r.length : Int) + 1 == 0) = false := by simp; omega
  generalize a.toNat = x at *
  go_enter Tryz.func151, Tryz.ntmps151
  go_wp2
  go_ret
  exact ⟨rfl, Below.refl _ _⟩

set_option maxRecDepth 100000 in
set_option maxHeartbeats 2000000 in
theorem fullLong_35 (a : UInt8) (r : List UInt8) (q : Option Addr) (cap : Nat) (w : World) (h : Bs w w.heap.size q (a :: r)) (ht : Tabs w) (hx : firstX a.toNat = 35) (hs : 3 ≤ r.length + 1) :
    Calls Tryz.prog 151 #[.slice q (r.length + 1) cap] w fun e w' => e = .returned (.bool true) ∧ Below w.heap.size w w' := by
  obtain ⟨bl, off, rfl, _, hc⟩ := h (by simp)
  have e0 := hc 0 (by simp)
  simp at e0
  have t0 := ht.first a.toNat (byte_lt' a)
  rw [hx] at t0
  have lo := ht.l2
  have hi := ht.h2
  have z0 := ht.lt0
  have z1 := ht.lt1
  have ha := byte_lt' a
  clear hc ht hx h
  have i0 : (0 : Int) < (r.length : Int) + 1 := by omega
  have i1 : (3 : Int) ≤ (r.length : Int) + 1 := by omega
  have i2 : ((r.length : Int) + 1 == 0) = false := by simp; omega
  generalize a.toNat = x at *
  go_enter Tryz.func151, Tryz.ntmps151
  go_wp2
  go_ret
  exact ⟨rfl, Below.refl _ _⟩

set_option maxRecDepth 100000 in
set_option maxHeartbeats 2000000 in
theorem fullLong_52 (a : UInt8) (r : List UInt8) (q : Option Addr) (cap : Nat) (w : World) (h : Bs w w.heap.size q (a :: r)) (ht : Tabs w) (hx : firstX a.toNat = 52) (hs : 4 ≤ r.length + 1) :
    Calls Tryz.prog 151 #[.slice q (r.length + 1) cap] w fun e w' => e = .returned (.bool true) ∧ Below w.heap.size w w' := by
  obtain ⟨bl, off, rfl, _, hc⟩ := h (by simp)
  have e0 := hc 0 (by simp)
  simp at e0
  have t0 := ht.first a.toNat (byte_lt' a)
  rw [hx] at t0
  have lo := ht.l3
  have hi := ht.h3
  have z0 := ht.lt0
  have z1 := ht.lt1
  have ha := byte_lt' a
  clear hc ht hx h
  have i0 : (0 : Int) < (r.length : Int) + 1 := by omega
  have i1 : (4 : Int) ≤ (r.length : Int) + 1 := by omega
  have i2 : ((r.length : Int) + 1 == 0) = false := by simp; omega
  generalize a.toNat = x at *
  go_enter Tryz.func151, Tryz.ntmps151
  go_wp2
  go_ret
  exact ⟨rfl, Below.refl _ _⟩

set_option maxRecDepth 100000 in
set_option maxHeartbeats 2000000 in
theorem fullLong_4 (a : UInt8) (r : List UInt8) (q : Option Addr) (cap : Nat) (w : World) (h : Bs w w.heap.size q (a :: r)) (ht : Tabs w) (hx : firstX a.toNat = 4) (hs : 4 ≤ r.length + 1) :
    Calls Tryz.prog 151 #[.slice q (r.length + 1) cap] w fun e w' => e = .returned (.bool true) ∧ Below w.heap.size w w' := by
  obtain ⟨bl, off, rfl, _, hc⟩ := h (by simp)
  have e0 := hc 0 (by simp)
  simp at e0
  have t0 := ht.first a.toNat (byte_lt' a)
  rw [hx] at t0
  have lo := ht.l0
  have hi := ht.h0
  have z0 := ht.lt0
  have z1 := ht.lt1
  have ha := byte_lt' a
  clear hc ht hx h
  have i0 : (0 : Int) < (r.length : Int) + 1 := by omega
  have i1 : (4 : Int) ≤ (r.length : Int) + 1 := by omega
  have i2 : ((r.length : Int) + 1 == 0) = false := by simp; omega
  generalize a.toNat = x at *
  go_enter Tryz.func151, Tryz.ntmps151
  go_wp2
  go_ret
  exact ⟨rfl, Below.refl _ _⟩

set_option maxRecDepth 100000 in
set_option maxHeartbeats 2000000 in
theorem fullLong_68 (a : UInt8) (r : List UInt8) (q : Option Addr) (cap : Nat) (w : World) (h : Bs w w.heap.size q (a :: r)) (ht : Tabs w) (hx : firstX a.toNat = 68) (hs : 4 ≤ r.length + 1) :
    Calls Tryz.prog 151 #[.slice q (r.length + 1) cap] w fun e w' => e = .returned (.bool true) ∧ Below w.heap.size w w' := by
  obtain ⟨bl, off, rfl, _, hc⟩ := h (by simp)
  have e0 := hc 0 (by simp)
  simp at e0
  have t0 := ht.first a.toNat (byte_lt' a)
  rw [hx] at t0
  have lo := ht.l4
  have hi := ht.h4
  have z0 := ht.lt0
  have z1 := ht.lt1
  have ha := byte_lt' a
  clear hc ht hx h
  have i0 : (0 : Int) < (r.length : Int) + 1 := by omega
  have i1 : (4 : Int) ≤ (r.length : Int) + 1 := by omega
  have i2 : ((r.length : Int) + 1 == 0) = false := by simp; omega
  generalize a.toNat = x at *
  go_enter Tryz.func151, Tryz.ntmps151
  go_wp2
  go_ret
  exact ⟨rfl, Below.refl _ _⟩

set_option maxRecDepth 100000 in
set_option maxHeartbeats 4000000 in
theorem fullShort_2_1 (a : UInt8) (q : Option Addr) (cap : Nat) (w : World) (h : Bs w w.heap.size q [a]) (ht : Tabs w) (hx : firstX a.toNat = 2) :
    Calls Tryz.prog 151 #[.slice q 1 cap] w fun e w' => e = .returned (.bool false) ∧ Below w.heap.size w w' := by
  obtain ⟨bl, off, rfl, _, hc⟩ := h (by simp)
  have e0 := hc 0 (by simp)
  simp at e0
  have t0 := ht.first a.toNat (byte_lt' a)
  rw [hx] at t0
  have lo := ht.l0
  have hi := ht.h0
  have z0 := ht.lt0
  have z1 := ht.lt1
  have ha := byte_lt' a
  clear hc ht hx h
  generalize a.toNat = x at *
  go_enter Tryz.func151, Tryz.ntmps151
  go_wp2
  go_quiet (fail)
  go_wp2
  go_ret
  exact ⟨ret_bool (by rfl), below_drewN ((Below.refl _ _).alloc (Nat.le_refl _) _) _⟩

set_option maxRecDepth 100000 in
set_option maxHeartbeats 4000000 in
theorem fullShort_19_1 (a : UInt8) (q : Option Addr) (cap : Nat) (w : World) (h : Bs w w.heap.size q [a]) (ht : Tabs w) (hx : firstX a.toNat = 19) :
    Calls Tryz.prog 151 #[.slice q 1 cap] w fun e w' => e = .returned (.bool false) ∧ Below w.heap.size w w' := by
  obtain ⟨bl, off, rfl, _, hc⟩ := h (by simp)
  have e0 := hc 0 (by simp)
  simp at e0
  have t0 := ht.first a.toNat (byte_lt' a)
  rw [hx] at t0
  have lo := ht.l1
  have hi := ht.h1
  have z0 := ht.lt0
  have z1 := ht.lt1
  have ha := byte_lt' a
  clear hc ht hx h
  generalize a.toNat = x at *
  go_enter Tryz.func151, Tryz.ntmps151
  go_wp2
  go_quiet (fail)
  go_wp2
  go_ret
  exact ⟨ret_bool (by rfl), below_drewN ((Below.refl _ _).alloc (Nat.le_refl _) _) _⟩

set_option maxRecDepth 100000 in
set_option maxHeartbeats 4000000 in
theorem fullShort_19_2 (a b : UInt8) (q : Option Addr) (cap : Nat) (w : World) (h : Bs w w.heap.size q [a, b]) (ht : Tabs w) (hx : firstX a.toNat = 19) :
    Calls Tryz.prog 151 #[.slice q 2 cap] w fun e w' => e = .returned (.bool (!mid 160 191 b)) ∧ Below w.heap.size w w' := by
  obtain ⟨bl, off, rfl, _, hc⟩ := h (by simp)
  have e0 := hc 0 (by simp)
  have e1 := hc 1 (by simp)
  simp at e0 e1
  have t0 := ht.first a.toNat (byte_lt' a)
  rw [hx] at t0
  have lo := ht.l1
  have hi := ht.h1
  have z0 := ht.lt0
  have z1 := ht.lt1
  have ha := byte_lt' a
  have g0 := byte_lt' b
  clear hc ht hx h
  unfold mid
  generalize a.toNat = x at *
  generalize b.toNat = y0 at *
  by_cases k1 : (y0 : Int) < 160
  · go_enter Tryz.func151, Tryz.ntmps151
    go_wp2
    go_quiet (fail)
    go_wp2
    go_ret
    exact ⟨ret_bool (by simp; omega), below_drewN ((Below.refl _ _).alloc (Nat.le_refl _) _) _⟩
  have k1' : decide ((y0 : Int) < 160) = false := by simpa using k1
  by_cases k2 : 191 < (y0 : Int)
  · go_enter Tryz.func151, Tryz.ntmps151
    go_wp2
    go_quiet (fail)
    go_wp2
    go_ret
    exact ⟨ret_bool (by simp; omega), below_drewN ((Below.refl _ _).alloc (Nat.le_refl _) _) _⟩
  have k2' : decide (191 < (y0 : Int)) = false := by simpa using k2
  go_enter Tryz.func151, Tryz.ntmps151
  go_wp2
  go_quiet (fail)
  go_wp2
  go_ret
  exact ⟨ret_bool (by simp; omega), below_drewN ((Below.refl _ _).alloc (Nat.le_refl _) _) _⟩

set_option maxRecDepth 100000 in
set_option maxHeartbeats 4000000 in
theorem fullShort_3_1 (a : UInt8) (q : Option Addr) (cap : Nat) (w : World) (h : Bs w w.heap.size q [a]) (ht : Tabs w) (hx : firstX a.toNat = 3) :
    Calls Tryz.prog 151 #[.slice q 1 cap] w fun e w' => e = .returned (.bool false) ∧ Below w.heap.size w w' := by
  obtain ⟨bl, off, rfl, _, hc⟩ := h (by simp)
  have e0 := hc 0 (by simp)
  simp at e0
  have t0 := ht.first a.toNat (byte_lt' a)
  rw [hx] at t0
  have lo := ht.l0
  have hi := ht.h0
  have z0 := ht.lt0
  have z1 := ht.lt1
  have ha := byte_lt' a
  clear hc ht hx h
  generalize a.toNat = x at *
  go_enter Tryz.func151, Tryz.ntmps151
  go_wp2
  go_quiet (fail)
  go_wp2
  go_ret
  exact ⟨ret_bool (by rfl), below_drewN ((Below.refl _ _).alloc (Nat.le_refl _) _) _⟩

set_option maxRecDepth 100000 in
set_option maxHeartbeats 4000000 in
theorem fullShort_3_2 (a b : UInt8) (q : Option Addr) (cap : Nat) (w : World) (h : Bs w w.heap.size q [a, b]) (ht : Tabs w) (hx : firstX a.toNat = 3) :
    Calls Tryz.prog 151 #[.slice q 2 cap] w fun e w' => e = .returned (.bool (!mid 128 191 b)) ∧ Below w.heap.size w w' := by
  obtain ⟨bl, off, rfl, _, hc⟩ := h (by simp)
  have e0 := hc 0 (by simp)
  have e1 := hc 1 (by simp)
  simp at e0 e1
  have t0 := ht.first a.toNat (byte_lt' a)
  rw [hx] at t0
  have lo := ht.l0
  have hi := ht.h0
  have z0 := ht.lt0
  have z1 := ht.lt1
  have ha := byte_lt' a
  have g0 := byte_lt' b
  clear hc ht hx h
  unfold mid
  generalize a.toNat = x at *
  generalize b.toNat = y0 at *
  by_cases k1 : (y0 : Int) < 128
  · go_enter Tryz.func151, Tryz.ntmps151
    go_wp2
    go_quiet (fail)
    go_wp2
    go_ret
    exact ⟨ret_bool (by simp; omega), below_drewN ((Below.refl _ _).alloc (Nat.le_refl _) _) _⟩
  have k1' : decide ((y0 : Int) < 128) = false := by simpa using k1
  by_cases k2 : 191 < (y0 : Int)
  · go_enter Tryz.func151, Tryz.ntmps151
    go_wp2
    go_quiet (fail)
    go_wp2
    go_ret
    exact ⟨ret_bool (by simp; omega), below_drewN ((Below.refl _ _).alloc (Nat.le_refl _) _) _⟩
  have k2' : decide (191 < (y0 : Int)) = false := by simpa using k2
  go_enter Tryz.func151, Tryz.ntmps151
  go_wp2
  go_quiet (fail)
  go_wp2
  go_ret
  exact ⟨ret_bool (by simp; omega), below_drewN ((Below.refl _ _).alloc (Nat.le_refl _) _) _⟩

set_option maxRecDepth 100000 in
set_option maxHeartbeats 4000000 in
theorem fullShort_35_1 (a : UInt8) (q : Option Addr) (cap : Nat) (w : World) (h : Bs w w.heap.size q [a]) (ht : Tabs w) (hx : firstX a.toNat = 35) :
    Calls Tryz.prog 151 #[.slice q 1 cap] w fun e w' => e = .returned (.bool false) ∧ Below w.heap.size w w' := by
  obtain ⟨bl, off, rfl, _, hc⟩ := h (by simp)
  have e0 := hc 0 (by simp)
  simp at e0
  have t0 := ht.first a.toNat (byte_lt' a)
  rw [hx] at t0
  have lo := ht.l2
  have hi := ht.h2
  have z0 := ht.lt0
  have z1 := ht.lt1
  have ha := byte_lt' a
  clear hc ht hx h
  generalize a.toNat = x at *
  go_enter Tryz.func151, Tryz.ntmps151
  go_wp2
  go_quiet (fail)
  go_wp2
  go_ret
  exact ⟨ret_bool (by rfl), below_drewN ((Below.refl _ _).alloc (Nat.le_refl _) _) _⟩

set_option maxRecDepth 100000 in
set_option maxHeartbeats 4000000 in
theorem fullShort_35_2 (a b : UInt8) (q : Option Addr) (cap : Nat) (w : World) (h : Bs w w.heap.size q [a, b]) (ht : Tabs w) (hx : firstX a.toNat = 35) :
    Calls Tryz.prog 151 #[.slice q 2 cap] w fun e w' => e = .returned (.bool (!mid 128 159 b)) ∧ Below w.heap.size w w' := by
  obtain ⟨bl, off, rfl, _, hc⟩ := h (by simp)
  have e0 := hc 0 (by simp)
  have e1 := hc 1 (by simp)
  simp at e0 e1
  have t0 := ht.first a.toNat (byte_lt' a)
  rw [hx] at t0
  have lo := ht.l2
  have hi := ht.h2
  have z0 := ht.lt0
  have z1 := ht.lt1
  have ha := byte_lt' a
  have g0 := byte_lt' b
  clear hc ht hx h
  unfold mid
  generalize a.toNat = x at *
  generalize b.toNat = y0 at *
  by_cases k1 : (y0 : Int) < 128
  · go_enter Tryz.func151, Tryz.ntmps151
    go_wp2
    go_quiet (fail)
    go_wp2
    go_ret
    exact ⟨ret_bool (by simp; omega), below_drewN ((Below.refl _ _).alloc (Nat.le_refl _) _) _⟩
  have k1' : decide ((y0 : Int) < 128) = false := by simpa using k1
  by_cases k2 : 159 < (y0 : Int)
  · go_enter Tryz.func151, Tryz.ntmps151
    go_wp2
    go_quiet (fail)
    go_wp2
    go_ret
    exact ⟨ret_bool (by simp; omega), below_drewN ((Below.refl _ _).alloc (Nat.le_refl _) _) _⟩
  have k2' : decide (159 < (y0 : Int)) = false := by simpa using k2
  go_enter Tryz.func151, Tryz.ntmps151
  go_wp2
  go_quiet (fail)
  go_wp2
  go_ret
  exact ⟨ret_bool (by simp; omega), below_drewN ((Below.refl _ _).alloc (Nat.le_refl _) _) _⟩

set_option maxRecDepth 100000 in
set_option maxHeartbeats 4000000 in
theorem fullShort_52_1 (a : UInt8) (q : Option Addr) (cap : Nat) (w : World) (h : Bs w w.heap.size q [a]) (ht : Tabs w) (hx : firstX a.toNat = 52) :
    Calls Tryz.prog 151 #[.slice q 1 cap] w fun e w' => e = .returned (.bool false) ∧ Below w.heap.size w w' := by
  obtain ⟨bl, off, rfl, _, hc⟩ := h (by simp)
  have e0 := hc 0 (by simp)
  simp at e0
  have t0 := ht.first a.toNat (byte_lt' a)
  rw [hx] at t0
  have lo := ht.l3
  have hi := ht.h3
  have z0 := ht.lt0
  have z1 := ht.lt1
  have ha := byte_lt' a
  clear hc ht hx h
  generalize a.toNat = x at *
  go_enter Tryz.func151, Tryz.ntmps151
  go_wp2
  go_quiet (fail)
  go_wp2
  go_ret
  exact ⟨ret_bool (by rfl), below_drewN ((Below.refl _ _).alloc (Nat.le_refl _) _) _⟩

set_option maxRecDepth 100000 in
set_option maxHeartbeats 4000000 in
theorem fullShort_52_2 (a b : UInt8) (q : Option Addr) (cap : Nat) (w : World) (h : Bs w w.heap.size q [a, b]) (ht : Tabs w) (hx : firstX a.toNat = 52) :
    Calls Tryz.prog 151 #[.slice q 2 cap] w fun e w' => e = .returned (.bool (!mid 144 191 b)) ∧ Below w.heap.size w w' := by
  obtain ⟨bl, off, rfl, _, hc⟩ := h (by simp)
  have e0 := hc 0 (by simp)
  have e1 := hc 1 (by simp)
  simp at e0 e1
  have t0 := ht.first a.toNat (byte_lt' a)
  rw [hx] at t0
  have lo := ht.l3
  have hi := ht.h3
  have z0 := ht.lt0
  have z1 := ht.lt1
  have ha := byte_lt' a
  have g0 := byte_lt' b
  clear hc ht hx h
  unfold mid
  generalize a.toNat = x at *
  generalize b.toNat = y0 at *
  by_cases k1 : (y0 : Int) < 144
  · go_enter Tryz.func151, Tryz.ntmps151
    go_wp2
    go_quiet (fail)
    go_wp2
    go_ret
    exact ⟨ret_bool (by simp; omega), below_drewN ((Below.refl _ _).alloc (Nat.le_refl _) _) _⟩
  have k1' : decide ((y0 : Int) < 144) = false := by simpa using k1
  by_cases k2 : 191 < (y0 : Int)
  · go_enter Tryz.func151, Tryz.ntmps151
    go_wp2
    go_quiet (fail)
    go_wp2
    go_ret
    exact ⟨ret_bool (by simp; omega), below_drewN ((Below.refl _ _).alloc (Nat.le_refl _) _) _⟩
  have k2' : decide (191 < (y0 : Int)) = false := by simpa using k2
  go_enter Tryz.func151, Tryz.ntmps151
  go_wp2
  go_quiet (fail)
  go_wp2
  go_ret
  exact ⟨ret_bool (by simp; omega), below_drewN ((Below.refl _ _).alloc (Nat.le_refl _) _) _⟩

set_option maxRecDepth 100000 in
set_option maxHeartbeats 4000000 in
theorem fullShort_52_3 (a b c : UInt8) (q : Option Addr) (cap : Nat) (w : World) (h : Bs w w.heap.size q [a, b, c]) (ht : Tabs w) (hx : firstX a.toNat = 52) :
    Calls Tryz.prog 151 #[.slice q 3 cap] w fun e w' => e = .returned (.bool (!(mid 144 191 b && mid 128 191 c))) ∧ Below w.heap.size w w' := by
  obtain ⟨bl, off, rfl, _, hc⟩ := h (by simp)
  have e0 := hc 0 (by simp)
  have e1 := hc 1 (by simp)
  have e2 := hc 2 (by simp)
  simp at e0 e1 e2
  have t0 := ht.first a.toNat (byte_lt' a)
  rw [hx] at t0
  have lo := ht.l3
  have hi := ht.h3
  have z0 := ht.lt0
  have z1 := ht.lt1
  have ha := byte_lt' a
  have g0 := byte_lt' b
  have g1 := byte_lt' c
  clear hc ht hx h
  unfold mid
  generalize a.toNat = x at *
  generalize b.toNat = y0 at *
  generalize c.toNat = y1 at *
  by_cases k1 : (y0 : Int) < 144
  · go_enter Tryz.func151, Tryz.ntmps151
    go_wp2
    go_quiet (fail)
    go_wp2
    go_ret
    exact ⟨ret_bool (by simp; omega), below_drewN ((Below.refl _ _).alloc (Nat.le_refl _) _) _⟩
  have k1' : decide ((y0 : Int) < 144) = false := by simpa using k1
  by_cases k2 : 191 < (y0 : Int)
  · go_enter Tryz.func151, Tryz.ntmps151
    go_wp2
    go_quiet (fail)
    go_wp2
    go_ret
    exact ⟨ret_bool (by simp; omega), below_drewN ((Below.refl _ _).alloc (Nat.le_refl _) _) _⟩
  have k2' : decide (191 < (y0 : Int)) = false := by simpa using k2
  by_cases k3 : (y1 : Int) < 128
  · go_enter Tryz.func151, Tryz.ntmps151
    go_wp2
    go_quiet (fail)
    go_wp2
    go_ret
    exact ⟨ret_bool (by simp; omega), below_drewN ((Below.refl _ _).alloc (Nat.le_refl _) _) _⟩
  have k3' : decide ((y1 : Int) < 128) = false := by simpa using k3
  by_cases k4 : 191 < (y1 : Int)
  · go_enter Tryz.func151, Tryz.ntmps151
    go_wp2
    go_quiet (fail)
    go_wp2
    go_ret
    exact ⟨ret_bool (by simp; omega), below_drewN ((Below.refl _ _).alloc (Nat.le_refl _) _) _⟩
  have k4' : decide (191 < (y1 : Int)) = false := by simpa using k4
  go_enter Tryz.func151, Tryz.ntmps151
  go_wp2
  go_quiet (fail)
  go_wp2
  go_ret
  exact ⟨ret_bool (by simp; omega), below_drewN ((Below.refl _ _).alloc (Nat.le_refl _) _) _⟩

set_option maxRecDepth 100000 in
set_option maxHeartbeats 4000000 in
theorem fullShort_4_1 (a : UInt8) (q : Option Addr) (cap : Nat) (w : World) (h : Bs w w.heap.size q [a]) (ht : Tabs w) (hx : firstX a.toNat = 4) :
    Calls Tryz.prog 151 #[.slice q 1 cap] w fun e w' => e = .returned (.bool false) ∧ Below w.heap.size w w' := by
  obtain ⟨bl, off, rfl, _, hc⟩ := h (by simp)
  have e0 := hc 0 (by simp)
  simp at e0
  have t0 := ht.first a.toNat (byte_lt' a)
  rw [hx] at t0
  have lo := ht.l0
  have hi := ht.h0
  have z0 := ht.lt0
  have z1 := ht.lt1
  have ha := byte_lt' a
  clear hc ht hx h
  generalize a.toNat = x at *
  go_enter Tryz.func151, Tryz.ntmps151
  go_wp2
  go_quiet (fail)
  go_wp2
  go_ret
  exact ⟨ret_bool (by rfl), below_drewN ((Below.refl _ _).alloc (Nat.le_refl _) _) _⟩

set_option maxRecDepth 100000 in
set_option maxHeartbeats 4000000 in
theorem fullShort_4_2 (a b : UInt8) (q : Option Addr) (cap : Nat) (w : World) (h : Bs w w.heap.size q [a, b]) (ht : Tabs w) (hx : firstX a.toNat = 4) :
    Calls Tryz.prog 151 #[.slice q 2 cap] w fun e w' => e = .returned (.bool (!mid 128 191 b)) ∧ Below w.heap.size w w' := by
  obtain ⟨bl, off, rfl, _, hc⟩ := h (by simp)
  have e0 := hc 0 (by simp)
  have e1 := hc 1 (by simp)
  simp at e0 e1
  have t0 := ht.first a.toNat (byte_lt' a)
  rw [hx] at t0
  have lo := ht.l0
  have hi := ht.h0
  have z0 := ht.lt0
  have z1 := ht.lt1
  have ha := byte_lt' a
  have g0 := byte_lt' b
  clear hc ht hx h
  unfold mid
  generalize a.toNat = x at *
  generalize b.toNat = y0 at *
  by_cases k1 : (y0 : Int) < 128
  · go_enter Tryz.func151, Tryz.ntmps151
    go_wp2
    go_quiet (fail)
    go_wp2
    go_ret
    exact ⟨ret_bool (by simp; omega), below_drewN ((Below.refl _ _).alloc (Nat.le_refl _) _) _⟩
  have k1' : decide ((y0 : Int) < 128) = false := by simpa using k1
  by_cases k2 : 191 < (y0 : Int)
  · go_enter Tryz.func151, Tryz.ntmps151
    go_wp2
    go_quiet (fail)
    go_wp2
    go_ret
    exact ⟨ret_bool (by simp; omega), below_drewN ((Below.refl _ _).alloc (Nat.le_refl _) _) _⟩
  have k2' : decide (191 < (y0 : Int)) = false := by simpa using k2
  go_enter Tryz.func151, Tryz.ntmps151
  go_wp2
  go_quiet (fail)
  go_wp2
  go_ret
  exact ⟨ret_bool (by simp; omega), below_drewN ((Below.refl _ _).alloc (Nat.le_refl _) _) _⟩

set_option maxRecDepth 100000 in
set_option maxHeartbeats 4000000 in
theorem fullShort_4_3 (a b c : UInt8) (q : Option Addr) (cap : Nat) (w : World) (h : Bs w w.heap.size q [a, b, c]) (ht : Tabs w) (hx : firstX a.toNat = 4) :
    Calls Tryz.prog 151 #[.slice q 3 cap] w fun e w' => e = .returned (.bool (!(mid 128 191 b && mid 128 191 c))) ∧ Below w.heap.size w w' := by
  obtain ⟨bl, off, rfl, _, hc⟩ := h (by simp)
  have e0 := hc 0 (by simp)
  have e1 := hc 1 (by simp)
  have e2 := hc 2 (by simp)
  simp at e0 e1 e2
  have t0 := ht.first a.toNat (byte_lt' a)
  rw [hx] at t0
  have lo := ht.l0
  have hi := ht.h0
  have z0 := ht.lt0
  have z1 := ht.lt1
  have ha := byte_lt' a
  have g0 := byte_lt' b
  have g1 := byte_lt' c
  clear hc ht hx h
  unfold mid
  generalize a.toNat = x at *
  generalize b.toNat = y0 at *
  generalize c.toNat = y1 at *
  by_cases k1 : (y0 : Int) < 128
  · go_enter Tryz.func151, Tryz.ntmps151
    go_wp2
    go_quiet (fail)
    go_wp2
    go_ret
    exact ⟨ret_bool (by simp; omega), below_drewN ((Below.refl _ _).alloc (Nat.le_refl _) _) _⟩
  have k1' : decide ((y0 : Int) < 128) = false := by simpa using k1
  by_cases k2 : 191 < (y0 : Int)
  · go_enter Tryz.func151, Tryz.ntmps151
    go_wp2
    go_quiet (fail)
    go_wp2
    go_ret
    exact ⟨ret_bool (by simp; omega), below_drewN ((Below.refl _ _).alloc (Nat.le_refl _) _) _⟩
  have k2' : decide (191 < (y0 : Int)) = false := by simpa using k2
  by_cases k3 : (y1 : Int) < 128
  · go_enter Tryz.func151, Tryz.ntmps151
    go_wp2
    go_quiet (fail)
    go_wp2
    go_ret
    exact ⟨ret_bool (by simp; omega), below_drewN ((Below.refl _ _).alloc (Nat.le_refl _) _) _⟩
  have k3' : decide ((y1 : Int) < 128) = false := by simpa using k3
  by_cases k4 : 191 < (y1 : Int)
  · go_enter Tryz.func151, Tryz.ntmps151
    go_wp2
    go_quiet (fail)
    go_wp2
    go_ret
    exact ⟨ret_bool (by simp; omega), below_drewN ((Below.refl _ _).alloc (Nat.le_refl _) _) _⟩
  have k4' : decide (191 < (y1 : Int)) = false := by simpa using k4
  go_enter Tryz.func151, Tryz.ntmps151
  go_wp2
  go_quiet (fail)
  go_wp2
  go_ret
  exact ⟨ret_bool (by simp; omega), below_drewN ((Below.refl _ _).alloc (Nat.le_refl _) _) _⟩

set_option maxRecDepth 100000 in
set_option maxHeartbeats 4000000 in
theorem fullShort_68_1 (a : UInt8) (q : Option Addr) (cap : Nat) (w : World) (h : Bs w w.heap.size q [a]) (ht : Tabs w) (hx : firstX a.toNat = 68) :
    Calls Tryz.prog 151 #[.slice q 1 cap] w fun e w' => e = .returned (.bool false) ∧ Below w.heap.size w w' := by
  obtain ⟨bl, off, rfl, _, hc⟩ := h (by simp)
  have e0 := hc 0 (by simp)
  simp at e0
  have t0 := ht.first a.toNat (byte_lt' a)
  rw [hx] at t0
  have lo := ht.l4
  have hi := ht.h4
  have z0 := ht.lt0
  have z1 := ht.lt1
  have ha := byte_lt' a
  clear hc ht hx h
  generalize a.toNat = x at *
  go_enter Tryz.func151, Tryz.ntmps151
  go_wp2
  go_quiet (fail)
  go_wp2
  go_ret
  exact ⟨ret_bool (by rfl), below_drewN ((Below.refl _ _).alloc (Nat.le_refl _) _) _⟩

set_option maxRecDepth 100000 in
set_option maxHeartbeats 4000000 in
theorem fullShort_68_2 (a b : UInt8) (q : Option Addr) (cap : Nat) (w : World) (h : Bs w w.heap.size q [a, b]) (ht : Tabs w) (hx : firstX a.toNat = 68) :
    Calls Tryz.prog 151 #[.slice q 2 cap] w fun e w' => e = .returned (.bool (!mid 128 143 b)) ∧ Below w.heap.size w w' := by
  obtain ⟨bl, off, rfl, _, hc⟩ := h (by simp)
  have e0 := hc 0 (by simp)
  have e1 := hc 1 (by simp)
  simp at e0 e1
  have t0 := ht.first a.toNat (byte_lt' a)
  rw [hx] at t0
  have lo := ht.l4
  have hi := ht.h4
  have z0 := ht.lt0
  have z1 := ht.lt1
  have ha := byte_lt' a
  have g0 := byte_lt' b
  clear hc ht hx h
  unfold mid
  generalize a.toNat = x at *
  generalize b.toNat = y0 at *
  by_cases k1 : (y0 : Int) < 128
  · go_enter Tryz.func151, Tryz.ntmps151
    go_wp2
    go_quiet (fail)
    go_wp2
    go_ret
    exact ⟨ret_bool (by simp; omega), below_drewN ((Below.refl _ _).alloc (Nat.le_refl _) _) _⟩
  have k1' : decide ((y0 : Int) < 128) = false := by simpa using k1
  by_cases k2 : 143 < (y0 : Int)
  · go_enter Tryz.func151, Tryz.ntmps151
    go_wp2
    go_quiet (fail)
    go_wp2
    go_ret
    exact ⟨ret_bool (by simp; omega), below_drewN ((Below.refl _ _).alloc (Nat.le_refl _) _) _⟩
  have k2' : decide (143 < (y0 : Int)) = false := by simpa using k2
  go_enter Tryz.func151, Tryz.ntmps151
  go_wp2
  go_quiet (fail)
  go_wp2
  go_ret
  exact ⟨ret_bool (by simp; omega), below_drewN ((Below.refl _ _).alloc (Nat.le_refl _) _) _⟩

set_option maxRecDepth 100000 in
set_option maxHeartbeats 4000000 in
theorem fullShort_68_3 (a b c : UInt8) (q : Option Addr) (cap : Nat) (w : World) (h : Bs w w.heap.size q [a, b, c]) (ht : Tabs w) (hx : firstX a.toNat = 68) :
    Calls Tryz.prog 151 #[.slice q 3 cap] w fun e w' => e = .returned (.bool (!(mid 128 143 b && mid 128 191 c))) ∧ Below w.heap.size w w' := by
  obtain ⟨bl, off, rfl, _, hc⟩ := h (by simp)
  have e0 := hc 0 (by simp)
  have e1 := hc 1 (by simp)
  have e2 := hc 2 (by simp)
  simp at e0 e1 e2
  have t0 := ht.first a.toNat (byte_lt' a)
  rw [hx] at t0
  have lo := ht.l4
  have hi := ht.h4
  have z0 := ht.lt0
  have z1 := ht.lt1
  have ha := byte_lt' a
  have g0 := byte_lt' b
  have g1 := byte_lt' c
  clear hc ht hx h
  unfold mid
  generalize a.toNat = x at *
  generalize b.toNat = y0 at *
  generalize c.toNat = y1 at *
  by_cases k1 : (y0 : Int) < 128
  · go_enter Tryz.func151, Tryz.ntmps151
    go_wp2
    go_quiet (fail)
    go_wp2
    go_ret
    exact ⟨ret_bool (by simp; omega), below_drewN ((Below.refl _ _).alloc (Nat.le_refl _) _) _⟩
  have k1' : decide ((y0 : Int) < 128) = false := by simpa using k1
  by_cases k2 : 143 < (y0 : Int)
  · go_enter Tryz.func151, Tryz.ntmps151
    go_wp2
    go_quiet (fail)
    go_wp2
    go_ret
    exact ⟨ret_bool (by simp; omega), below_drewN ((Below.refl _ _).alloc (Nat.le_refl _) _) _⟩
  have k2' : decide (143 < (y0 : Int)) = false := by simpa using k2
  by_cases k3 : (y1 : Int) < 128
  · go_enter Tryz.func151, Tryz.ntmps151
    go_wp2
    go_quiet (fail)
    go_wp2
    go_ret
    exact ⟨ret_bool (by simp; omega), below_drewN ((Below.refl _ _).alloc (Nat.le_refl _) _) _⟩
  have k3' : decide ((y1 : Int) < 128) = false := by simpa using k3
  by_cases k4 : 191 < (y1 : Int)
  · go_enter Tryz.func151, Tryz.ntmps151
    go_wp2
    go_quiet (fail)
    go_wp2
    go_ret
    exact ⟨ret_bool (by simp; omega), below_drewN ((Below.refl _ _).alloc (Nat.le_refl _) _) _⟩
  have k4' : decide (191 < (y1 : Int)) = false := by simpa using k4
  go_enter Tryz.func151, Tryz.ntmps151
  go_wp2
  go_quiet (fail)
  go_wp2
  go_ret
  exact ⟨ret_bool (by simp; omega), below_drewN ((Below.refl _ _).alloc (Nat.le_refl _) _) _⟩

end Go.Proofs.YtjopjddhgaiddabGreatDoor
