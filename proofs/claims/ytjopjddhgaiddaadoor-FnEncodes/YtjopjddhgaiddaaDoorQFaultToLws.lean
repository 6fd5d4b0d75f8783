/- The contracts of the program's EventFault and of what it calls. -/
import Derived.Test.YtjopjddhgaiddaaDoorQEvents
import Derived.BigGuardPart
import Derived.Test.YtjopjddhgaiddaaDoorQBytesToCells
namespace Go.Proofs.YtjopjddhgaiddaaDoor
open Go.RowKit

/-- old cells and marks read as before -/
theorem bcell {W w1 : World} (hb : Below W.heap.size W w1) : (∀ b o, b < W.heap.size → w1.cell? ⟨b, o, none⟩ = W.cell? ⟨b, o, none⟩) ∧ (∀ b o, b < W.heap.size → w1.frozen? ⟨b, o, none⟩ = W.frozen? ⟨b, o, none⟩) :=
  ⟨fun b o h => hb.cell (p := ⟨b, o, none⟩) h, fun b o h => hb.frozen (p := ⟨b, o, none⟩) h⟩

theorem bcell_at {W w1 : World} (hb : Below W.heap.size W w1) (b : Nat) (h : b < W.heap.size) : ∀ o, w1.cell? ⟨b, o, none⟩ = W.cell? ⟨b, o, none⟩ := fun o => hb.cell (p := ⟨b, o, none⟩) h

theorem bfrozen_at {W w1 : World} (hb : Below W.heap.size W w1) (b : Nat) (h : b < W.heap.size) : ∀ o, w1.frozen? ⟨b, o, none⟩ = W.frozen? ⟨b, o, none⟩ := fun o => hb.frozen (p := ⟨b, o, none⟩) h

/-- the numbers of an event are in range -/
def Ev.nums (e : Ev) : Bool :=
  if e.kind = 1 then keyCode e.code && inR e.mods 0 7
  else if e.kind = 2 then inR e.button 0 2 && (inR e.act 1 3 && (inR e.mods 0 7 && (inR e.col 0 199 && inR e.row 0 199)))
  else true
/-- its data are as many as its kind lets -/
def Ev.fits (e : Ev) : Bool :=
  if e.kind = 3 then inR e.data.length 1 32 else if e.kind = 4 then inR e.data.length 1 24 else true
/-- EventFault -/
def Ev.fault (e : Ev) : Int := if e.form = false then 1 else if e.nums = false then 3 else if e.fits = false then 2 else 0

theorem point_pairs (c : Int) : (inR c 0 55295 || inR c 57344 1114111) = point c := by
  rw [Bool.eq_iff_iff]; simp [point, inR]; omega

set_option maxHeartbeats 400000 in
theorem implIsPoint_any (c : Int) (w : World) :
    Calls Tryd.prog 79 #[.int .i64 c] w fun e w' => e = .returned (.bool (point c)) ∧ Below w.heap.size w w' := by
  have HP := Lib.hid (point_pairs c)
  go_enter Tryd.func79, Tryd.ntmps79
  go_wp2_with (go_at_call 55; refine (isWithin_four _ _ _ _ _ _ _ _ (by simp)).mono ?_; rintro e w' ⟨rfl, rfl⟩)
  go_ret
  exact ⟨ret_bool HP.out, (Below.refl _ _).alloc (Nat.le_refl _) _⟩

set_option maxHeartbeats 800000 in
theorem implIsKeyCode_any (c : Int) (w : World) :
    Calls Tryd.prog 77 #[.int .i64 c] w fun e w' => e = .returned (.bool (keyCode c)) ∧ Below w.heap.size w w' := by
  cases h0 : special c
  · cases h1 : point c
    · go_enter Tryd.func77, Tryd.ntmps77
      go_wp2_with (first
        | (go_at_call 60; refine (implIsSpecial_any _ _).mono ?_; rintro e w1 ⟨rfl, hb1⟩)
        | (go_at_call 79; refine (implIsPoint_any _ _).mono ?_; rintro e w2 ⟨rfl, hb2⟩))
      go_ret
      exact ⟨ret_bool (by simp [keyCode, h0, h1]), below_on hb1 hb2⟩
    · by_cases h2 : 32 ≤ c
      · cases h3 : (c != 127)
        all_goals
          go_enter Tryd.func77, Tryd.ntmps77
          go_wp2_with (first
            | (go_at_call 60; refine (implIsSpecial_any _ _).mono ?_; rintro e w1 ⟨rfl, hb1⟩)
            | (go_at_call 79; refine (implIsPoint_any _ _).mono ?_; rintro e w2 ⟨rfl, hb2⟩))
          go_ret
          exact ⟨ret_bool (by simp [keyCode, h0, h1, h2, h3]), below_on hb1 hb2⟩
      · go_enter Tryd.func77, Tryd.ntmps77
        go_wp2_with (first
          | (go_at_call 60; refine (implIsSpecial_any _ _).mono ?_; rintro e w1 ⟨rfl, hb1⟩)
          | (go_at_call 79; refine (implIsPoint_any _ _).mono ?_; rintro e w2 ⟨rfl, hb2⟩))
        go_ret
        exact ⟨ret_bool (by simp [keyCode, h0, h1]; omega), below_on hb1 hb2⟩
  · go_enter Tryd.func77, Tryd.ntmps77
    go_wp2_with (first
      | (go_at_call 60; refine (implIsSpecial_any _ _).mono ?_; rintro e w1 ⟨rfl, hb1⟩)
      | (go_at_call 79; refine (implIsPoint_any _ _).mono ?_; rintro e w2 ⟨rfl, hb2⟩))
    go_ret
    exact ⟨ret_bool (by simp [keyCode, h0]), hb1⟩

theorem zeros4 (a b c d : Int) : zeros [a, b, c, d] = (a == 0 && (b == 0 && (c == 0 && d == 0))) := by simp [zeros]
theorem zeros6 (a b c d x y : Int) : zeros [a, b, c, d, x, y] = (a == 0 && (b == 0 && (c == 0 && (d == 0 && (x == 0 && y == 0))))) := by simp [zeros]

/-- the kinds of an event, as the walks ask for them -/
theorem kinds (k : Int) : ((k == 1) = true ∧ (k == 2) = false ∧ (k == 3) = false ∧ (k == 4) = false) ∨ ((k == 1) = false ∧ (k == 2) = true ∧ (k == 3) = false ∧ (k == 4) = false) ∨
    ((k == 1) = false ∧ (k == 2) = false ∧ (k == 3) = true ∧ (k == 4) = false) ∨ ((k == 1) = false ∧ (k == 2) = false ∧ (k == 3) = false ∧ (k == 4) = true) ∨
    ((k == 1) = false ∧ (k == 2) = false ∧ (k == 3) = false ∧ (k == 4) = false) := by
  simp; omega

set_option maxHeartbeats 2000000 in
theorem hasForm_any (e : Ev) (p : Option Addr) (c : Nat) (w : World) :
    Calls Tryd.prog 56 #[evV e p c] w fun en w' => en = .returned (.bool e.form) ∧ Below w.heap.size w w' := by
  unfold evV
  have hl := len_zero e.data
  have Z4 := Lib.hid (zeros4 e.button e.act e.col e.row)
  have Z6 := Lib.hid (zeros6 e.code e.mods e.button e.act e.col e.row)
  rcases kinds e.kind with ⟨k1, k2, k3, k4⟩ | ⟨k1, k2, k3, k4⟩ | ⟨k1, k2, k3, k4⟩ | ⟨k1, k2, k3, k4⟩ | ⟨k1, k2, k3, k4⟩
  · have HF : Hid (e.form = (zeros [e.button, e.act, e.col, e.row] && e.data.isEmpty)) := by
      rw [Z4.out]; unfold Ev.form; rw [if_pos (by simpa using k1)]; rfl
    cases hz : zeros [e.button, e.act, e.col, e.row]
    all_goals
      go_enter Tryd.func56, Tryd.ntmps56
      go_wp2_with (go_at_call 76; refine (areZero_four _ _ _ _ _ _ _ (by simp)).mono ?_; rintro e w' ⟨rfl, rfl⟩)
      go_ret
      exact ⟨ret_bool (by rw [HF.out, hz]; simp), ((Below.refl _ _).alloc (Nat.le_refl _) _).alloc (by simp) _⟩
  · have HF : Hid (e.form = (e.code == 0 && e.data.isEmpty)) := by
      unfold Ev.form; rw [if_neg (by simpa using k1), if_pos (by simpa using k2)]; rfl
    cases hz : (e.code == 0)
    all_goals
      go_enter Tryd.func56, Tryd.ntmps56
      go_wp2
      go_ret
      exact ⟨ret_bool (by rw [HF.out, hz]; simp), (Below.refl _ _).alloc (Nat.le_refl _) _⟩
  · have HF : Hid (e.form = zeros [e.code, e.mods, e.button, e.act, e.col, e.row]) := by
      rw [Z6.out]; unfold Ev.form; rw [if_neg (by simpa using k1), if_neg (by simpa using k2), if_pos (.inl (by simpa using k3))]; rfl
    go_enter Tryd.func56, Tryd.ntmps56
    go_wp2_with (go_at_call 76; refine (areZero_six _ _ _ _ _ _ _ _ _ (by simp)).mono ?_; rintro e w' ⟨rfl, rfl⟩)
    go_ret
    exact ⟨ret_bool (by rw [HF.out]), ((Below.refl _ _).alloc (Nat.le_refl _) _).alloc (by simp) _⟩
  · have HF : Hid (e.form = zeros [e.code, e.mods, e.button, e.act, e.col, e.row]) := by
      rw [Z6.out]; unfold Ev.form; rw [if_neg (by simpa using k1), if_neg (by simpa using k2), if_pos (.inr (by simpa using k4))]; rfl
    go_enter Tryd.func56, Tryd.ntmps56
    go_wp2_with (go_at_call 76; refine (areZero_six _ _ _ _ _ _ _ _ _ (by simp)).mono ?_; rintro e w' ⟨rfl, rfl⟩)
    go_ret
    exact ⟨ret_bool (by rw [HF.out]), ((Below.refl _ _).alloc (Nat.le_refl _) _).alloc (by simp) _⟩
  · have HF : Hid (e.form = false) := by
      unfold Ev.form; rw [if_neg (by simpa using k1), if_neg (by simpa using k2), if_neg (by simp at k3 k4; omega)]; rfl
    go_enter Tryd.func56, Tryd.ntmps56
    go_wp2
    go_ret
    exact ⟨ret_bool (by rw [HF.out]), (Below.refl _ _).alloc (Nat.le_refl _) _⟩

set_option maxHeartbeats 4000000 in
theorem numbersFit_any (e : Ev) (p : Option Addr) (c : Nat) (w : World) :
    Calls Tryd.prog 57 #[evV e p c] w fun en w' => en = .returned (.bool e.nums) ∧ Below w.heap.size w w' := by
  unfold evV
  rcases kinds e.kind with ⟨k1, k2, k3, k4⟩ | ⟨k1, k2, k3, k4⟩ | ⟨k1, k2, k3, k4⟩ | ⟨k1, k2, k3, k4⟩ | ⟨k1, k2, k3, k4⟩
  · have HF : Hid (e.nums = (keyCode e.code && inR e.mods 0 7)) := by
      unfold Ev.nums; rw [if_pos (by simpa using k1)]; rfl
    cases hz : keyCode e.code
    · go_enter Tryd.func57, Tryd.ntmps57
      go_wp2_with (go_at_call 77; refine (implIsKeyCode_any _ _).mono ?_; rintro e w1 ⟨rfl, hb1⟩)
      go_ret
      exact ⟨ret_bool (by rw [HF.out, hz]; simp), below_on ((Below.refl _ _).alloc (Nat.le_refl _) _) hb1⟩
    · go_enter Tryd.func57, Tryd.ntmps57
      go_wp2_with (first
        | (go_at_call 77; refine (implIsKeyCode_any _ _).mono ?_; rintro e w1 ⟨rfl, hb1⟩; obtain ⟨hc1, hf1⟩ := bcell hb1)
        | (go_at_call 55; refine (isWithin_two _ _ _ _ _ _ (by simp)).mono ?_; rintro e w' ⟨rfl, rfl⟩))
      go_ret
      exact ⟨ret_bool (by rw [HF.out, hz]; simp), (below_on ((Below.refl _ _).alloc (Nat.le_refl _) _) hb1).alloc (by have := hb1.size; simp at this; omega) _⟩
  · have HF : Hid (e.nums = (inR e.button 0 2 && (inR e.act 1 3 && (inR e.mods 0 7 && (inR e.col 0 199 && inR e.row 0 199))))) := by
      unfold Ev.nums; rw [if_neg (by simpa using k1), if_pos (by simpa using k2)]; rfl
    go_enter Tryd.func57, Tryd.ntmps57
    go_wp2_with (go_at_call 55; refine (isWithin_two _ _ _ _ _ _ (by simp)).mono ?_; rintro e w' ⟨rfl, rfl⟩)
    all_goals
      go_ret
      refine ⟨ret_bool (by rw [HF.out]; simp [*]), ?_⟩
      repeat (first | exact Below.refl _ _ | (refine Below.alloc ?_ (by simp; try omega) _))
  all_goals
    have HF : Hid (e.nums = true) := by
      unfold Ev.nums; rw [if_neg (by simpa using k1), if_neg (by simpa using k2)]; rfl
    go_enter Tryd.func57, Tryd.ntmps57
    go_wp2
    go_ret
    exact ⟨ret_bool (by rw [HF.out]), (Below.refl _ _).alloc (Nat.le_refl _) _⟩

set_option maxHeartbeats 2000000 in
theorem dataFits_any (e : Ev) (p : Option Addr) (c : Nat) (w : World) :
    Calls Tryd.prog 58 #[evV e p c] w fun en w' => en = .returned (.bool e.fits) ∧ Below w.heap.size w w' := by
  unfold evV
  rcases kinds e.kind with ⟨k1, k2, k3, k4⟩ | ⟨k1, k2, k3, k4⟩ | ⟨k1, k2, k3, k4⟩ | ⟨k1, k2, k3, k4⟩ | ⟨k1, k2, k3, k4⟩
  case inr.inr.inl =>
    have HF : Hid (e.fits = inR e.data.length 1 32) := by
      unfold Ev.fits; rw [if_pos (by simpa using k3)]; rfl
    go_enter Tryd.func58, Tryd.ntmps58
    go_wp2_with (go_at_call 55; refine (isWithin_two _ _ _ _ _ _ (by simp)).mono ?_; rintro e w' ⟨rfl, rfl⟩)
    go_ret
    exact ⟨ret_bool (by rw [HF.out]), ((Below.refl _ _).alloc (Nat.le_refl _) _).alloc (by simp) _⟩
  case inr.inr.inr.inl =>
    have HF : Hid (e.fits = inR e.data.length 1 24) := by
      unfold Ev.fits; rw [if_neg (by simpa using k3), if_pos (by simpa using k4)]; rfl
    go_enter Tryd.func58, Tryd.ntmps58
    go_wp2_with (go_at_call 55; refine (isWithin_two _ _ _ _ _ _ (by simp)).mono ?_; rintro e w' ⟨rfl, rfl⟩)
    go_ret
    exact ⟨ret_bool (by rw [HF.out]), ((Below.refl _ _).alloc (Nat.le_refl _) _).alloc (by simp) _⟩
  all_goals
    have HF : Hid (e.fits = true) := by
      unfold Ev.fits; rw [if_neg (by simpa using k3), if_neg (by simpa using k4)]; rfl
    go_enter Tryd.func58, Tryd.ntmps58
    go_wp2
    go_ret
    exact ⟨ret_bool (by rw [HF.out]), (Below.refl _ _).alloc (Nat.le_refl _) _⟩

theorem fault_1 {e : Ev} (h : e.form = false) : e.fault = 1 := by unfold Ev.fault; rw [if_pos h]
theorem fault_3 {e : Ev} (h : e.form = true) (k : e.nums = false) : e.fault = 3 := by unfold Ev.fault; rw [if_neg (by simp [h]), if_pos k]
theorem fault_2 {e : Ev} (h : e.form = true) (k : e.nums = true) (l : e.fits = false) : e.fault = 2 := by unfold Ev.fault; rw [if_neg (by simp [h]), if_neg (by simp [k]), if_pos l]
theorem fault_0 {e : Ev} (h : e.form = true) (k : e.nums = true) (l : e.fits = true) : e.fault = 0 := by unfold Ev.fault; rw [if_neg (by simp [h]), if_neg (by simp [k]), if_neg (by simp [l])]

set_option maxHeartbeats 2000000 in
theorem implEventFault_any (e : Ev) (p : Option Addr) (c : Nat) (w : World) :
    Calls Tryd.prog 36 #[evV e p c] w fun en w' => en = .returned (.int .i64 e.fault) ∧ Below w.heap.size w w' := by
  unfold evV
  cases h1 : e.form
  · have HF := Lib.hid (fault_1 h1)
    go_enter Tryd.func36, Tryd.ntmps36
    go_wp2_with (go_at_call 56; refine (hasForm_any e p c _).mono ?_; rintro en w1 ⟨rfl, hb1⟩)
    go_ret
    exact ⟨ret_int HF.out.symm, below_on ((Below.refl _ _).alloc (Nat.le_refl _) _) hb1⟩
  cases h2 : e.nums
  · have HF := Lib.hid (fault_3 h1 h2)
    go_enter Tryd.func36, Tryd.ntmps36
    go_wp2_with (first
      | (go_at_call 56; refine (hasForm_any e p c _).mono ?_; rintro en w1 ⟨rfl, hb1⟩; obtain ⟨hc1, hf1⟩ := bcell hb1)
      | (go_at_call 57; refine (numbersFit_any e p c _).mono ?_; rintro en w2 ⟨rfl, hb2⟩))
    go_ret
    exact ⟨ret_int HF.out.symm, below_on (below_on ((Below.refl _ _).alloc (Nat.le_refl _) _) hb1) hb2⟩
  cases h3 : e.fits
  · have HF := Lib.hid (fault_2 h1 h2 h3)
    go_enter Tryd.func36, Tryd.ntmps36
    go_wp2_with (first
      | (go_at_call 56; refine (hasForm_any e p c _).mono ?_; rintro en w1 ⟨rfl, hb1⟩; obtain ⟨hc1, hf1⟩ := bcell hb1)
      | (go_at_call 57; refine (numbersFit_any e p c _).mono ?_; rintro en w2 ⟨rfl, hb2⟩; have hc2 := bcell_at hb2 w.heap.size (by have := hb1.size; simp at this; omega))
      | (go_at_call 58; refine (dataFits_any e p c _).mono ?_; rintro en w3 ⟨rfl, hb3⟩))
    go_ret
    exact ⟨ret_int HF.out.symm, below_on (below_on (below_on ((Below.refl _ _).alloc (Nat.le_refl _) _) hb1) hb2) hb3⟩
  · have HF := Lib.hid (fault_0 h1 h2 h3)
    go_enter Tryd.func36, Tryd.ntmps36
    go_wp2_with (first
      | (go_at_call 56; refine (hasForm_any e p c _).mono ?_; rintro en w1 ⟨rfl, hb1⟩; obtain ⟨hc1, hf1⟩ := bcell hb1)
      | (go_at_call 57; refine (numbersFit_any e p c _).mono ?_; rintro en w2 ⟨rfl, hb2⟩; have hc2 := bcell_at hb2 w.heap.size (by have := hb1.size; simp at this; omega))
      | (go_at_call 58; refine (dataFits_any e p c _).mono ?_; rintro en w3 ⟨rfl, hb3⟩))
    go_ret
    exact ⟨ret_int HF.out.symm, below_on (below_on (below_on ((Below.refl _ _).alloc (Nat.le_refl _) _) hb1) hb2) hb3⟩

end Go.Proofs.YtjopjddhgaiddaaDoor

/- The contracts of the law's own helpers over events: szByteS, szEvent, toEvent, eqEvent. -/
namespace Go.Proofs.YtjopjddhgaiddaaDoor
open Go.RowKit

/-- what is left of a budget behind n values: -1 where it is spent -/
def leftOf (left : Int) (n : Nat) : Int := if left - n < 0 then -1 else left - n


theorem leftOf_neg {left : Int} {n : Nat} (h : leftOf left n < 0) : leftOf left n = -1 := by
  unfold leftOf at h ⊢; split at h <;> simp_all
theorem leftOf_le {left : Int} {n : Nat} (h : 0 ≤ leftOf left n) : leftOf left n ≤ left ∧ (n : Int) ≤ left := by
  unfold leftOf at h ⊢; split at h <;> simp_all <;> omega


theorem Bs.new_at (w : World) (l : List UInt8) (t : TypeId) (g B : Nat) (hg : g = w.heap.size) (hB : w.heap.size < B) : Bs (w.alloc (.cells (bcells l) t)) B (some ⟨g, 0, none⟩) l := by
  subst hg
  exact (Bs.new w l t).more hB

/-- as 'Bs', in a block from lo on -/
def Bsx (w : World) (lo hi : Nat) (p : Option Addr) (l : List UInt8) : Prop :=
  l ≠ [] → ∃ b off, p = some ⟨b, off, none⟩ ∧ lo ≤ b ∧ b < hi ∧ ∀ i, i < l.length → w.cell? ⟨b, off + i, none⟩ = some (.int .u8 ((l.getD i 0).toNat : Int))
theorem Bsx.bs {w : World} {lo hi : Nat} {p : Option Addr} {l : List UInt8} (h : Bsx w lo hi p l) : Bs w hi p l := fun hl => by
  obtain ⟨b, off, e, _, h2, h3⟩ := h hl
  exact ⟨b, off, e, h2, h3⟩
theorem Bsx.keep {w w' : World} {lo lo' hi hi' : Nat} {p : Option Addr} {l : List UInt8} (h : Bsx w lo hi p l) (hlo : lo' ≤ lo) (hhi : hi ≤ hi') (hk : ∀ a : Addr, lo ≤ a.block → a.block < hi → w'.cell? a = w.cell? a) : Bsx w' lo' hi' p l := fun hl => by
  obtain ⟨b, off, e, h1, h2, h3⟩ := h hl
  exact ⟨b, off, e, by omega, by omega, fun i hi => (hk ⟨b, off + i, none⟩ h1 h2).trans (h3 i hi)⟩
theorem Bsx.new_at (w : World) (l : List UInt8) (t : TypeId) (g lo B : Nat) (hg : g = w.heap.size) (hlo : lo ≤ g) (hB : w.heap.size < B) : Bsx (w.alloc (.cells (bcells l) t)) lo B (some ⟨g, 0, none⟩) l := fun hl => by
  subst hg
  obtain ⟨b, off, e, _, h3⟩ := Bs.new w l t hl
  simp at e
  obtain ⟨rfl, rfl⟩ := e
  exact ⟨_, _, rfl, hlo, hB, h3⟩

/-- what a call that hands back a new event leaves: its data lie in a block of the call's own -/
def FreshEv (w : World) (e : Ev) (en : Ending) (w' : World) : Prop :=
  ∃ p, en = .returned (evV e p e.data.length) ∧ Bsx w' w.heap.size w'.heap.size p e.data ∧ Below w.heap.size w w'
/-- what a call that hands back a new event leaves -/
def NewEv (w : World) (e : Ev) (en : Ending) (w' : World) : Prop :=
  ∃ p, en = .returned (evV e p e.data.length) ∧ Bs w' w'.heap.size p e.data ∧ Below w.heap.size w w'




end Go.Proofs.YtjopjddhgaiddaaDoor

/- The contract of the model's EventFault. -/
namespace Go.Proofs.YtjopjddhgaiddaaDoor
open Go.RowKit

/-- the contract of the model's l1Form (proved in a text of its own) -/
def FormSaid : Prop := ∀ (e : Ev) (p : Option Addr) (c : Nat) (b off : Nat) (w : World) (_ : EvAt w b off e p c),
    Calls Tryd.prog 67 #[.pointer (some ⟨b, off, none⟩)] w fun en w' => en = .returned (.bool e.form) ∧ w = w'

set_option maxRecDepth 100000 in
set_option maxHeartbeats 4000000 in
theorem specEventFault_any (l1Form_any : FormSaid) (e : Ev) (p : Option Addr) (c : Nat) (w : World) :
    Calls Tryd.prog 47 #[evV e p c] w fun en w' => en = .returned (.int .i64 e.fault) ∧ Below w.heap.size w w' := by
  have HE := EvAt.new w e p c 27
  unfold evC at HE
  unfold evV
  cases h1 : e.form
  · have HF := Lib.hid (fault_1 h1)
    go_enter Tryd.func47, Tryd.ntmps47
    go_wp2_with (go_at_call 67; refine (l1Form_any e p c _ _ _ HE).mono ?_; rintro en w1 ⟨rfl, rfl⟩)
    go_ret
    exact ⟨ret_int HF.out.symm, (Below.refl _ _).alloc (Nat.le_refl _) _⟩
  have HN : Hid (∀ x, e.nums = x → e.fits = true → e.fault = if x = false then 3 else 0) := fun x hx hf => by
    cases x
    · exact fault_3 h1 hx
    · exact fault_0 h1 hx hf
  have HD : Hid (∀ x, e.fits = x → e.nums = true → e.fault = if x = false then 2 else 0) := fun x hx hn => by
    cases x
    · exact fault_2 h1 hn hx
    · exact fault_0 h1 hn hx
  rcases kinds e.kind with ⟨k1, k2, k3, k4⟩ | ⟨k1, k2, k3, k4⟩ | ⟨k1, k2, k3, k4⟩ | ⟨k1, k2, k3, k4⟩ | ⟨k1, k2, k3, k4⟩
  · have HF : Hid (e.fits = true) := by unfold Ev.fits; rw [if_neg (by simpa using k3), if_neg (by simpa using k4)]; rfl
    have HU : Hid (e.nums = (keyCode e.code && inR e.mods 0 7)) := by unfold Ev.nums; rw [if_pos (by simpa using k1)]; rfl
    cases h2 : keyCode e.code
    · go_enter Tryd.func47, Tryd.ntmps47
      go_wp2_with (first
        | (go_at_call 67; refine (l1Form_any e p c _ _ _ HE).mono ?_; rintro en w1 ⟨rfl, rfl⟩)
        | (go_at_call 68; refine (l1Key_any _ _).mono ?_; rintro en w1 ⟨rfl, rfl⟩))
      go_ret
      exact ⟨ret_int (by rw [HN.out _ HU.out HF.out, h2]; rfl), (Below.refl _ _).alloc (Nat.le_refl _) _⟩
    · cases h3 : inR e.mods 0 7
      all_goals
        go_enter Tryd.func47, Tryd.ntmps47
        go_wp2_with (first
          | (go_at_call 67; refine (l1Form_any e p c _ _ _ HE).mono ?_; rintro en w1 ⟨rfl, rfl⟩)
          | (go_at_call 68; refine (l1Key_any _ _).mono ?_; rintro en w1 ⟨rfl, rfl⟩)
          | (go_at_call 66; refine (l1In_any _ _ _ _).mono ?_; rintro en w1 ⟨rfl, rfl⟩))
        go_ret
        exact ⟨ret_int (by rw [HN.out _ HU.out HF.out, h2, h3]; rfl), (Below.refl _ _).alloc (Nat.le_refl _) _⟩
  · have HF : Hid (e.fits = true) := by unfold Ev.fits; rw [if_neg (by simpa using k3), if_neg (by simpa using k4)]; rfl
    have HU : Hid (e.nums = (inR e.button 0 2 && (inR e.act 1 3 && (inR e.mods 0 7 && (inR e.col 0 199 && inR e.row 0 199))))) := by
      unfold Ev.nums; rw [if_neg (by simpa using k1), if_pos (by simpa using k2)]; rfl
    cases h6 : inR e.row 0 199
    all_goals
      go_enter Tryd.func47, Tryd.ntmps47
      go_wp2_with (first
        | (go_at_call 67; refine (l1Form_any e p c _ _ _ HE).mono ?_; rintro en w1 ⟨rfl, rfl⟩)
        | (go_at_call 66; refine (l1In_any _ _ _ _).mono ?_; rintro en w1 ⟨rfl, rfl⟩))
      all_goals
        go_ret
        exact ⟨ret_int (by rw [HN.out _ HU.out HF.out]; simp [*]), (Below.refl _ _).alloc (Nat.le_refl _) _⟩
  · have HF : Hid (e.nums = true) := by unfold Ev.nums; rw [if_neg (by simpa using k1), if_neg (by simpa using k2)]; rfl
    have HU : Hid (e.fits = inR e.data.length 1 32) := by unfold Ev.fits; rw [if_pos (by simpa using k3)]; rfl
    cases h2 : inR e.data.length 1 32
    all_goals
      go_enter Tryd.func47, Tryd.ntmps47
      go_wp2_with (first
        | (go_at_call 67; refine (l1Form_any e p c _ _ _ HE).mono ?_; rintro en w1 ⟨rfl, rfl⟩)
        | (go_at_call 66; refine (l1In_any _ _ _ _).mono ?_; rintro en w1 ⟨rfl, rfl⟩))
      go_ret
      exact ⟨ret_int (by rw [HD.out _ HU.out HF.out, h2]; rfl), (Below.refl _ _).alloc (Nat.le_refl _) _⟩
  · have HF : Hid (e.nums = true) := by unfold Ev.nums; rw [if_neg (by simpa using k1), if_neg (by simpa using k2)]; rfl
    have HU : Hid (e.fits = inR e.data.length 1 24) := by unfold Ev.fits; rw [if_neg (by simpa using k3), if_pos (by simpa using k4)]; rfl
    cases h2 : inR e.data.length 1 24
    all_goals
      go_enter Tryd.func47, Tryd.ntmps47
      go_wp2_with (first
        | (go_at_call 67; refine (l1Form_any e p c _ _ _ HE).mono ?_; rintro en w1 ⟨rfl, rfl⟩)
        | (go_at_call 66; refine (l1In_any _ _ _ _).mono ?_; rintro en w1 ⟨rfl, rfl⟩))
      go_ret
      exact ⟨ret_int (by rw [HD.out _ HU.out HF.out, h2]; rfl), (Below.refl _ _).alloc (Nat.le_refl _) _⟩
  · exfalso
    unfold Ev.form at h1
    rw [if_neg (by simpa using k1), if_neg (by simpa using k2), if_neg (by simp at k3 k4; omega)] at h1
    cases h1

end Go.Proofs.YtjopjddhgaiddaaDoor

/- The laws' own small functions: lwBig, lwSame, lwBytes. -/
namespace Go.Proofs.YtjopjddhgaiddaaDoor
open Go.RowKit

set_option maxRecDepth 100000 in
set_option maxHeartbeats 400000 in
theorem lwBig_any (p : Option Addr) (n c : Nat) (w : World) :
    Calls Tryd.prog 4 #[.slice p n c] w fun e w' => e = .returned (.bool (decide (1048576 < (n : Int)))) ∧ w = w' := by
  go_enter Tryd.func4, Tryd.ntmps4
  go_wp2
  go_ret
  exact ⟨rfl, rfl⟩

set_option maxRecDepth 100000 in
set_option maxHeartbeats 400000 in
theorem lwSame_any (p q : Option Addr) (c d : Nat) (a b : List UInt8) (w : World) {B C : Nat} (h : Bs w B p a) (k : Bs w C q b) :
    Calls Tryd.prog 24 #[.slice p a.length c, .slice q b.length d] w fun e w' => e = .returned (.bool (a == b)) ∧ w = w' := by
  have h1 := convert_str (P := Tryd.prog) Tryd.underlying22 Tryd.underlying5 Tryd.underlying9 p c a w h
  have h2 := convert_str (P := Tryd.prog) Tryd.underlying22 Tryd.underlying5 Tryd.underlying9 q d b w k
  clear h k
  go_enter Tryd.func24, Tryd.ntmps24
  go_wp2
  go_ret
  exact ⟨ret_bool (by simp), rfl⟩

set_option maxRecDepth 100000 in
set_option maxHeartbeats 400000 in
theorem lwBytes_any (x y : Int) (p q : Option Addr) (c d : Nat) (a b : List UInt8) (w : World) (h : Bs w w.heap.size p a) (k : Bs w w.heap.size q b) :
    Calls Tryd.prog 11 #[.agg #[.int .i64 x, .slice p a.length c], .agg #[.int .i64 y, .slice q b.length d]] w fun e w' => e = .returned (.bool (x == y && a == b)) ∧ Below w.heap.size w w' := by
  have H := Lib.hid h
  have K := Lib.hid k
  clear h k
  cases hxy : (x == y)
  · go_enter Tryd.func11, Tryd.ntmps11
    go_wp2
    go_ret
    exact ⟨rfl, ((Below.refl _ _).alloc (Nat.le_refl _) _).alloc (by simp) _⟩
  · go_enter Tryd.func11, Tryd.ntmps11
    go_wp2_with (go_at_call 24; refine (lwSame_any _ _ _ _ a b _ ((H.out.alloc _).alloc _) ((K.out.alloc _).alloc _)).mono ?_; rintro e w' ⟨rfl, rfl⟩)
    go_ret
    exact ⟨ret_bool (by simp), ((Below.refl _ _).alloc (Nat.le_refl _) _).alloc (by simp) _⟩

end Go.Proofs.YtjopjddhgaiddaaDoor
