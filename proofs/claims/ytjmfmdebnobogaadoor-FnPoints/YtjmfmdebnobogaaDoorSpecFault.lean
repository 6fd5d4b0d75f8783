/- The contract of the model's EventFault. -/
import Derived.Test.YtjmfmdebnobogaaDoorFault
namespace Go.Proofs.YtjmfmdebnobogaaDoor
open Go.RowKit

/-- the contract of the model's l1Form (proved in a text of its own) -/
def FormSaid : Prop := ∀ (e : Ev) (p : Option Addr) (c : Nat) (b off : Nat) (w : World) (_ : EvAt w b off e p c),
    Calls Tryd.prog 62 #[.pointer (some ⟨b, off, none⟩)] w fun en w' => en = .returned (.bool e.form) ∧ w = w'

set_option maxRecDepth 100000 in
set_option maxHeartbeats 4000000 in
theorem specEventFault_any (l1Form_any : FormSaid) (e : Ev) (p : Option Addr) (c : Nat) (w : World) :
    Calls Tryd.prog 21 #[evV e p c] w fun en w' => en = .returned (.int .i64 e.fault) ∧ Below w.heap.size w w' := by
  have HE := EvAt.new w e p c 33
  unfold evC at HE
  unfold evV
  cases h1 : e.form
  · have HF := Lib.hid (fault_1 h1)
    go_enter Tryd.func21, Tryd.ntmps21
    go_wp2_with (go_at_call 62; refine (l1Form_any e p c _ _ _ HE).mono ?_; rintro en w1 ⟨rfl, rfl⟩)
    go_ret
    exact ⟨ret_int HF.out.symm, (Below.refl _ _).alloc (Nat.le_refl _) _⟩
  have HN : Hid (∀ x, e.nums = x → e.fits = true → e.fault = if x = false then 3 else 0) := fun x hx hf => by
    cases x
    · exact fault_3 h1 hx
    · exact fault_0 h1 hx hf
  have HD : Hid (∀ x, e.fits = x → e.nums = true → e.fault = if x = false then 2 else 0) := fun x hx hn => by
    cases x
    · exact fault_2 h1 hn hx
    · exact fault_0 h1 hn hx
  rcases kinds e.kind with ⟨k1, k2, k3, k4⟩ | ⟨k1, k2, k3, k4⟩ | ⟨k1, k2, k3, k4⟩ | ⟨k1, k2, k3, k4⟩ | ⟨k1, k2, k3, k4⟩
  · have HF : Hid (e.fits = true) := by unfold Ev.fits; rw [if_neg (by simpa using k3), if_neg (by simpa using k4)]; rfl
    have HU : Hid (e.nums = (keyCode e.code && inR e.mods 0 7)) := by unfold Ev.nums; rw [if_pos (by simpa using k1)]; rfl
    cases h2 : keyCode e.code
    · go_enter Tryd.func21, Tryd.ntmps21
      go_wp2_with (first
        | (go_at_call 62; refine (l1Form_any e p c _ _ _ HE).mono ?_; rintro en w1 ⟨rfl, rfl⟩)
        | (go_at_call 63; refine (l1Key_any _ _).mono ?_; rintro en w1 ⟨rfl, rfl⟩))
      go_ret
      exact ⟨ret_int (by rw [HN.out _ HU.out HF.out, h2]; rfl), (Below.refl _ _).alloc (Nat.le_refl _) _⟩
    · cases h3 : inR e.mods 0 7
      all_goals
        go_enter Tryd.func21, Tryd.ntmps21
        go_wp2_with (first
          | (go_at_call 62; refine (l1Form_any e p c _ _ _ HE).mono ?_; rintro en w1 ⟨rfl, rfl⟩)
          | (go_at_call 63; refine (l1Key_any _ _).mono ?_; rintro en w1 ⟨rfl, rfl⟩)
          | (go_at_call 58; refine (l1In_any _ _ _ _).mono ?_; rintro en w1 ⟨rfl, rfl⟩))
        go_ret
        exact ⟨ret_int (by rw [HN.out _ HU.out HF.out, h2, h3]; rfl), (Below.refl _ _).alloc (Nat.le_refl _) _⟩
  · have HF : Hid (e.fits = true) := by unfold Ev.fits; rw [if_neg (by simpa using k3), if_neg (by simpa using k4)]; rfl
    have HU : Hid (e.nums = (inR e.button 0 2 && (inR e.act 1 3 && (inR e.mods 0 7 && (inR e.col 0 199 && inR e.row 0 199))))) := by
      unfold Ev.nums; rw [if_neg (by simpa using k1), if_pos (by simpa using k2)]; rfl
    cases h6 : inR e.row 0 199
    all_goals
      go_enter Tryd.func21, Tryd.ntmps21
      go_wp2_with (first
        | (go_at_call 62; refine (l1Form_any e p c _ _ _ HE).mono ?_; rintro en w1 ⟨rfl, rfl⟩)
        | (go_at_call 58; refine (l1In_any _ _ _ _).mono ?_; rintro en w1 ⟨rfl, rfl⟩))
      all_goals
        go_ret
        exact ⟨ret_int (by rw [HN.out _ HU.out HF.out]; simp [*]), (Below.refl _ _).alloc (Nat.le_refl _) _⟩
  · have HF : Hid (e.nums = true) := by unfold Ev.nums; rw [if_neg (by simpa using k1), if_neg (by simpa using k2)]; rfl
    have HU : Hid (e.fits = inR e.data.length 1 32) := by unfold Ev.fits; rw [if_pos (by simpa using k3)]; rfl
    cases h2 : inR e.data.length 1 32
    all_goals
      go_enter Tryd.func21, Tryd.ntmps21
      go_wp2_with (first
        | (go_at_call 62; refine (l1Form_any e p c _ _ _ HE).mono ?_; rintro en w1 ⟨rfl, rfl⟩)
        | (go_at_call 58; refine (l1In_any _ _ _ _).mono ?_; rintro en w1 ⟨rfl, rfl⟩))
      go_ret
      exact ⟨ret_int (by rw [HD.out _ HU.out HF.out, h2]; rfl), (Below.refl _ _).alloc (Nat.le_refl _) _⟩
  · have HF : Hid (e.nums = true) := by unfold Ev.nums; rw [if_neg (by simpa using k1), if_neg (by simpa using k2)]; rfl
    have HU : Hid (e.fits = inR e.data.length 1 24) := by unfold Ev.fits; rw [if_neg (by simpa using k3), if_pos (by simpa using k4)]; rfl
    cases h2 : inR e.data.length 1 24
    all_goals
      go_enter Tryd.func21, Tryd.ntmps21
      go_wp2_with (first
        | (go_at_call 62; refine (l1Form_any e p c _ _ _ HE).mono ?_; rintro en w1 ⟨rfl, rfl⟩)
        | (go_at_call 58; refine (l1In_any _ _ _ _).mono ?_; rintro en w1 ⟨rfl, rfl⟩))
      go_ret
      exact ⟨ret_int (by rw [HD.out _ HU.out HF.out, h2]; rfl), (Below.refl _ _).alloc (Nat.le_refl _) _⟩
  · exfalso
    unfold Ev.form at h1
    rw [if_neg (by simpa using k1), if_neg (by simpa using k2), if_neg (by simp at k3 k4; omega)] at h1
    cases h1

end Go.Proofs.YtjmfmdebnobogaaDoor
