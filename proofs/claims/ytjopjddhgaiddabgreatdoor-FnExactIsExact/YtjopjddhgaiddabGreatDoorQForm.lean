/- The contract of the model's l1Form: what an event has not is zero. One walk a kind. -/
import Derived.Test.YtjopjddhgaiddabGreatDoorQEvents
import Derived.BigGuardPart
import Derived.Deep.DeepCutAuto
namespace Go.Proofs.YtjopjddhgaiddabGreatDoor
open Go.RowKit

set_option maxRecDepth 100000 in
set_option maxHeartbeats 8000000 in
theorem l1Form_1 (e : Ev) (p : Option Addr) (c : Nat) (b off : Nat) (w : World) (h : EvAt w b off e p c) (hk : (e.kind == 1) = true) :
    Calls Tryz.prog 71 #[.pointer (some ⟨b, off, none⟩)] w fun en w' => en = .returned (.bool e.form) ∧ w = w' := by
  obtain ⟨c0, c1, c2, c3, c4, c5, c6, c7⟩ := h
  have k2 : (e.kind == 2) = false := by simp at hk ⊢; omega
  have k3 : (e.kind == 3) = false := by simp at hk ⊢; omega
  have k4 : (e.kind == 4) = false := by simp at hk ⊢; omega
  have hl := len_zero e.data
  have HF : Hid (e.form = ((e.button == 0 && (e.act == 0 && (e.col == 0 && e.row == 0))) && e.data.isEmpty)) := by
    unfold Ev.form; rw [if_pos (by simpa using hk)]; rfl
  go_enter Tryz.func71, Tryz.ntmps71
  go_upto_region 4 with (fail)
  simp only [List.append_eq, List.cons_append, List.nil_append]
  go_wp2
  all_goals
    go_ret
    exact ⟨ret_bool (by rw [HF.out]; simp [*]), rfl⟩

set_option maxRecDepth 100000 in
set_option maxHeartbeats 8000000 in
theorem l1Form_2 (e : Ev) (p : Option Addr) (c : Nat) (b off : Nat) (w : World) (h : EvAt w b off e p c) (hk : (e.kind == 2) = true) :
    Calls Tryz.prog 71 #[.pointer (some ⟨b, off, none⟩)] w fun en w' => en = .returned (.bool e.form) ∧ w = w' := by
  obtain ⟨c0, c1, c2, c3, c4, c5, c6, c7⟩ := h
  have k1 : (e.kind == 1) = false := by simp at hk ⊢; omega
  have k3 : (e.kind == 3) = false := by simp at hk ⊢; omega
  have k4 : (e.kind == 4) = false := by simp at hk ⊢; omega
  have hl := len_zero e.data
  have HF : Hid (e.form = (e.code == 0 && e.data.isEmpty)) := by
    unfold Ev.form; rw [if_neg (by simpa using k1), if_pos (by simpa using hk)]; rfl
  go_enter Tryz.func71, Tryz.ntmps71
  go_upto_region 4 with (fail)
  simp only [List.append_eq, List.cons_append, List.nil_append]
  go_wp2
  all_goals
    go_ret
    exact ⟨ret_bool (by rw [HF.out]; simp [*]), rfl⟩

set_option maxRecDepth 100000 in
set_option maxHeartbeats 8000000 in
theorem l1Form_3 (e : Ev) (p : Option Addr) (c : Nat) (b off : Nat) (w : World) (h : EvAt w b off e p c) (hk : (e.kind == 3) = true) :
    Calls Tryz.prog 71 #[.pointer (some ⟨b, off, none⟩)] w fun en w' => en = .returned (.bool e.form) ∧ w = w' := by
  obtain ⟨c0, c1, c2, c3, c4, c5, c6, c7⟩ := h
  have k1 : (e.kind == 1) = false := by simp at hk ⊢; omega
  have k2 : (e.kind == 2) = false := by simp at hk ⊢; omega
  have k4 : (e.kind == 4) = false := by simp at hk ⊢; omega
  have hl := len_zero e.data
  have HF : Hid (e.form = (e.code == 0 && (e.mods == 0 && (e.button == 0 && (e.act == 0 && (e.col == 0 && e.row == 0)))))) := by
    unfold Ev.form; rw [if_neg (by simpa using k1), if_neg (by simpa using k2), if_pos (.inl (by simpa using hk))]; rfl
  go_enter Tryz.func71, Tryz.ntmps71
  go_upto_region 4 with (fail)
  simp only [List.append_eq, List.cons_append, List.nil_append]
  go_wp2
  all_goals
    go_ret
    exact ⟨ret_bool (by rw [HF.out]; simp [*]), rfl⟩

set_option maxRecDepth 100000 in
set_option maxHeartbeats 8000000 in
theorem l1Form_4 (e : Ev) (p : Option Addr) (c : Nat) (b off : Nat) (w : World) (h : EvAt w b off e p c) (hk : (e.kind == 4) = true) :
    Calls Tryz.prog 71 #[.pointer (some ⟨b, off, none⟩)] w fun en w' => en = .returned (.bool e.form) ∧ w = w' := by
  obtain ⟨c0, c1, c2, c3, c4, c5, c6, c7⟩ := h
  have k1 : (e.kind == 1) = false := by simp at hk ⊢; omega
  have k2 : (e.kind == 2) = false := by simp at hk ⊢; omega
  have k3 : (e.kind == 3) = false := by simp at hk ⊢; omega
  have hl := len_zero e.data
  have HF : Hid (e.form = (e.code == 0 && (e.mods == 0 && (e.button == 0 && (e.act == 0 && (e.col == 0 && e.row == 0)))))) := by
    unfold Ev.form; rw [if_neg (by simpa using k1), if_neg (by simpa using k2), if_pos (.inr (by simpa using hk))]; rfl
  go_enter Tryz.func71, Tryz.ntmps71
  go_upto_region 4 with (fail)
  simp only [List.append_eq, List.cons_append, List.nil_append]
  go_wp2
  all_goals
    go_ret
    exact ⟨ret_bool (by rw [HF.out]; simp [*]), rfl⟩

set_option maxRecDepth 100000 in
set_option maxHeartbeats 8000000 in
theorem l1Form_0 (e : Ev) (p : Option Addr) (c : Nat) (b off : Nat) (w : World) (h : EvAt w b off e p c) (k1 : (e.kind == 1) = false) (k2 : (e.kind == 2) = false) (k3 : (e.kind == 3) = false) (k4 : (e.kind == 4) = false) :
    Calls Tryz.prog 71 #[.pointer (some ⟨b, off, none⟩)] w fun en w' => en = .returned (.bool e.form) ∧ w = w' := by
  obtain ⟨c0, c1, c2, c3, c4, c5, c6, c7⟩ := h
  have hl := len_zero e.data
  have HF : Hid (e.form = false) := by
    unfold Ev.form; rw [if_neg (by simpa using k1), if_neg (by simpa using k2), if_neg (by simp at k3 k4; omega)]; rfl
  go_enter Tryz.func71, Tryz.ntmps71
  go_upto_region 4 with (fail)
  simp only [List.append_eq, List.cons_append, List.nil_append]
  go_wp2
  all_goals
    go_ret
    exact ⟨ret_bool (by rw [HF.out]), rfl⟩

theorem l1Form_any (e : Ev) (p : Option Addr) (c : Nat) (b off : Nat) (w : World) (h : EvAt w b off e p c) :
    Calls Tryz.prog 71 #[.pointer (some ⟨b, off, none⟩)] w fun en w' => en = .returned (.bool e.form) ∧ w = w' := by
  cases k1 : (e.kind == 1)
  · cases k2 : (e.kind == 2)
    · cases k3 : (e.kind == 3)
      · cases k4 : (e.kind == 4)
        · exact l1Form_0 e p c b off w h k1 k2 k3 k4
        · exact l1Form_4 e p c b off w h k4
      · exact l1Form_3 e p c b off w h k3
    · exact l1Form_2 e p c b off w h k2
  · exact l1Form_1 e p c b off w h k1

end Go.Proofs.YtjopjddhgaiddabGreatDoor
