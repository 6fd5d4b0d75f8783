/- The contract of the model's EventFault. -/
import Derived.Test.YtcchhlcgamcceaaDoorQEventsToFault
import Derived.BigGuardPart
import Derived.Deep.DeepCutAuto
import Derived.Test.YtcchhlcgamcceaaDoorQNumsToBytes
import Derived.Test.YtcchhlcgamcceaaDoorQMarksToTok
import Derived.Deep.RegionHeld3
import Derived.Deep.QuietTactic
namespace Go.Proofs.YtcchhlcgamcceaaDoor
open Go.RowKit

/-- the contract of the model's l1Form (proved in a text of its own) -/
def FormSaid : Prop := ∀ (e : Ev) (p : Option Addr) (c : Nat) (b off : Nat) (w : World) (_ : EvAt w b off e p c),
    Calls Tryd.prog 84 #[.pointer (some ⟨b, off, none⟩)] w fun en w' => en = .returned (.bool e.form) ∧ w = w'

set_option maxRecDepth 100000 in
set_option maxHeartbeats 4000000 in
theorem specEventFault_any (l1Form_any : FormSaid) (e : Ev) (p : Option Addr) (c : Nat) (w : World) :
    Calls Tryd.prog 75 #[evV e p c] w fun en w' => en = .returned (.int .i64 e.fault) ∧ Below w.heap.size w w' := by
  have HE := EvAt.new w e p c 24
  unfold evC at HE
  unfold evV
  cases h1 : e.form
  · have HF := Lib.hid (fault_1 h1)
    go_enter Tryd.func75, Tryd.ntmps75
    go_wp2_with (go_at_call 84; refine (l1Form_any e p c _ _ _ HE).mono ?_; rintro en w1 ⟨rfl, rfl⟩)
    go_ret
    exact ⟨ret_int HF.out.symm, (Below.refl _ _).alloc (Nat.le_refl _) _⟩
  have HN : Hid (∀ x, e.nums = x → e.fits = true → e.fault = if x = false then 3 else 0) := fun x hx hf => by
    cases x
    · exact fault_3 h1 hx
    · exact fault_0 h1 hx hf
  have HD : Hid (∀ x, e.fits = x → e.nums = true → e.fault = if x = false then 2 else 0) := fun x hx hn => by
    cases x
    · exact fault_2 h1 hn hx
    · exact fault_0 h1 hn hx
  rcases kinds e.kind with ⟨k1, k2, k3, k4⟩ | ⟨k1, k2, k3, k4⟩ | ⟨k1, k2, k3, k4⟩ | ⟨k1, k2, k3, k4⟩ | ⟨k1, k2, k3, k4⟩
  · have HF : Hid (e.fits = true) := by unfold Ev.fits; rw [if_neg (by simpa using k3), if_neg (by simpa using k4)]; rfl
    have HU : Hid (e.nums = (keyCode e.code && inR e.mods 0 7)) := by unfold Ev.nums; rw [if_pos (by simpa using k1)]; rfl
    cases h2 : keyCode e.code
    · go_enter Tryd.func75, Tryd.ntmps75
      go_wp2_with (first
        | (go_at_call 84; refine (l1Form_any e p c _ _ _ HE).mono ?_; rintro en w1 ⟨rfl, rfl⟩)
        | (go_at_call 85; refine (l1Key_any _ _).mono ?_; rintro en w1 ⟨rfl, rfl⟩))
      go_ret
      exact ⟨ret_int (by rw [HN.out _ HU.out HF.out, h2]; rfl), (Below.refl _ _).alloc (Nat.le_refl _) _⟩
    · cases h3 : inR e.mods 0 7
      all_goals
        go_enter Tryd.func75, Tryd.ntmps75
        go_wp2_with (first
          | (go_at_call 84; refine (l1Form_any e p c _ _ _ HE).mono ?_; rintro en w1 ⟨rfl, rfl⟩)
          | (go_at_call 85; refine (l1Key_any _ _).mono ?_; rintro en w1 ⟨rfl, rfl⟩)
          | (go_at_call 53; refine (l1In_any _ _ _ _).mono ?_; rintro en w1 ⟨rfl, rfl⟩))
        go_ret
        exact ⟨ret_int (by rw [HN.out _ HU.out HF.out, h2, h3]; rfl), (Below.refl _ _).alloc (Nat.le_refl _) _⟩
  · have HF : Hid (e.fits = true) := by unfold Ev.fits; rw [if_neg (by simpa using k3), if_neg (by simpa using k4)]; rfl
    have HU : Hid (e.nums = (inR e.button 0 2 && (inR e.act 1 3 && (inR e.mods 0 7 && (inR e.col 0 199 && inR e.row 0 199))))) := by
      unfold Ev.nums; rw [if_neg (by simpa using k1), if_pos (by simpa using k2)]; rfl
    cases h6 : inR e.row 0 199
    all_goals
      go_enter Tryd.func75, Tryd.ntmps75
      go_wp2_with (first
        | (go_at_call 84; refine (l1Form_any e p c _ _ _ HE).mono ?_; rintro en w1 ⟨rfl, rfl⟩)
        | (go_at_call 53; refine (l1In_any _ _ _ _).mono ?_; rintro en w1 ⟨rfl, rfl⟩))
      all_goals
        go_ret
        exact ⟨ret_int (by rw [HN.out _ HU.out HF.out]; simp [*]), (Below.refl _ _).alloc (Nat.le_refl _) _⟩
  · have HF : Hid (e.nums = true) := by unfold Ev.nums; rw [if_neg (by simpa using k1), if_neg (by simpa using k2)]; rfl
    have HU : Hid (e.fits = inR e.data.length 1 32) := by unfold Ev.fits; rw [if_pos (by simpa using k3)]; rfl
    cases h2 : inR e.data.length 1 32
    all_goals
      go_enter Tryd.func75, Tryd.ntmps75
      go_wp2_with (first
        | (go_at_call 84; refine (l1Form_any e p c _ _ _ HE).mono ?_; rintro en w1 ⟨rfl, rfl⟩)
        | (go_at_call 53; refine (l1In_any _ _ _ _).mono ?_; rintro en w1 ⟨rfl, rfl⟩))
      go_ret
      exact ⟨ret_int (by rw [HD.out _ HU.out HF.out, h2]; rfl), (Below.refl _ _).alloc (Nat.le_refl _) _⟩
  · have HF : Hid (e.nums = true) := by unfold Ev.nums; rw [if_neg (by simpa using k1), if_neg (by simpa using k2)]; rfl
    have HU : Hid (e.fits = inR e.data.length 1 24) := by unfold Ev.fits; rw [if_neg (by simpa using k3), if_pos (by simpa using k4)]; rfl
    cases h2 : inR e.data.length 1 24
    all_goals
      go_enter Tryd.func75, Tryd.ntmps75
      go_wp2_with (first
        | (go_at_call 84; refine (l1Form_any e p c _ _ _ HE).mono ?_; rintro en w1 ⟨rfl, rfl⟩)
        | (go_at_call 53; refine (l1In_any _ _ _ _).mono ?_; rintro en w1 ⟨rfl, rfl⟩))
      go_ret
      exact ⟨ret_int (by rw [HD.out _ HU.out HF.out, h2]; rfl), (Below.refl _ _).alloc (Nat.le_refl _) _⟩
  · exfalso
    unfold Ev.form at h1
    rw [if_neg (by simpa using k1), if_neg (by simpa using k2), if_neg (by simp at k3 k4; omega)] at h1
    cases h1

end Go.Proofs.YtcchhlcgamcceaaDoor

/- The contract of the model's l1Form: what an event has not is zero. One walk a kind. -/
namespace Go.Proofs.YtcchhlcgamcceaaDoor
open Go.RowKit

set_option maxRecDepth 100000 in
set_option maxHeartbeats 8000000 in
theorem l1Form_1 (e : Ev) (p : Option Addr) (c : Nat) (b off : Nat) (w : World) (h : EvAt w b off e p c) (hk : (e.kind == 1) = true) :
    Calls Tryd.prog 84 #[.pointer (some ⟨b, off, none⟩)] w fun en w' => en = .returned (.bool e.form) ∧ w = w' := by
  obtain ⟨c0, c1, c2, c3, c4, c5, c6, c7⟩ := h
  have k2 : (e.kind == 2) = false := by simp at hk ⊢; omega
  have k3 : (e.kind == 3) = false := by simp at hk ⊢; omega
  have k4 : (e.kind == 4) = false := by simp at hk ⊢; omega
  have hl := len_zero e.data
  have HF : Hid (e.form = ((e.button == 0 && (e.act == 0 && (e.col == 0 && e.row == 0))) && e.data.isEmpty)) := by
    unfold Ev.form; rw [if_pos (by simpa using hk)]; rfl
  go_enter Tryd.func84, Tryd.ntmps84
  go_upto_region 4 with (fail)
  simp only [List.append_eq, List.cons_append, List.nil_append]
  go_wp2
  all_goals
    go_ret
    exact ⟨ret_bool (by rw [HF.out]; simp [*]), rfl⟩

set_option maxRecDepth 100000 in
set_option maxHeartbeats 8000000 in
theorem l1Form_2 (e : Ev) (p : Option Addr) (c : Nat) (b off : Nat) (w : World) (h : EvAt w b off e p c) (hk : (e.kind == 2) = true) :
    Calls Tryd.prog 84 #[.pointer (some ⟨b, off, none⟩)] w fun en w' => en = .returned (.bool e.form) ∧ w = w' := by
  obtain ⟨c0, c1, c2, c3, c4, c5, c6, c7⟩ := h
  have k1 : (e.kind == 1) = false := by simp at hk ⊢; omega
  have k3 : (e.kind == 3) = false := by simp at hk ⊢; omega
  have k4 : (e.kind == 4) = false := by simp at hk ⊢; omega
  have hl := len_zero e.data
  have HF : Hid (e.form = (e.code == 0 && e.data.isEmpty)) := by
    unfold Ev.form; rw [if_neg (by simpa using k1), if_pos (by simpa using hk)]; rfl
  go_enter Tryd.func84, Tryd.ntmps84
  go_upto_region 4 with (fail)
  simp only [List.append_eq, List.cons_append, List.nil_append]
  go_wp2
  all_goals
    go_ret
    exact ⟨ret_bool (by rw [HF.out]; simp [*]), rfl⟩

set_option maxRecDepth 100000 in
set_option maxHeartbeats 8000000 in
theorem l1Form_3 (e : Ev) (p : Option Addr) (c : Nat) (b off : Nat) (w : World) (h : EvAt w b off e p c) (hk : (e.kind == 3) = true) :
    Calls Tryd.prog 84 #[.pointer (some ⟨b, off, none⟩)] w fun en w' => en = .returned (.bool e.form) ∧ w = w' := by
  obtain ⟨c0, c1, c2, c3, c4, c5, c6, c7⟩ := h
  have k1 : (e.kind == 1) = false := by simp at hk ⊢; omega
  have k2 : (e.kind == 2) = false := by simp at hk ⊢; omega
  have k4 : (e.kind == 4) = false := by simp at hk ⊢; omega
  have hl := len_zero e.data
  have HF : Hid (e.form = (e.code == 0 && (e.mods == 0 && (e.button == 0 && (e.act == 0 && (e.col == 0 && e.row == 0)))))) := by
    unfold Ev.form; rw [if_neg (by simpa using k1), if_neg (by simpa using k2), if_pos (.inl (by simpa using hk))]; rfl
  go_enter Tryd.func84, Tryd.ntmps84
  go_upto_region 4 with (fail)
  simp only [List.append_eq, List.cons_append, List.nil_append]
  go_wp2
  all_goals
    go_ret
    exact ⟨ret_bool (by rw [HF.out]; simp [*]), rfl⟩

set_option maxRecDepth 100000 in
set_option maxHeartbeats 8000000 in
theorem l1Form_4 (e : Ev) (p : Option Addr) (c : Nat) (b off : Nat) (w : World) (h : EvAt w b off e p c) (hk : (e.kind == 4) = true) :
    Calls Tryd.prog 84 #[.pointer (some ⟨b, off, none⟩)] w fun en w' => en = .returned (.bool e.form) ∧ w = w' := by
  obtain ⟨c0, c1, c2, c3, c4, c5, c6, c7⟩ := h
  have k1 : (e.kind == 1) = false := by simp at hk ⊢; omega
  have k2 : (e.kind == 2) = false := by simp at hk ⊢; omega
  have k3 : (e.kind == 3) = false := by simp at hk ⊢; omega
  have hl := len_zero e.data
  have HF : Hid (e.form = (e.code == 0 && (e.mods == 0 && (e.button == 0 && (e.act == 0 && (e.col == 0 && e.row == 0)))))) := by
    unfold Ev.form; rw [if_neg (by simpa using k1), if_neg (by simpa using k2), if_pos (.inr (by simpa using hk))]; rfl
  go_enter Tryd.func84, Tryd.ntmps84
  go_upto_region 4 with (fail)
  simp only [List.append_eq, List.cons_append, List.nil_append]
  go_wp2
  all_goals
    go_ret
    exact ⟨ret_bool (by rw [HF.out]; simp [*]), rfl⟩

set_option maxRecDepth 100000 in
set_option maxHeartbeats 8000000 in
theorem l1Form_0 (e : Ev) (p : Option Addr) (c : Nat) (b off : Nat) (w : World) (h : EvAt w b off e p c) (k1 : (e.kind == 1) = false) (k2 : (e.kind == 2) = false) (k3 : (e.kind == 3) = false) (k4 : (e.kind == 4) = false) :
    Calls Tryd.prog 84 #[.pointer (some ⟨b, off, none⟩)] w fun en w' => en = .returned (.bool e.form) ∧ w = w' := by
  obtain ⟨c0, c1, c2, c3, c4, c5, c6, c7⟩ := h
  have hl := len_zero e.data
  have HF : Hid (e.form = false) := by
    unfold Ev.form; rw [if_neg (by simpa using k1), if_neg (by simpa using k2), if_neg (by simp at k3 k4; omega)]; rfl
  go_enter Tryd.func84, Tryd.ntmps84
  go_upto_region 4 with (fail)
  simp only [List.append_eq, List.cons_append, List.nil_append]
  go_wp2
  all_goals
    go_ret
    exact ⟨ret_bool (by rw [HF.out]), rfl⟩

theorem l1Form_any (e : Ev) (p : Option Addr) (c : Nat) (b off : Nat) (w : World) (h : EvAt w b off e p c) :
    Calls Tryd.prog 84 #[.pointer (some ⟨b, off, none⟩)] w fun en w' => en = .returned (.bool e.form) ∧ w = w' := by
  cases k1 : (e.kind == 1)
  · cases k2 : (e.kind == 2)
    · cases k3 : (e.kind == 3)
      · cases k4 : (e.kind == 4)
        · exact l1Form_0 e p c b off w h k1 k2 k3 k4
        · exact l1Form_4 e p c b off w h k4
      · exact l1Form_3 e p c b off w h k3
    · exact l1Form_2 e p c b off w h k2
  · exact l1Form_1 e p c b off w h k1

end Go.Proofs.YtcchhlcgamcceaaDoor

/- Steps in a region that draws its order: what is taken, what its guard passes over, what comes up alone. -/
namespace Go.Proofs.YtcchhlcgamcceaaDoor
open Go.RowKit

theorem takeR {P : Program} {ops : Array Oper} {Q : Exit → Act → World → Prop} {md : Region.Mode} {S : World → Prop} {fuel : Nat} {listed : Array Bool} {a : Act} {w : World} (i d : Nat) (v : Value)
    (hi : (ops[i]?).map (fun o => o.dst) = some (some d)) (hs : Region.noSelect ops = true) (hf : Region.free md ops listed i = true) (hr : (Region.ready md ops listed).contains i = true)
    (hQ : ∀ c (a : Act) w, Q (.panic c) (a.put (some d) v) w → Q (.panic c) a w) (hw : (ops[i]?).map (fun o => Region.wanted o (yielded ops a.tmps)) = some true)
    (hv : ∀ w o, S w → some o = ops[i]? → (execOp a.eval o).run P w = .ok (.value v) w) (hS : S w)
    (h : wpAnyH P md ops Q S fuel (listed.setIfInBounds i true) (a.put (some d) v) w) : wpAnyH P md ops Q S (fuel + 1) listed a w := by
  cases ho : ops[i]? with
  | none => rw [ho] at hi; simp at hi
  | some o =>
    rw [ho] at hi hw
    simp only [Option.map_some, Option.some.injEq] at hi hw
    exact wpAnyH_take ho hs hf hr (by rw [hi]; exact hQ) (Or.inl ⟨hw, fun w hSw => hv w o hSw ho.symm⟩) hS (by rw [hi]; exact h)

theorem skipR {P : Program} {ops : Array Oper} {Q : Exit → Act → World → Prop} {md : Region.Mode} {S : World → Prop} {fuel : Nat} {listed : Array Bool} {a : Act} {w : World} (i d : Nat)
    (hi : (ops[i]?).map (fun o => o.dst) = some (some d)) (hs : Region.noSelect ops = true) (hf : Region.free md ops listed i = true) (hr : (Region.ready md ops listed).contains i = true)
    (hQ : ∀ c (a : Act) w, Q (.panic c) (a.put (some d) undef) w → Q (.panic c) a w) (hw : (ops[i]?).map (fun o => Region.wanted o (yielded ops a.tmps)) = some false) (hS : S w)
    (h : wpAnyH P md ops Q S fuel (listed.setIfInBounds i true) (a.put (some d) undef) w) : wpAnyH P md ops Q S (fuel + 1) listed a w := by
  cases ho : ops[i]? with
  | none => rw [ho] at hi; simp at hi
  | some o =>
    rw [ho] at hi hw
    simp only [Option.map_some, Option.some.injEq] at hi hw
    exact wpAnyH_take ho hs hf hr (by rw [hi]; exact hQ) (Or.inr ⟨hw, rfl⟩) hS (by rw [hi]; exact h)

theorem oneR {P : Program} {ops : Array Oper} {Q : Exit → Act → World → Prop} {md : Region.Mode} {S : World → Prop} {fuel : Nat} {listed : Array Bool} {a : Act} {w : World} (i : Nat)
    (hr : Region.ready md ops listed = [i]) (hw : (ops[i]?).map (fun o => Region.wanted o (yielded ops a.tmps)) = some true)
    (h : ∀ o, some o = ops[i]? → ∀ K' : Act → World → Prop, Shut (∀ a w, S w → (S w → wpAnyH P md ops Q S fuel (listed.setIfInBounds i true) a w) → K' a w) → Oper.wp P o a w K' Q) : wpAnyH P md ops Q S (fuel + 1) listed a w := by
  cases ho : ops[i]? with
  | none => rw [ho] at hw; simp at hw
  | some o =>
    rw [ho] at hw
    simp only [Option.map_some, Option.some.injEq] at hw
    exact wpAnyH_ready hr (by simp) (AllReadyH.cons ho (fun K' hK => by rw [if_pos hw]; exact h o ho.symm K' hK) AllReadyH.nil)

theorem twoR {P : Program} {ops : Array Oper} {Q : Exit → Act → World → Prop} {md : Region.Mode} {S : World → Prop} {fuel : Nat} {listed : Array Bool} {a : Act} {w : World} (i j : Nat)
    (hr : Region.ready md ops listed = [i, j]) (hw : (ops[i]?).map (fun o => Region.wanted o (yielded ops a.tmps)) = some true) (kw : (ops[j]?).map (fun o => Region.wanted o (yielded ops a.tmps)) = some true)
    (h : ∀ o, some o = ops[i]? → ∀ K' : Act → World → Prop, Shut (∀ a w, S w → (S w → wpAnyH P md ops Q S fuel (listed.setIfInBounds i true) a w) → K' a w) → Oper.wp P o a w K' Q)
    (k : ∀ o, some o = ops[j]? → ∀ K' : Act → World → Prop, Shut (∀ a w, S w → (S w → wpAnyH P md ops Q S fuel (listed.setIfInBounds j true) a w) → K' a w) → Oper.wp P o a w K' Q) : wpAnyH P md ops Q S (fuel + 1) listed a w := by
  cases ho : ops[i]? with
  | none => rw [ho] at hw; simp at hw
  | some o =>
    cases ko : ops[j]? with
    | none => rw [ko] at kw; simp at kw
    | some o' =>
      rw [ho] at hw
      rw [ko] at kw
      simp only [Option.map_some, Option.some.injEq] at hw kw
      exact wpAnyH_ready hr (by simp) (AllReadyH.cons ho (fun K' hK => by rw [if_pos hw]; exact h o ho.symm K' hK) (AllReadyH.cons ko (fun K' hK => by rw [if_pos kw]; exact k o' ko.symm K' hK) AllReadyH.nil))

theorem sets_atl {b c : Nat} (hbc : c ≠ b) {us : List Value} : ∀ (vs : List Value) (i : Nat) (w : World), AtL w c us → AtL (sets w b i vs) c us
  | [], _, _, h => h
  | v :: vs, i, w, h => sets_atl hbc vs (i + 1) _ (h.keep (by simp) fun o => World.cell?_setCell_far _ _ _ _ (fun e => hbc (by simpa using e.symm)))

theorem sets_low {b : Nat} : ∀ (vs : List Value) (i k : Nat) (w : World), k < i → (sets w b i vs).cell? ⟨b, k, none⟩ = w.cell? ⟨b, k, none⟩
  | [], _, _, _, _ => rfl
  | v :: vs, i, k, w, h => (sets_low vs (i + 1) k _ (by omega)).trans (World.cell?_setCell_other _ _ _ _ (fun e => by have := congrArg Addr.off e; simp only at this; omega))
theorem sets_cells {b : Nat} : ∀ (vs us : List Value) (i : Nat) (w : World), us.length = vs.length → (∀ j v, us[j]? = some v → w.cell? ⟨b, i + j, none⟩ = some v) → ∀ j v, vs[j]? = some v → (sets w b i vs).cell? ⟨b, i + j, none⟩ = some v
  | [], _, _, _, _, _ => fun j v h => by simp at h
  | v :: vs, [], _, _, hl, _ => by simp at hl
  | v :: vs, u :: us, i, w, hl, hc => fun j x h => by
    match j with
    | 0 =>
      simp at h
      subst h
      exact (sets_low vs (i + 1) i _ (by omega)).trans (World.cell?_setCell_same _ _ _ (hc 0 u rfl))
    | j + 1 =>
      simp at h
      have := sets_cells vs us (i + 1) (w.setCell ⟨b, i, none⟩ v) (by simpa using hl) (fun k y hk => by
        rw [World.cell?_setCell_other _ _ _ _ (fun e => by have := congrArg Addr.off e; simp only at this; omega)]
        have := hc (k + 1) y (by simpa using hk)
        rw [show i + 1 + k = i + (k + 1) by omega]
        exact this) j x h
      rw [show i + (j + 1) = i + 1 + j by omega]
      exact this
theorem sets_at {b : Nat} {us : List Value} {w : World} (vs : List Value) (h : AtL w b us) (hl : us.length = vs.length) : AtL (sets w b 0 vs) b vs :=
  ⟨Nat.lt_of_lt_of_le h.1 (sets_below (B := 0) (Nat.zero_le _) vs 0 w w (Below.refl _ _)).size, fun j v hj => by
    have := sets_cells vs us 0 w hl (fun j v hj => by rw [Nat.zero_add]; exact h.2 j v hj) j v hj
    rw [Nat.zero_add] at this
    exact this⟩

theorem at_two (w : World) (o : Obj) (vs : List Value) (t : TypeId) : AtL ((w.alloc o).alloc (.cells vs.toArray t)).drew (w.heap.size + 1) vs := by
  have h := AtL.new (w.alloc o) vs t
  rw [World.size_alloc] at h
  exact ⟨h.1, h.2⟩

theorem at_one (w : World) (vs : List Value) (t : TypeId) (o : Obj) : AtL ((w.alloc (.cells vs.toArray t)).alloc o).drew w.heap.size vs := by
  have h := (AtL.new w vs t).on (below_mk _ o)
  exact ⟨h.1, h.2⟩
theorem below_two_set (w : World) (o1 o2 : Obj) (i : Nat) (u : Value) : Below w.heap.size w (((w.alloc o1).alloc o2).setCell ⟨w.heap.size + 1, i, none⟩ u).drew :=
  below_drewN ((below_on (below_mk _ _) (below_mk _ _)).setCell (by simp) _) 1
theorem at_two_set (w : World) (o : Obj) (i : Nat) (u : Value) (vs : List Value) (t : TypeId) : AtL (((w.alloc o).alloc (.cells vs.toArray t)).setCell ⟨w.heap.size + 1, i, none⟩ u).drew (w.heap.size + 1) (vs.set i u) := by
  have h := at_two w o vs t
  refine ⟨by simp, fun j v hj => ?_⟩
  by_cases hji : i = j
  · subst hji
    have hlt : i < vs.length := by
      have := (List.getElem?_eq_some_iff.1 hj).1
      simpa using this
    rw [List.getElem?_set_self hlt] at hj
    obtain rfl := Option.some.inj hj
    have hc := h.2 i (vs[i]) (by simp)
    exact World.cell?_setCell_same _ _ _ (show ((w.alloc o).alloc (.cells vs.toArray t)).cell? ⟨w.heap.size + 1, i, none⟩ = some vs[i] from hc)
  · rw [List.getElem?_set_ne hji] at hj
    exact (World.cell?_setCell_other _ _ _ _ (fun e => hji (by simpa using e.symm))).trans (h.2 j v hj)

end Go.Proofs.YtcchhlcgamcceaaDoor
