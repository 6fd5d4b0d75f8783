/- FirstPaste of the program: what waits panics, and is caught. -/
import Derived.Test.YtcchhlcgamcceaaPaste4
import Derived.Defers
import Derived.Recover
import Derived.Laws.Pointers
namespace Go.Proofs.Ytcchhlcgamcceaa
open Go.RowKit

set_option maxRecDepth 100000 in
set_option maxHeartbeats 4000000 in
theorem paste_caught (b : Nat) (u : TypeId) (pv : Value) (older : List PanicEntry) (w : World) (h : AtL w b (tkL (badTk 0) (.slice none 0 0))) (hz : ∀ o, w.frozen? ⟨b, o, none⟩ = false) :
    CallsD Try.prog 63 #[.pointer (some ⟨b, 0, none⟩)] (.panicking ({ v := .iface u pv, recovered := false } :: older)) w fun e u' w' =>
      e = .returned (.tuple #[]) ∧ u' = .panicking ({ v := .iface u pv, recovered := true } :: older) ∧ w' = sets w b 0 (tkL (badTk 6) (.slice none 0 0)) := by
  have h0 := h.get 0 rfl
  have h1 := h.get 1 rfl
  have h2 := h.get 2 rfl
  have h3 := h.get 3 rfl
  have h4 := h.get 4 rfl
  have h5 := h.get 5 rfl
  have h6 := h.get 6 rfl
  have h7 := h.get 7 rfl
  have h8 := h.get 8 rfl
  have h9 := h.get 9 rfl
  have h10 := h.get 10 rfl
  have h11 := h.get 11 rfl
  clear h
  refine callsD_of_wpS Try.func63 rfl fun c₀ cs hu => ?_
  apply wpS_seq
  apply wpS_region
  simp [wpOpsS, go_sem, recoverD, hu, Try.ntmps63, Exit.thenS]
  refine wpS_cond (t := true) (by simp [Act.eval, Array.replicate]) ?_
  simp only [if_true]
  apply wpS_region
  simp [wpOpsS, go_sem, h0, h1, h2, h3, h4, h5, h6, h7, h8, h9, h10, h11, hz, bodyPostS, results, Try.results63]
  rfl

theorem paste_idle (p : Addr) (w : World) :
    CallsD Try.prog 63 #[.pointer (some p)] .returning w fun e u' w' => e = .returned (.tuple #[]) ∧ u' = .returning ∧ w' = w := by
  refine callsD_of_wpS Try.func63 rfl fun c₀ cs hu => ?_
  apply wpS_seq
  apply wpS_region
  simp [wpOpsS, go_sem, recoverD, hu, Try.ntmps63, Exit.thenS]
  refine wpS_cond (t := false) (by simp [Act.eval, Array.replicate]) ?_
  simp only [Bool.false_eq_true, if_false]
  refine wpS_of_wp (wp_skip ?_)
  cases c₀
  simp_all [bodyPostS, results, Try.results63]

set_option maxRecDepth 100000 in
set_option maxHeartbeats 4000000 in
theorem implFirstPaste_wait (p : Option Addr) (c : Nat) (l : List UInt8) (w : World) (h : Bs w w.heap.size p l) (hc : l.length ≤ c) (hl : l.length ≤ 1048576) (h0 : l ≠ []) (h32 : ¬ 32 ≤ unt l) (h6 : l.length < unt l + 6) :
    Calls Try.prog 28 #[.slice p l.length c] w (PlainTk w (badTk 6)) := by
  have hmf : ∀ (fn : Fn) (first cap : Array Value) (w : World), (Instr.makeFunc fn first cap).run Try.prog w = .ok (.func fn first cap) w := fun _ _ _ _ => rfl
  have hpos : 0 < l.length := List.length_pos_iff.2 h0
  have hne : ¬ ((l.length : Int) = 0) := by omega
  have HW := Lib.hid (fun o => tokenWithin_wait p c l (w.alloc o) (h.alloc o) hc hl h32 h6)
  clear h h32 h6 h0
  go_enter_defers Try.func28, Try.ntmps28
  go_wp2_with fail
  refine (HW.out _).mono ?_
  rintro e w1 ⟨rfl, hb⟩
  unfold waitPanic
  go_wp2_with fail
  have HE : Hid (PlainTk w (badTk 6) (.returned (tkV (badTk 6) (.slice none 0 0))) (sets w1 w.heap.size 0 (tkL (badTk 6) (.slice none 0 0)))) := tk_end_plain (tkL (badTk 6) (.slice none 0 0)) hb
  have HA : Hid (AtL w1 w.heap.size (tkL (badTk 0) (.slice none 0 0))) := (AtL.new w (tkL (badTk 0) (.slice none 0 0)) 30).on hb
  have HZ : Hid (∀ o, w1.frozen? ⟨w.heap.size, o, none⟩ = false) := fun o => (hb.frozen (p := ⟨w.heap.size, o, none⟩) (by simp)).trans (by simp)
  obtain ⟨hcc, hf⟩ := bcell hb
  clear hb
  refine leaves_cons (f := 63) (args := #[.pointer (some ⟨w.heap.size, 0, none⟩)]) (by simp) (by simp [go_sem]) ?_
  refine (paste_caught w.heap.size 9 _ [] w1 HA.out HZ.out).mono ?_
  rintro e u' w'' ⟨rfl, rfl, rfl⟩
  simp [Leaves, settle, results, Try.results28, go_sem, sets, tkL, badTk, noEv, hcc]
  exact HE.out

set_option maxRecDepth 100000 in
set_option maxHeartbeats 4000000 in
theorem implFirstPaste_done (p : Option Addr) (c : Nat) (l : List UInt8) (w : World) (ev : Ev) (s : Int) (pa no : Bool) (hpos : 0 < l.length) (hl : l.length ≤ 1048576) (HW : Hid (∀ o, Calls Try.prog 64 #[.slice p l.length c] (w.alloc o) (NewTok (w.alloc o) ev s pa no))) :
    Calls Try.prog 28 #[.slice p l.length c] w (NewTk w ⟨0, ev, s, pa, no⟩) := by
  have hmf : ∀ (fn : Fn) (first cap : Array Value) (w : World), (Instr.makeFunc fn first cap).run Try.prog w = .ok (.func fn first cap) w := fun _ _ _ _ => rfl
  have hne : ¬ ((l.length : Int) = 0) := by omega
  go_enter_defers Try.func28, Try.ntmps28
  go_wp2_with fail
  refine (HW.out _).mono ?_
  rintro e w1 ⟨v, rfl, ho, hb⟩
  obtain ⟨hcc, hf⟩ := bcell hb
  obtain ⟨pp, cc, hv⟩ := ho.slice
  subst hv
  unfold tokV
  go_wp2_with fail
  have HE : Hid (NewTk w ⟨0, ev, s, pa, no⟩ (.returned (tkV ⟨0, ev, s, pa, no⟩ (.slice pp ev.data.length cc))) (sets w1 w.heap.size 0 (tkL ⟨0, ev, s, pa, no⟩ (.slice pp ev.data.length cc)))) := tk_end (tkL ⟨0, ev, s, pa, no⟩ (.slice pp ev.data.length cc)) ho hb
  clear hb ho
  refine leaves_cons (f := 63) (args := #[.pointer (some ⟨w.heap.size, 0, none⟩)]) (by simp) (by simp [go_sem]) ?_
  refine (paste_idle ⟨w.heap.size, 0, none⟩ _).mono ?_
  rintro e u' w'' ⟨rfl, rfl, rfl⟩
  simp [Leaves, settle, results, Try.results28, go_sem, hcc]
  exact HE.out

set_option maxRecDepth 100000 in
set_option maxHeartbeats 4000000 in
theorem implFirstPaste_none (p : Option Addr) (c : Nat) (w : World) :
    Calls Try.prog 28 #[.slice p 0 c] w (PlainTk w (badTk 4)) := by
  have hmf : ∀ (fn : Fn) (first cap : Array Value) (w : World), (Instr.makeFunc fn first cap).run Try.prog w = .ok (.func fn first cap) w := fun _ _ _ _ => rfl
  go_enter_defers Try.func28, Try.ntmps28
  go_wp2
  have HE : Hid (PlainTk w (badTk 4) (.returned (tkV (badTk 4) (.slice none 0 0))) (w.alloc (.cells (tkL (badTk 4) (.slice none 0 0)).toArray 30))) := ⟨rfl, below_mk _ _⟩
  simp [bodyPostD, Leaves, results, Try.results28, go_sem]
  exact HE.out

theorem implFirstPaste_any (p : Option Addr) (c : Nat) (l : List UInt8) (w : World) (h : Bs w w.heap.size p l) (hc : l.length ≤ c) (hl : l.length ≤ 1048576) :
    Calls Try.prog 28 #[.slice p l.length c] w (NewTk w (firstPaste l)) := by
  by_cases h0 : l = []
  · subst h0
    exact (implFirstPaste_none p c w).mono fun _ _ hp => hp.new rfl
  have hpos : 0 < l.length := List.length_pos_iff.2 h0
  have hkl := unt_le l
  by_cases h32 : 32 ≤ unt l
  · rw [firstPaste_long h0 h32]
    have e : pasteTk (l.take 32) = ⟨0, pasteEv (l.take 32), 32, true, false⟩ := by
      unfold pasteTk pTk
      rw [show (l.take 32).length = 32 by simp; omega]
      rfl
    rw [e]
    exact implFirstPaste_done p c l w _ _ _ _ hpos hl (Lib.hid fun o => tokenWithin_long p c l (w.alloc o) (h.alloc o) hc hl h32)
  by_cases h6 : l.length < unt l + 6
  · rw [firstPaste_full h0 h32 h6]
    exact (implFirstPaste_wait p c l w h hc hl h0 h32 h6).mono fun _ _ hp => hp.new rfl
  by_cases hk0 : 0 < unt l
  · rw [firstPaste_some h0 h32 h6 hk0]
    have e : pasteTk (l.take (unt l)) = ⟨0, pasteEv (l.take (unt l)), unt l, true, false⟩ := by
      unfold pasteTk pTk
      rw [show (l.take (unt l)).length = unt l by simp; omega]
    rw [e]
    exact implFirstPaste_done p c l w _ _ _ _ hpos hl (Lib.hid fun o => tokenWithin_some p c l (w.alloc o) (h.alloc o) hc hl h32 h6 hk0)
  · rw [firstPaste_end h0 h32 h6 hk0]
    exact implFirstPaste_done p c l w _ _ _ _ hpos hl (Lib.hid fun o => tokenWithin_end p c l (w.alloc o) (h.alloc o) hc hl h32 h6 hk0)

end Go.Proofs.Ytcchhlcgamcceaa
