/- FirstToken of the program: what waits panics, and is caught. -/
import Derived.Test.YtbnpodledgaipaaGreatDoorQTokImpl6ToTokImpl7
import Derived.Defers
import Derived.Recover
import Derived.Laws.Pointers
namespace Go.Proofs.YtbnpodledgaipaaGreatDoor
open Go.RowKit
set_option linter.unusedVariables false

theorem outTok_bad (l : List UInt8) (h : (outTok l).code = 6) : outTok l = badTk 6 := by
  have hS : (seqTok l).code = 6 → seqTok l = badTk 6 := by
    unfold seqTok
    split
    · split
      · intro _; rfl
      · intro h; exact absurd h (by simp [rawTk, rTk])
    · intro h; rw [seqOf_code] at h; omega
  have hL : (letTok l).code = 6 → letTok l = badTk 6 := by
    unfold letTok
    split
    · intro _; rfl
    split
    · intro h; exact absurd h (by simp [rawTk, rTk])
    · intro h; exact absurd h (by simp [keyTk])
  have hE : (escTok l).code = 6 → escTok l = badTk 6 := by
    unfold escTok
    split
    · intro _; rfl
    split
    · exact hS
    split
    · exact hL
    split
    · intro h; exact absurd h (by simp [keyTk])
    · intro h; exact absurd h (by simp [keyTk])
  have hP : (ptTok l).code = 6 → ptTok l = badTk 6 := by
    unfold ptTok
    split
    · intro _; rfl
    split
    · intro h; exact absurd h (by simp [rawTk, rTk])
    · intro h; exact absurd h (by simp [keyTk])
  revert h
  unfold outTok
  split
  · exact hE
  split
  · exact hP
  split
  · intro h; omega
  · intro h; exact absurd h (by simp [rawTk, rTk])

set_option maxRecDepth 100000 in
set_option maxHeartbeats 4000000 in
theorem token_caught (b : Nat) (u : TypeId) (pv : Value) (older : List PanicEntry) (w : World) (h : AtL w b (tkL (badTk 0) (.slice none 0 0))) (hz : ∀ o, w.frozen? ⟨b, o, none⟩ = false) :
    CallsD Tryz.prog 58 #[.pointer (some ⟨b, 0, none⟩)] (.panicking ({ v := .iface u pv, recovered := false } :: older)) w fun e u' w' =>
      e = .returned (.tuple #[]) ∧ u' = .panicking ({ v := .iface u pv, recovered := true } :: older) ∧ w' = sets w b 0 (tkL (badTk 6) (.slice none 0 0)) := by
  have h0 := h.get 0 rfl
  have h1 := h.get 1 rfl
  have h2 := h.get 2 rfl
  have h3 := h.get 3 rfl
  have h4 := h.get 4 rfl
  have h5 := h.get 5 rfl
  have h6 := h.get 6 rfl
  have h7 := h.get 7 rfl
  have h8 := h.get 8 rfl
  have h9 := h.get 9 rfl
  have h10 := h.get 10 rfl
  have h11 := h.get 11 rfl
  clear h
  refine callsD_of_wpS Tryz.func58 rfl fun c₀ cs hu => ?_
  apply wpS_seq
  apply wpS_region
  simp [wpOpsS, go_sem, recoverD, hu, Tryz.ntmps58, Exit.thenS]
  refine wpS_cond (t := true) (by simp [Act.eval, Array.replicate]) ?_
  simp only [if_true]
  apply wpS_region
  simp [wpOpsS, go_sem, h0, h1, h2, h3, h4, h5, h6, h7, h8, h9, h10, h11, hz, bodyPostS, results, Tryz.results58]
  rfl

theorem token_idle (p : Addr) (w : World) :
    CallsD Tryz.prog 58 #[.pointer (some p)] .returning w fun e u' w' => e = .returned (.tuple #[]) ∧ u' = .returning ∧ w' = w := by
  refine callsD_of_wpS Tryz.func58 rfl fun c₀ cs hu => ?_
  apply wpS_seq
  apply wpS_region
  simp [wpOpsS, go_sem, recoverD, hu, Tryz.ntmps58, Exit.thenS]
  refine wpS_cond (t := false) (by simp [Act.eval, Array.replicate]) ?_
  simp only [Bool.false_eq_true, if_false]
  refine wpS_of_wp (wp_skip ?_)
  cases c₀
  simp_all [bodyPostS, results, Tryz.results58]

set_option maxRecDepth 100000 in
set_option maxHeartbeats 4000000 in
theorem implFirstToken_wait (p : Option Addr) (c : Nat) (l : List UInt8) (w : World) (hpos : 0 < l.length) (hl : l.length ≤ 1048576) (HW : Hid (∀ o, Calls Tryz.prog 59 #[.slice p l.length c] (w.alloc o) (Waits (w.alloc o)))) :
    Calls Tryz.prog 12 #[.slice p l.length c] w (PlainTk w (badTk 6)) := by
  have hmf : ∀ (fn : Fn) (first cap : Array Value) (w : World), (Instr.makeFunc fn first cap).run Tryz.prog w = .ok (.func fn first cap) w := fun _ _ _ _ => rfl
  have hne : ¬ ((l.length : Int) = 0) := by omega
  go_enter_defers Tryz.func12, Tryz.ntmps12
  go_wp2_with fail
  refine (HW.out _).mono ?_
  rintro e w1 ⟨rfl, hb⟩
  unfold waitPanic
  go_wp2_with fail
  have HE : Hid (PlainTk w (badTk 6) (.returned (tkV (badTk 6) (.slice none 0 0))) (sets w1 w.heap.size 0 (tkL (badTk 6) (.slice none 0 0)))) := tk_end_plain (tkL (badTk 6) (.slice none 0 0)) hb
  have HA : Hid (AtL w1 w.heap.size (tkL (badTk 0) (.slice none 0 0))) := (AtL.new w (tkL (badTk 0) (.slice none 0 0)) 30).on hb
  have HZ : Hid (∀ o, w1.frozen? ⟨w.heap.size, o, none⟩ = false) := fun o => (hb.frozen (p := ⟨w.heap.size, o, none⟩) (by simp)).trans (by simp)
  obtain ⟨hcc, hf⟩ := bcell hb
  clear hb
  refine leaves_cons (f := 58) (args := #[.pointer (some ⟨w.heap.size, 0, none⟩)]) (by simp) (by simp [go_sem]) ?_
  refine (token_caught w.heap.size 9 _ [] w1 HA.out HZ.out).mono ?_
  rintro e u' w'' ⟨rfl, rfl, rfl⟩
  simp [Leaves, settle, results, Tryz.results12, go_sem, sets, tkL, badTk, noEv, hcc]
  exact HE.out

set_option maxRecDepth 100000 in
set_option maxHeartbeats 4000000 in
theorem implFirstToken_done (p : Option Addr) (c : Nat) (l : List UInt8) (w : World) (ev : Ev) (s : Int) (pa no : Bool) (hpos : 0 < l.length) (hl : l.length ≤ 1048576) (HW : Hid (∀ o, Calls Tryz.prog 59 #[.slice p l.length c] (w.alloc o) (NewTok (w.alloc o) ev s pa no))) :
    Calls Tryz.prog 12 #[.slice p l.length c] w (NewTk w ⟨0, ev, s, pa, no⟩) := by
  have hmf : ∀ (fn : Fn) (first cap : Array Value) (w : World), (Instr.makeFunc fn first cap).run Tryz.prog w = .ok (.func fn first cap) w := fun _ _ _ _ => rfl
  have hne : ¬ ((l.length : Int) = 0) := by omega
  go_enter_defers Tryz.func12, Tryz.ntmps12
  go_wp2_with fail
  refine (HW.out _).mono ?_
  rintro e w1 ⟨v, rfl, ho, hb⟩
  obtain ⟨hcc, hf⟩ := bcell hb
  obtain ⟨pp, cc, hv⟩ := ho.slice
  subst hv
  unfold tokV
  go_wp2_with fail
  have HE : Hid (NewTk w ⟨0, ev, s, pa, no⟩ (.returned (tkV ⟨0, ev, s, pa, no⟩ (.slice pp ev.data.length cc))) (sets w1 w.heap.size 0 (tkL ⟨0, ev, s, pa, no⟩ (.slice pp ev.data.length cc)))) := tk_end (tkL ⟨0, ev, s, pa, no⟩ (.slice pp ev.data.length cc)) ho hb
  clear hb ho
  refine leaves_cons (f := 58) (args := #[.pointer (some ⟨w.heap.size, 0, none⟩)]) (by simp) (by simp [go_sem]) ?_
  refine (token_idle ⟨w.heap.size, 0, none⟩ _).mono ?_
  rintro e u' w'' ⟨rfl, rfl, rfl⟩
  simp [Leaves, settle, results, Tryz.results12, go_sem, hcc]
  exact HE.out

set_option maxRecDepth 100000 in
set_option maxHeartbeats 4000000 in
theorem implFirstToken_none (p : Option Addr) (c : Nat) (w : World) :
    Calls Tryz.prog 12 #[.slice p 0 c] w (PlainTk w (badTk 4)) := by
  have hmf : ∀ (fn : Fn) (first cap : Array Value) (w : World), (Instr.makeFunc fn first cap).run Tryz.prog w = .ok (.func fn first cap) w := fun _ _ _ _ => rfl
  go_enter_defers Tryz.func12, Tryz.ntmps12
  go_wp2
  have HE : Hid (PlainTk w (badTk 4) (.returned (tkV (badTk 4) (.slice none 0 0))) (w.alloc (.cells (tkL (badTk 4) (.slice none 0 0)).toArray 30))) := ⟨rfl, below_mk _ _⟩
  simp [bodyPostD, Leaves, results, Tryz.results12, go_sem]
  exact HE.out

theorem implFirstToken_any (p : Option Addr) (c : Nat) (l : List UInt8) (w : World) (h : Bs w w.heap.size p l) (ht : Tabs w) (hc : l.length ≤ c) (hl : l.length ≤ 1048576) :
    Calls Tryz.prog 12 #[.slice p l.length c] w (NewTk w (firstTok l)) := by
  unfold firstTok
  by_cases h0 : l = []
  · subst h0
    exact (implFirstToken_none p c w).mono fun _ _ hp => hp.new rfl
  rw [if_neg h0]
  have hpos : 0 < l.length := List.length_pos_iff.2 h0
  have hO := fun o => tokenOutside_any p c l (w.alloc o) (h.alloc o) (ht.on (below_mk _ o)) hc hl h0
  rcases outTok_two l with hz | hz
  · have e : outTok l = ⟨0, (outTok l).ev, (outTok l).size, (outTok l).paste, (outTok l).none⟩ := by rw [← hz]
    rw [e]
    exact implFirstToken_done p c l w _ _ _ _ hpos hl (Lib.hid fun o => (hO o).mono fun _ _ q => q.done hz)
  · have e : outTok l = badTk 6 := outTok_bad l hz
    rw [e]
    exact (implFirstToken_wait p c l w hpos hl (Lib.hid fun o => (hO o).mono fun _ _ q => q.wait hz)).mono fun _ _ hp => hp.new rfl

end Go.Proofs.YtbnpodledgaipaaGreatDoor
