/- Pastes: tokenWithin of the program, FirstPaste of the model. -/
import Derived.Test.YtjopjddhgaiddabGreatDoorQCut0ToRaw
import Derived.WalkLawsBesides
import Derived.Defers
import Derived.Recover
import Derived.Laws.Pointers
namespace Go.Proofs.YtjopjddhgaiddabGreatDoor
open Go.RowKit

theorem ends_iff (l : List UInt8) : pre endB (l.drop (unt l)) = decide (unt l + 6 ≤ l.length) := by
  by_cases h : unt l + 6 ≤ l.length
  · have h1 := unt_stops l (by omega)
    rw [stops_ge _ (by simp; omega)] at h1
    simp only [h, decide_true]
    exact h1
  · rw [pre_long (by simp [endB]; omega)]
    simp [h]

theorem firstPaste_none : firstPaste [] = badTk 4 := rfl
theorem firstPaste_long {l : List UInt8} (h0 : l ≠ []) (h : 32 ≤ unt l) : firstPaste l = pasteTk (l.take 32) := by unfold firstPaste; rw [if_neg h0, if_pos h]
theorem firstPaste_full {l : List UInt8} (h0 : l ≠ []) (h : ¬ 32 ≤ unt l) (h6 : l.length < unt l + 6) : firstPaste l = badTk 6 := by unfold firstPaste; rw [if_neg h0, if_neg h, if_pos h6]
theorem firstPaste_some {l : List UInt8} (h0 : l ≠ []) (h : ¬ 32 ≤ unt l) (h6 : ¬ l.length < unt l + 6) (hp : 0 < unt l) : firstPaste l = pasteTk (l.take (unt l)) := by unfold firstPaste; rw [if_neg h0, if_neg h, if_neg h6, if_pos hp]
theorem firstPaste_end {l : List UInt8} (h0 : l ≠ []) (h : ¬ 32 ≤ unt l) (h6 : ¬ l.length < unt l + 6) (hp : ¬ 0 < unt l) : firstPaste l = ⟨0, noEv, 6, false, true⟩ := by unfold firstPaste; rw [if_neg h0, if_neg h, if_neg h6, if_neg hp]

theorem l3Pasted_cut (p : Option Addr) (c k : Nat) (l : List UInt8) (w : World) (h : Bs w w.heap.size p l) (hk : k ≤ l.length) (hc : l.length ≤ c) (hl : l.length ≤ 1048576) :
    Calls Tryz.prog 49 #[.slice p k c] w (NewTk w (pasteTk (l.take (min 32 k)))) := by
  have := l3Pasted_any p c (l.take k) w (h.head k) (by simp; omega) (by simp; omega)
  rw [show (l.take k).length = k by simp; omega, List.take_take] at this
  exact this

set_option maxRecDepth 100000 in
set_option maxHeartbeats 4000000 in
theorem specFirstPaste_any (p : Option Addr) (c : Nat) (l : List UInt8) (w : World) (h : Bs w w.heap.size p l) (hc : l.length ≤ c) (hl : l.length ≤ 1048576) :
    Calls Tryz.prog 46 #[.slice p l.length c] w (NewTk w (firstPaste l)) := by
  by_cases h0 : l = []
  · subst h0
    rw [firstPaste_none]
    go_enter Tryz.func46, Tryz.ntmps46
    go_wp2_with fail
    refine (l3Bad_any _ _).mono ?_
    rintro e w1 ⟨rfl, hb⟩
    unfold tkV badTk noEv
    obtain ⟨hcc, hf⟩ := bcell hb
    have HE : Hid (PlainTk w (badTk 4) (.returned (tkV (badTk 4) (.slice none 0 0))) (sets w1 w.heap.size 0 (tkL (badTk 4) (.slice none 0 0)))) := tk_end_plain (tkL (badTk 4) (.slice none 0 0)) hb
    clear hb
    go_wp2_with fail
    refine bodyPost_ret (v := tkV (badTk 4) (.slice none 0 0)) ?_ rfl (HE.out.new rfl)
    simp [results, Tryz.results46, tkV, badTk, noEv, go_sem, hcc]
  have hpos : 0 < l.length := List.length_pos_iff.2 h0
  have hne : ¬ ((l.length : Int) = 0) := by omega
  have hkl := unt_le l
  have HT := Lib.hid (fun o => l3Until_any p c l (w.alloc o) (h.alloc o) hc hl)
  have HP0 := fun (o : Obj) (w1 : World) (hb : Below (w.alloc o).heap.size (w.alloc o) w1) => l3Pasted_cut p c (unt l) l w1 ((h.alloc o).on hb) hkl hc hl
  by_cases h32 : 32 ≤ unt l
  · rw [firstPaste_long h0 h32]
    rw [show min 32 (unt l) = 32 by omega] at HP0
    have HP := Lib.hid HP0
    clear HP0 h h0
    generalize unt l = k at *
    generalize l.take 32 = d at *
    go_enter Tryz.func46, Tryz.ntmps46
    go_wp2_with fail
    refine (HT.out _).mono ?_
    rintro e w1 ⟨rfl, hb1⟩
    have HB1 := Lib.hid hb1
    have HQ := Lib.hid (HP.out _ _ hb1)
    obtain ⟨hc1, hf1⟩ := bcell hb1
    clear hb1 HP
    go_wp2_with fail
    refine (HQ.out).mono ?_
    rintro e w2 ⟨v, rfl, ho, hb2⟩
    have hb := HB1.out.trans (hb2.mono HB1.out.size)
    obtain ⟨hcc, hf⟩ := bcell hb
    obtain ⟨pp, cc, hv⟩ := ho.slice
    subst hv
    have HE : Hid (NewTk w (pasteTk d) (.returned (tkV (pasteTk d) (.slice pp d.length cc))) (sets w2 w.heap.size 0 (tkL (pasteTk d) (.slice pp d.length cc)))) := tk_end (tkL (pasteTk d) (.slice pp d.length cc)) (ho.lower HB1.out.size) hb
    unfold tkV pasteTk pTk pasteEv
    dsimp only
    clear hb2 ho hb hc1 hf1
    go_wp2_with fail
    refine bodyPost_ret (v := tkV (pasteTk d) (.slice pp d.length cc)) ?_ rfl HE.out
    simp [results, Tryz.results46, tkV, pasteTk, pTk, pasteEv, go_sem, hcc]
  by_cases h6 : l.length < unt l + 6
  · rw [firstPaste_full h0 h32 h6]
    have HP := Lib.hid HP0
    clear HP0 h h0
    generalize unt l = k at *
    have g1 : decide ((6 : Int) ≤ (l.length : Int) - (k : Int)) = false := by simp; omega
    have g2 : decide ((32 : Int) ≤ (k : Int)) = false := by simp; omega
    by_cases hk0 : 0 < k
    all_goals
      go_enter Tryz.func46, Tryz.ntmps46
      go_wp2_with fail
      refine (HT.out _).mono ?_
      rintro e w1 ⟨rfl, hb1⟩
      have HB1 := Lib.hid hb1
      have HQ := Lib.hid (HP.out _ _ hb1)
      obtain ⟨hc1, hf1⟩ := bcell hb1
      clear hb1 HP
      go_wp2_with fail
      refine (l3Bad_any _ _).mono ?_
      rintro e w2 ⟨rfl, hb2⟩
      have hb := HB1.out.trans (hb2.mono HB1.out.size)
      unfold tkV badTk noEv
      obtain ⟨hcc, hf⟩ := bcell hb
      have HE : Hid (PlainTk w (badTk 6) (.returned (tkV (badTk 6) (.slice none 0 0))) (sets w2 w.heap.size 0 (tkL (badTk 6) (.slice none 0 0)))) := tk_end_plain (tkL (badTk 6) (.slice none 0 0)) hb
      clear hb hb2 hc1 hf1
      go_wp2_with fail
      refine bodyPost_ret (v := tkV (badTk 6) (.slice none 0 0)) ?_ rfl (HE.out.new rfl)
      simp [results, Tryz.results46, tkV, badTk, noEv, go_sem, hcc]
  by_cases hk0 : 0 < unt l
  · rw [firstPaste_some h0 h32 h6 hk0]
    rw [show min 32 (unt l) = unt l by omega] at HP0
    have HP := Lib.hid HP0
    clear HP0 h h0
    generalize unt l = k at *
    generalize l.take k = d at *
    have g1 : (6 : Int) ≤ (l.length : Int) - (k : Int) := by omega
    have g2 : decide ((32 : Int) ≤ (k : Int)) = false := by simp; omega
    have g3 : (0 : Int) < (k : Int) := by omega
    go_enter Tryz.func46, Tryz.ntmps46
    go_wp2_with fail
    refine (HT.out _).mono ?_
    rintro e w1 ⟨rfl, hb1⟩
    have HB1 := Lib.hid hb1
    have HQ := Lib.hid (HP.out _ _ hb1)
    obtain ⟨hc1, hf1⟩ := bcell hb1
    clear hb1 HP
    go_wp2_with fail
    refine (HQ.out).mono ?_
    rintro e w2 ⟨v, rfl, ho, hb2⟩
    have hb := HB1.out.trans (hb2.mono HB1.out.size)
    obtain ⟨hcc, hf⟩ := bcell hb
    obtain ⟨pp, cc, hv⟩ := ho.slice
    subst hv
    have HE : Hid (NewTk w (pasteTk d) (.returned (tkV (pasteTk d) (.slice pp d.length cc))) (sets w2 w.heap.size 0 (tkL (pasteTk d) (.slice pp d.length cc)))) := tk_end (tkL (pasteTk d) (.slice pp d.length cc)) (ho.lower HB1.out.size) hb
    unfold tkV pasteTk pTk pasteEv
    dsimp only
    clear hb2 ho hb hc1 hf1
    go_wp2_with fail
    refine bodyPost_ret (v := tkV (pasteTk d) (.slice pp d.length cc)) ?_ rfl HE.out
    simp [results, Tryz.results46, tkV, pasteTk, pTk, pasteEv, go_sem, hcc]
  · rw [firstPaste_end h0 h32 h6 hk0]
    have HP := Lib.hid HP0
    clear HP0 h h0
    generalize unt l = k at *
    have g1 : (6 : Int) ≤ (l.length : Int) - (k : Int) := by omega
    have g2 : decide ((32 : Int) ≤ (k : Int)) = false := by simp; omega
    go_enter Tryz.func46, Tryz.ntmps46
    go_wp2_with fail
    refine (HT.out _).mono ?_
    rintro e w1 ⟨rfl, hb1⟩
    have HB1 := Lib.hid hb1
    have HQ := Lib.hid (HP.out _ _ hb1)
    obtain ⟨hc1, hf1⟩ := bcell hb1
    clear hb1 HP
    have HE : Hid (PlainTk w ⟨0, noEv, 6, false, true⟩ (.returned (tkV ⟨0, noEv, 6, false, true⟩ (.slice none 0 0))) (sets w1 w.heap.size 0 (tkL ⟨0, noEv, 6, false, true⟩ (.slice none 0 0)))) := tk_end_plain (tkL ⟨0, noEv, 6, false, true⟩ (.slice none 0 0)) HB1.out
    go_wp2_with fail
    refine bodyPost_ret (v := tkV ⟨0, noEv, 6, false, true⟩ (.slice none 0 0)) ?_ rfl (HE.out.new rfl)
    simp [results, Tryz.results46, tkV, noEv, go_sem, hc1]

end Go.Proofs.YtjopjddhgaiddabGreatDoor

/- Pastes: tokenWithin of the program. -/
namespace Go.Proofs.YtjopjddhgaiddabGreatDoor
open Go.RowKit

/-- the panic of what has not arrived -/
def waitPanic : List PanicEntry := [{ v := .iface 9 (.string ⟨#[116, 104, 101, 32, 116, 111, 107, 101, 110, 32, 105, 115, 32, 105, 110, 99, 111, 109, 112, 108, 101, 116, 101]⟩), recovered := false }]
/-- what a call leaves that waits -/
def Waits (w : World) (e : Ending) (w' : World) : Prop := e = .panicked waitPanic ∧ Below w.heap.size w w'

theorem pasteToken_cut (p : Option Addr) (c k : Nat) (l : List UInt8) (w : World) (h : Bs w w.heap.size p l) (hk : k ≤ l.length) (h0 : 0 < k) (hl : l.length ≤ 1048576) :
    Calls Tryz.prog 66 #[.slice p k c] w (NewTok w (pasteEv (l.take k)) k true false) := by
  have e : (l.take k).length = k := by simp; omega
  have := pasteToken_any p c (l.take k) w (h.head k) (by simp; omega) (by intro e'; rw [e'] at e; simp at e; omega)
  rw [e] at this
  exact this

set_option maxRecDepth 100000 in
set_option maxHeartbeats 4000000 in
theorem tokenWithin_long (p : Option Addr) (c : Nat) (l : List UInt8) (w : World) (h : Bs w w.heap.size p l) (hc : l.length ≤ c) (hl : l.length ≤ 1048576) (h32 : 32 ≤ unt l) :
    Calls Tryz.prog 98 #[.slice p l.length c] w (NewTok w (pasteEv (l.take 32)) 32 true false) := by
  have hkl := unt_le l
  have HT := Lib.hid (fun o => certainSize_any p c l (w.alloc o) (h.alloc o) hc hl)
  have HP := Lib.hid (fun (o : Obj) (w1 : World) (hb : Below (w.alloc o).heap.size (w.alloc o) w1) => pasteToken_cut p c 32 l w1 ((h.alloc o).on hb) (by omega) (by omega) hl)
  clear h
  generalize unt l = k at *
  generalize hd : l.take 32 = d at *
  have h3 : d.length = 32 := by rw [← hd]; simp; omega
  clear hd
  go_enter Tryz.func98, Tryz.ntmps98
  go_wp2_with fail
  refine (HT.out _).mono ?_
  rintro e w1 ⟨rfl, hb1⟩
  have HB1 := Lib.hid hb1
  have HQ := Lib.hid (HP.out _ _ hb1)
  obtain ⟨hc1, hf1⟩ := bcell hb1
  clear hb1 HP
  go_wp2_with fail
  refine (HQ.out).mono ?_
  rintro e w2 ⟨v, rfl, ho, hb2⟩
  have hb := HB1.out.trans (hb2.mono HB1.out.size)
  obtain ⟨hcc, hf⟩ := bcell hb
  obtain ⟨pp, cc, hv⟩ := ho.slice
  subst hv
  have HE : Hid (NewTok w (pasteEv d) 32 true false (.returned (tokV (pasteEv d) (.slice pp d.length cc) 32 true false)) (sets w2 w.heap.size 0 (tokL (pasteEv d) (.slice pp d.length cc) 32 true false))) := tok_end (tokL (pasteEv d) (.slice pp d.length cc) 32 true false) (ho.lower HB1.out.size) hb
  clear hb2 ho hb hc1 hf1 h3
  unfold tokV pasteEv
  dsimp only
  go_wp2_with fail
  refine bodyPost_ret (v := tokV (pasteEv d) (.slice pp d.length cc) 32 true false) ?_ rfl HE.out
  simp [results, Tryz.results98, tokV, pasteEv, go_sem, hcc]

/-- the test for the end, as tokenWithin makes it -/
theorem ends_call (p : Option Addr) (c : Nat) (l : List UInt8) (hc : l.length ≤ c) (hl : l.length ≤ 1048576) (q : Bool) (hq : decide (unt l + 6 ≤ l.length) = q) :
    (¬ c = unt l → ∀ w1, Bs w1 w1.heap.size p l → Calls Tryz.prog 125 #[.slice (p.map (·.add (unt l))) (l.length - unt l) (c - unt l), .slice (some ⟨w1.heap.size, 0, none⟩) 6 6] (w1.alloc (.cells endC 5 (6, 7))) fun e w' => e = .returned (.bool q) ∧ w1.alloc (.cells endC 5 (6, 7)) = w') ∧
    (c = unt l → ∀ w1, Bs w1 w1.heap.size p l → Calls Tryz.prog 125 #[.slice p 0 0, .slice (some ⟨w1.heap.size, 0, none⟩) 6 6] (w1.alloc (.cells endC 5 (6, 7))) fun e w' => e = .returned (.bool q) ∧ w1.alloc (.cells endC 5 (6, 7)) = w') := by
  have hkl := unt_le l
  have HH := fun (w1 : World) (hb : Bs w1 w1.heap.size p l) => hasPrefix_any (if c = unt l then p else p.map (·.add (unt l))) (some ⟨w1.heap.size, 0, none⟩) (c - unt l) 6 (l.drop (unt l)) endB (w1.alloc (.cells endC 5 (6, 7))) ((hb.alloc _).tail (unt l) c hc) (end_bs w1) (by simp; omega) (by simp; omega) (by simp [endB])
  rw [ends_iff, hq, show endB.length = 6 from rfl, List.length_drop] at HH
  constructor
  · intro hck
    rw [if_neg hck] at HH
    exact HH
  · intro hck
    rw [if_pos hck, show c - unt l = 0 by omega, show l.length - unt l = 0 by omega] at HH
    exact HH

set_option maxRecDepth 100000 in
set_option maxHeartbeats 4000000 in
theorem tokenWithin_wait (p : Option Addr) (c : Nat) (l : List UInt8) (w : World) (h : Bs w w.heap.size p l) (hc : l.length ≤ c) (hl : l.length ≤ 1048576) (h32 : ¬ 32 ≤ unt l) (h6 : l.length < unt l + 6) :
    Calls Tryz.prog 98 #[.slice p l.length c] w (Waits w) := by
  have hkl := unt_le l
  have HT := Lib.hid (fun o => certainSize_any p c l (w.alloc o) (h.alloc o) hc hl)
  have HK := Lib.hid (fun (o : Obj) (w1 : World) (hb : Below (w.alloc o).heap.size (w.alloc o) w1) => (h.alloc o).on hb)
  obtain ⟨H1, H2⟩ := ends_call p c l hc hl false (by simp; omega)
  clear h
  unfold endC at H1 H2
  have hcv := fun W => conv_end W
  unfold endC at hcv
  have g2 : decide ((32 : Int) ≤ (unt l : Int)) = false := by simp; omega
  by_cases hck : c = unt l
  · have HH := Lib.hid (H2 hck)
    clear H1 H2
    generalize unt l = k at *
    subst hck
    go_enter Tryz.func98, Tryz.ntmps98
    go_wp2_with fail
    refine (HT.out _).mono ?_
    rintro e w1 ⟨rfl, hb1⟩
    have HB1 := Lib.hid hb1
    have HQ := Lib.hid (HH.out _ (HK.out _ _ hb1))
    obtain ⟨hc1, hf1⟩ := bcell hb1
    clear hb1 HH
    go_wp2_with fail
    refine HQ.out.mono ?_
    rintro e w2 ⟨rfl, rfl⟩
    go_wp2_with fail
    exact ⟨rfl, rfl, below_on (below_on (below_mk _ _) HB1.out) (below_mk _ _)⟩
  · have HH := Lib.hid (H1 hck)
    clear H1 H2
    generalize unt l = k at *
    go_enter Tryz.func98, Tryz.ntmps98
    go_wp2_with fail
    refine (HT.out _).mono ?_
    rintro e w1 ⟨rfl, hb1⟩
    have HB1 := Lib.hid hb1
    have HQ := Lib.hid (HH.out _ (HK.out _ _ hb1))
    obtain ⟨hc1, hf1⟩ := bcell hb1
    clear hb1 HH
    go_wp2_with fail
    refine HQ.out.mono ?_
    rintro e w2 ⟨rfl, rfl⟩
    go_wp2_with fail
    exact ⟨rfl, rfl, below_on (below_on (below_mk _ _) HB1.out) (below_mk _ _)⟩

set_option maxRecDepth 100000 in
set_option maxHeartbeats 4000000 in
theorem tokenWithin_some (p : Option Addr) (c : Nat) (l : List UInt8) (w : World) (h : Bs w w.heap.size p l) (hc : l.length ≤ c) (hl : l.length ≤ 1048576) (h32 : ¬ 32 ≤ unt l) (h6 : ¬ l.length < unt l + 6) (h0 : 0 < unt l) :
    Calls Tryz.prog 98 #[.slice p l.length c] w (NewTok w (pasteEv (l.take (unt l))) (unt l) true false) := by
  have hkl := unt_le l
  have HT := Lib.hid (fun o => certainSize_any p c l (w.alloc o) (h.alloc o) hc hl)
  have HK := Lib.hid (fun (o : Obj) (w1 : World) (hb : Below (w.alloc o).heap.size (w.alloc o) w1) => (h.alloc o).on hb)
  obtain ⟨H1, H2⟩ := ends_call p c l hc hl true (by simp; omega)
  have HP := Lib.hid (fun (o : Obj) (w1 : World) (o2 : Obj) (hb : Below (w.alloc o).heap.size (w.alloc o) w1) => pasteToken_cut p c (unt l) l (w1.alloc o2) (((h.alloc o).on hb).alloc o2) hkl h0 hl)
  clear h
  unfold endC at H1 H2
  have hcv := fun W => conv_end W
  unfold endC at hcv
  have g2 : decide ((32 : Int) ≤ (unt l : Int)) = false := by simp; omega
  have g3 : (0 : Int) < (unt l : Int) := by omega
  by_cases hck : c = unt l
  · exact absurd hck (by omega)
  · have HH := Lib.hid (H1 hck)
    clear H1 H2
    generalize unt l = k at *
    generalize l.take k = d at *
    go_enter Tryz.func98, Tryz.ntmps98
    go_wp2_with fail
    refine (HT.out _).mono ?_
    rintro e w1 ⟨rfl, hb1⟩
    have HB1 := Lib.hid hb1
    have HQ := Lib.hid (HH.out _ (HK.out _ _ hb1))
    obtain ⟨hc1, hf1⟩ := bcell hb1
    have HR := Lib.hid (fun o2 => HP.out _ _ o2 hb1)
    clear hb1 HH
    go_wp2_with fail
    refine HQ.out.mono ?_
    rintro e w2 ⟨rfl, rfl⟩
    clear HP
    go_wp2_with fail
    refine (HR.out _).mono ?_
    rintro e w2 ⟨v, rfl, ho, hb2⟩
    have hb := (HB1.out.trans ((below_mk w1 _).mono HB1.out.size)).trans (hb2.mono (Nat.le_trans HB1.out.size (by simp)))
    obtain ⟨hcc, hf⟩ := bcell hb
    obtain ⟨pp, cc, hv⟩ := ho.slice
    subst hv
    have HE : Hid (NewTok w (pasteEv d) k true false (.returned (tokV (pasteEv d) (.slice pp d.length cc) k true false)) (sets w2 w.heap.size 0 (tokL (pasteEv d) (.slice pp d.length cc) k true false))) := tok_end (tokL (pasteEv d) (.slice pp d.length cc) k true false) (ho.lower (Nat.le_trans HB1.out.size (by simp))) hb
    clear hb2 ho hb hc1 hf1
    unfold tokV pasteEv
    dsimp only
    go_wp2_with fail
    refine bodyPost_ret (v := tokV (pasteEv d) (.slice pp d.length cc) k true false) ?_ rfl HE.out
    simp [results, Tryz.results98, tokV, pasteEv, go_sem, hcc]

set_option maxRecDepth 100000 in
set_option maxHeartbeats 4000000 in
theorem tokenWithin_end (p : Option Addr) (c : Nat) (l : List UInt8) (w : World) (h : Bs w w.heap.size p l) (hc : l.length ≤ c) (hl : l.length ≤ 1048576) (h32 : ¬ 32 ≤ unt l) (h6 : ¬ l.length < unt l + 6) (h0 : ¬ 0 < unt l) :
    Calls Tryz.prog 98 #[.slice p l.length c] w (NewTok w noEv 6 false true) := by
  have hkl := unt_le l
  have HT := Lib.hid (fun o => certainSize_any p c l (w.alloc o) (h.alloc o) hc hl)
  have HK := Lib.hid (fun (o : Obj) (w1 : World) (hb : Below (w.alloc o).heap.size (w.alloc o) w1) => (h.alloc o).on hb)
  obtain ⟨H1, H2⟩ := ends_call p c l hc hl true (by simp; omega)
  clear h
  unfold endC at H1 H2
  have hcv := fun W => conv_end W
  unfold endC at hcv
  have g2 : decide ((32 : Int) ≤ (unt l : Int)) = false := by simp; omega
  have g3 : ¬ ((0 : Int) < (unt l : Int)) := by omega
  by_cases hck : c = unt l
  · exact absurd hck (by omega)
  · have HH := Lib.hid (H1 hck)
    clear H1 H2
    generalize unt l = k at *
    go_enter Tryz.func98, Tryz.ntmps98
    go_wp2_with fail
    refine (HT.out _).mono ?_
    rintro e w1 ⟨rfl, hb1⟩
    have HB1 := Lib.hid hb1
    have HQ := Lib.hid (HH.out _ (HK.out _ _ hb1))
    obtain ⟨hc1, hf1⟩ := bcell hb1
    clear hb1 HH
    go_wp2_with fail
    refine HQ.out.mono ?_
    rintro e w2 ⟨rfl, rfl⟩
    have hb := HB1.out.trans ((below_mk w1 (.cells #[.int .u8 27, .int .u8 91, .int .u8 50, .int .u8 48, .int .u8 49, .int .u8 126] 5 (6, 7))).mono HB1.out.size)
    clear HQ hc1 hf1
    generalize w1.alloc (.cells #[.int .u8 27, .int .u8 91, .int .u8 50, .int .u8 48, .int .u8 49, .int .u8 126] 5 (6, 7)) = w2 at *
    have HE : Hid (NewTok w noEv 6 false true (.returned (tokV noEv (.slice none 0 0) 6 false true)) (sets w2 w.heap.size 0 (tokL noEv (.slice none 0 0) 6 false true))) := tok_end (tokL noEv (.slice none 0 0) 6 false true) (own_nil _ _) hb
    obtain ⟨hcc, hf⟩ := bcell hb
    clear hb
    go_wp2_with fail
    refine bodyPost_ret (v := tokV noEv (.slice none 0 0) 6 false true) ?_ rfl HE.out
    simp [results, Tryz.results98, tokV, noEv, go_sem, hcc]

end Go.Proofs.YtjopjddhgaiddabGreatDoor

/- FirstPaste of the program: what waits panics, and is caught. -/
namespace Go.Proofs.YtjopjddhgaiddabGreatDoor
open Go.RowKit

set_option maxRecDepth 100000 in
set_option maxHeartbeats 4000000 in
theorem paste_caught (b : Nat) (u : TypeId) (pv : Value) (older : List PanicEntry) (w : World) (h : AtL w b (tkL (badTk 0) (.slice none 0 0))) (hz : ∀ o, w.frozen? ⟨b, o, none⟩ = false) :
    CallsD Tryz.prog 97 #[.pointer (some ⟨b, 0, none⟩)] (.panicking ({ v := .iface u pv, recovered := false } :: older)) w fun e u' w' =>
      e = .returned (.tuple #[]) ∧ u' = .panicking ({ v := .iface u pv, recovered := true } :: older) ∧ w' = sets w b 0 (tkL (badTk 6) (.slice none 0 0)) := by
  have h0 := h.get 0 rfl
  have h1 := h.get 1 rfl
  have h2 := h.get 2 rfl
  have h3 := h.get 3 rfl
  have h4 := h.get 4 rfl
  have h5 := h.get 5 rfl
  have h6 := h.get 6 rfl
  have h7 := h.get 7 rfl
  have h8 := h.get 8 rfl
  have h9 := h.get 9 rfl
  have h10 := h.get 10 rfl
  have h11 := h.get 11 rfl
  clear h
  refine callsD_of_wpS Tryz.func97 rfl fun c₀ cs hu => ?_
  apply wpS_seq
  apply wpS_region
  simp [wpOpsS, go_sem, recoverD, hu, Tryz.ntmps97, Exit.thenS]
  refine wpS_cond (t := true) (by simp [Act.eval, Array.replicate]) ?_
  simp only [if_true]
  apply wpS_region
  simp [wpOpsS, go_sem, h0, h1, h2, h3, h4, h5, h6, h7, h8, h9, h10, h11, hz, bodyPostS, results, Tryz.results97]
  rfl

theorem paste_idle (p : Addr) (w : World) :
    CallsD Tryz.prog 97 #[.pointer (some p)] .returning w fun e u' w' => e = .returned (.tuple #[]) ∧ u' = .returning ∧ w' = w := by
  refine callsD_of_wpS Tryz.func97 rfl fun c₀ cs hu => ?_
  apply wpS_seq
  apply wpS_region
  simp [wpOpsS, go_sem, recoverD, hu, Tryz.ntmps97, Exit.thenS]
  refine wpS_cond (t := false) (by simp [Act.eval, Array.replicate]) ?_
  simp only [Bool.false_eq_true, if_false]
  refine wpS_of_wp (wp_skip ?_)
  cases c₀
  simp_all [bodyPostS, results, Tryz.results97]

set_option maxRecDepth 100000 in
set_option maxHeartbeats 4000000 in
theorem implFirstPaste_wait (p : Option Addr) (c : Nat) (l : List UInt8) (w : World) (h : Bs w w.heap.size p l) (hc : l.length ≤ c) (hl : l.length ≤ 1048576) (h0 : l ≠ []) (h32 : ¬ 32 ≤ unt l) (h6 : l.length < unt l + 6) :
    Calls Tryz.prog 64 #[.slice p l.length c] w (PlainTk w (badTk 6)) := by
  have hmf : ∀ (fn : Fn) (first cap : Array Value) (w : World), (Instr.makeFunc fn first cap).run Tryz.prog w = .ok (.func fn first cap) w := fun _ _ _ _ => rfl
  have hpos : 0 < l.length := List.length_pos_iff.2 h0
  have hne : ¬ ((l.length : Int) = 0) := by omega
  have HW := Lib.hid (fun o => tokenWithin_wait p c l (w.alloc o) (h.alloc o) hc hl h32 h6)
  clear h h32 h6 h0
  go_enter_defers Tryz.func64, Tryz.ntmps64
  go_wp2_with fail
  refine (HW.out _).mono ?_
  rintro e w1 ⟨rfl, hb⟩
  unfold waitPanic
  go_wp2_with fail
  have HE : Hid (PlainTk w (badTk 6) (.returned (tkV (badTk 6) (.slice none 0 0))) (sets w1 w.heap.size 0 (tkL (badTk 6) (.slice none 0 0)))) := tk_end_plain (tkL (badTk 6) (.slice none 0 0)) hb
  have HA : Hid (AtL w1 w.heap.size (tkL (badTk 0) (.slice none 0 0))) := (AtL.new w (tkL (badTk 0) (.slice none 0 0)) 58).on hb
  have HZ : Hid (∀ o, w1.frozen? ⟨w.heap.size, o, none⟩ = false) := fun o => (hb.frozen (p := ⟨w.heap.size, o, none⟩) (by simp)).trans (by simp)
  obtain ⟨hcc, hf⟩ := bcell hb
  clear hb
  refine leaves_cons (f := 97) (args := #[.pointer (some ⟨w.heap.size, 0, none⟩)]) (by simp) (by simp [go_sem]) ?_
  refine (paste_caught w.heap.size 9 _ [] w1 HA.out HZ.out).mono ?_
  rintro e u' w'' ⟨rfl, rfl, rfl⟩
  simp [Leaves, settle, results, Tryz.results64, go_sem, sets, tkL, badTk, noEv, hcc]
  exact HE.out

set_option maxRecDepth 100000 in
set_option maxHeartbeats 4000000 in
theorem implFirstPaste_done (p : Option Addr) (c : Nat) (l : List UInt8) (w : World) (ev : Ev) (s : Int) (pa no : Bool) (hpos : 0 < l.length) (hl : l.length ≤ 1048576) (HW : Hid (∀ o, Calls Tryz.prog 98 #[.slice p l.length c] (w.alloc o) (NewTok (w.alloc o) ev s pa no))) :
    Calls Tryz.prog 64 #[.slice p l.length c] w (NewTk w ⟨0, ev, s, pa, no⟩) := by
  have hmf : ∀ (fn : Fn) (first cap : Array Value) (w : World), (Instr.makeFunc fn first cap).run Tryz.prog w = .ok (.func fn first cap) w := fun _ _ _ _ => rfl
  have hne : ¬ ((l.length : Int) = 0) := by omega
  go_enter_defers Tryz.func64, Tryz.ntmps64
  go_wp2_with fail
  refine (HW.out _).mono ?_
  rintro e w1 ⟨v, rfl, ho, hb⟩
  obtain ⟨hcc, hf⟩ := bcell hb
  obtain ⟨pp, cc, hv⟩ := ho.slice
  subst hv
  unfold tokV
  go_wp2_with fail
  have HE : Hid (NewTk w ⟨0, ev, s, pa, no⟩ (.returned (tkV ⟨0, ev, s, pa, no⟩ (.slice pp ev.data.length cc))) (sets w1 w.heap.size 0 (tkL ⟨0, ev, s, pa, no⟩ (.slice pp ev.data.length cc)))) := tk_end (tkL ⟨0, ev, s, pa, no⟩ (.slice pp ev.data.length cc)) ho hb
  clear hb ho
  refine leaves_cons (f := 97) (args := #[.pointer (some ⟨w.heap.size, 0, none⟩)]) (by simp) (by simp [go_sem]) ?_
  refine (paste_idle ⟨w.heap.size, 0, none⟩ _).mono ?_
  rintro e u' w'' ⟨rfl, rfl, rfl⟩
  simp [Leaves, settle, results, Tryz.results64, go_sem, hcc]
  exact HE.out

set_option maxRecDepth 100000 in
set_option maxHeartbeats 4000000 in
theorem implFirstPaste_none (p : Option Addr) (c : Nat) (w : World) :
    Calls Tryz.prog 64 #[.slice p 0 c] w (PlainTk w (badTk 4)) := by
  have hmf : ∀ (fn : Fn) (first cap : Array Value) (w : World), (Instr.makeFunc fn first cap).run Tryz.prog w = .ok (.func fn first cap) w := fun _ _ _ _ => rfl
  go_enter_defers Tryz.func64, Tryz.ntmps64
  go_wp2
  have HE : Hid (PlainTk w (badTk 4) (.returned (tkV (badTk 4) (.slice none 0 0))) (w.alloc (.cells (tkL (badTk 4) (.slice none 0 0)).toArray 58))) := ⟨rfl, below_mk _ _⟩
  simp [bodyPostD, Leaves, results, Tryz.results64, go_sem]
  exact HE.out

theorem implFirstPaste_any (p : Option Addr) (c : Nat) (l : List UInt8) (w : World) (h : Bs w w.heap.size p l) (hc : l.length ≤ c) (hl : l.length ≤ 1048576) :
    Calls Tryz.prog 64 #[.slice p l.length c] w (NewTk w (firstPaste l)) := by
  by_cases h0 : l = []
  · subst h0
    exact (implFirstPaste_none p c w).mono fun _ _ hp => hp.new rfl
  have hpos : 0 < l.length := List.length_pos_iff.2 h0
  have hkl := unt_le l
  by_cases h32 : 32 ≤ unt l
  · rw [firstPaste_long h0 h32]
    have e : pasteTk (l.take 32) = ⟨0, pasteEv (l.take 32), 32, true, false⟩ := by
      unfold pasteTk pTk
      rw [show (l.take 32).length = 32 by simp; omega]
      rfl
    rw [e]
    exact implFirstPaste_done p c l w _ _ _ _ hpos hl (Lib.hid fun o => tokenWithin_long p c l (w.alloc o) (h.alloc o) hc hl h32)
  by_cases h6 : l.length < unt l + 6
  · rw [firstPaste_full h0 h32 h6]
    exact (implFirstPaste_wait p c l w h hc hl h0 h32 h6).mono fun _ _ hp => hp.new rfl
  by_cases hk0 : 0 < unt l
  · rw [firstPaste_some h0 h32 h6 hk0]
    have e : pasteTk (l.take (unt l)) = ⟨0, pasteEv (l.take (unt l)), unt l, true, false⟩ := by
      unfold pasteTk pTk
      rw [show (l.take (unt l)).length = unt l by simp; omega]
    rw [e]
    exact implFirstPaste_done p c l w _ _ _ _ hpos hl (Lib.hid fun o => tokenWithin_some p c l (w.alloc o) (h.alloc o) hc hl h32 h6 hk0)
  · rw [firstPaste_end h0 h32 h6 hk0]
    exact implFirstPaste_done p c l w _ _ _ _ hpos hl (Lib.hid fun o => tokenWithin_end p c l (w.alloc o) (h.alloc o) hc hl h32 h6 hk0)

end Go.Proofs.YtjopjddhgaiddabGreatDoor
