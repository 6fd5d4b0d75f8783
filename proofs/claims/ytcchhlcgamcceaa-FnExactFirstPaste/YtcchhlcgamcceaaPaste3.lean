/- Pastes: tokenWithin of the program, FirstPaste of the model. -/
import Derived.Test.YtcchhlcgamcceaaPaste2
import Derived.WalkLawsBesides
namespace Go.Proofs.Ytcchhlcgamcceaa
open Go.RowKit

theorem ends_iff (l : List UInt8) : pre endB (l.drop (unt l)) = decide (unt l + 6 ≤ l.length) := by
  by_cases h : unt l + 6 ≤ l.length
  · have h1 := unt_stops l (by omega)
    rw [stops_ge _ (by simp; omega)] at h1
    simp only [h, decide_true]
    exact h1
  · rw [pre_long (by simp [endB]; omega)]
    simp [h]

theorem firstPaste_none : firstPaste [] = badTk 4 := rfl
theorem firstPaste_long {l : List UInt8} (h0 : l ≠ []) (h : 32 ≤ unt l) : firstPaste l = pasteTk (l.take 32) := by unfold firstPaste; rw [if_neg h0, if_pos h]
theorem firstPaste_full {l : List UInt8} (h0 : l ≠ []) (h : ¬ 32 ≤ unt l) (h6 : l.length < unt l + 6) : firstPaste l = badTk 6 := by unfold firstPaste; rw [if_neg h0, if_neg h, if_pos h6]
theorem firstPaste_some {l : List UInt8} (h0 : l ≠ []) (h : ¬ 32 ≤ unt l) (h6 : ¬ l.length < unt l + 6) (hp : 0 < unt l) : firstPaste l = pasteTk (l.take (unt l)) := by unfold firstPaste; rw [if_neg h0, if_neg h, if_neg h6, if_pos hp]
theorem firstPaste_end {l : List UInt8} (h0 : l ≠ []) (h : ¬ 32 ≤ unt l) (h6 : ¬ l.length < unt l + 6) (hp : ¬ 0 < unt l) : firstPaste l = ⟨0, noEv, 6, false, true⟩ := by unfold firstPaste; rw [if_neg h0, if_neg h, if_neg h6, if_neg hp]

theorem l3Pasted_cut (p : Option Addr) (c k : Nat) (l : List UInt8) (w : World) (h : Bs w w.heap.size p l) (hk : k ≤ l.length) (hc : l.length ≤ c) (hl : l.length ≤ 1048576) :
    Calls Try.prog 62 #[.slice p k c] w (NewTk w (pasteTk (l.take (min 32 k)))) := by
  have := l3Pasted_any p c (l.take k) w (h.head k) (by simp; omega) (by simp; omega)
  rw [show (l.take k).length = k by simp; omega, List.take_take] at this
  exact this

set_option maxRecDepth 100000 in
set_option maxHeartbeats 4000000 in
theorem specFirstPaste_any (p : Option Addr) (c : Nat) (l : List UInt8) (w : World) (h : Bs w w.heap.size p l) (hc : l.length ≤ c) (hl : l.length ≤ 1048576) :
    Calls Try.prog 26 #[.slice p l.length c] w (NewTk w (firstPaste l)) := by
  by_cases h0 : l = []
  · subst h0
    rw [firstPaste_none]
    go_enter Try.func26, Try.ntmps26
    go_wp2_with fail
    refine (l3Bad_any _ _).mono ?_
    rintro e w1 ⟨rfl, hb⟩
    unfold tkV badTk noEv
    obtain ⟨hcc, hf⟩ := bcell hb
    have HE : Hid (PlainTk w (badTk 4) (.returned (tkV (badTk 4) (.slice none 0 0))) (sets w1 w.heap.size 0 (tkL (badTk 4) (.slice none 0 0)))) := tk_end_plain (tkL (badTk 4) (.slice none 0 0)) hb
    clear hb
    go_wp2_with fail
    refine bodyPost_ret (v := tkV (badTk 4) (.slice none 0 0)) ?_ rfl (HE.out.new rfl)
    simp [results, Try.results26, tkV, badTk, noEv, go_sem, hcc]
  have hpos : 0 < l.length := List.length_pos_iff.2 h0
  have hne : ¬ ((l.length : Int) = 0) := by omega
  have hkl := unt_le l
  have HT := Lib.hid (fun o => l3Until_any p c l (w.alloc o) (h.alloc o) hc hl)
  have HP0 := fun (o : Obj) (w1 : World) (hb : Below (w.alloc o).heap.size (w.alloc o) w1) => l3Pasted_cut p c (unt l) l w1 ((h.alloc o).on hb) hkl hc hl
  by_cases h32 : 32 ≤ unt l
  · rw [firstPaste_long h0 h32]
    rw [show min 32 (unt l) = 32 by omega] at HP0
    have HP := Lib.hid HP0
    clear HP0 h h0
    generalize unt l = k at *
    generalize l.take 32 = d at *
    go_enter Try.func26, Try.ntmps26
    go_wp2_with fail
    refine (HT.out _).mono ?_
    rintro e w1 ⟨rfl, hb1⟩
    have HB1 := Lib.hid hb1
    have HQ := Lib.hid (HP.out _ _ hb1)
    obtain ⟨hc1, hf1⟩ := bcell hb1
    clear hb1 HP
    go_wp2_with fail
    refine (HQ.out).mono ?_
    rintro e w2 ⟨v, rfl, ho, hb2⟩
    have hb := HB1.out.trans (hb2.mono HB1.out.size)
    obtain ⟨hcc, hf⟩ := bcell hb
    obtain ⟨pp, cc, hv⟩ := ho.slice
    subst hv
    have HE : Hid (NewTk w (pasteTk d) (.returned (tkV (pasteTk d) (.slice pp d.length cc))) (sets w2 w.heap.size 0 (tkL (pasteTk d) (.slice pp d.length cc)))) := tk_end (tkL (pasteTk d) (.slice pp d.length cc)) (ho.lower HB1.out.size) hb
    unfold tkV pasteTk pTk pasteEv
    dsimp only
    clear hb2 ho hb hc1 hf1
    go_wp2_with fail
    refine bodyPost_ret (v := tkV (pasteTk d) (.slice pp d.length cc)) ?_ rfl HE.out
    simp [results, Try.results26, tkV, pasteTk, pTk, pasteEv, go_sem, hcc]
  by_cases h6 : l.length < unt l + 6
  · rw [firstPaste_full h0 h32 h6]
    have HP := Lib.hid HP0
    clear HP0 h h0
    generalize unt l = k at *
    have g1 : decide ((6 : Int) ≤ (l.length : Int) - (k : Int)) = false := by simp; omega
    have g2 : decide ((32 : Int) ≤ (k : Int)) = false := by simp; omega
    by_cases hk0 : 0 < k
    all_goals
      go_enter Try.func26, Try.ntmps26
      go_wp2_with fail
      refine (HT.out _).mono ?_
      rintro e w1 ⟨rfl, hb1⟩
      have HB1 := Lib.hid hb1
      have HQ := Lib.hid (HP.out _ _ hb1)
      obtain ⟨hc1, hf1⟩ := bcell hb1
      clear hb1 HP
      go_wp2_with fail
      refine (l3Bad_any _ _).mono ?_
      rintro e w2 ⟨rfl, hb2⟩
      have hb := HB1.out.trans (hb2.mono HB1.out.size)
      unfold tkV badTk noEv
      obtain ⟨hcc, hf⟩ := bcell hb
      have HE : Hid (PlainTk w (badTk 6) (.returned (tkV (badTk 6) (.slice none 0 0))) (sets w2 w.heap.size 0 (tkL (badTk 6) (.slice none 0 0)))) := tk_end_plain (tkL (badTk 6) (.slice none 0 0)) hb
      clear hb hb2 hc1 hf1
      go_wp2_with fail
      refine bodyPost_ret (v := tkV (badTk 6) (.slice none 0 0)) ?_ rfl (HE.out.new rfl)
      simp [results, Try.results26, tkV, badTk, noEv, go_sem, hcc]
  by_cases hk0 : 0 < unt l
  · rw [firstPaste_some h0 h32 h6 hk0]
    rw [show min 32 (unt l) = unt l by omega] at HP0
    have HP := Lib.hid HP0
    clear HP0 h h0
    generalize unt l = k at *
    generalize l.take k = d at *
    have g1 : (6 : Int) ≤ (l.length : Int) - (k : Int) := by omega
    have g2 : decide ((32 : Int) ≤ (k : Int)) = false := by simp; omega
    have g3 : (0 : Int) < (k : Int) := by omega
    go_enter Try.func26, Try.ntmps26
    go_wp2_with fail
    refine (HT.out _).mono ?_
    rintro e w1 ⟨rfl, hb1⟩
    have HB1 := Lib.hid hb1
    have HQ := Lib.hid (HP.out _ _ hb1)
    obtain ⟨hc1, hf1⟩ := bcell hb1
    clear hb1 HP
    go_wp2_with fail
    refine (HQ.out).mono ?_
    rintro e w2 ⟨v, rfl, ho, hb2⟩
    have hb := HB1.out.trans (hb2.mono HB1.out.size)
    obtain ⟨hcc, hf⟩ := bcell hb
    obtain ⟨pp, cc, hv⟩ := ho.slice
    subst hv
    have HE : Hid (NewTk w (pasteTk d) (.returned (tkV (pasteTk d) (.slice pp d.length cc))) (sets w2 w.heap.size 0 (tkL (pasteTk d) (.slice pp d.length cc)))) := tk_end (tkL (pasteTk d) (.slice pp d.length cc)) (ho.lower HB1.out.size) hb
    unfold tkV pasteTk pTk pasteEv
    dsimp only
    clear hb2 ho hb hc1 hf1
    go_wp2_with fail
    refine bodyPost_ret (v := tkV (pasteTk d) (.slice pp d.length cc)) ?_ rfl HE.out
    simp [results, Try.results26, tkV, pasteTk, pTk, pasteEv, go_sem, hcc]
  · rw [firstPaste_end h0 h32 h6 hk0]
    have HP := Lib.hid HP0
    clear HP0 h h0
    generalize unt l = k at *
    have g1 : (6 : Int) ≤ (l.length : Int) - (k : Int) := by omega
    have g2 : decide ((32 : Int) ≤ (k : Int)) = false := by simp; omega
    go_enter Try.func26, Try.ntmps26
    go_wp2_with fail
    refine (HT.out _).mono ?_
    rintro e w1 ⟨rfl, hb1⟩
    have HB1 := Lib.hid hb1
    have HQ := Lib.hid (HP.out _ _ hb1)
    obtain ⟨hc1, hf1⟩ := bcell hb1
    clear hb1 HP
    have HE : Hid (PlainTk w ⟨0, noEv, 6, false, true⟩ (.returned (tkV ⟨0, noEv, 6, false, true⟩ (.slice none 0 0))) (sets w1 w.heap.size 0 (tkL ⟨0, noEv, 6, false, true⟩ (.slice none 0 0)))) := tk_end_plain (tkL ⟨0, noEv, 6, false, true⟩ (.slice none 0 0)) HB1.out
    go_wp2_with fail
    refine bodyPost_ret (v := tkV ⟨0, noEv, 6, false, true⟩ (.slice none 0 0)) ?_ rfl (HE.out.new rfl)
    simp [results, Try.results26, tkV, noEv, go_sem, hc1]

end Go.Proofs.Ytcchhlcgamcceaa
