/- FlushToken of the model; both are the same. -/
import Derived.Test.YtjopjddhgaiddabGreatDoorQTokSpec3ToFlush2
namespace Go.Proofs.YtjopjddhgaiddabGreatDoor
open Go.RowKit
set_option linter.unusedVariables false

theorem firstTok_six (l : List UInt8) (h : (firstTok l).code = 6) : firstTok l = badTk 6 := by
  revert h
  unfold firstTok
  split
  · intro h; exact absurd h (by simp [badTk])
  · exact outTok_bad l

theorem implFlushToken_any (p : Option Addr) (c : Nat) (l : List UInt8) (q : Bool) (w : World) (h : Bs w w.heap.size p l) (ht : Tabs w) (hc : l.length ≤ c) (hl : l.length ≤ 1048576) :
    Calls Tryz.prog 38 #[.slice p l.length c, .bool q] w (NewTk w (flushTok l q)) := by
  unfold flushTok
  by_cases hne : l = []
  · subst hne
    exact (implFlush_none p c q w).mono fun _ _ hp => hp.new rfl
  rw [if_neg hne]
  have hpos : 0 < l.length := List.length_pos_iff.2 hne
  cases q
  · simp only [Bool.false_eq_true, if_false]
    have HT := fun o => implFirstToken_any p c l (w.alloc o) (h.alloc o) (ht.on (below_mk _ o)) hc hl
    by_cases h6 : (firstTok l).code = 6
    · rw [if_pos h6]
      rw [firstTok_six l h6] at HT
      exact implFlush_full p l.length c _ w hpos (asTok_code l) (Lib.hid HT) (Lib.hid fun w' hb => assumedToken_any p c l w' (h.on hb) hc hl hne)
    · rw [if_neg h6]
      exact implFlush_first p l.length c _ w hpos (by simpa using h6) (Lib.hid HT)
  · rw [if_pos rfl]
    refine implFlush_paste p l.length (l.take 32).length c (l.take 32) w hpos (Lib.hid fun w => firstBytes_any p c l 32 (by omega) hc w) (Lib.hid fun w' hb => ?_)
    refine pasteToken_any p c (l.take 32) w' ((h.on hb).head 32) (by simp; omega) ?_
    intro e
    rw [List.take_eq_nil_iff] at e
    rcases e with e | e
    · omega
    · exact hne e

set_option maxRecDepth 100000 in
set_option maxHeartbeats 4000000 in
theorem l3Flush_one (b off c : Nat) (w : World) (hb : b < w.heap.size) (hc : w.cell? ⟨b, off, none⟩ = some (.int .u8 27)) :
    Calls Tryz.prog 50 #[.slice (some ⟨b, off, none⟩) 1 c] w (PlainTk w (keyTk 2000004 0 1)) := by
  go_enter Tryz.func50, Tryz.ntmps50
  go_wp2_with fail
  refine (l3Key_any _ _ _ _).mono ?_
  rintro e w9 ⟨rfl, hb9⟩
  have HE : Hid (PlainTk w (keyTk 2000004 0 1) (.returned (tkV (keyTk 2000004 0 1) (.slice none 0 0))) (sets w9 w.heap.size 0 (tkL (keyTk 2000004 0 1) (.slice none 0 0)))) := tk_end_plain (tkL (keyTk 2000004 0 1) (.slice none 0 0)) hb9
  obtain ⟨hcc, hf⟩ := bcell hb9
  clear hb9
  unfold tkV keyTk keyEv
  go_wp2_with fail
  refine bodyPost_ret (v := tkV (keyTk 2000004 0 1) (.slice none 0 0)) ?_ rfl HE.out
  simp [results, Tryz.results50, tkV, keyTk, keyEv, go_sem, hcc]

set_option maxRecDepth 100000 in
set_option maxHeartbeats 4000000 in
theorem l3Flush_two (b off c : Nat) (x : Int) (w : World) (hb : b < w.heap.size) (hc : w.cell? ⟨b, off, none⟩ = some (.int .u8 27)) (hc1 : w.cell? ⟨b, off + 1, none⟩ = some (.int .u8 x)) (h0 : 0 ≤ x) (h1 : x ≤ 255) :
    Calls Tryz.prog 50 #[.slice (some ⟨b, off, none⟩) 2 c] w (PlainTk w (keyTk x 2 2)) := by
  have hw : IntKind.i64.wrap x = x := IntWalk.i64_in _ ⟨by omega, by omega⟩
  go_enter Tryz.func50, Tryz.ntmps50
  go_wp2_with fail
  refine (l3Key_any _ _ _ _).mono ?_
  rintro e w9 ⟨rfl, hb9⟩
  have HE : Hid (PlainTk w (keyTk x 2 2) (.returned (tkV (keyTk x 2 2) (.slice none 0 0))) (sets w9 w.heap.size 0 (tkL (keyTk x 2 2) (.slice none 0 0)))) := tk_end_plain (tkL (keyTk x 2 2) (.slice none 0 0)) hb9
  obtain ⟨hcc, hf⟩ := bcell hb9
  clear hb9
  unfold tkV keyTk keyEv
  go_wp2_with fail
  refine bodyPost_ret (v := tkV (keyTk x 2 2) (.slice none 0 0)) ?_ rfl HE.out
  simp [results, Tryz.results50, tkV, keyTk, keyEv, go_sem, hcc]

set_option maxRecDepth 100000 in
set_option maxHeartbeats 4000000 in
theorem l3Flush_raw (b off n c : Nat) (x : Int) (t : Tk) (w : World) (hn : 0 < n) (hnl : n ≤ 1048576) (hb : b < w.heap.size) (hc : w.cell? ⟨b, off, none⟩ = some (.int .u8 x)) (hx : 2 < n ∨ ((x == 27) = false ∧ (n = 1 ∨ n = 2)))
    (HG : Hid (∀ w', Below w.heap.size w w' → Calls Tryz.prog 81 #[.slice (some ⟨b, off, none⟩) n c] w' (NewTk w' t))) :
    Calls Tryz.prog 50 #[.slice (some ⟨b, off, none⟩) n c] w (NewTk w t) := by
  rcases hx with hx | ⟨hx, rfl | rfl⟩
  · have e1 : ¬ (n : Int) = 1 := by omega
    have e2 : ¬ (n : Int) = 2 := by omega
    go_enter Tryz.func50, Tryz.ntmps50
    go_wp2_with fail
    refine (HG.out _ (below_mk _ _)).mono ?_
    rintro e w9 ⟨v, rfl, ho, hb9⟩
    obtain ⟨px, cx, hv⟩ := ho.slice
    subst hv
    have HE : Hid (NewTk w t (.returned (tkV t (.slice px t.ev.data.length cx))) (sets w9 w.heap.size 0 (tkL t (.slice px t.ev.data.length cx)))) := tk_end (tkL t (.slice px t.ev.data.length cx)) ho hb9
    obtain ⟨hcc, hf⟩ := bcell hb9
    clear ho hb9
    unfold tkV
    go_wp2_with fail
    refine bodyPost_ret (v := tkV t (.slice px t.ev.data.length cx)) ?_ rfl HE.out
    simp [results, Tryz.results50, tkV, go_sem, hcc]
  all_goals
    go_enter Tryz.func50, Tryz.ntmps50
    go_wp2_with fail
    refine (HG.out _ (below_mk _ _)).mono ?_
    rintro e w9 ⟨v, rfl, ho, hb9⟩
    obtain ⟨px, cx, hv⟩ := ho.slice
    subst hv
    have HE : Hid (NewTk w t (.returned (tkV t (.slice px t.ev.data.length cx))) (sets w9 w.heap.size 0 (tkL t (.slice px t.ev.data.length cx)))) := tk_end (tkL t (.slice px t.ev.data.length cx)) ho hb9
    obtain ⟨hcc, hf⟩ := bcell hb9
    clear ho hb9
    unfold tkV
    go_wp2_with fail
    refine bodyPost_ret (v := tkV t (.slice px t.ev.data.length cx)) ?_ rfl HE.out
    simp [results, Tryz.results50, tkV, go_sem, hcc]

theorem l3Flush_any (p : Option Addr) (c : Nat) (l : List UInt8) (w : World) (h : Bs w w.heap.size p l) (hc : l.length ≤ c) (hl : l.length ≤ 1048576) (hne : l ≠ []) :
    Calls Tryz.prog 50 #[.slice p l.length c] w (NewTk w (asTok l)) := by
  have hpos : 0 < l.length := List.length_pos_iff.2 hne
  have h1c := h.at 1
  have HR := fun w' (hb : Below w.heap.size w w') => l3Raw_any p c l w' (h.on hb) hc hl
  obtain ⟨b, off, rfl, hb, hcell⟩ := h.at 0 (by omega)
  unfold asTok
  by_cases h27 : ((l.getD 0 0).toNat : Int) = 27
  · by_cases h1 : l.length = 1
    · rw [if_pos ⟨h27, h1⟩]
      rw [h27] at hcell
      rw [h1]
      exact (l3Flush_one b off c w hb hcell).mono fun _ _ q => q.new rfl
    · rw [if_neg (fun hh => h1 hh.2)]
      by_cases h2 : l.length = 2
      · rw [if_pos ⟨h27, h2⟩]
        rw [h27] at hcell
        obtain ⟨b', off', e', _, hc2⟩ := h1c (by omega)
        have he := Option.some.inj e'
        have hb1 : b = b' := congrArg Addr.block he
        have ho1 : off = off' := congrArg Addr.off he
        subst hb1 ho1
        rw [h2]
        exact (l3Flush_two b off c _ w hb hcell hc2 (by omega) (byte_255 _)).mono fun _ _ q => q.new rfl
      · rw [if_neg (fun hh => h2 hh.2)]
        exact l3Flush_raw b off l.length c _ _ w hpos hl hb hcell (.inl (by omega)) (Lib.hid HR)
  · rw [if_neg (fun hh => h27 hh.1), if_neg (fun hh => h27 hh.1)]
    refine l3Flush_raw b off l.length c _ _ w hpos hl hb hcell ?_ (Lib.hid HR)
    by_cases h3 : 2 < l.length
    · exact .inl h3
    · exact .inr ⟨by simpa using h27, by omega⟩

end Go.Proofs.YtjopjddhgaiddabGreatDoor

/- FlushToken of the model, whole. -/
namespace Go.Proofs.YtjopjddhgaiddabGreatDoor
open Go.RowKit
set_option linter.unusedVariables false

set_option maxRecDepth 100000 in
set_option maxHeartbeats 4000000 in
theorem specFlush_none (p : Option Addr) (c : Nat) (q : Bool) (w : World) :
    Calls Tryz.prog 26 #[.slice p 0 c, .bool q] w (PlainTk w (badTk 4)) := by
  go_enter Tryz.func26, Tryz.ntmps26
  go_wp2_with fail
  refine (l3Bad_any _ _).mono ?_
  rintro e w9 ⟨rfl, hb9⟩
  have HE : Hid (PlainTk w (badTk 4) (.returned (tkV (badTk 4) (.slice none 0 0))) (sets w9 w.heap.size 0 (tkL (badTk 4) (.slice none 0 0)))) := tk_end_plain (tkL (badTk 4) (.slice none 0 0)) hb9
  obtain ⟨hcc, hf⟩ := bcell hb9
  clear hb9
  unfold tkV badTk noEv
  go_wp2_with fail
  refine bodyPost_ret (v := tkV (badTk 4) (.slice none 0 0)) ?_ rfl HE.out
  simp [results, Tryz.results26, tkV, badTk, noEv, go_sem, hcc]

set_option maxRecDepth 100000 in
set_option maxHeartbeats 4000000 in
theorem specFlush_paste (p : Option Addr) (n c : Nat) (t : Tk) (w : World) (hn : 0 < n)
    (HG : Hid (∀ w', Below w.heap.size w w' → Calls Tryz.prog 49 #[.slice p n c] w' (NewTk w' t))) :
    Calls Tryz.prog 26 #[.slice p n c, .bool true] w (NewTk w t) := by
  have e0 : ¬ (n : Int) = 0 := by omega
  go_enter Tryz.func26, Tryz.ntmps26
  go_wp2_with fail
  refine (HG.out _ (below_mk _ _)).mono ?_
  rintro e w9 ⟨v, rfl, ho, hb9⟩
  obtain ⟨px, cx, hv⟩ := ho.slice
  subst hv
  have HE : Hid (NewTk w t (.returned (tkV t (.slice px t.ev.data.length cx))) (sets w9 w.heap.size 0 (tkL t (.slice px t.ev.data.length cx)))) := tk_end (tkL t (.slice px t.ev.data.length cx)) ho hb9
  obtain ⟨hcc, hf⟩ := bcell hb9
  clear ho hb9
  unfold tkV
  go_wp2_with fail
  refine bodyPost_ret (v := tkV t (.slice px t.ev.data.length cx)) ?_ rfl HE.out
  simp [results, Tryz.results26, tkV, go_sem, hcc]

set_option maxRecDepth 100000 in
set_option maxHeartbeats 4000000 in
theorem specFlush_full (p : Option Addr) (n c : Nat) (t : Tk) (w : World) (hn : 0 < n)
    (HT : Hid (∀ o, Calls Tryz.prog 47 #[.slice p n c] (w.alloc o) (NewTk (w.alloc o) (badTk 6))))
    (HG : Hid (∀ w', Below w.heap.size w w' → Calls Tryz.prog 50 #[.slice p n c] w' (NewTk w' t))) :
    Calls Tryz.prog 26 #[.slice p n c, .bool false] w (NewTk w t) := by
  have e0 : ¬ (n : Int) = 0 := by omega
  go_enter Tryz.func26, Tryz.ntmps26
  go_wp2_with fail
  refine (HT.out _).mono ?_
  rintro e w1 ⟨v, rfl, ho, hb1⟩
  obtain ⟨pp, cc, hv⟩ := ho.slice
  subst hv
  have HB1 := Lib.hid hb1
  have HA2 := Lib.hid (fun A => HG.out _ (below_on (below_on (below_mk _ _) hb1) (below_mk _ A)))
  have l0 := new_lt hb1
  have n0 : ¬ w.heap.size = w1.heap.size := by omega
  clear hb1 ho HG
  unfold tkV badTk noEv
  dsimp only
  go_wp2_with fail
  refine (HA2.out _).mono ?_
  rintro e w2 ⟨v, rfl, ho, hb2⟩
  obtain ⟨px, cx, hv⟩ := ho.slice
  subst hv
  have hb3 := below_past HB1.out hb2
  clear l0 n0
  obtain ⟨hcc, hf⟩ := bcell hb3
  have HE : Hid (NewTk w t (.returned (tkV t (.slice px t.ev.data.length cx))) (sets w2 w.heap.size 0 (tkL t (.slice px t.ev.data.length cx)))) := tk_end (tkL t (.slice px t.ev.data.length cx)) (ho.lower (past_le HB1.out _)) hb3
  clear ho hb2 hb3
  unfold tkV
  go_wp2_with fail
  refine bodyPost_ret (v := tkV t (.slice px t.ev.data.length cx)) ?_ rfl HE.out
  simp [results, Tryz.results26, tkV, go_sem, hcc]

set_option maxRecDepth 100000 in
set_option maxHeartbeats 4000000 in
theorem specFlush_first (p : Option Addr) (n c : Nat) (t : Tk) (w : World) (hn : 0 < n) (ht : (t.code == 6) = false)
    (HT : Hid (∀ o, Calls Tryz.prog 47 #[.slice p n c] (w.alloc o) (NewTk (w.alloc o) t))) :
    Calls Tryz.prog 26 #[.slice p n c, .bool false] w (NewTk w t) := by
  have e0 : ¬ (n : Int) = 0 := by omega
  go_enter Tryz.func26, Tryz.ntmps26
  go_wp2_with fail
  refine (HT.out _).mono ?_
  rintro e w1 ⟨v, rfl, ho, hb1⟩
  obtain ⟨pp, cc, hv⟩ := ho.slice
  subst hv
  have HE : ∀ A, Hid (NewTk w t (.returned (tkV t (.slice pp t.ev.data.length cc))) ((sets w1 w.heap.size 0 (tkL t (.slice pp t.ev.data.length cc))).alloc A)) := fun A => (tk_end (tkL t (.slice pp t.ev.data.length cc)) ho hb1).more A
  obtain ⟨hcc, hf⟩ := bcell hb1
  have l0 := new_lt hb1
  have n0 : ¬ w.heap.size = w1.heap.size := by omega
  clear hb1 ho
  unfold tkV
  go_wp2_with fail
  refine bodyPost_ret (v := tkV t (.slice pp t.ev.data.length cc)) ?_ rfl (HE _).out
  simp [results, Tryz.results26, tkV, go_sem, hcc, l0]

theorem specFlushToken_any (p : Option Addr) (c : Nat) (l : List UInt8) (q : Bool) (w : World) (h : Bs w w.heap.size p l) (hc : l.length ≤ c) (hl : l.length ≤ 1048576) :
    Calls Tryz.prog 26 #[.slice p l.length c, .bool q] w (NewTk w (flushTok l q)) := by
  unfold flushTok
  by_cases hne : l = []
  · subst hne
    exact (specFlush_none p c q w).mono fun _ _ hp => hp.new rfl
  rw [if_neg hne]
  have hpos : 0 < l.length := List.length_pos_iff.2 hne
  cases q
  · simp only [Bool.false_eq_true, if_false]
    have HT := fun o => specFirstToken_any p c l (w.alloc o) (h.alloc o) hc hl
    by_cases h6 : (firstTok l).code = 6
    · rw [if_pos h6]
      rw [firstTok_six l h6] at HT
      exact specFlush_full p l.length c _ w hpos (Lib.hid HT) (Lib.hid fun w' hb => l3Flush_any p c l w' (h.on hb) hc hl hne)
    · rw [if_neg h6]
      exact specFlush_first p l.length c _ w hpos (by simpa using h6) (Lib.hid HT)
  · rw [if_pos rfl]
    exact specFlush_paste p l.length c _ w hpos (Lib.hid fun w' hb => l3Pasted_any p c l w' (h.on hb) hc hl)

theorem flushTok_small (l : List UInt8) (q : Bool) : (flushTok l q).ev.data.length ≤ 32 := by
  unfold flushTok
  split
  · simp [badTk, noEv]
  split
  · simp [pasteTk, pTk, pasteEv]; omega
  split
  · unfold asTok
    split
    · simp [keyTk, keyEv]
    split
    · simp [keyTk, keyEv]
    · simp [rawTk, rTk, rawEv]; omega
  · exact firstTok_small l

end Go.Proofs.YtjopjddhgaiddabGreatDoor
