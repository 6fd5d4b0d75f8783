/- The program's tokens: escapeToken and tokenOutside. -/
import Derived.Test.YtjopjddhgaiddabGreatDoorQTokImpl5
import Derived.Defers
import Derived.Recover
import Derived.Laws.Pointers
namespace Go.Proofs.YtjopjddhgaiddabGreatDoor
open Go.RowKit
set_option linter.unusedVariables false

set_option maxRecDepth 100000 in
set_option maxHeartbeats 4000000 in
theorem escapeToken_seq_done (b off n c : Nat) (x : Int) (w : World) (hn : n ≤ 1048576) (hb : b < w.heap.size) (hi : 1 < n) (hc : w.cell? ⟨b, off + 1, none⟩ = some (.int .u8 x)) (hx : x = 91)
    (e : Ev) (s : Int) (pa no : Bool) (HG : Hid (∀ w', Below w.heap.size w w' → Calls Tryz.prog 136 #[.slice (some ⟨b, off, none⟩) n c] w' (NewTok w' e s pa no))) :
    Calls Tryz.prog 126 #[.slice (some ⟨b, off, none⟩) n c] w (NewTok w e s pa no) := by
  have HN := Lib.hid (fun (w : World) hc => neededByte_ok b off n c 1 x w hi hn hc)
  subst hx
  go_enter Tryz.func126, Tryz.ntmps126
  go_wp2_with fail
  refine (HN.out _ ?_).mono ?_
  · simp [go_sem, hc, hb]
  rintro en w1 ⟨rfl, rfl⟩
  go_wp2_with fail
  refine (HG.out _ (below_mk _ _)).mono ?_
  rintro en w2 ⟨v, rfl, ho, hb2⟩
  obtain ⟨pp, cc, hv⟩ := ho.slice
  subst hv
  obtain ⟨hcc, hf⟩ := bcell hb2
  have HE : Hid (NewTok w e s pa no (.returned (tokV e (.slice pp e.data.length cc) s pa no)) (sets w2 w.heap.size 0 (tokL e (.slice pp e.data.length cc) s pa no))) := tok_end (tokL e (.slice pp e.data.length cc) s pa no) ho hb2
  clear hb2 ho HG
  unfold tokV
  go_wp2_with fail
  refine bodyPost_ret (v := tokV e (.slice pp e.data.length cc) s pa no) ?_ rfl HE.out
  simp [results, Tryz.results126, tokV, go_sem, hcc]

set_option maxRecDepth 100000 in
set_option maxHeartbeats 4000000 in
theorem escapeToken_seq_wait (b off n c : Nat) (x : Int) (w : World) (hn : n ≤ 1048576) (hb : b < w.heap.size) (hi : 1 < n) (hc : w.cell? ⟨b, off + 1, none⟩ = some (.int .u8 x)) (hx : x = 91)
    (HG : Hid (∀ w', Below w.heap.size w w' → Calls Tryz.prog 136 #[.slice (some ⟨b, off, none⟩) n c] w' (Waits w'))) :
    Calls Tryz.prog 126 #[.slice (some ⟨b, off, none⟩) n c] w (Waits w) := by
  have HN := Lib.hid (fun (w : World) hc => neededByte_ok b off n c 1 x w hi hn hc)
  subst hx
  go_enter Tryz.func126, Tryz.ntmps126
  go_wp2_with fail
  refine (HN.out _ ?_).mono ?_
  · simp [go_sem, hc, hb]
  rintro en w1 ⟨rfl, rfl⟩
  go_wp2_with fail
  refine (HG.out _ (below_mk _ _)).mono ?_
  rintro en w2 ⟨rfl, hb2⟩
  go_wp2_with fail
  exact ⟨rfl, rfl, below_on (below_mk _ _) hb2⟩

set_option maxRecDepth 100000 in
set_option maxHeartbeats 4000000 in
theorem escapeToken_let_done (b off n c : Nat) (x : Int) (w : World) (hn : n ≤ 1048576) (hb : b < w.heap.size) (hi : 1 < n) (hc : w.cell? ⟨b, off + 1, none⟩ = some (.int .u8 x)) (hx : x = 79)
    (e : Ev) (s : Int) (pa no : Bool) (HG : Hid (∀ w', Below w.heap.size w w' → Calls Tryz.prog 137 #[.slice (some ⟨b, off, none⟩) n c] w' (NewTok w' e s pa no))) :
    Calls Tryz.prog 126 #[.slice (some ⟨b, off, none⟩) n c] w (NewTok w e s pa no) := by
  have HN := Lib.hid (fun (w : World) hc => neededByte_ok b off n c 1 x w hi hn hc)
  subst hx
  go_enter Tryz.func126, Tryz.ntmps126
  go_wp2_with fail
  refine (HN.out _ ?_).mono ?_
  · simp [go_sem, hc, hb]
  rintro en w1 ⟨rfl, rfl⟩
  go_wp2_with fail
  refine (HG.out _ (below_mk _ _)).mono ?_
  rintro en w2 ⟨v, rfl, ho, hb2⟩
  obtain ⟨pp, cc, hv⟩ := ho.slice
  subst hv
  obtain ⟨hcc, hf⟩ := bcell hb2
  have HE : Hid (NewTok w e s pa no (.returned (tokV e (.slice pp e.data.length cc) s pa no)) (sets w2 w.heap.size 0 (tokL e (.slice pp e.data.length cc) s pa no))) := tok_end (tokL e (.slice pp e.data.length cc) s pa no) ho hb2
  clear hb2 ho HG
  unfold tokV
  go_wp2_with fail
  refine bodyPost_ret (v := tokV e (.slice pp e.data.length cc) s pa no) ?_ rfl HE.out
  simp [results, Tryz.results126, tokV, go_sem, hcc]

set_option maxRecDepth 100000 in
set_option maxHeartbeats 4000000 in
theorem escapeToken_let_wait (b off n c : Nat) (x : Int) (w : World) (hn : n ≤ 1048576) (hb : b < w.heap.size) (hi : 1 < n) (hc : w.cell? ⟨b, off + 1, none⟩ = some (.int .u8 x)) (hx : x = 79)
    (HG : Hid (∀ w', Below w.heap.size w w' → Calls Tryz.prog 137 #[.slice (some ⟨b, off, none⟩) n c] w' (Waits w'))) :
    Calls Tryz.prog 126 #[.slice (some ⟨b, off, none⟩) n c] w (Waits w) := by
  have HN := Lib.hid (fun (w : World) hc => neededByte_ok b off n c 1 x w hi hn hc)
  subst hx
  go_enter Tryz.func126, Tryz.ntmps126
  go_wp2_with fail
  refine (HN.out _ ?_).mono ?_
  · simp [go_sem, hc, hb]
  rintro en w1 ⟨rfl, rfl⟩
  go_wp2_with fail
  refine (HG.out _ (below_mk _ _)).mono ?_
  rintro en w2 ⟨rfl, hb2⟩
  go_wp2_with fail
  exact ⟨rfl, rfl, below_on (below_mk _ _) hb2⟩

set_option maxRecDepth 100000 in
set_option maxHeartbeats 4000000 in
theorem tokenOutside_esc_done (b off n c : Nat) (x : Int) (w : World) (hn : n ≤ 1048576) (hb : b < w.heap.size) (hi : 0 < n) (hc : w.cell? ⟨b, off, none⟩ = some (.int .u8 x)) (hx : x = 27)
    (e : Ev) (s : Int) (pa no : Bool) (HG : Hid (∀ w', Below w.heap.size w w' → Calls Tryz.prog 126 #[.slice (some ⟨b, off, none⟩) n c] w' (NewTok w' e s pa no))) :
    Calls Tryz.prog 100 #[.slice (some ⟨b, off, none⟩) n c] w (NewTok w e s pa no) := by
  subst hx
  go_enter Tryz.func100, Tryz.ntmps100
  go_wp2_with fail
  refine (HG.out _ (below_mk _ _)).mono ?_
  rintro en w2 ⟨v, rfl, ho, hb2⟩
  obtain ⟨pp, cc, hv⟩ := ho.slice
  subst hv
  obtain ⟨hcc, hf⟩ := bcell hb2
  have HE : Hid (NewTok w e s pa no (.returned (tokV e (.slice pp e.data.length cc) s pa no)) (sets w2 w.heap.size 0 (tokL e (.slice pp e.data.length cc) s pa no))) := tok_end (tokL e (.slice pp e.data.length cc) s pa no) ho hb2
  clear hb2 ho HG
  unfold tokV
  go_wp2_with fail
  refine bodyPost_ret (v := tokV e (.slice pp e.data.length cc) s pa no) ?_ rfl HE.out
  simp [results, Tryz.results100, tokV, go_sem, hcc]

set_option maxRecDepth 100000 in
set_option maxHeartbeats 4000000 in
theorem tokenOutside_esc_wait (b off n c : Nat) (x : Int) (w : World) (hn : n ≤ 1048576) (hb : b < w.heap.size) (hi : 0 < n) (hc : w.cell? ⟨b, off, none⟩ = some (.int .u8 x)) (hx : x = 27)
    (HG : Hid (∀ w', Below w.heap.size w w' → Calls Tryz.prog 126 #[.slice (some ⟨b, off, none⟩) n c] w' (Waits w'))) :
    Calls Tryz.prog 100 #[.slice (some ⟨b, off, none⟩) n c] w (Waits w) := by
  subst hx
  go_enter Tryz.func100, Tryz.ntmps100
  go_wp2_with fail
  refine (HG.out _ (below_mk _ _)).mono ?_
  rintro en w2 ⟨rfl, hb2⟩
  go_wp2_with fail
  exact ⟨rfl, rfl, below_on (below_mk _ _) hb2⟩

set_option maxRecDepth 100000 in
set_option maxHeartbeats 4000000 in
theorem tokenOutside_pt_done (b off n c : Nat) (x : Int) (w : World) (hn : n ≤ 1048576) (hb : b < w.heap.size) (hi : 0 < n) (hc : w.cell? ⟨b, off, none⟩ = some (.int .u8 x)) (hx : (x == 27) = false) (hy : 128 ≤ x)
    (e : Ev) (s : Int) (pa no : Bool) (HG : Hid (∀ w', Below w.heap.size w w' → Calls Tryz.prog 127 #[.slice (some ⟨b, off, none⟩) n c] w' (NewTok w' e s pa no))) :
    Calls Tryz.prog 100 #[.slice (some ⟨b, off, none⟩) n c] w (NewTok w e s pa no) := by
  go_enter Tryz.func100, Tryz.ntmps100
  go_wp2_with fail
  refine (HG.out _ (below_mk _ _)).mono ?_
  rintro en w2 ⟨v, rfl, ho, hb2⟩
  obtain ⟨pp, cc, hv⟩ := ho.slice
  subst hv
  obtain ⟨hcc, hf⟩ := bcell hb2
  have HE : Hid (NewTok w e s pa no (.returned (tokV e (.slice pp e.data.length cc) s pa no)) (sets w2 w.heap.size 0 (tokL e (.slice pp e.data.length cc) s pa no))) := tok_end (tokL e (.slice pp e.data.length cc) s pa no) ho hb2
  clear hb2 ho HG
  unfold tokV
  go_wp2_with fail
  refine bodyPost_ret (v := tokV e (.slice pp e.data.length cc) s pa no) ?_ rfl HE.out
  simp [results, Tryz.results100, tokV, go_sem, hcc]

set_option maxRecDepth 100000 in
set_option maxHeartbeats 4000000 in
theorem tokenOutside_pt_wait (b off n c : Nat) (x : Int) (w : World) (hn : n ≤ 1048576) (hb : b < w.heap.size) (hi : 0 < n) (hc : w.cell? ⟨b, off, none⟩ = some (.int .u8 x)) (hx : (x == 27) = false) (hy : 128 ≤ x)
    (HG : Hid (∀ w', Below w.heap.size w w' → Calls Tryz.prog 127 #[.slice (some ⟨b, off, none⟩) n c] w' (Waits w'))) :
    Calls Tryz.prog 100 #[.slice (some ⟨b, off, none⟩) n c] w (Waits w) := by
  go_enter Tryz.func100, Tryz.ntmps100
  go_wp2_with fail
  refine (HG.out _ (below_mk _ _)).mono ?_
  rintro en w2 ⟨rfl, hb2⟩
  go_wp2_with fail
  exact ⟨rfl, rfl, below_on (below_mk _ _) hb2⟩

set_option maxRecDepth 100000 in
set_option maxHeartbeats 4000000 in
theorem tokenOutside_key (b off n c : Nat) (x : Int) (w : World) (hn : n ≤ 1048576) (hb : b < w.heap.size) (hi : 0 < n) (hc : w.cell? ⟨b, off, none⟩ = some (.int .u8 x)) (h0 : 0 ≤ x) (hx : (x == 27) = false) (hy : x < 128) (tk : Tk) (htk : keyB x = tk) (hk : tk.code = 0) (hd : tk.ev.data = []) :
    Calls Tryz.prog 100 #[.slice (some ⟨b, off, none⟩) n c] w (NewTok w tk.ev tk.size tk.paste tk.none) := by
  have HK := Lib.hid (fun w => implKeyOfByte_any x w h0)
  rw [htk] at HK
  obtain ⟨tcode, ⟨t1, t2, t3, t4, t5, t6, t7, td⟩, tsize, tpaste, tnone⟩ := tk
  dsimp only at *
  subst hk hd
  clear htk
  go_enter Tryz.func100, Tryz.ntmps100
  go_wp2_with fail
  refine (HK.out _).mono ?_
  rintro e w2 ⟨rfl, hb2⟩
  obtain ⟨hcc, hf⟩ := bcell hb2
  have l0 := new_lt hb2
  have n0 : ¬ w.heap.size = w2.heap.size := by omega
  have HE : ∀ A, Hid (NewTok w ⟨t1, t2, t3, t4, t5, t6, t7, []⟩ tsize tpaste tnone (.returned (tokV ⟨t1, t2, t3, t4, t5, t6, t7, []⟩ (.slice none 0 0) tsize tpaste tnone)) ((sets w2 w.heap.size 0 (tokL ⟨t1, t2, t3, t4, t5, t6, t7, []⟩ (.slice none 0 0) tsize tpaste tnone)).alloc A)) := fun A => (tok_end (tokL ⟨t1, t2, t3, t4, t5, t6, t7, []⟩ (.slice none 0 0) tsize tpaste tnone) (own_nil _ _) hb2).more A
  clear hb2
  unfold tkV
  dsimp only
  go_wp2_with fail
  refine bodyPost_ret (v := tokV ⟨t1, t2, t3, t4, t5, t6, t7, []⟩ (.slice none 0 0) tsize tpaste tnone) ?_ rfl (HE _).out
  simp [results, Tryz.results100, tokV, go_sem, hcc, l0]

set_option maxRecDepth 100000 in
set_option maxHeartbeats 4000000 in
theorem tokenOutside_raw (b off n c : Nat) (x : Int) (w : World) (hn : n ≤ 1048576) (hb : b < w.heap.size) (hi : 0 < n) (hnc : n ≤ c) (hc : w.cell? ⟨b, off, none⟩ = some (.int .u8 x)) (h0 : 0 ≤ x) (hx : (x == 27) = false) (hy : x < 128) (htk : keyB x = badTk 5) (d : List UInt8)
    (HR : Hid (∀ w', Below w.heap.size w w' → Calls Tryz.prog 103 #[.slice (some ⟨b, off, none⟩) 1 c] w' (NewTok w' (rawEv d) 1 false false))) :
    Calls Tryz.prog 100 #[.slice (some ⟨b, off, none⟩) n c] w (NewTok w (rawEv d) 1 false false) := by
  have HK := Lib.hid (fun w => implKeyOfByte_any x w h0)
  rw [htk] at HK
  clear htk
  go_enter Tryz.func100, Tryz.ntmps100
  go_wp2_with fail
  refine (HK.out _).mono ?_
  rintro e w1 ⟨rfl, hb1⟩
  have HB1 := Lib.hid hb1
  have HR2 := Lib.hid (fun A => HR.out _ (below_on (below_on (below_mk _ _) hb1) (below_mk _ A)))
  clear hb1 HR
  unfold tkV badTk noEv
  dsimp only
  go_wp2_with fail
  refine (HR2.out _).mono ?_
  rintro e w2 ⟨v, rfl, ho, hb2⟩
  obtain ⟨pp, cc, hv⟩ := ho.slice
  subst hv
  have hb3 := below_past HB1.out hb2
  obtain ⟨hcc, hf⟩ := bcell hb3
  have HE : Hid (NewTok w (rawEv d) 1 false false (.returned (tokV (rawEv d) (.slice pp d.length cc) 1 false false)) (sets w2 w.heap.size 0 (tokL (rawEv d) (.slice pp d.length cc) 1 false false))) := tok_end (tokL (rawEv d) (.slice pp d.length cc) 1 false false) (ho.lower (past_le HB1.out _)) hb3
  clear ho hb2 hb3
  unfold tokV rawEv
  dsimp only
  go_wp2_with fail
  refine bodyPost_ret (v := tokV (rawEv d) (.slice pp d.length cc) 1 false false) ?_ rfl HE.out
  simp [results, Tryz.results100, tokV, rawEv, go_sem, hcc]

end Go.Proofs.YtjopjddhgaiddabGreatDoor

/- The program's tokens: escapeToken, tokenOutside, whole. -/
namespace Go.Proofs.YtjopjddhgaiddabGreatDoor
open Go.RowKit
set_option linter.unusedVariables false

theorem seqTok_two (l : List UInt8) : (seqTok l).code = 0 ∨ (seqTok l).code = 6 := by
  unfold seqTok
  split
  · split
    · exact .inr rfl
    · exact .inl rfl
  · exact .inl (seqOf_code _ _)
theorem letTok_two (l : List UInt8) : (letTok l).code = 0 ∨ (letTok l).code = 6 := by
  unfold letTok
  split
  · exact .inr rfl
  split
  · exact .inl rfl
  · exact .inl rfl
theorem escTok_two (l : List UInt8) : (escTok l).code = 0 ∨ (escTok l).code = 6 := by
  unfold escTok
  split
  · exact .inr rfl
  split
  · exact seqTok_two l
  split
  · exact letTok_two l
  split
  · exact .inl rfl
  · exact .inl rfl
theorem ptTok_two (l : List UInt8) : (ptTok l).code = 0 ∨ (ptTok l).code = 6 := by
  unfold ptTok
  split
  · exact .inr rfl
  split
  · exact .inl rfl
  · exact .inl rfl
theorem keyB_two (b : Int) : (keyB b).code = 0 ∨ keyB b = badTk 5 := by
  unfold keyB
  repeat' split
  all_goals first | exact .inl rfl | exact .inr rfl
theorem outTok_two (l : List UInt8) : (outTok l).code = 0 ∨ (outTok l).code = 6 := by
  unfold outTok
  split
  · exact escTok_two l
  split
  · exact ptTok_two l
  split
  · exact .inl (by assumption)
  · exact .inl rfl

theorem TokOut.done {w : World} {t : Tk} (h0 : t.code = 0) {e : Ending} {w' : World} (h : TokOut w t e w') : NewTok w t.ev t.size t.paste t.none e w' := by
  rcases h with h | h
  · exact h.2
  · have := h.1; omega
theorem TokOut.wait {w : World} {t : Tk} (h6 : t.code = 6) {e : Ending} {w' : World} (h : TokOut w t e w') : Waits w e w' := by
  rcases h with h | h
  · have := h.1; omega
  · exact h.2

theorem escapeToken_any (p : Option Addr) (c : Nat) (l : List UInt8) (w : World) (h : Bs w w.heap.size p l) (hc : l.length ≤ c) (hl : l.length ≤ 1048576) :
    Calls Tryz.prog 126 #[.slice p l.length c] w (TokOut w (escTok l)) := by
  unfold escTok
  by_cases h2 : l.length < 2
  · rw [if_pos h2]
    exact (escapeToken_wait p l.length c w (by omega)).mono fun _ _ q => .inr ⟨rfl, q⟩
  rw [if_neg h2]
  have hS := fun w' (hb : Below w.heap.size w w') => sequenceToken_any p c l w' (h.on hb) hc hl (by omega)
  have hL := fun w' (hb : Below w.heap.size w w') => letterToken_any p c l w' (h.on hb) hc hl
  obtain ⟨b, off, rfl, hb, hcell⟩ := h.at 1 (by omega)
  by_cases h91 : ((l.getD 1 0).toNat : Int) = 91
  · rw [if_pos h91]
    rcases seqTok_two l with h0 | h6
    · exact (escapeToken_seq_done b off l.length c _ w hl hb (by omega) hcell h91 _ _ _ _ (Lib.hid fun w' hw => (hS w' hw).mono fun _ _ q => q.done h0)).mono fun _ _ q => .inl ⟨h0, q⟩
    · exact (escapeToken_seq_wait b off l.length c _ w hl hb (by omega) hcell h91 (Lib.hid fun w' hw => (hS w' hw).mono fun _ _ q => q.wait h6)).mono fun _ _ q => .inr ⟨h6, q⟩
  rw [if_neg h91]
  by_cases h79 : ((l.getD 1 0).toNat : Int) = 79
  · rw [if_pos h79]
    rcases letTok_two l with h0 | h6
    · exact (escapeToken_let_done b off l.length c _ w hl hb (by omega) hcell h79 _ _ _ _ (Lib.hid fun w' hw => (hL w' hw).mono fun _ _ q => q.done h0)).mono fun _ _ q => .inl ⟨h0, q⟩
    · exact (escapeToken_let_wait b off l.length c _ w hl hb (by omega) hcell h79 (Lib.hid fun w' hw => (hL w' hw).mono fun _ _ q => q.wait h6)).mono fun _ _ q => .inr ⟨h6, q⟩
  rw [if_neg h79]
  by_cases hp : inR ((l.getD 1 0).toNat : Int) 32 126 = true
  · rw [if_pos hp]
    exact (escapeToken_plain b off l.length c _ w (by omega) hl hb hcell h91 h79 hp).mono fun _ _ q => .inl ⟨rfl, q⟩
  · rw [if_neg hp]
    exact (escapeToken_esc b off l.length c _ w (by omega) hl hb hcell h91 h79 (by simpa using hp)).mono fun _ _ q => .inl ⟨rfl, q⟩

theorem tokenOutside_any (p : Option Addr) (c : Nat) (l : List UInt8) (w : World) (h : Bs w w.heap.size p l) (ht : Tabs w) (hc : l.length ≤ c) (hl : l.length ≤ 1048576) (hne : l ≠ []) :
    Calls Tryz.prog 100 #[.slice p l.length c] w (TokOut w (outTok l)) := by
  have hpos : 0 < l.length := List.length_pos_iff.2 hne
  unfold outTok
  have hE := fun w' (hb : Below w.heap.size w w') => escapeToken_any p c l w' (h.on hb) hc hl
  have hP := fun w' (hb : Below w.heap.size w w') => pointToken_any p c l w' (h.on hb) (ht.on hb) hc hl hne
  obtain ⟨b, off, rfl, hb, hcell⟩ := h.at 0 (by omega)
  have hx0 : 0 ≤ ((l.getD 0 0).toNat : Int) := by omega
  by_cases h27 : ((l.getD 0 0).toNat : Int) = 27
  · rw [if_pos h27]
    rcases escTok_two l with h0 | h6
    · exact (tokenOutside_esc_done b off l.length c _ w hl hb (by omega) hcell h27 _ _ _ _ (Lib.hid fun w' hw => (hE w' hw).mono fun _ _ q => q.done h0)).mono fun _ _ q => .inl ⟨h0, q⟩
    · exact (tokenOutside_esc_wait b off l.length c _ w hl hb (by omega) hcell h27 (Lib.hid fun w' hw => (hE w' hw).mono fun _ _ q => q.wait h6)).mono fun _ _ q => .inr ⟨h6, q⟩
  rw [if_neg h27]
  have e27 : (((l.getD 0 0).toNat : Int) == 27) = false := by simpa using h27
  by_cases h128 : 128 ≤ ((l.getD 0 0).toNat : Int)
  · rw [if_pos h128]
    rcases ptTok_two l with h0 | h6
    · exact (tokenOutside_pt_done b off l.length c _ w hl hb (by omega) hcell e27 h128 _ _ _ _ (Lib.hid fun w' hw => (hP w' hw).mono fun _ _ q => q.done h0)).mono fun _ _ q => .inl ⟨h0, q⟩
    · exact (tokenOutside_pt_wait b off l.length c _ w hl hb (by omega) hcell e27 h128 (Lib.hid fun w' hw => (hP w' hw).mono fun _ _ q => q.wait h6)).mono fun _ _ q => .inr ⟨h6, q⟩
  rw [if_neg h128]
  by_cases hk : (keyB ((l.getD 0 0).toNat : Int)).code = 0
  · rw [if_pos hk]
    exact (tokenOutside_key b off l.length c _ w hl hb (by omega) hcell hx0 e27 (by omega) _ rfl hk (keyB_data _)).mono fun _ _ q => .inl ⟨hk, q⟩
  · rw [if_neg hk]
    have hbad := (keyB_two _).resolve_left hk
    have e : (l.take 1).length = 1 := by simp; omega
    refine (tokenOutside_raw b off l.length c _ w hl hb (by omega) hc hcell hx0 e27 (by omega) hbad (l.take 1) (Lib.hid fun w' hw => rawToken_cut _ c 1 l w' (h.on hw) (by omega) (by omega) hl)).mono fun _ _ q => .inl ⟨rfl, ?_⟩
    unfold rawTk rTk
    rw [e]
    exact q

end Go.Proofs.YtjopjddhgaiddabGreatDoor

/- FirstToken of the program: what waits panics, and is caught. -/
namespace Go.Proofs.YtjopjddhgaiddabGreatDoor
open Go.RowKit
set_option linter.unusedVariables false

theorem outTok_bad (l : List UInt8) (h : (outTok l).code = 6) : outTok l = badTk 6 := by
  have hS : (seqTok l).code = 6 → seqTok l = badTk 6 := by
    unfold seqTok
    split
    · split
      · intro _; rfl
      · intro h; exact absurd h (by simp [rawTk, rTk])
    · intro h; rw [seqOf_code] at h; omega
  have hL : (letTok l).code = 6 → letTok l = badTk 6 := by
    unfold letTok
    split
    · intro _; rfl
    split
    · intro h; exact absurd h (by simp [rawTk, rTk])
    · intro h; exact absurd h (by simp [keyTk])
  have hE : (escTok l).code = 6 → escTok l = badTk 6 := by
    unfold escTok
    split
    · intro _; rfl
    split
    · exact hS
    split
    · exact hL
    split
    · intro h; exact absurd h (by simp [keyTk])
    · intro h; exact absurd h (by simp [keyTk])
  have hP : (ptTok l).code = 6 → ptTok l = badTk 6 := by
    unfold ptTok
    split
    · intro _; rfl
    split
    · intro h; exact absurd h (by simp [rawTk, rTk])
    · intro h; exact absurd h (by simp [keyTk])
  revert h
  unfold outTok
  split
  · exact hE
  split
  · exact hP
  split
  · intro h; omega
  · intro h; exact absurd h (by simp [rawTk, rTk])

set_option maxRecDepth 100000 in
set_option maxHeartbeats 4000000 in
theorem token_caught (b : Nat) (u : TypeId) (pv : Value) (older : List PanicEntry) (w : World) (h : AtL w b (tkL (badTk 0) (.slice none 0 0))) (hz : ∀ o, w.frozen? ⟨b, o, none⟩ = false) :
    CallsD Tryz.prog 99 #[.pointer (some ⟨b, 0, none⟩)] (.panicking ({ v := .iface u pv, recovered := false } :: older)) w fun e u' w' =>
      e = .returned (.tuple #[]) ∧ u' = .panicking ({ v := .iface u pv, recovered := true } :: older) ∧ w' = sets w b 0 (tkL (badTk 6) (.slice none 0 0)) := by
  have h0 := h.get 0 rfl
  have h1 := h.get 1 rfl
  have h2 := h.get 2 rfl
  have h3 := h.get 3 rfl
  have h4 := h.get 4 rfl
  have h5 := h.get 5 rfl
  have h6 := h.get 6 rfl
  have h7 := h.get 7 rfl
  have h8 := h.get 8 rfl
  have h9 := h.get 9 rfl
  have h10 := h.get 10 rfl
  have h11 := h.get 11 rfl
  clear h
  refine callsD_of_wpS Tryz.func99 rfl fun c₀ cs hu => ?_
  apply wpS_seq
  apply wpS_region
  simp [wpOpsS, go_sem, recoverD, hu, Tryz.ntmps99, Exit.thenS]
  refine wpS_cond (t := true) (by simp [Act.eval, Array.replicate]) ?_
  simp only [if_true]
  apply wpS_region
  simp [wpOpsS, go_sem, h0, h1, h2, h3, h4, h5, h6, h7, h8, h9, h10, h11, hz, bodyPostS, results, Tryz.results99]
  rfl

theorem token_idle (p : Addr) (w : World) :
    CallsD Tryz.prog 99 #[.pointer (some p)] .returning w fun e u' w' => e = .returned (.tuple #[]) ∧ u' = .returning ∧ w' = w := by
  refine callsD_of_wpS Tryz.func99 rfl fun c₀ cs hu => ?_
  apply wpS_seq
  apply wpS_region
  simp [wpOpsS, go_sem, recoverD, hu, Tryz.ntmps99, Exit.thenS]
  refine wpS_cond (t := false) (by simp [Act.eval, Array.replicate]) ?_
  simp only [Bool.false_eq_true, if_false]
  refine wpS_of_wp (wp_skip ?_)
  cases c₀
  simp_all [bodyPostS, results, Tryz.results99]

set_option maxRecDepth 100000 in
set_option maxHeartbeats 4000000 in
theorem implFirstToken_wait (p : Option Addr) (c : Nat) (l : List UInt8) (w : World) (hpos : 0 < l.length) (hl : l.length ≤ 1048576) (HW : Hid (∀ o, Calls Tryz.prog 100 #[.slice p l.length c] (w.alloc o) (Waits (w.alloc o)))) :
    Calls Tryz.prog 65 #[.slice p l.length c] w (PlainTk w (badTk 6)) := by
  have hmf : ∀ (fn : Fn) (first cap : Array Value) (w : World), (Instr.makeFunc fn first cap).run Tryz.prog w = .ok (.func fn first cap) w := fun _ _ _ _ => rfl
  have hne : ¬ ((l.length : Int) = 0) := by omega
  go_enter_defers Tryz.func65, Tryz.ntmps65
  go_wp2_with fail
  refine (HW.out _).mono ?_
  rintro e w1 ⟨rfl, hb⟩
  unfold waitPanic
  go_wp2_with fail
  have HE : Hid (PlainTk w (badTk 6) (.returned (tkV (badTk 6) (.slice none 0 0))) (sets w1 w.heap.size 0 (tkL (badTk 6) (.slice none 0 0)))) := tk_end_plain (tkL (badTk 6) (.slice none 0 0)) hb
  have HA : Hid (AtL w1 w.heap.size (tkL (badTk 0) (.slice none 0 0))) := (AtL.new w (tkL (badTk 0) (.slice none 0 0)) 58).on hb
  have HZ : Hid (∀ o, w1.frozen? ⟨w.heap.size, o, none⟩ = false) := fun o => (hb.frozen (p := ⟨w.heap.size, o, none⟩) (by simp)).trans (by simp)
  obtain ⟨hcc, hf⟩ := bcell hb
  clear hb
  refine leaves_cons (f := 99) (args := #[.pointer (some ⟨w.heap.size, 0, none⟩)]) (by simp) (by simp [go_sem]) ?_
  refine (token_caught w.heap.size 9 _ [] w1 HA.out HZ.out).mono ?_
  rintro e u' w'' ⟨rfl, rfl, rfl⟩
  simp [Leaves, settle, results, Tryz.results65, go_sem, sets, tkL, badTk, noEv, hcc]
  exact HE.out

set_option maxRecDepth 100000 in
set_option maxHeartbeats 4000000 in
theorem implFirstToken_done (p : Option Addr) (c : Nat) (l : List UInt8) (w : World) (ev : Ev) (s : Int) (pa no : Bool) (hpos : 0 < l.length) (hl : l.length ≤ 1048576) (HW : Hid (∀ o, Calls Tryz.prog 100 #[.slice p l.length c] (w.alloc o) (NewTok (w.alloc o) ev s pa no))) :
    Calls Tryz.prog 65 #[.slice p l.length c] w (NewTk w ⟨0, ev, s, pa, no⟩) := by
  have hmf : ∀ (fn : Fn) (first cap : Array Value) (w : World), (Instr.makeFunc fn first cap).run Tryz.prog w = .ok (.func fn first cap) w := fun _ _ _ _ => rfl
  have hne : ¬ ((l.length : Int) = 0) := by omega
  go_enter_defers Tryz.func65, Tryz.ntmps65
  go_wp2_with fail
  refine (HW.out _).mono ?_
  rintro e w1 ⟨v, rfl, ho, hb⟩
  obtain ⟨hcc, hf⟩ := bcell hb
  obtain ⟨pp, cc, hv⟩ := ho.slice
  subst hv
  unfold tokV
  go_wp2_with fail
  have HE : Hid (NewTk w ⟨0, ev, s, pa, no⟩ (.returned (tkV ⟨0, ev, s, pa, no⟩ (.slice pp ev.data.length cc))) (sets w1 w.heap.size 0 (tkL ⟨0, ev, s, pa, no⟩ (.slice pp ev.data.length cc)))) := tk_end (tkL ⟨0, ev, s, pa, no⟩ (.slice pp ev.data.length cc)) ho hb
  clear hb ho
  refine leaves_cons (f := 99) (args := #[.pointer (some ⟨w.heap.size, 0, none⟩)]) (by simp) (by simp [go_sem]) ?_
  refine (token_idle ⟨w.heap.size, 0, none⟩ _).mono ?_
  rintro e u' w'' ⟨rfl, rfl, rfl⟩
  simp [Leaves, settle, results, Tryz.results65, go_sem, hcc]
  exact HE.out

set_option maxRecDepth 100000 in
set_option maxHeartbeats 4000000 in
theorem implFirstToken_none (p : Option Addr) (c : Nat) (w : World) :
    Calls Tryz.prog 65 #[.slice p 0 c] w (PlainTk w (badTk 4)) := by
  have hmf : ∀ (fn : Fn) (first cap : Array Value) (w : World), (Instr.makeFunc fn first cap).run Tryz.prog w = .ok (.func fn first cap) w := fun _ _ _ _ => rfl
  go_enter_defers Tryz.func65, Tryz.ntmps65
  go_wp2
  have HE : Hid (PlainTk w (badTk 4) (.returned (tkV (badTk 4) (.slice none 0 0))) (w.alloc (.cells (tkL (badTk 4) (.slice none 0 0)).toArray 58))) := ⟨rfl, below_mk _ _⟩
  simp [bodyPostD, Leaves, results, Tryz.results65, go_sem]
  exact HE.out

theorem implFirstToken_any (p : Option Addr) (c : Nat) (l : List UInt8) (w : World) (h : Bs w w.heap.size p l) (ht : Tabs w) (hc : l.length ≤ c) (hl : l.length ≤ 1048576) :
    Calls Tryz.prog 65 #[.slice p l.length c] w (NewTk w (firstTok l)) := by
  unfold firstTok
  by_cases h0 : l = []
  · subst h0
    exact (implFirstToken_none p c w).mono fun _ _ hp => hp.new rfl
  rw [if_neg h0]
  have hpos : 0 < l.length := List.length_pos_iff.2 h0
  have hO := fun o => tokenOutside_any p c l (w.alloc o) (h.alloc o) (ht.on (below_mk _ o)) hc hl h0
  rcases outTok_two l with hz | hz
  · have e : outTok l = ⟨0, (outTok l).ev, (outTok l).size, (outTok l).paste, (outTok l).none⟩ := by rw [← hz]
    rw [e]
    exact implFirstToken_done p c l w _ _ _ _ hpos hl (Lib.hid fun o => (hO o).mono fun _ _ q => q.done hz)
  · have e : outTok l = badTk 6 := outTok_bad l hz
    rw [e]
    exact (implFirstToken_wait p c l w hpos hl (Lib.hid fun o => (hO o).mono fun _ _ q => q.wait hz)).mono fun _ _ hp => hp.new rfl

end Go.Proofs.YtjopjddhgaiddabGreatDoor
