/- The model's tokens: l3Escaped, FirstToken. -/
import Derived.Test.YtjopjddhgaiddabGreatDoorQTokSpec
import Derived.Test.YtjopjddhgaiddabGreatDoorQTokSpec2
import Derived.Test.YtjopjddhgaiddabGreatDoorQTokImpl6ToTokImpl8
namespace Go.Proofs.YtjopjddhgaiddabGreatDoor
open Go.RowKit
set_option linter.unusedVariables false

theorem l3Escaped_any (p : Option Addr) (c : Nat) (l : List UInt8) (w : World) (h : Bs w w.heap.size p l) (hc : l.length ≤ c) (hl : l.length ≤ 1048576) (h2 : 2 ≤ l.length) :
    Calls Tryz.prog 79 #[.slice p l.length c] w (NewTk w (escTok l)) := by
  unfold escTok
  rw [if_neg (by omega)]
  have hS := fun w' (hb : Below w.heap.size w w') => l3Sequence_any p c l w' (h.on hb) hc hl (by omega)
  have hR := fun w' (hb : Below w.heap.size w w') (h3 : 3 ≤ l.length) => l3Raw_cut p c 3 l w' (h.on hb) h3 (by omega) (by omega) hl
  have h3c := h.at 2
  obtain ⟨b, off, rfl, hb, hcell⟩ := h.at 1 (by omega)
  by_cases h91 : ((l.getD 1 0).toNat : Int) = 91
  · rw [if_pos h91]
    rw [h91] at hcell
    exact l3Escaped_seq b off l.length c _ w (by omega) hl hb hcell (Lib.hid hS)
  rw [if_neg h91]
  by_cases h79 : ((l.getD 1 0).toNat : Int) = 79
  · rw [if_pos h79]
    rw [h79] at hcell
    unfold letTok
    by_cases h3 : l.length < 3
    · rw [if_pos h3]
      exact (l3Escaped_o2 b off l.length c w (by omega) hb hcell).mono fun _ _ q => q.new rfl
    · rw [if_neg h3]
      obtain ⟨b', off', e', _, hc2⟩ := h3c (by omega)
      have he := Option.some.inj e'
      have hb1 : b = b' := congrArg Addr.block he
      have ho1 : off = off' := congrArg Addr.off he
      subst hb1 ho1
      by_cases h0 : letterK ((l.getD 2 0).toNat : Int) = 0
      · rw [if_pos h0]
        exact l3Escaped_oraw b off l.length c _ _ w (by omega) hl hc hb hcell hc2 h0 (Lib.hid fun w' hb' => hR w' hb' (by omega))
      · rw [if_neg h0]
        exact (l3Escaped_let b off l.length c _ _ w (by omega) hl hb hcell hc2 rfl (by simpa using h0)).mono fun _ _ q => q.new rfl
  rw [if_neg h79]
  have e1 : (((l.getD 1 0).toNat : Int) == 91) = false := by simpa using h91
  have e2 : (((l.getD 1 0).toNat : Int) == 79) = false := by simpa using h79
  by_cases hp : inR ((l.getD 1 0).toNat : Int) 32 126 = true
  · rw [if_pos hp]
    simp only [inR, Bool.and_eq_true, decide_eq_true_eq] at hp
    exact (l3Escaped_plain b off l.length c _ w (by omega) hl hb hcell e1 e2 (by omega) (by omega)).mono fun _ _ q => q.new rfl
  · rw [if_neg hp]
    simp only [inR, Bool.and_eq_true, decide_eq_true_eq] at hp
    exact (l3Escaped_esc b off l.length c _ w (by omega) hl hb hcell e1 e2 (by omega)).mono fun _ _ q => q.new rfl

set_option maxRecDepth 100000 in
set_option maxHeartbeats 4000000 in
theorem specTok_none (p : Option Addr) (c : Nat) (w : World) :
    Calls Tryz.prog 47 #[.slice p 0 c] w (PlainTk w (badTk 4)) := by
  go_enter Tryz.func47, Tryz.ntmps47
  go_wp2_with fail
  refine (l3Bad_any _ _).mono ?_
  rintro e w9 ⟨rfl, hb9⟩
  have HE : Hid (PlainTk w (badTk 4) (.returned (tkV (badTk 4) (.slice none 0 0))) (sets w9 w.heap.size 0 (tkL (badTk 4) (.slice none 0 0)))) := tk_end_plain (tkL (badTk 4) (.slice none 0 0)) hb9
  obtain ⟨hcc, hf⟩ := bcell hb9
  clear hb9
  unfold tkV badTk noEv
  go_wp2_with fail
  refine bodyPost_ret (v := tkV (badTk 4) (.slice none 0 0)) ?_ rfl HE.out
  simp [results, Tryz.results47, tkV, badTk, noEv, go_sem, hcc]

set_option maxRecDepth 100000 in
set_option maxHeartbeats 4000000 in
theorem specTok_esc1 (b off c : Nat) (w : World) (hb : b < w.heap.size) (hc : w.cell? ⟨b, off, none⟩ = some (.int .u8 27)) :
    Calls Tryz.prog 47 #[.slice (some ⟨b, off, none⟩) 1 c] w (PlainTk w (badTk 6)) := by
  go_enter Tryz.func47, Tryz.ntmps47
  go_wp2_with fail
  refine (l3Bad_any _ _).mono ?_
  rintro e w9 ⟨rfl, hb9⟩
  have HE : Hid (PlainTk w (badTk 6) (.returned (tkV (badTk 6) (.slice none 0 0))) (sets w9 w.heap.size 0 (tkL (badTk 6) (.slice none 0 0)))) := tk_end_plain (tkL (badTk 6) (.slice none 0 0)) hb9
  obtain ⟨hcc, hf⟩ := bcell hb9
  clear hb9
  unfold tkV badTk noEv
  go_wp2_with fail
  refine bodyPost_ret (v := tkV (badTk 6) (.slice none 0 0)) ?_ rfl HE.out
  simp [results, Tryz.results47, tkV, badTk, noEv, go_sem, hcc]

set_option maxRecDepth 100000 in
set_option maxHeartbeats 4000000 in
theorem specTok_esc (b off n c : Nat) (t : Tk) (w : World) (hi : 1 < n) (hn : n ≤ 1048576) (hb : b < w.heap.size) (hc : w.cell? ⟨b, off, none⟩ = some (.int .u8 27))
    (HG : Hid (∀ w', Below w.heap.size w w' → Calls Tryz.prog 79 #[.slice (some ⟨b, off, none⟩) n c] w' (NewTk w' t))) :
    Calls Tryz.prog 47 #[.slice (some ⟨b, off, none⟩) n c] w (NewTk w t) := by
  have e0 : ¬ (n : Int) = 0 := by omega
  have e1 : ¬ (n : Int) = 1 := by omega
  go_enter Tryz.func47, Tryz.ntmps47
  go_wp2_with fail
  refine (HG.out _ (below_mk _ _)).mono ?_
  rintro e w9 ⟨v, rfl, ho, hb9⟩
  obtain ⟨px, cx, hv⟩ := ho.slice
  subst hv
  have HE : Hid (NewTk w t (.returned (tkV t (.slice px t.ev.data.length cx))) (sets w9 w.heap.size 0 (tkL t (.slice px t.ev.data.length cx)))) := tk_end (tkL t (.slice px t.ev.data.length cx)) ho hb9
  obtain ⟨hcc, hf⟩ := bcell hb9
  clear ho hb9
  unfold tkV
  go_wp2_with fail
  refine bodyPost_ret (v := tkV t (.slice px t.ev.data.length cx)) ?_ rfl HE.out
  simp [results, Tryz.results47, tkV, go_sem, hcc]

set_option maxRecDepth 100000 in
set_option maxHeartbeats 4000000 in
theorem specTok_key (b off n c : Nat) (x : Int) (w : World) (hi : 0 < n) (hn : n ≤ 1048576) (hb : b < w.heap.size) (hc : w.cell? ⟨b, off, none⟩ = some (.int .u8 x)) (h0 : 0 ≤ x) (h27 : (x == 27) = false) (h128 : x < 128) (tk : Tk) (htk : keyB x = tk) (hk : tk.code = 0) (hd : tk.ev.data = []) :
    Calls Tryz.prog 47 #[.slice (some ⟨b, off, none⟩) n c] w (NewTk w tk) := by
  have e0 : ¬ (n : Int) = 0 := by omega
  have HK := Lib.hid (fun w => specKeyOfByte_any x w h0)
  rw [htk] at HK
  obtain ⟨tcode, ⟨t1, t2, t3, t4, t5, t6, t7, td⟩, tsize, tpaste, tnone⟩ := tk
  dsimp only at *
  subst hk hd
  clear htk
  go_enter Tryz.func47, Tryz.ntmps47
  go_wp2_with fail
  refine (HK.out _).mono ?_
  rintro e w9 ⟨rfl, hb9⟩
  have HE : ∀ A, Hid (NewTk w ⟨0, ⟨t1, t2, t3, t4, t5, t6, t7, []⟩, tsize, tpaste, tnone⟩ (.returned (tkV ⟨0, ⟨t1, t2, t3, t4, t5, t6, t7, []⟩, tsize, tpaste, tnone⟩ (.slice none 0 0))) ((sets w9 w.heap.size 0 (tkL ⟨0, ⟨t1, t2, t3, t4, t5, t6, t7, []⟩, tsize, tpaste, tnone⟩ (.slice none 0 0))).alloc A)) := fun A => (tk_end (tkL ⟨0, ⟨t1, t2, t3, t4, t5, t6, t7, []⟩, tsize, tpaste, tnone⟩ (.slice none 0 0)) (own_nil _ _) hb9).more A
  obtain ⟨hcc, hf⟩ := bcell hb9
  have l0 := new_lt hb9
  have n0 : ¬ w.heap.size = w9.heap.size := by omega
  clear hb9
  unfold tkV
  dsimp only
  go_wp2_with fail
  refine bodyPost_ret (v := tkV ⟨0, ⟨t1, t2, t3, t4, t5, t6, t7, []⟩, tsize, tpaste, tnone⟩ (.slice none 0 0)) ?_ rfl (HE _).out
  simp [results, Tryz.results47, tkV, go_sem, hcc, l0]

set_option maxRecDepth 100000 in
set_option maxHeartbeats 4000000 in
theorem specTok_kraw (b off n c : Nat) (x : Int) (t : Tk) (w : World) (hi : 0 < n) (hn : n ≤ 1048576) (hnc : n ≤ c) (hb : b < w.heap.size) (hc : w.cell? ⟨b, off, none⟩ = some (.int .u8 x)) (h0 : 0 ≤ x) (h27 : (x == 27) = false) (h128 : x < 128) (htk : keyB x = badTk 5)
    (HG : Hid (∀ w', Below w.heap.size w w' → Calls Tryz.prog 81 #[.slice (some ⟨b, off, none⟩) 1 c] w' (NewTk w' t))) :
    Calls Tryz.prog 47 #[.slice (some ⟨b, off, none⟩) n c] w (NewTk w t) := by
  have e0 : ¬ (n : Int) = 0 := by omega
  have HK := Lib.hid (fun w => specKeyOfByte_any x w h0)
  rw [htk] at HK
  clear htk
  go_enter Tryz.func47, Tryz.ntmps47
  go_wp2_with fail
  refine (HK.out _).mono ?_
  rintro e w1 ⟨rfl, hb1⟩
  have HB1 := Lib.hid hb1
  have HR2 := Lib.hid (fun A => HG.out _ (below_on (below_on (below_mk _ _) hb1) (below_mk _ A)))
  have l0 := new_lt hb1
  have n0 : ¬ w.heap.size = w1.heap.size := by omega
  clear hb1 HG
  unfold tkV badTk noEv
  dsimp only
  go_wp2_with fail
  refine (HR2.out _).mono ?_
  rintro e w9 ⟨v, rfl, ho, hb9⟩
  obtain ⟨px, cx, hv⟩ := ho.slice
  subst hv
  have hb6 := below_past HB1.out hb9
  have HE : Hid (NewTk w t (.returned (tkV t (.slice px t.ev.data.length cx))) (sets w9 w.heap.size 0 (tkL t (.slice px t.ev.data.length cx)))) := tk_end (tkL t (.slice px t.ev.data.length cx)) (ho.lower (past_le HB1.out _)) hb6
  clear l0 n0
  obtain ⟨hcc, hf⟩ := bcell hb6
  clear ho hb9 hb6
  unfold tkV
  go_wp2_with fail
  refine bodyPost_ret (v := tkV t (.slice px t.ev.data.length cx)) ?_ rfl HE.out
  simp [results, Tryz.results47, tkV, go_sem, hcc]

end Go.Proofs.YtjopjddhgaiddabGreatDoor

/- The model's FirstToken. -/
namespace Go.Proofs.YtjopjddhgaiddabGreatDoor
open Go.RowKit
set_option linter.unusedVariables false

set_option maxRecDepth 100000 in
set_option maxHeartbeats 4000000 in
theorem specTok_pwait (b off n c : Nat) (x zp zs : Int) (w : World) (hi : 0 < n) (hn : n ≤ 1048576) (hb : b < w.heap.size) (hc : w.cell? ⟨b, off, none⟩ = some (.int .u8 x)) (h27 : (x == 27) = false) (h128 : 128 ≤ x)
    (HF : Hid (∀ o, Calls Tryz.prog 82 #[.slice (some ⟨b, off, none⟩) n c] (w.alloc o) (FirstPost (w.alloc o) (6, zp, zs)))) :
    Calls Tryz.prog 47 #[.slice (some ⟨b, off, none⟩) n c] w (PlainTk w (badTk 6)) := by
  have e0 : ¬ (n : Int) = 0 := by omega
  unfold FirstPost at HF
  dsimp only at HF
  go_enter Tryz.func47, Tryz.ntmps47
  go_wp2_with fail
  refine (HF.out _).mono ?_
  rintro e w1 ⟨rfl, hb1⟩
  have HB1 := Lib.hid hb1
  clear hb1
  go_wp2_with fail
  refine (l3Bad_any _ _).mono ?_
  rintro e w9 ⟨rfl, hb9⟩
  have hb6 := HB1.out.trans (hb9.mono HB1.out.size)
  have HE : Hid (PlainTk w (badTk 6) (.returned (tkV (badTk 6) (.slice none 0 0))) (sets w9 w.heap.size 0 (tkL (badTk 6) (.slice none 0 0)))) := tk_end_plain (tkL (badTk 6) (.slice none 0 0)) hb6
  obtain ⟨hcc, hf⟩ := bcell hb6
  clear hb9 hb6
  unfold tkV badTk noEv
  go_wp2_with fail
  refine bodyPost_ret (v := tkV (badTk 6) (.slice none 0 0)) ?_ rfl HE.out
  simp [results, Tryz.results47, tkV, badTk, noEv, go_sem, hcc]

set_option maxRecDepth 100000 in
set_option maxHeartbeats 4000000 in
theorem specTok_pkey (b off n c : Nat) (x zp zs : Int) (w : World) (hi : 0 < n) (hn : n ≤ 1048576) (hb : b < w.heap.size) (hc : w.cell? ⟨b, off, none⟩ = some (.int .u8 x)) (h27 : (x == 27) = false) (h128 : 128 ≤ x) (h160 : ¬ zp < 160)
    (HF : Hid (∀ o, Calls Tryz.prog 82 #[.slice (some ⟨b, off, none⟩) n c] (w.alloc o) (FirstPost (w.alloc o) (0, zp, zs)))) :
    Calls Tryz.prog 47 #[.slice (some ⟨b, off, none⟩) n c] w (PlainTk w (keyTk zp 0 zs)) := by
  have e0 : ¬ (n : Int) = 0 := by omega
  unfold FirstPost at HF
  dsimp only at HF
  go_enter Tryz.func47, Tryz.ntmps47
  go_wp2_with fail
  refine (HF.out _).mono ?_
  rintro e w1 ⟨rfl, hb1⟩
  have HB1 := Lib.hid hb1
  clear hb1
  go_wp2_with fail
  refine (l3Key_any _ _ _ _).mono ?_
  rintro e w9 ⟨rfl, hb9⟩
  have hb6 := HB1.out.trans (hb9.mono HB1.out.size)
  have HE : Hid (PlainTk w (keyTk zp 0 zs) (.returned (tkV (keyTk zp 0 zs) (.slice none 0 0))) (sets w9 w.heap.size 0 (tkL (keyTk zp 0 zs) (.slice none 0 0)))) := tk_end_plain (tkL (keyTk zp 0 zs) (.slice none 0 0)) hb6
  obtain ⟨hcc, hf⟩ := bcell hb6
  clear hb9 hb6
  unfold tkV keyTk keyEv
  go_wp2_with fail
  refine bodyPost_ret (v := tkV (keyTk zp 0 zs) (.slice none 0 0)) ?_ rfl HE.out
  simp [results, Tryz.results47, tkV, keyTk, keyEv, go_sem, hcc]

set_option maxRecDepth 100000 in
set_option maxHeartbeats 4000000 in
theorem specTok_praw (b off n c : Nat) (x zc zp zs : Int) (t : Tk) (w : World) (hi : 0 < n) (hn : n ≤ 1048576) (hnc : n ≤ c) (hb : b < w.heap.size) (hc : w.cell? ⟨b, off, none⟩ = some (.int .u8 x)) (h27 : (x == 27) = false) (h128 : 128 ≤ x) (h6 : (zc == 6) = false) (h0 : (zc == 0) = false ∨ ((zc == 0) = true ∧ zp < 160))
    (HF : Hid (∀ o, Calls Tryz.prog 82 #[.slice (some ⟨b, off, none⟩) n c] (w.alloc o) (FirstPost (w.alloc o) (zc, zp, zs))))
    (HG : Hid (∀ w', Below w.heap.size w w' → Calls Tryz.prog 81 #[.slice (some ⟨b, off, none⟩) 1 c] w' (NewTk w' t))) :
    Calls Tryz.prog 47 #[.slice (some ⟨b, off, none⟩) n c] w (NewTk w t) := by
  have e0 : ¬ (n : Int) = 0 := by omega
  have ez : (zc != 0) = !(zc == 0) := rfl
  unfold FirstPost at HF
  dsimp only at HF
  rcases h0 with h0 | ⟨h0, h1⟩
  all_goals
    rw [h0] at ez
    go_enter Tryz.func47, Tryz.ntmps47
    go_wp2_with fail
    refine (HF.out _).mono ?_
    rintro e w1 ⟨rfl, hb1⟩
    have HB1 := Lib.hid hb1
    have HR2 := Lib.hid (HG.out _ (below_on (below_mk _ _) hb1))
    clear hb1 HG
    go_wp2_with fail
    refine HR2.out.mono ?_
    rintro e w9 ⟨v, rfl, ho, hb9⟩
    obtain ⟨px, cx, hv⟩ := ho.slice
    subst hv
    have hb6 := HB1.out.trans (hb9.mono HB1.out.size)
    have HE : Hid (NewTk w t (.returned (tkV t (.slice px t.ev.data.length cx))) (sets w9 w.heap.size 0 (tkL t (.slice px t.ev.data.length cx)))) := tk_end (tkL t (.slice px t.ev.data.length cx)) (ho.lower HB1.out.size) hb6
    obtain ⟨hcc, hf⟩ := bcell hb6
    clear ho hb9 hb6
    unfold tkV
    go_wp2_with fail
    refine bodyPost_ret (v := tkV t (.slice px t.ev.data.length cx)) ?_ rfl HE.out
    simp [results, Tryz.results47, tkV, go_sem, hcc]

theorem specFirstToken_any (p : Option Addr) (c : Nat) (l : List UInt8) (w : World) (h : Bs w w.heap.size p l) (hc : l.length ≤ c) (hl : l.length ≤ 1048576) :
    Calls Tryz.prog 47 #[.slice p l.length c] w (NewTk w (firstTok l)) := by
  unfold firstTok
  by_cases hne : l = []
  · subst hne
    exact (specTok_none p c w).mono fun _ _ q => q.new rfl
  rw [if_neg hne]
  have hpos : 0 < l.length := List.length_pos_iff.2 hne
  unfold outTok
  have hE := fun w' (hb : Below w.heap.size w w') (h2 : 2 ≤ l.length) => l3Escaped_any p c l w' (h.on hb) hc hl h2
  have hR := fun w' (hb : Below w.heap.size w w') => l3Raw_cut p c 1 l w' (h.on hb) (by omega) (by omega) (by omega) hl
  have hF : ∀ o, Calls Tryz.prog 82 #[.slice p l.length c] (w.alloc o) (FirstPost (w.alloc o) (implFP l)) := by
    intro o
    rw [same_point]
    match l, hne, h, hl, hc with
    | a :: tail, _, h, hl, hc => exact l1First_any p c a tail (w.alloc o) (h.alloc o) (by simpa using hl) (by simpa using hc)
  obtain ⟨b, off, rfl, hb, hcell⟩ := h.at 0 (by omega)
  have hx0 : 0 ≤ ((l.getD 0 0).toNat : Int) := by omega
  by_cases h27 : ((l.getD 0 0).toNat : Int) = 27
  · rw [if_pos h27]
    rw [h27] at hcell
    by_cases h1 : l.length = 1
    · rw [h1]
      have e : escTok l = badTk 6 := by unfold escTok; rw [if_pos (by omega)]
      rw [e]
      exact (specTok_esc1 b off c w hb hcell).mono fun _ _ q => q.new rfl
    · exact specTok_esc b off l.length c _ w (by omega) hl hb hcell (Lib.hid fun w' hb' => hE w' hb' (by omega))
  rw [if_neg h27]
  have e27 : (((l.getD 0 0).toNat : Int) == 27) = false := by simpa using h27
  by_cases h128 : 128 ≤ ((l.getD 0 0).toNat : Int)
  · rw [if_pos h128]
    unfold ptTok
    generalize implFP l = z at *
    obtain ⟨zc, zp, zs⟩ := z
    dsimp only at *
    by_cases h6 : zc = 6
    · rw [if_pos h6]
      subst h6
      exact (specTok_pwait b off l.length c _ zp zs w hpos hl hb hcell e27 h128 (Lib.hid hF)).mono fun _ _ q => q.new rfl
    · rw [if_neg h6]
      by_cases h0 : zc ≠ 0 ∨ zp < 160
      · rw [if_pos h0]
        refine specTok_praw b off l.length c _ zc zp zs _ w hpos hl hc hb hcell e27 h128 (by simpa using h6) ?_ (Lib.hid hF) (Lib.hid hR)
        by_cases hz : zc = 0
        · exact .inr ⟨by simpa using hz, h0.resolve_left (fun hh => hh hz)⟩
        · exact .inl (by simpa using hz)
      · rw [if_neg h0]
        have hz : zc = 0 := by omega
        subst hz
        exact (specTok_pkey b off l.length c _ zp zs w hpos hl hb hcell e27 h128 (by omega) (Lib.hid hF)).mono fun _ _ q => q.new rfl
  rw [if_neg h128]
  by_cases hk : (keyB ((l.getD 0 0).toNat : Int)).code = 0
  · rw [if_pos hk]
    exact specTok_key b off l.length c _ w hpos hl hb hcell hx0 e27 (by omega) _ rfl hk (keyB_data _)
  · rw [if_neg hk]
    exact specTok_kraw b off l.length c _ _ w hpos hl hc hb hcell hx0 e27 (by omega) ((keyB_two _).resolve_left hk) (Lib.hid hR)

end Go.Proofs.YtjopjddhgaiddabGreatDoor

/- The first token's data are few. -/
namespace Go.Proofs.YtjopjddhgaiddabGreatDoor
open Go.RowKit
set_option linter.unusedVariables false

theorem firstTok_small (l : List UInt8) : (firstTok l).ev.data.length ≤ 32 := by
  have hS : (seqTok l).ev.data.length ≤ 32 := by
    unfold seqTok
    split
    · split
      · simp [badTk, noEv]
      · simp [rawTk, rTk, rawEv]; omega
    · unfold seqOf
      split
      · simp [pasteOn, noEv]
      split
      · rw [keyP_data]; simp
      split
      · rw [mouseP_data]; simp
      · simp [rawTk, rTk, rawEv]; omega
  have hL : (letTok l).ev.data.length ≤ 32 := by
    unfold letTok
    split
    · simp [badTk, noEv]
    split
    · simp [rawTk, rTk, rawEv]; omega
    · simp [keyTk, keyEv]
  unfold firstTok
  split
  · simp [badTk, noEv]
  unfold outTok
  split
  · unfold escTok
    split
    · simp [badTk, noEv]
    split
    · exact hS
    split
    · exact hL
    split
    · simp [keyTk, keyEv]
    · simp [keyTk, keyEv]
  split
  · unfold ptTok
    split
    · simp [badTk, noEv]
    split
    · simp [rawTk, rTk, rawEv]; omega
    · simp [keyTk, keyEv]
  split
  · rw [keyB_data]; simp
  · simp [rawTk, rTk, rawEv]; omega

end Go.Proofs.YtjopjddhgaiddabGreatDoor

/- FlushToken, of the program and of the model. -/
namespace Go.Proofs.YtjopjddhgaiddabGreatDoor
open Go.RowKit
set_option linter.unusedVariables false

def asTok (l : List UInt8) : Tk :=
  if ((l.getD 0 0).toNat : Int) = 27 ∧ l.length = 1 then keyTk 2000004 0 1
  else if ((l.getD 0 0).toNat : Int) = 27 ∧ l.length = 2 then keyTk ((l.getD 1 0).toNat : Int) 2 2
  else rawTk (l.take 24)
def flushTok (l : List UInt8) (q : Bool) : Tk :=
  if l = [] then badTk 4 else if q = true then pasteTk (l.take 32) else if (firstTok l).code = 6 then asTok l else firstTok l

theorem asTok_code (l : List UInt8) : (asTok l).code = 0 := by
  unfold asTok
  split
  · rfl
  split <;> rfl

set_option maxRecDepth 100000 in
set_option maxHeartbeats 4000000 in
theorem assumed_one (b off c : Nat) (w : World) (hb : b < w.heap.size) (hc : w.cell? ⟨b, off, none⟩ = some (.int .u8 27)) :
    Calls Tryz.prog 68 #[.slice (some ⟨b, off, none⟩) 1 c] w (NewTok w (keyEv 2000004 0) 1 false false) := by
  go_enter Tryz.func68, Tryz.ntmps68
  go_wp2_with fail
  refine (keyToken_any _ _ _ _).mono ?_
  rintro e w2 ⟨rfl, hb2⟩
  obtain ⟨hcc, hf⟩ := bcell hb2
  have HE : Hid (NewTok w (keyEv 2000004 0) 1 false false (.returned (tokV (keyEv 2000004 0) (.slice none 0 0) 1 false false)) (sets w2 w.heap.size 0 (tokL (keyEv 2000004 0) (.slice none 0 0) 1 false false))) := tok_end (tokL (keyEv 2000004 0) (.slice none 0 0) 1 false false) (own_nil _ _) hb2
  clear hb2
  unfold tokV keyEv
  dsimp only
  go_wp2_with fail
  refine bodyPost_ret (v := tokV (keyEv 2000004 0) (.slice none 0 0) 1 false false) ?_ rfl HE.out
  simp [results, Tryz.results68, tokV, keyEv, go_sem, hcc]

set_option maxRecDepth 100000 in
set_option maxHeartbeats 4000000 in
theorem assumed_two (b off c : Nat) (x : Int) (w : World) (hb : b < w.heap.size) (hc : w.cell? ⟨b, off, none⟩ = some (.int .u8 27)) (hc1 : w.cell? ⟨b, off + 1, none⟩ = some (.int .u8 x)) (h0 : 0 ≤ x) (h1 : x ≤ 255) :
    Calls Tryz.prog 68 #[.slice (some ⟨b, off, none⟩) 2 c] w (NewTok w (keyEv x 2) 2 false false) := by
  have hw : IntKind.i64.wrap x = x := IntWalk.i64_in _ ⟨by omega, by omega⟩
  go_enter Tryz.func68, Tryz.ntmps68
  go_wp2_with fail
  refine (keyToken_any _ _ _ _).mono ?_
  rintro e w2 ⟨rfl, hb2⟩
  obtain ⟨hcc, hf⟩ := bcell hb2
  have HE : Hid (NewTok w (keyEv x 2) 2 false false (.returned (tokV (keyEv x 2) (.slice none 0 0) 2 false false)) (sets w2 w.heap.size 0 (tokL (keyEv x 2) (.slice none 0 0) 2 false false))) := tok_end (tokL (keyEv x 2) (.slice none 0 0) 2 false false) (own_nil _ _) hb2
  clear hb2
  unfold tokV keyEv
  dsimp only
  go_wp2_with fail
  refine bodyPost_ret (v := tokV (keyEv x 2) (.slice none 0 0) 2 false false) ?_ rfl HE.out
  simp [results, Tryz.results68, tokV, keyEv, go_sem, hcc]

set_option maxRecDepth 100000 in
set_option maxHeartbeats 4000000 in
theorem assumed_raw (b off n k c : Nat) (x : Int) (d : List UInt8) (w : World) (hn : 0 < n) (hnl : n ≤ 1048576) (hb : b < w.heap.size) (hc : w.cell? ⟨b, off, none⟩ = some (.int .u8 x)) (hx : (x == 27) = false ∨ ((x == 27) = true ∧ 2 < n))
    (HB : Hid (∀ w, Calls Tryz.prog 67 #[.slice (some ⟨b, off, none⟩) n c, .int .i64 24] w fun e w' => e = .returned (.slice (some ⟨b, off, none⟩) k c) ∧ w = w'))
    (HR : Hid (∀ w', Below w.heap.size w w' → Calls Tryz.prog 103 #[.slice (some ⟨b, off, none⟩) k c] w' (NewTok w' (rawEv d) k false false))) :
    Calls Tryz.prog 68 #[.slice (some ⟨b, off, none⟩) n c] w (NewTok w (rawEv d) k false false) := by
  rcases hx with hx | ⟨hx, h2⟩
  · go_enter Tryz.func68, Tryz.ntmps68
    go_wp2_with fail
    refine (HB.out _).mono ?_
    rintro e w' ⟨rfl, rfl⟩
    go_wp2_with fail
    refine (HR.out _ (below_mk _ _)).mono ?_
    rintro e w2 ⟨v, rfl, ho, hb2⟩
    obtain ⟨pp, cc, hv⟩ := ho.slice
    subst hv
    obtain ⟨hcc, hf⟩ := bcell hb2
    have HE : Hid (NewTok w (rawEv d) k false false (.returned (tokV (rawEv d) (.slice pp d.length cc) k false false)) (sets w2 w.heap.size 0 (tokL (rawEv d) (.slice pp d.length cc) k false false))) := tok_end (tokL (rawEv d) (.slice pp d.length cc) k false false) ho hb2
    clear ho hb2
    unfold tokV rawEv
    dsimp only
    go_wp2_with fail
    refine bodyPost_ret (v := tokV (rawEv d) (.slice pp d.length cc) k false false) ?_ rfl HE.out
    simp [results, Tryz.results68, tokV, rawEv, go_sem, hcc]
  · have e1 : ¬ (n : Int) = 1 := by omega
    have e2 : ¬ (n : Int) = 2 := by omega
    go_enter Tryz.func68, Tryz.ntmps68
    go_wp2_with fail
    refine (HB.out _).mono ?_
    rintro e w' ⟨rfl, rfl⟩
    go_wp2_with fail
    refine (HR.out _ (below_mk _ _)).mono ?_
    rintro e w2 ⟨v, rfl, ho, hb2⟩
    obtain ⟨pp, cc, hv⟩ := ho.slice
    subst hv
    obtain ⟨hcc, hf⟩ := bcell hb2
    have HE : Hid (NewTok w (rawEv d) k false false (.returned (tokV (rawEv d) (.slice pp d.length cc) k false false)) (sets w2 w.heap.size 0 (tokL (rawEv d) (.slice pp d.length cc) k false false))) := tok_end (tokL (rawEv d) (.slice pp d.length cc) k false false) ho hb2
    clear ho hb2
    unfold tokV rawEv
    dsimp only
    go_wp2_with fail
    refine bodyPost_ret (v := tokV (rawEv d) (.slice pp d.length cc) k false false) ?_ rfl HE.out
    simp [results, Tryz.results68, tokV, rawEv, go_sem, hcc]

theorem byte_255 (x : UInt8) : (x.toNat : Int) ≤ 255 := by
  have := x.toNat_lt
  omega

theorem firstBytes_any (p : Option Addr) (c : Nat) (l : List UInt8) (m : Nat) (hm : m ≤ 100) (hc : l.length ≤ c) (w : World) :
    Calls Tryz.prog 67 #[.slice p l.length c, .int .i64 m] w fun e w' => e = .returned (.slice p (l.take m).length c) ∧ w = w' := by
  rw [List.length_take]
  by_cases h : l.length ≤ m
  · rw [Nat.min_eq_right h]
    exact firstBytes_short p l.length c m w h hc hm
  · rw [Nat.min_eq_left (by omega)]
    exact firstBytes_long p l.length c m w (by omega) hc hm

theorem take24_ne {l : List UInt8} (h : l ≠ []) : l.take 24 ≠ [] := by
  intro e
  rw [List.take_eq_nil_iff] at e
  rcases e with e | e
  · omega
  · exact h e
theorem assumedToken_any (p : Option Addr) (c : Nat) (l : List UInt8) (w : World) (h : Bs w w.heap.size p l) (hc : l.length ≤ c) (hl : l.length ≤ 1048576) (hne : l ≠ []) :
    Calls Tryz.prog 68 #[.slice p l.length c] w (NewTok w (asTok l).ev (asTok l).size (asTok l).paste (asTok l).none) := by
  have hpos : 0 < l.length := List.length_pos_iff.2 hne
  have h1c := h.at 1
  have HB := fun w => firstBytes_any p c l 24 (by omega) hc w
  have HR := fun w' (hb : Below w.heap.size w w') => rawToken_any p c (l.take 24) w' ((h.on hb).head 24) (by simp; omega) (take24_ne hne)
  obtain ⟨b, off, rfl, hb, hcell⟩ := h.at 0 (by omega)
  unfold asTok
  by_cases h27 : ((l.getD 0 0).toNat : Int) = 27
  · by_cases h1 : l.length = 1
    · rw [if_pos ⟨h27, h1⟩]
      rw [h27] at hcell
      rw [h1]
      exact assumed_one b off c w hb hcell
    · rw [if_neg (fun hh => h1 hh.2)]
      by_cases h2 : l.length = 2
      · rw [if_pos ⟨h27, h2⟩]
        rw [h27] at hcell
        obtain ⟨b', off', e', _, hc2⟩ := h1c (by omega)
        have he := Option.some.inj e'
        have hb1 : b = b' := congrArg Addr.block he
        have ho1 : off = off' := congrArg Addr.off he
        subst hb1 ho1
        rw [h2]
        exact assumed_two b off c _ w hb hcell hc2 (by omega) (byte_255 _)
      · rw [if_neg (fun hh => h2 hh.2)]
        exact assumed_raw b off l.length _ c _ (l.take 24) w hpos hl hb hcell (.inr ⟨by simpa using h27, by omega⟩) (Lib.hid HB) (Lib.hid HR)
  · rw [if_neg (fun hh => h27 hh.1), if_neg (fun hh => h27 hh.1)]
    exact assumed_raw b off l.length _ c _ (l.take 24) w hpos hl hb hcell (.inl (by simpa using h27)) (Lib.hid HB) (Lib.hid HR)

end Go.Proofs.YtjopjddhgaiddabGreatDoor

/- FlushToken, of the program and of the model. -/
namespace Go.Proofs.YtjopjddhgaiddabGreatDoor
open Go.RowKit
set_option linter.unusedVariables false

set_option maxRecDepth 100000 in
set_option maxHeartbeats 4000000 in
theorem implFlush_none (p : Option Addr) (c : Nat) (q : Bool) (w : World) :
    Calls Tryz.prog 38 #[.slice p 0 c, .bool q] w (PlainTk w (badTk 4)) := by
  go_enter Tryz.func38, Tryz.ntmps38
  go_wp2
  have HE : Hid (PlainTk w (badTk 4) (.returned (tkV (badTk 4) (.slice none 0 0))) (w.alloc (.cells (tkL (badTk 4) (.slice none 0 0)).toArray 58))) := ⟨rfl, below_mk _ _⟩
  refine bodyPost_ret (v := tkV (badTk 4) (.slice none 0 0)) ?_ rfl HE.out
  simp [results, Tryz.results38, tkV, badTk, noEv, go_sem]

set_option maxRecDepth 100000 in
set_option maxHeartbeats 4000000 in
theorem implFlush_paste (p : Option Addr) (n k c : Nat) (d : List UInt8) (w : World) (hn : 0 < n)
    (HB : Hid (∀ w, Calls Tryz.prog 67 #[.slice p n c, .int .i64 32] w fun e w' => e = .returned (.slice p k c) ∧ w = w'))
    (HR : Hid (∀ w', Below w.heap.size w w' → Calls Tryz.prog 66 #[.slice p k c] w' (NewTok w' (pasteEv d) k true false))) :
    Calls Tryz.prog 38 #[.slice p n c, .bool true] w (NewTk w (pTk d k)) := by
  have e0 : ¬ (n : Int) = 0 := by omega
  go_enter Tryz.func38, Tryz.ntmps38
  go_wp2_with fail
  refine (HB.out _).mono ?_
  rintro e w' ⟨rfl, rfl⟩
  go_wp2_with fail
  refine (HR.out _ (below_mk _ _)).mono ?_
  rintro e w2 ⟨v, rfl, ho, hb2⟩
  obtain ⟨pp, cc, hv⟩ := ho.slice
  subst hv
  obtain ⟨hcc, hf⟩ := bcell hb2
  have HE : Hid (NewTk w (pTk d k) (.returned (tkV (pTk d k) (.slice pp d.length cc))) (sets w2 w.heap.size 0 (tkL (pTk d k) (.slice pp d.length cc)))) := tk_end (tkL (pTk d k) (.slice pp d.length cc)) ho hb2
  clear ho hb2
  unfold tokV pasteEv
  dsimp only
  go_wp2_with fail
  refine bodyPost_ret (v := tkV (pTk d k) (.slice pp d.length cc)) ?_ rfl HE.out
  simp [results, Tryz.results38, tkV, pTk, pasteEv, go_sem, hcc]

set_option maxRecDepth 100000 in
set_option maxHeartbeats 4000000 in
theorem implFlush_full (p : Option Addr) (n c : Nat) (t : Tk) (w : World) (hn : 0 < n) (ht : t.code = 0)
    (HT : Hid (∀ o, Calls Tryz.prog 65 #[.slice p n c] (w.alloc o) (NewTk (w.alloc o) (badTk 6))))
    (HA : Hid (∀ w', Below w.heap.size w w' → Calls Tryz.prog 68 #[.slice p n c] w' (NewTok w' t.ev t.size t.paste t.none))) :
    Calls Tryz.prog 38 #[.slice p n c, .bool false] w (NewTk w t) := by
  have e0 : ¬ (n : Int) = 0 := by omega
  obtain ⟨tc, te, ts, tp, tn⟩ := t
  dsimp only at *
  subst ht
  go_enter Tryz.func38, Tryz.ntmps38
  go_wp2_with fail
  refine (HT.out _).mono ?_
  rintro e w1 ⟨v, rfl, ho, hb1⟩
  obtain ⟨pp, cc, hv⟩ := ho.slice
  subst hv
  have HB1 := Lib.hid hb1
  have HA2 := Lib.hid (fun A => HA.out _ (below_on (below_on (below_mk _ _) hb1) (below_mk _ A)))
  have l0 := new_lt hb1
  have n0 : ¬ w.heap.size = w1.heap.size := by omega
  clear hb1 ho HA
  unfold tkV badTk noEv
  dsimp only
  go_wp2_with fail
  refine (HA2.out _).mono ?_
  rintro e w2 ⟨v, rfl, ho, hb2⟩
  obtain ⟨px, cx, hv⟩ := ho.slice
  subst hv
  have hb3 := below_past HB1.out hb2
  clear l0 n0
  obtain ⟨hcc, hf⟩ := bcell hb3
  have HE : Hid (NewTk w ⟨0, te, ts, tp, tn⟩ (.returned (tkV ⟨0, te, ts, tp, tn⟩ (.slice px te.data.length cx))) (sets w2 w.heap.size 0 (tkL ⟨0, te, ts, tp, tn⟩ (.slice px te.data.length cx)))) := tk_end (tkL ⟨0, te, ts, tp, tn⟩ (.slice px te.data.length cx)) (ho.lower (past_le HB1.out _)) hb3
  clear ho hb2 hb3
  unfold tokV
  go_wp2_with fail
  refine bodyPost_ret (v := tkV ⟨0, te, ts, tp, tn⟩ (.slice px te.data.length cx)) ?_ rfl HE.out
  simp [results, Tryz.results38, tkV, go_sem, hcc]

set_option maxRecDepth 100000 in
set_option maxHeartbeats 4000000 in
theorem implFlush_first (p : Option Addr) (n c : Nat) (t : Tk) (w : World) (hn : 0 < n) (ht : (t.code == 6) = false)
    (HT : Hid (∀ o, Calls Tryz.prog 65 #[.slice p n c] (w.alloc o) (NewTk (w.alloc o) t))) :
    Calls Tryz.prog 38 #[.slice p n c, .bool false] w (NewTk w t) := by
  have e0 : ¬ (n : Int) = 0 := by omega
  go_enter Tryz.func38, Tryz.ntmps38
  go_wp2_with fail
  refine (HT.out _).mono ?_
  rintro e w1 ⟨v, rfl, ho, hb1⟩
  obtain ⟨pp, cc, hv⟩ := ho.slice
  subst hv
  have HE : ∀ A, Hid (NewTk w t (.returned (tkV t (.slice pp t.ev.data.length cc))) ((sets w1 w.heap.size 0 (tkL t (.slice pp t.ev.data.length cc))).alloc A)) := fun A => (tk_end (tkL t (.slice pp t.ev.data.length cc)) ho hb1).more A
  obtain ⟨hcc, hf⟩ := bcell hb1
  have l0 := new_lt hb1
  have n0 : ¬ w.heap.size = w1.heap.size := by omega
  clear hb1 ho
  unfold tkV
  go_wp2_with fail
  refine bodyPost_ret (v := tkV t (.slice pp t.ev.data.length cc)) ?_ rfl (HE _).out
  simp [results, Tryz.results38, tkV, go_sem, hcc, l0]

end Go.Proofs.YtjopjddhgaiddabGreatDoor
