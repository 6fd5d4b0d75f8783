/- The model's tokens: l3Escaped, FirstToken. -/
import Derived.Test.YtbnpodledgaipaaGreatDoorQTokSpec
import Derived.Test.YtbnpodledgaipaaGreatDoorQTokSpec2
import Derived.Test.YtbnpodledgaipaaGreatDoorQTokImpl8
namespace Go.Proofs.YtbnpodledgaipaaGreatDoor
open Go.RowKit
set_option linter.unusedVariables false

theorem l3Escaped_any (p : Option Addr) (c : Nat) (l : List UInt8) (w : World) (h : Bs w w.heap.size p l) (hc : l.length ≤ c) (hl : l.length ≤ 1048576) (h2 : 2 ≤ l.length) :
    Calls Tryz.prog 66 #[.slice p l.length c] w (NewTk w (escTok l)) := by
  unfold escTok
  rw [if_neg (by omega)]
  have hS := fun w' (hb : Below w.heap.size w w') => l3Sequence_any p c l w' (h.on hb) hc hl (by omega)
  have hR := fun w' (hb : Below w.heap.size w w') (h3 : 3 ≤ l.length) => l3Raw_cut p c 3 l w' (h.on hb) h3 (by omega) (by omega) hl
  have h3c := h.at 2
  obtain ⟨b, off, rfl, hb, hcell⟩ := h.at 1 (by omega)
  by_cases h91 : ((l.getD 1 0).toNat : Int) = 91
  · rw [if_pos h91]
    rw [h91] at hcell
    exact l3Escaped_seq b off l.length c _ w (by omega) hl hb hcell (Lib.hid hS)
  rw [if_neg h91]
  by_cases h79 : ((l.getD 1 0).toNat : Int) = 79
  · rw [if_pos h79]
    rw [h79] at hcell
    unfold letTok
    by_cases h3 : l.length < 3
    · rw [if_pos h3]
      exact (l3Escaped_o2 b off l.length c w (by omega) hb hcell).mono fun _ _ q => q.new rfl
    · rw [if_neg h3]
      obtain ⟨b', off', e', _, hc2⟩ := h3c (by omega)
      have he := Option.some.inj e'
      have hb1 : b = b' := congrArg Addr.block he
      have ho1 : off = off' := congrArg Addr.off he
      subst hb1 ho1
      by_cases h0 : letterK ((l.getD 2 0).toNat : Int) = 0
      · rw [if_pos h0]
        exact l3Escaped_oraw b off l.length c _ _ w (by omega) hl hc hb hcell hc2 h0 (Lib.hid fun w' hb' => hR w' hb' (by omega))
      · rw [if_neg h0]
        exact (l3Escaped_let b off l.length c _ _ w (by omega) hl hb hcell hc2 rfl (by simpa using h0)).mono fun _ _ q => q.new rfl
  rw [if_neg h79]
  have e1 : (((l.getD 1 0).toNat : Int) == 91) = false := by simpa using h91
  have e2 : (((l.getD 1 0).toNat : Int) == 79) = false := by simpa using h79
  by_cases hp : inR ((l.getD 1 0).toNat : Int) 32 126 = true
  · rw [if_pos hp]
    simp only [inR, Bool.and_eq_true, decide_eq_true_eq] at hp
    exact (l3Escaped_plain b off l.length c _ w (by omega) hl hb hcell e1 e2 (by omega) (by omega)).mono fun _ _ q => q.new rfl
  · rw [if_neg hp]
    simp only [inR, Bool.and_eq_true, decide_eq_true_eq] at hp
    exact (l3Escaped_esc b off l.length c _ w (by omega) hl hb hcell e1 e2 (by omega)).mono fun _ _ q => q.new rfl

set_option maxRecDepth 100000 in
set_option maxHeartbeats 4000000 in
theorem specTok_none (p : Option Addr) (c : Nat) (w : World) :
    Calls Tryz.prog 16 #[.slice p 0 c] w (PlainTk w (badTk 4)) := by
  go_enter Tryz.func16, Tryz.ntmps16
  go_wp2_with fail
  refine (l3Bad_any _ _).mono ?_
  rintro e w9 ⟨rfl, hb9⟩
  have HE : Hid (PlainTk w (badTk 4) (.returned (tkV (badTk 4) (.slice none 0 0))) (sets w9 w.heap.size 0 (tkL (badTk 4) (.slice none 0 0)))) := tk_end_plain (tkL (badTk 4) (.slice none 0 0)) hb9
  obtain ⟨hcc, hf⟩ := bcell hb9
  clear hb9
  unfold tkV badTk noEv
  go_wp2_with fail
  refine bodyPost_ret (v := tkV (badTk 4) (.slice none 0 0)) ?_ rfl HE.out
  simp [results, Tryz.results16, tkV, badTk, noEv, go_sem, hcc]

set_option maxRecDepth 100000 in
set_option maxHeartbeats 4000000 in
theorem specTok_esc1 (b off c : Nat) (w : World) (hb : b < w.heap.size) (hc : w.cell? ⟨b, off, none⟩ = some (.int .u8 27)) :
    Calls Tryz.prog 16 #[.slice (some ⟨b, off, none⟩) 1 c] w (PlainTk w (badTk 6)) := by
  go_enter Tryz.func16, Tryz.ntmps16
  go_wp2_with fail
  refine (l3Bad_any _ _).mono ?_
  rintro e w9 ⟨rfl, hb9⟩
  have HE : Hid (PlainTk w (badTk 6) (.returned (tkV (badTk 6) (.slice none 0 0))) (sets w9 w.heap.size 0 (tkL (badTk 6) (.slice none 0 0)))) := tk_end_plain (tkL (badTk 6) (.slice none 0 0)) hb9
  obtain ⟨hcc, hf⟩ := bcell hb9
  clear hb9
  unfold tkV badTk noEv
  go_wp2_with fail
  refine bodyPost_ret (v := tkV (badTk 6) (.slice none 0 0)) ?_ rfl HE.out
  simp [results, Tryz.results16, tkV, badTk, noEv, go_sem, hcc]

set_option maxRecDepth 100000 in
set_option maxHeartbeats 4000000 in
theorem specTok_esc (b off n c : Nat) (t : Tk) (w : World) (hi : 1 < n) (hn : n ≤ 1048576) (hb : b < w.heap.size) (hc : w.cell? ⟨b, off, none⟩ = some (.int .u8 27))
    (HG : Hid (∀ w', Below w.heap.size w w' → Calls Tryz.prog 66 #[.slice (some ⟨b, off, none⟩) n c] w' (NewTk w' t))) :
    Calls Tryz.prog 16 #[.slice (some ⟨b, off, none⟩) n c] w (NewTk w t) := by
  have e0 : ¬ (n : Int) = 0 := by omega
  have e1 : ¬ (n : Int) = 1 := by omega
  go_enter Tryz.func16, Tryz.ntmps16
  go_wp2_with fail
  refine (HG.out _ (below_mk _ _)).mono ?_
  rintro e w9 ⟨v, rfl, ho, hb9⟩
  obtain ⟨px, cx, hv⟩ := ho.slice
  subst hv
  have HE : Hid (NewTk w t (.returned (tkV t (.slice px t.ev.data.length cx))) (sets w9 w.heap.size 0 (tkL t (.slice px t.ev.data.length cx)))) := tk_end (tkL t (.slice px t.ev.data.length cx)) ho hb9
  obtain ⟨hcc, hf⟩ := bcell hb9
  clear ho hb9
  unfold tkV
  go_wp2_with fail
  refine bodyPost_ret (v := tkV t (.slice px t.ev.data.length cx)) ?_ rfl HE.out
  simp [results, Tryz.results16, tkV, go_sem, hcc]

set_option maxRecDepth 100000 in
set_option maxHeartbeats 4000000 in
theorem specTok_key (b off n c : Nat) (x : Int) (w : World) (hi : 0 < n) (hn : n ≤ 1048576) (hb : b < w.heap.size) (hc : w.cell? ⟨b, off, none⟩ = some (.int .u8 x)) (h0 : 0 ≤ x) (h27 : (x == 27) = false) (h128 : x < 128) (tk : Tk) (htk : keyB x = tk) (hk : tk.code = 0) (hd : tk.ev.data = []) :
    Calls Tryz.prog 16 #[.slice (some ⟨b, off, none⟩) n c] w (NewTk w tk) := by
  have e0 : ¬ (n : Int) = 0 := by omega
  have HK := Lib.hid (fun w => specKeyOfByte_any x w h0)
  rw [htk] at HK
  obtain ⟨tcode, ⟨t1, t2, t3, t4, t5, t6, t7, td⟩, tsize, tpaste, tnone⟩ := tk
  dsimp only at *
  subst hk hd
  clear htk
  go_enter Tryz.func16, Tryz.ntmps16
  go_wp2_with fail
  refine (HK.out _).mono ?_
  rintro e w9 ⟨rfl, hb9⟩
  have HE : ∀ A, Hid (NewTk w ⟨0, ⟨t1, t2, t3, t4, t5, t6, t7, []⟩, tsize, tpaste, tnone⟩ (.returned (tkV ⟨0, ⟨t1, t2, t3, t4, t5, t6, t7, []⟩, tsize, tpaste, tnone⟩ (.slice none 0 0))) ((sets w9 w.heap.size 0 (tkL ⟨0, ⟨t1, t2, t3, t4, t5, t6, t7, []⟩, tsize, tpaste, tnone⟩ (.slice none 0 0))).alloc A)) := fun A => (tk_end (tkL ⟨0, ⟨t1, t2, t3, t4, t5, t6, t7, []⟩, tsize, tpaste, tnone⟩ (.slice none 0 0)) (own_nil _ _) hb9).more A
  obtain ⟨hcc, hf⟩ := bcell hb9
  have l0 := new_lt hb9
  have n0 : ¬ w.heap.size = w9.heap.size := by omega
  clear hb9
  unfold tkV
  dsimp only
  go_wp2_with fail
  refine bodyPost_ret (v := tkV ⟨0, ⟨t1, t2, t3, t4, t5, t6, t7, []⟩, tsize, tpaste, tnone⟩ (.slice none 0 0)) ?_ rfl (HE _).out
  simp [results, Tryz.results16, tkV, go_sem, hcc, l0]

set_option maxRecDepth 100000 in
set_option maxHeartbeats 4000000 in
theorem specTok_kraw (b off n c : Nat) (x : Int) (t : Tk) (w : World) (hi : 0 < n) (hn : n ≤ 1048576) (hnc : n ≤ c) (hb : b < w.heap.size) (hc : w.cell? ⟨b, off, none⟩ = some (.int .u8 x)) (h0 : 0 ≤ x) (h27 : (x == 27) = false) (h128 : x < 128) (htk : keyB x = badTk 5)
    (HG : Hid (∀ w', Below w.heap.size w w' → Calls Tryz.prog 68 #[.slice (some ⟨b, off, none⟩) 1 c] w' (NewTk w' t))) :
    Calls Tryz.prog 16 #[.slice (some ⟨b, off, none⟩) n c] w (NewTk w t) := by
  have e0 : ¬ (n : Int) = 0 := by omega
  have HK := Lib.hid (fun w => specKeyOfByte_any x w h0)
  rw [htk] at HK
  clear htk
  go_enter Tryz.func16, Tryz.ntmps16
  go_wp2_with fail
  refine (HK.out _).mono ?_
  rintro e w1 ⟨rfl, hb1⟩
  have HB1 := Lib.hid hb1
  have HR2 := Lib.hid (fun A => HG.out _ (below_on (below_on (below_mk _ _) hb1) (below_mk _ A)))
  have l0 := new_lt hb1
  have n0 : ¬ w.heap.size = w1.heap.size := by omega
  clear hb1 HG
  unfold tkV badTk noEv
  dsimp only
  go_wp2_with fail
  refine (HR2.out _).mono ?_
  rintro e w9 ⟨v, rfl, ho, hb9⟩
  obtain ⟨px, cx, hv⟩ := ho.slice
  subst hv
  have hb6 := below_past HB1.out hb9
  have HE : Hid (NewTk w t (.returned (tkV t (.slice px t.ev.data.length cx))) (sets w9 w.heap.size 0 (tkL t (.slice px t.ev.data.length cx)))) := tk_end (tkL t (.slice px t.ev.data.length cx)) (ho.lower (past_le HB1.out _)) hb6
  clear l0 n0
  obtain ⟨hcc, hf⟩ := bcell hb6
  clear ho hb9 hb6
  unfold tkV
  go_wp2_with fail
  refine bodyPost_ret (v := tkV t (.slice px t.ev.data.length cx)) ?_ rfl HE.out
  simp [results, Tryz.results16, tkV, go_sem, hcc]

end Go.Proofs.YtbnpodledgaipaaGreatDoor
