/- The model's FirstToken. -/
import Derived.Test.YtbmfdakagcbpiaaDoorQTokSpec3
namespace Go.Proofs.YtbmfdakagcbpiaaDoor
open Go.RowKit
set_option linter.unusedVariables false

set_option maxRecDepth 100000 in
set_option maxHeartbeats 4000000 in
theorem specTok_pwait (b off n c : Nat) (x zp zs : Int) (w : World) (hi : 0 < n) (hn : n ≤ 1048576) (hb : b < w.heap.size) (hc : w.cell? ⟨b, off, none⟩ = some (.int .u8 x)) (h27 : (x == 27) = false) (h128 : 128 ≤ x)
    (HF : Hid (∀ o, Calls Tryd.prog 26 #[.slice (some ⟨b, off, none⟩) n c] (w.alloc o) (FirstPost (w.alloc o) (6, zp, zs)))) :
    Calls Tryd.prog 17 #[.slice (some ⟨b, off, none⟩) n c] w (PlainTk w (badTk 6)) := by
  have e0 : ¬ (n : Int) = 0 := by omega
  unfold FirstPost at HF
  dsimp only at HF
  go_enter Tryd.func17, Tryd.ntmps17
  go_wp2_with fail
  refine (HF.out _).mono ?_
  rintro e w1 ⟨rfl, hb1⟩
  have HB1 := Lib.hid hb1
  clear hb1
  go_wp2_with fail
  refine (l3Bad_any _ _).mono ?_
  rintro e w9 ⟨rfl, hb9⟩
  have hb6 := HB1.out.trans (hb9.mono HB1.out.size)
  have HE : Hid (PlainTk w (badTk 6) (.returned (tkV (badTk 6) (.slice none 0 0))) (sets w9 w.heap.size 0 (tkL (badTk 6) (.slice none 0 0)))) := tk_end_plain (tkL (badTk 6) (.slice none 0 0)) hb6
  obtain ⟨hcc, hf⟩ := bcell hb6
  clear hb9 hb6
  unfold tkV badTk noEv
  go_wp2_with fail
  refine bodyPost_ret (v := tkV (badTk 6) (.slice none 0 0)) ?_ rfl HE.out
  simp [results, Tryd.results17, tkV, badTk, noEv, go_sem, hcc]

set_option maxRecDepth 100000 in
set_option maxHeartbeats 4000000 in
theorem specTok_pkey (b off n c : Nat) (x zp zs : Int) (w : World) (hi : 0 < n) (hn : n ≤ 1048576) (hb : b < w.heap.size) (hc : w.cell? ⟨b, off, none⟩ = some (.int .u8 x)) (h27 : (x == 27) = false) (h128 : 128 ≤ x) (h160 : ¬ zp < 160)
    (HF : Hid (∀ o, Calls Tryd.prog 26 #[.slice (some ⟨b, off, none⟩) n c] (w.alloc o) (FirstPost (w.alloc o) (0, zp, zs)))) :
    Calls Tryd.prog 17 #[.slice (some ⟨b, off, none⟩) n c] w (PlainTk w (keyTk zp 0 zs)) := by
  have e0 : ¬ (n : Int) = 0 := by omega
  unfold FirstPost at HF
  dsimp only at HF
  go_enter Tryd.func17, Tryd.ntmps17
  go_wp2_with fail
  refine (HF.out _).mono ?_
  rintro e w1 ⟨rfl, hb1⟩
  have HB1 := Lib.hid hb1
  clear hb1
  go_wp2_with fail
  refine (l3Key_any _ _ _ _).mono ?_
  rintro e w9 ⟨rfl, hb9⟩
  have hb6 := HB1.out.trans (hb9.mono HB1.out.size)
  have HE : Hid (PlainTk w (keyTk zp 0 zs) (.returned (tkV (keyTk zp 0 zs) (.slice none 0 0))) (sets w9 w.heap.size 0 (tkL (keyTk zp 0 zs) (.slice none 0 0)))) := tk_end_plain (tkL (keyTk zp 0 zs) (.slice none 0 0)) hb6
  obtain ⟨hcc, hf⟩ := bcell hb6
  clear hb9 hb6
  unfold tkV keyTk keyEv
  go_wp2_with fail
  refine bodyPost_ret (v := tkV (keyTk zp 0 zs) (.slice none 0 0)) ?_ rfl HE.out
  simp [results, Tryd.results17, tkV, keyTk, keyEv, go_sem, hcc]

set_option maxRecDepth 100000 in
set_option maxHeartbeats 4000000 in
theorem specTok_praw (b off n c : Nat) (x zc zp zs : Int) (t : Tk) (w : World) (hi : 0 < n) (hn : n ≤ 1048576) (hnc : n ≤ c) (hb : b < w.heap.size) (hc : w.cell? ⟨b, off, none⟩ = some (.int .u8 x)) (h27 : (x == 27) = false) (h128 : 128 ≤ x) (h6 : (zc == 6) = false) (h0 : (zc == 0) = false ∨ ((zc == 0) = true ∧ zp < 160))
    (HF : Hid (∀ o, Calls Tryd.prog 26 #[.slice (some ⟨b, off, none⟩) n c] (w.alloc o) (FirstPost (w.alloc o) (zc, zp, zs))))
    (HG : Hid (∀ w', Below w.heap.size w w' → Calls Tryd.prog 25 #[.slice (some ⟨b, off, none⟩) 1 c] w' (NewTk w' t))) :
    Calls Tryd.prog 17 #[.slice (some ⟨b, off, none⟩) n c] w (NewTk w t) := by
  have e0 : ¬ (n : Int) = 0 := by omega
  have ez : (zc != 0) = !(zc == 0) := rfl
  unfold FirstPost at HF
  dsimp only at HF
  rcases h0 with h0 | ⟨h0, h1⟩
  all_goals
    rw [h0] at ez
    go_enter Tryd.func17, Tryd.ntmps17
    go_wp2_with fail
    refine (HF.out _).mono ?_
    rintro e w1 ⟨rfl, hb1⟩
    have HB1 := Lib.hid hb1
    have HR2 := Lib.hid (HG.out _ (below_on (below_mk _ _) hb1))
    clear hb1 HG
    go_wp2_with fail
    refine HR2.out.mono ?_
    rintro e w9 ⟨v, rfl, ho, hb9⟩
    obtain ⟨px, cx, hv⟩ := ho.slice
    subst hv
    have hb6 := HB1.out.trans (hb9.mono HB1.out.size)
    have HE : Hid (NewTk w t (.returned (tkV t (.slice px t.ev.data.length cx))) (sets w9 w.heap.size 0 (tkL t (.slice px t.ev.data.length cx)))) := tk_end (tkL t (.slice px t.ev.data.length cx)) (ho.lower HB1.out.size) hb6
    obtain ⟨hcc, hf⟩ := bcell hb6
    clear ho hb9 hb6
    unfold tkV
    go_wp2_with fail
    refine bodyPost_ret (v := tkV t (.slice px t.ev.data.length cx)) ?_ rfl HE.out
    simp [results, Tryd.results17, tkV, go_sem, hcc]

theorem specFirstToken_any (p : Option Addr) (c : Nat) (l : List UInt8) (w : World) (h : Bs w w.heap.size p l) (hc : l.length ≤ c) (hl : l.length ≤ 1048576) :
    Calls Tryd.prog 17 #[.slice p l.length c] w (NewTk w (firstTok l)) := by
  unfold firstTok
  by_cases hne : l = []
  · subst hne
    exact (specTok_none p c w).mono fun _ _ q => q.new rfl
  rw [if_neg hne]
  have hpos : 0 < l.length := List.length_pos_iff.2 hne
  unfold outTok
  have hE := fun w' (hb : Below w.heap.size w w') (h2 : 2 ≤ l.length) => l3Escaped_any p c l w' (h.on hb) hc hl h2
  have hR := fun w' (hb : Below w.heap.size w w') => l3Raw_cut p c 1 l w' (h.on hb) (by omega) (by omega) (by omega) hl
  have hF : ∀ o, Calls Tryd.prog 26 #[.slice p l.length c] (w.alloc o) (FirstPost (w.alloc o) (implFP l)) := by
    intro o
    rw [same_point]
    match l, hne, h, hl, hc with
    | a :: tail, _, h, hl, hc => exact l1First_any p c a tail (w.alloc o) (h.alloc o) (by simpa using hl) (by simpa using hc)
  obtain ⟨b, off, rfl, hb, hcell⟩ := h.at 0 (by omega)
  have hx0 : 0 ≤ ((l.getD 0 0).toNat : Int) := by omega
  by_cases h27 : ((l.getD 0 0).toNat : Int) = 27
  · rw [if_pos h27]
    rw [h27] at hcell
    by_cases h1 : l.length = 1
    · rw [h1]
      have e : escTok l = badTk 6 := by unfold escTok; rw [if_pos (by omega)]
      rw [e]
      exact (specTok_esc1 b off c w hb hcell).mono fun _ _ q => q.new rfl
    · exact specTok_esc b off l.length c _ w (by omega) hl hb hcell (Lib.hid fun w' hb' => hE w' hb' (by omega))
  rw [if_neg h27]
  have e27 : (((l.getD 0 0).toNat : Int) == 27) = false := by simpa using h27
  by_cases h128 : 128 ≤ ((l.getD 0 0).toNat : Int)
  · rw [if_pos h128]
    unfold ptTok
    generalize implFP l = z at *
    obtain ⟨zc, zp, zs⟩ := z
    dsimp only at *
    by_cases h6 : zc = 6
    · rw [if_pos h6]
      subst h6
      exact (specTok_pwait b off l.length c _ zp zs w hpos hl hb hcell e27 h128 (Lib.hid hF)).mono fun _ _ q => q.new rfl
    · rw [if_neg h6]
      by_cases h0 : zc ≠ 0 ∨ zp < 160
      · rw [if_pos h0]
        refine specTok_praw b off l.length c _ zc zp zs _ w hpos hl hc hb hcell e27 h128 (by simpa using h6) ?_ (Lib.hid hF) (Lib.hid hR)
        by_cases hz : zc = 0
        · exact .inr ⟨by simpa using hz, h0.resolve_left (fun hh => hh hz)⟩
        · exact .inl (by simpa using hz)
      · rw [if_neg h0]
        have hz : zc = 0 := by omega
        subst hz
        exact (specTok_pkey b off l.length c _ zp zs w hpos hl hb hcell e27 h128 (by omega) (Lib.hid hF)).mono fun _ _ q => q.new rfl
  rw [if_neg h128]
  by_cases hk : (keyB ((l.getD 0 0).toNat : Int)).code = 0
  · rw [if_pos hk]
    exact specTok_key b off l.length c _ w hpos hl hb hcell hx0 e27 (by omega) _ rfl hk (keyB_data _)
  · rw [if_neg hk]
    exact specTok_kraw b off l.length c _ _ w hpos hl hc hb hcell hx0 e27 (by omega) ((keyB_two _).resolve_left hk) (Lib.hid hR)

end Go.Proofs.YtbmfdakagcbpiaaDoor

/- The first token's data are few. -/
namespace Go.Proofs.YtbmfdakagcbpiaaDoor
open Go.RowKit
set_option linter.unusedVariables false

theorem firstTok_small (l : List UInt8) : (firstTok l).ev.data.length ≤ 32 := by
  have hS : (seqTok l).ev.data.length ≤ 32 := by
    unfold seqTok
    split
    · split
      · simp [badTk, noEv]
      · simp [rawTk, rTk, rawEv]; omega
    · unfold seqOf
      split
      · simp [pasteOn, noEv]
      split
      · rw [keyP_data]; simp
      split
      · rw [mouseP_data]; simp
      · simp [rawTk, rTk, rawEv]; omega
  have hL : (letTok l).ev.data.length ≤ 32 := by
    unfold letTok
    split
    · simp [badTk, noEv]
    split
    · simp [rawTk, rTk, rawEv]; omega
    · simp [keyTk, keyEv]
  unfold firstTok
  split
  · simp [badTk, noEv]
  unfold outTok
  split
  · unfold escTok
    split
    · simp [badTk, noEv]
    split
    · exact hS
    split
    · exact hL
    split
    · simp [keyTk, keyEv]
    · simp [keyTk, keyEv]
  split
  · unfold ptTok
    split
    · simp [badTk, noEv]
    split
    · simp [rawTk, rTk, rawEv]; omega
    · simp [keyTk, keyEv]
  split
  · rw [keyB_data]; simp
  · simp [rawTk, rTk, rawEv]; omega

end Go.Proofs.YtbmfdakagcbpiaaDoor

/- FlushToken, of the program and of the model. -/
namespace Go.Proofs.YtbmfdakagcbpiaaDoor
open Go.RowKit
set_option linter.unusedVariables false

def asTok (l : List UInt8) : Tk :=
  if ((l.getD 0 0).toNat : Int) = 27 ∧ l.length = 1 then keyTk 2000004 0 1
  else if ((l.getD 0 0).toNat : Int) = 27 ∧ l.length = 2 then keyTk ((l.getD 1 0).toNat : Int) 2 2
  else rawTk (l.take 24)
def flushTok (l : List UInt8) (q : Bool) : Tk :=
  if l = [] then badTk 4 else if q = true then pasteTk (l.take 32) else if (firstTok l).code = 6 then asTok l else firstTok l

theorem asTok_code (l : List UInt8) : (asTok l).code = 0 := by
  unfold asTok
  split
  · rfl
  split <;> rfl







theorem byte_255 (x : UInt8) : (x.toNat : Int) ≤ 255 := by
  have := x.toNat_lt
  omega

theorem firstBytes_any (p : Option Addr) (c : Nat) (l : List UInt8) (m : Nat) (hm : m ≤ 100) (hc : l.length ≤ c) (w : World) :
    Calls Tryd.prog 66 #[.slice p l.length c, .int .i64 m] w fun e w' => e = .returned (.slice p (l.take m).length c) ∧ w = w' := by
  rw [List.length_take]
  by_cases h : l.length ≤ m
  · rw [Nat.min_eq_right h]
    exact firstBytes_short p l.length c m w h hc hm
  · rw [Nat.min_eq_left (by omega)]
    exact firstBytes_long p l.length c m w (by omega) hc hm



end Go.Proofs.YtbmfdakagcbpiaaDoor

/- FlushToken, of the program and of the model. -/
namespace Go.Proofs.YtbmfdakagcbpiaaDoor
open Go.RowKit
set_option linter.unusedVariables false









end Go.Proofs.YtbmfdakagcbpiaaDoor
