/- Pastes: pasteToken, tokenWithin; the model's l3Pasted and FirstPaste. -/
import Derived.Test.YtbnpodledgaipaaGreatDoorQPaste
import Derived.Test.YtbnpodledgaipaaGreatDoorQTokToTokLaw2
namespace Go.Proofs.YtbnpodledgaipaaGreatDoor
open Go.RowKit

def pasteEv (d : List UInt8) : Ev := ⟨3, 0, 0, 0, 0, 0, 0, d⟩
def pTk (d : List UInt8) (n : Int) : Tk := ⟨0, pasteEv d, n, true, false⟩
def pasteTk (d : List UInt8) : Tk := pTk d d.length

/-- what a call leaves that hands back a Token with data of its own -/
def NewTok (w : World) (e : Ev) (s : Int) (pa no : Bool) (en : Ending) (w' : World) : Prop := ∃ v, en = .returned (tokV e v s pa no) ∧ Own w' w.heap.size v e.data ∧ Below w.heap.size w w'
theorem tok_end {w w1 : World} {o : Obj} {e : Ev} {s : Int} {pa no : Bool} {v : Value} (vs : List Value) (ho : Own w1 (w.alloc o).heap.size v e.data) (hb : Below (w.alloc o).heap.size (w.alloc o) w1) :
    NewTok w e s pa no (.returned (tokV e v s pa no)) (sets w1 w.heap.size 0 vs) :=
  ⟨v, rfl, (sets_own (by simp) vs 0 _ ho).lower (by simp), sets_below (Nat.le_refl _) vs 0 _ _ (below_on (below_mk _ o) hb)⟩
def tokL (e : Ev) (v : Value) (s : Int) (pa no : Bool) : List Value :=
  [.int .i64 e.kind, .int .i64 e.code, .int .i64 e.mods, .int .i64 e.button, .int .i64 e.act, .int .i64 e.col, .int .i64 e.row, v, .int .i64 s, .bool pa, .bool no]

set_option maxRecDepth 100000 in
set_option maxHeartbeats 2000000 in
theorem pasteToken_any (p : Option Addr) (c : Nat) (l : List UInt8) (w : World) (h : Bs w w.heap.size p l) (hl : l.length ≤ 1048576) (hne : l ≠ []) :
    Calls Tryz.prog 77 #[.slice p l.length c] w (NewTok w (pasteEv l) l.length true false) := by
  have HC := Lib.hid (fun o => bytesClone_any p c l (w.alloc o) (h.alloc o) hl hne)
  clear h
  go_enter Tryz.func77, Tryz.ntmps77
  go_wp2_with (go_at_call 123; refine (HC.out _).mono ?_; rintro e w1 ⟨v, rfl, ho, hb⟩; obtain ⟨hc, hf⟩ := bcell hb; obtain ⟨pp, cc, hv⟩ := ho.slice; subst hv)
  have HE : Hid (NewTok w (pasteEv l) l.length true false (.returned (tokV (pasteEv l) (.slice pp l.length cc) l.length true false)) (sets w1 w.heap.size 0 (tokL (pasteEv l) (.slice pp l.length cc) l.length true false))) := tok_end (tokL (pasteEv l) (.slice pp l.length cc) l.length true false) ho hb
  clear ho hb
  refine bodyPost_ret (v := tokV (pasteEv l) (.slice pp l.length cc) l.length true false) ?_ rfl HE.out
  simp [results, Tryz.results77, tokV, pasteEv, go_sem, hc]

set_option maxRecDepth 100000 in
set_option maxHeartbeats 2000000 in
theorem l3Pasted_any (p : Option Addr) (c : Nat) (l : List UInt8) (w : World) (h : Bs w w.heap.size p l) (hc : l.length ≤ c) (hl : l.length ≤ 1048576) :
    Calls Tryz.prog 72 #[.slice p l.length c] w (NewTk w (pasteTk (l.take 32))) := by
  have HC := Lib.hid (fun o c' => l1Copy_any p c' (l.take 32) (w.alloc o) ((h.alloc o).head 32) (by simp; omega))
  clear h
  by_cases h32 : l.length < 32
  · have hm : lesser (l.length : Int) 32 = l.length := by unfold lesser; rw [if_pos (by omega)]
    rw [List.take_of_length_le (by omega)] at HC ⊢
    go_enter Tryz.func72, Tryz.ntmps72
    go_wp2_with (first
      | (go_at_call 97; refine (l1Min_any _ _ _).mono ?_; rintro e w' ⟨rfl, rfl⟩; rw [hm])
      | (go_at_call 116; refine (HC.out _ _).mono ?_; rintro e w1 ⟨v, rfl, ho, hb⟩; obtain ⟨hcc, hf⟩ := bcell hb; obtain ⟨pp, cc, hv⟩ := ho.slice; subst hv))
    have HE : Hid (NewTk w (pasteTk l) (.returned (tkV (pasteTk l) (.slice pp l.length cc))) (sets w1 w.heap.size 0 (tkL (pasteTk l) (.slice pp l.length cc)))) := tk_end (tkL (pasteTk l) (.slice pp l.length cc)) ho hb
    clear ho hb
    refine bodyPost_ret (v := tkV (pasteTk l) (.slice pp l.length cc)) ?_ rfl HE.out
    simp [results, Tryz.results72, tkV, pasteTk, pTk, pasteEv, go_sem, hcc]
  · have hm : lesser (l.length : Int) 32 = 32 := by unfold lesser; rw [if_neg (by omega)]
    have h3 : (l.take 32).length = 32 := by simp; omega
    rw [h3] at HC
    generalize l.take 32 = d at *
    go_enter Tryz.func72, Tryz.ntmps72
    go_wp2_with (first
      | (go_at_call 97; refine (l1Min_any _ _ _).mono ?_; rintro e w' ⟨rfl, rfl⟩; rw [hm])
      | (go_at_call 116; refine (HC.out _ _).mono ?_; rintro e w1 ⟨v, rfl, ho, hb⟩; obtain ⟨hcc, hf⟩ := bcell hb; obtain ⟨pp, cc, hv⟩ := ho.slice; subst hv))
    rw [h3] at ho
    have HE : Hid (NewTk w (pTk d 32) (.returned (tkV (pTk d 32) (.slice pp 32 cc))) (sets w1 w.heap.size 0 (tkL (pTk d 32) (.slice pp 32 cc)))) := tk_end (tkL (pTk d 32) (.slice pp 32 cc)) ho hb
    have HD : pasteTk d = pTk d 32 := by unfold pasteTk; rw [h3]; rfl
    rw [HD]
    clear ho hb HD
    refine bodyPost_ret (v := tkV (pTk d 32) (.slice pp 32 cc)) ?_ rfl HE.out
    simp [results, Tryz.results72, tkV, pTk, pasteEv, go_sem, hcc]

/-- the first token within a paste -/
def firstPaste (l : List UInt8) : Tk :=
  if l = [] then badTk 4 else if 32 ≤ unt l then pasteTk (l.take 32) else if l.length < unt l + 6 then badTk 6 else if 0 < unt l then pasteTk (l.take (unt l)) else ⟨0, noEv, 6, false, true⟩

theorem firstPaste_small (l : List UInt8) : (firstPaste l).ev.data.length ≤ 32 := by
  unfold firstPaste
  repeat' split
  all_goals simp [badTk, noEv, pasteTk, pTk, pasteEv]
  all_goals omega

end Go.Proofs.YtbnpodledgaipaaGreatDoor

/- Raw tokens: rawToken of the program, l3Raw of the model; firstBytes. -/
namespace Go.Proofs.YtbnpodledgaipaaGreatDoor
open Go.RowKit
set_option linter.unusedVariables false

def rawEv (d : List UInt8) : Ev := ⟨4, 0, 0, 0, 0, 0, 0, d⟩
def rTk (d : List UInt8) (n : Int) : Tk := ⟨0, rawEv d, n, false, false⟩
def rawTk (d : List UInt8) : Tk := rTk d d.length

set_option maxRecDepth 100000 in
set_option maxHeartbeats 2000000 in
theorem rawToken_any (p : Option Addr) (c : Nat) (l : List UInt8) (w : World) (h : Bs w w.heap.size p l) (hl : l.length ≤ 1048576) (hne : l ≠ []) :
    Calls Tryz.prog 110 #[.slice p l.length c] w (NewTok w (rawEv l) l.length false false) := by
  have HC := Lib.hid (fun o => bytesClone_any p c l (w.alloc o) (h.alloc o) hl hne)
  clear h
  go_enter Tryz.func110, Tryz.ntmps110
  go_wp2_with (go_at_call 123; refine (HC.out _).mono ?_; rintro e w1 ⟨v, rfl, ho, hb⟩; obtain ⟨hc, hf⟩ := bcell hb; obtain ⟨pp, cc, hv⟩ := ho.slice; subst hv)
  have HE : Hid (NewTok w (rawEv l) l.length false false (.returned (tokV (rawEv l) (.slice pp l.length cc) l.length false false)) (sets w1 w.heap.size 0 (tokL (rawEv l) (.slice pp l.length cc) l.length false false))) := tok_end (tokL (rawEv l) (.slice pp l.length cc) l.length false false) ho hb
  clear ho hb
  refine bodyPost_ret (v := tokV (rawEv l) (.slice pp l.length cc) l.length false false) ?_ rfl HE.out
  simp [results, Tryz.results110, tokV, rawEv, go_sem, hc]

theorem rawToken_cut (p : Option Addr) (c k : Nat) (l : List UInt8) (w : World) (h : Bs w w.heap.size p l) (hk : k ≤ l.length) (h0 : 0 < k) (hl : l.length ≤ 1048576) :
    Calls Tryz.prog 110 #[.slice p k c] w (NewTok w (rawEv (l.take k)) k false false) := by
  have e : (l.take k).length = k := by simp; omega
  have := rawToken_any p c (l.take k) w (h.head k) (by simp; omega) (by intro e'; rw [e'] at e; simp at e; omega)
  rw [e] at this
  exact this

theorem l3Token_raw (d : List UInt8) (p : Option Addr) (c n : Nat) (s : Int) (w : World) (hn : n = d.length) : Calls Tryz.prog 115 #[.agg #[.int .i64 4, .int .i64 0, .int .i64 0, .int .i64 0, .int .i64 0, .int .i64 0, .int .i64 0, .slice p n c], .int .i64 s] w fun en w' => en = .returned (tkV (rTk d s) (.slice p n c)) ∧ Below w.heap.size w w' := by
  subst hn
  exact l3Token_any (rawEv d) p c s w

set_option maxRecDepth 100000 in
set_option maxHeartbeats 2000000 in
theorem l3Raw_k (p : Option Addr) (c k n : Nat) (d : List UInt8) (w : World) (hd : d.length = k) (hkc : k ≤ c) (hk : k ≤ 24) (hn : n ≤ 1048576) (hm : lesser (n : Int) 24 = k)
    (HC : Hid (∀ o c', Calls Tryz.prog 116 #[.slice p k c'] (w.alloc o) (NewOwn (w.alloc o) d))) :
    Calls Tryz.prog 68 #[.slice p n c] w (NewTk w (rTk d k)) := by
  go_enter Tryz.func68, Tryz.ntmps68
  go_wp2_with (first
    | (go_at_call 97; refine (l1Min_any _ _ _).mono ?_; rintro e w' ⟨rfl, rfl⟩; rw [hm])
    | (go_at_call 116; refine (HC.out _ _).mono ?_; rintro e w1 ⟨v, rfl, ho, hb⟩; obtain ⟨pp, cc, hv⟩ := ho.slice; subst hv))
  rw [hd] at ho
  refine (l3Token_raw d pp cc k k w1 hd.symm).mono ?_
  rintro e w2 ⟨rfl, hb2⟩
  have hb3 := hb.trans (hb2.mono hb.size)
  have HE : Hid (NewTk w (rTk d k) (.returned (tkV (rTk d k) (.slice pp k cc))) (sets w2 w.heap.size 0 (tkL (rTk d k) (.slice pp k cc)))) := tk_end (tkL (rTk d k) (.slice pp k cc)) (ho.on hb2) hb3
  obtain ⟨hcc, hf⟩ := bcell hb3
  clear ho hb hb2 hb3
  unfold tkV rTk rawEv
  dsimp only
  go_wp2_with fail
  refine bodyPost_ret (v := tkV (rTk d k) (.slice pp k cc)) ?_ rfl HE.out
  simp [results, Tryz.results68, tkV, rTk, rawEv, go_sem, hcc]

theorem l3Raw_any (p : Option Addr) (c : Nat) (l : List UInt8) (w : World) (h : Bs w w.heap.size p l) (hc : l.length ≤ c) (hl : l.length ≤ 1048576) :
    Calls Tryz.prog 68 #[.slice p l.length c] w (NewTk w (rawTk (l.take 24))) := by
  have e : rawTk (l.take 24) = rTk (l.take 24) ((l.take 24).length : Nat) := rfl
  rw [e]
  refine l3Raw_k p c (l.take 24).length l.length (l.take 24) w rfl (by simp; omega) (by simp; omega) hl ?_ (Lib.hid fun o c' => l1Copy_any p c' (l.take 24) (w.alloc o) ((h.alloc o).head 24) (by simp; omega))
  unfold lesser
  rw [List.length_take]
  by_cases h24 : l.length < 24
  · rw [if_pos (by omega)]; omega
  · rw [if_neg (by omega)]; omega

theorem l3Raw_cut (p : Option Addr) (c k : Nat) (l : List UInt8) (w : World) (h : Bs w w.heap.size p l) (hk : k ≤ l.length) (hk2 : k ≤ 24) (hc : k ≤ c) (hl : l.length ≤ 1048576) :
    Calls Tryz.prog 68 #[.slice p k c] w (NewTk w (rawTk (l.take k))) := by
  have e : (l.take k).length = k := by simp; omega
  have := l3Raw_any p c (l.take k) w (h.head k) (by omega) (by omega)
  rw [e, List.take_of_length_le (by omega)] at this
  exact this

end Go.Proofs.YtbnpodledgaipaaGreatDoor
