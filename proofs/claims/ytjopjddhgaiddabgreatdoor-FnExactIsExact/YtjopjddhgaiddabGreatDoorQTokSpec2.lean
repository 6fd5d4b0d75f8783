/- The model's tokens: l3Escaped. -/
import Derived.Test.YtjopjddhgaiddabGreatDoorQTokSpecHToTokSpecA
import Derived.Test.YtjopjddhgaiddabGreatDoorQFirstSpecToFirstSpec3
namespace Go.Proofs.YtjopjddhgaiddabGreatDoor
open Go.RowKit
set_option linter.unusedVariables false

set_option maxRecDepth 100000 in
set_option maxHeartbeats 4000000 in
theorem l3Escaped_seq (b off n c : Nat) (t : Tk) (w : World) (hi : 1 < n) (hn : n ≤ 1048576) (hb : b < w.heap.size) (hc : w.cell? ⟨b, off + 1, none⟩ = some (.int .u8 91))
    (HG : Hid (∀ w', Below w.heap.size w w' → Calls Tryz.prog 113 #[.slice (some ⟨b, off, none⟩) n c] w' (NewTk w' t))) :
    Calls Tryz.prog 79 #[.slice (some ⟨b, off, none⟩) n c] w (NewTk w t) := by
  go_enter Tryz.func79, Tryz.ntmps79
  go_wp2_with fail
  refine (HG.out _ (below_mk _ _)).mono ?_
  rintro e w9 ⟨v, rfl, ho, hb9⟩
  obtain ⟨px, cx, hv⟩ := ho.slice
  subst hv
  have HE : Hid (NewTk w t (.returned (tkV t (.slice px t.ev.data.length cx))) (sets w9 w.heap.size 0 (tkL t (.slice px t.ev.data.length cx)))) := tk_end (tkL t (.slice px t.ev.data.length cx)) ho hb9
  obtain ⟨hcc, hf⟩ := bcell hb9
  clear ho hb9
  unfold tkV
  go_wp2_with fail
  refine bodyPost_ret (v := tkV t (.slice px t.ev.data.length cx)) ?_ rfl HE.out
  simp [results, Tryz.results79, tkV, go_sem, hcc]

set_option maxRecDepth 100000 in
set_option maxHeartbeats 4000000 in
theorem l3Escaped_o2 (b off n c : Nat) (w : World) (hi : n = 2) (hb : b < w.heap.size) (hc : w.cell? ⟨b, off + 1, none⟩ = some (.int .u8 79)) :
    Calls Tryz.prog 79 #[.slice (some ⟨b, off, none⟩) n c] w (PlainTk w (badTk 6)) := by
  subst hi
  go_enter Tryz.func79, Tryz.ntmps79
  go_wp2_with fail
  refine (l3Bad_any _ _).mono ?_
  rintro e w9 ⟨rfl, hb9⟩
  have HE : Hid (PlainTk w (badTk 6) (.returned (tkV (badTk 6) (.slice none 0 0))) (sets w9 w.heap.size 0 (tkL (badTk 6) (.slice none 0 0)))) := tk_end_plain (tkL (badTk 6) (.slice none 0 0)) hb9
  obtain ⟨hcc, hf⟩ := bcell hb9
  clear hb9
  unfold tkV badTk noEv
  go_wp2_with fail
  refine bodyPost_ret (v := tkV (badTk 6) (.slice none 0 0)) ?_ rfl HE.out
  simp [results, Tryz.results79, tkV, badTk, noEv, go_sem, hcc]

set_option maxRecDepth 100000 in
set_option maxHeartbeats 4000000 in
theorem l3Escaped_let (b off n c : Nat) (x k : Int) (w : World) (hi : 2 < n) (hn : n ≤ 1048576) (hb : b < w.heap.size) (hc : w.cell? ⟨b, off + 1, none⟩ = some (.int .u8 79)) (hc2 : w.cell? ⟨b, off + 2, none⟩ = some (.int .u8 x)) (hk : letterK x = k) (h0 : (k == 0) = false) :
    Calls Tryz.prog 79 #[.slice (some ⟨b, off, none⟩) n c] w (PlainTk w (keyTk k 0 3)) := by
  have HL := Lib.hid (fun w => l3Letter_any x w)
  rw [hk] at HL
  have h3 : ¬ (n : Int) < 3 := by omega
  have e0 : (k != 0) = true := by rw [bne, h0]; rfl
  clear hk
  go_enter Tryz.func79, Tryz.ntmps79
  go_wp2_with fail
  refine (HL.out _).mono ?_
  rintro e w1 ⟨rfl, rfl⟩
  go_wp2_with fail
  refine (HL.out _).mono ?_
  rintro e w1 ⟨rfl, rfl⟩
  go_wp2_with fail
  refine (l3Key_any _ _ _ _).mono ?_
  rintro e w9 ⟨rfl, hb9⟩
  have HE : Hid (PlainTk w (keyTk k 0 3) (.returned (tkV (keyTk k 0 3) (.slice none 0 0))) (sets w9 w.heap.size 0 (tkL (keyTk k 0 3) (.slice none 0 0)))) := tk_end_plain (tkL (keyTk k 0 3) (.slice none 0 0)) hb9
  obtain ⟨hcc, hf⟩ := bcell hb9
  clear hb9
  unfold tkV keyTk keyEv
  go_wp2_with fail
  refine bodyPost_ret (v := tkV (keyTk k 0 3) (.slice none 0 0)) ?_ rfl HE.out
  simp [results, Tryz.results79, tkV, keyTk, keyEv, go_sem, hcc]

set_option maxRecDepth 100000 in
set_option maxHeartbeats 4000000 in
theorem l3Escaped_oraw (b off n c : Nat) (x : Int) (t : Tk) (w : World) (hi : 2 < n) (hn : n ≤ 1048576) (hnc : n ≤ c) (hb : b < w.heap.size) (hc : w.cell? ⟨b, off + 1, none⟩ = some (.int .u8 79)) (hc2 : w.cell? ⟨b, off + 2, none⟩ = some (.int .u8 x)) (hk : letterK x = 0)
    (HG : Hid (∀ w', Below w.heap.size w w' → Calls Tryz.prog 81 #[.slice (some ⟨b, off, none⟩) 3 c] w' (NewTk w' t))) :
    Calls Tryz.prog 79 #[.slice (some ⟨b, off, none⟩) n c] w (NewTk w t) := by
  have HL := Lib.hid (fun w => l3Letter_any x w)
  rw [hk] at HL
  have h3 : ¬ (n : Int) < 3 := by omega
  clear hk
  go_enter Tryz.func79, Tryz.ntmps79
  go_wp2_with fail
  refine (HL.out _).mono ?_
  rintro e w1 ⟨rfl, rfl⟩
  go_wp2_with fail
  refine (HG.out _ (below_mk _ _)).mono ?_
  rintro e w9 ⟨v, rfl, ho, hb9⟩
  obtain ⟨px, cx, hv⟩ := ho.slice
  subst hv
  have HE : Hid (NewTk w t (.returned (tkV t (.slice px t.ev.data.length cx))) (sets w9 w.heap.size 0 (tkL t (.slice px t.ev.data.length cx)))) := tk_end (tkL t (.slice px t.ev.data.length cx)) ho hb9
  obtain ⟨hcc, hf⟩ := bcell hb9
  clear ho hb9
  unfold tkV
  go_wp2_with fail
  refine bodyPost_ret (v := tkV t (.slice px t.ev.data.length cx)) ?_ rfl HE.out
  simp [results, Tryz.results79, tkV, go_sem, hcc]

set_option maxRecDepth 100000 in
set_option maxHeartbeats 4000000 in
theorem l3Escaped_plain (b off n c : Nat) (x : Int) (w : World) (hi : 1 < n) (hn : n ≤ 1048576) (hb : b < w.heap.size) (hc : w.cell? ⟨b, off + 1, none⟩ = some (.int .u8 x)) (h1 : (x == 91) = false) (h2 : (x == 79) = false) (h3 : 32 ≤ x) (h4 : x < 127) :
    Calls Tryz.prog 79 #[.slice (some ⟨b, off, none⟩) n c] w (PlainTk w (keyTk x 2 2)) := by
  have hw : IntKind.i64.wrap x = x := IntWalk.i64_in _ ⟨by omega, by omega⟩
  go_enter Tryz.func79, Tryz.ntmps79
  go_wp2_with fail
  refine (l3Key_any _ _ _ _).mono ?_
  rintro e w9 ⟨rfl, hb9⟩
  have HE : Hid (PlainTk w (keyTk x 2 2) (.returned (tkV (keyTk x 2 2) (.slice none 0 0))) (sets w9 w.heap.size 0 (tkL (keyTk x 2 2) (.slice none 0 0)))) := tk_end_plain (tkL (keyTk x 2 2) (.slice none 0 0)) hb9
  obtain ⟨hcc, hf⟩ := bcell hb9
  clear hb9
  unfold tkV keyTk keyEv
  go_wp2_with fail
  refine bodyPost_ret (v := tkV (keyTk x 2 2) (.slice none 0 0)) ?_ rfl HE.out
  simp [results, Tryz.results79, tkV, keyTk, keyEv, go_sem, hcc]

set_option maxRecDepth 100000 in
set_option maxHeartbeats 4000000 in
theorem l3Escaped_esc (b off n c : Nat) (x : Int) (w : World) (hi : 1 < n) (hn : n ≤ 1048576) (hb : b < w.heap.size) (hc : w.cell? ⟨b, off + 1, none⟩ = some (.int .u8 x)) (h1 : (x == 91) = false) (h2 : (x == 79) = false) (h3 : x < 32 ∨ (32 ≤ x ∧ 127 ≤ x)) :
    Calls Tryz.prog 79 #[.slice (some ⟨b, off, none⟩) n c] w (PlainTk w (keyTk 2000004 0 1)) := by
  rcases h3 with h3 | ⟨h3, h4⟩
  all_goals
    go_enter Tryz.func79, Tryz.ntmps79
    go_wp2_with fail
    refine (l3Key_any _ _ _ _).mono ?_
    rintro e w9 ⟨rfl, hb9⟩
    have HE : Hid (PlainTk w (keyTk 2000004 0 1) (.returned (tkV (keyTk 2000004 0 1) (.slice none 0 0))) (sets w9 w.heap.size 0 (tkL (keyTk 2000004 0 1) (.slice none 0 0)))) := tk_end_plain (tkL (keyTk 2000004 0 1) (.slice none 0 0)) hb9
    obtain ⟨hcc, hf⟩ := bcell hb9
    clear hb9
    unfold tkV keyTk keyEv
    go_wp2_with fail
    refine bodyPost_ret (v := tkV (keyTk 2000004 0 1) (.slice none 0 0)) ?_ rfl HE.out
    simp [results, Tryz.results79, tkV, keyTk, keyEv, go_sem, hcc]

end Go.Proofs.YtjopjddhgaiddabGreatDoor
