/- Tokens as plain data, and the contracts of what makes one: keyToken, keyResult; the model's l3Token, l3Key, l3Bad. -/
import Derived.Test.YtnmnklilmcpkaaaQFaultToLws
import Derived.Test.YtnmnklilmcpkaaaQPutToBytesRes
import Derived.Test.YtnmnklilmcpkaaaQBytesToCells
namespace Go.Proofs.Ytnmnklilmcpkaaa
open Go.RowKit

/-- a TokenResult as data -/
structure Tk where
  code : Int
  ev : Ev
  size : Int
  paste : Bool
  none : Bool

/-- no event -/
def noEv : Ev := ⟨0, 0, 0, 0, 0, 0, 0, []⟩
def keyEv (code mods : Int) : Ev := ⟨1, code, mods, 0, 0, 0, 0, []⟩
def keyTk (code mods size : Int) : Tk := ⟨0, keyEv code mods, size, false, false⟩
def badTk (c : Int) : Tk := ⟨c, noEv, 0, false, false⟩

/-- a Token as a value, its data at v -/
def tokV (e : Ev) (v : Value) (size : Int) (paste none : Bool) : Value :=
  .agg #[.int .i64 e.kind, .int .i64 e.code, .int .i64 e.mods, .int .i64 e.button, .int .i64 e.act, .int .i64 e.col, .int .i64 e.row, v, .int .i64 size, .bool paste, .bool none]
/-- a TokenResult as a value, its data at v -/
def tkV (t : Tk) (v : Value) : Value :=
  .agg #[.int .i64 t.code, .int .i64 t.ev.kind, .int .i64 t.ev.code, .int .i64 t.ev.mods, .int .i64 t.ev.button, .int .i64 t.ev.act, .int .i64 t.ev.col, .int .i64 t.ev.row, v, .int .i64 t.size, .bool t.paste, .bool t.none]
/-- its cells -/
def tkL (t : Tk) (v : Value) : List Value :=
  [.int .i64 t.code, .int .i64 t.ev.kind, .int .i64 t.ev.code, .int .i64 t.ev.mods, .int .i64 t.ev.button, .int .i64 t.ev.act, .int .i64 t.ev.col, .int .i64 t.ev.row, v, .int .i64 t.size, .bool t.paste, .bool t.none]

/-- what a call leaves that hands back a token without data -/
def PlainTk (w : World) (t : Tk) (e : Ending) (w' : World) : Prop := e = .returned (tkV t (.slice none 0 0)) ∧ Below w.heap.size w w'
/-- what a call leaves that hands back a token with data of its own -/
def NewTk (w : World) (t : Tk) (e : Ending) (w' : World) : Prop := ∃ v, e = .returned (tkV t v) ∧ Own w' w.heap.size v t.ev.data ∧ Below w.heap.size w w'
theorem PlainTk.new {w : World} {t : Tk} {e : Ending} {w' : World} (ht : t.ev.data = []) (h : PlainTk w t e w') : NewTk w t e w' := ⟨_, h.1, by rw [ht]; exact own_nil _ _, h.2⟩

/-- a result's twelve cells, written -/
def sets (w : World) (b : Nat) : Nat → List Value → World
  | _, [] => w
  | i, v :: r => sets (w.setCell ⟨b, i, none⟩ v) b (i + 1) r
theorem sets_below {B b : Nat} (hB : B ≤ b) : ∀ (vs : List Value) (i : Nat) (a w : World), Below B a w → Below B a (sets w b i vs)
  | [], _, _, _, h => h
  | _ :: r, i, a, _, h => sets_below hB r (i + 1) a _ (h.setCell hB _)
theorem sets_own {b base : Nat} {v : Value} {l : List UInt8} (hb : b < base) : ∀ (vs : List Value) (i : Nat) (w : World), Own w base v l → Own (sets w b i vs) base v l
  | [], _, _, h => h
  | _ :: r, i, _, h => sets_own hb r (i + 1) _ (h.setBelow (a := ⟨b, i, none⟩) hb _)

/-- the result's cells written behind the callee's own memory -/
theorem tk_end {w w1 : World} {o : Obj} {t : Tk} {v : Value} (vs : List Value) (ho : Own w1 (w.alloc o).heap.size v t.ev.data) (hb : Below (w.alloc o).heap.size (w.alloc o) w1) :
    NewTk w t (.returned (tkV t v)) (sets w1 w.heap.size 0 vs) :=
  ⟨v, rfl, (sets_own (by simp) vs 0 _ ho).lower (by simp), sets_below (Nat.le_refl _) vs 0 _ _ (below_on (below_mk _ o) hb)⟩
theorem tk_end_plain {w w1 : World} {o : Obj} {t : Tk} (vs : List Value) (hb : Below (w.alloc o).heap.size (w.alloc o) w1) :
    PlainTk w t (.returned (tkV t (.slice none 0 0))) (sets w1 w.heap.size 0 vs) :=
  ⟨rfl, sets_below (Nat.le_refl _) vs 0 _ _ (below_on (below_mk _ o) hb)⟩

set_option maxHeartbeats 1000000 in
theorem keyToken_any (c m s : Int) (w : World) : Calls Try.prog 44 #[.int .i64 c, .int .i64 m, .int .i64 s] w fun e w' => e = .returned (tokV (keyEv c m) (.slice none 0 0) s false false) ∧ Below w.heap.size w w' := by
  go_enter Try.func44, Try.ntmps44
  go_wp2
  exact bodyPost_ret (v := tokV (keyEv c m) (.slice none 0 0) s false false) (by simp [results, Try.results44, tokV, keyEv, go_sem]) rfl ⟨rfl, below_mk _ _⟩

set_option maxHeartbeats 1000000 in
theorem keyResult_any (c m s : Int) (w : World) : Calls Try.prog 22 #[.int .i64 c, .int .i64 m, .int .i64 s] w (PlainTk w (keyTk c m s)) := by
  go_enter Try.func22, Try.ntmps22
  go_wp2_with (go_at_call 44; refine (keyToken_any _ _ _ _).mono ?_; rintro e w1 ⟨rfl, hb⟩; unfold tokV keyEv; obtain ⟨hc, hf⟩ := bcell hb)
  exact bodyPost_ret (v := tkV (keyTk c m s) (.slice none 0 0)) (by simp [results, Try.results22, tkV, keyTk, keyEv, go_sem, hc]) rfl (tk_end_plain (tkL (keyTk c m s) (.slice none 0 0)) hb)

end Go.Proofs.Ytnmnklilmcpkaaa

/- The contracts of KeyOfByte, the program's and the model's. -/
namespace Go.Proofs.Ytnmnklilmcpkaaa
open Go.RowKit

/-- the key of a byte -/
def keyB (b : Int) : Tk :=
  if b = 9 then keyTk 2000002 0 1 else if b = 13 then keyTk 2000001 0 1 else if b = 27 then keyTk 2000004 0 1 else if b = 127 then keyTk 2000003 0 1
  else if b = 0 then keyTk 32 4 1 else if b ≤ 26 then keyTk (96 + b) 4 1 else if 32 ≤ b ∧ b ≤ 126 then keyTk b 0 1 else badTk 5

theorem keyB_data (b : Int) : (keyB b).ev.data = [] := by
  unfold keyB
  repeat' split
  all_goals rfl

set_option maxHeartbeats 1000000 in
theorem l3Token_any (e : Ev) (p : Option Addr) (c : Nat) (s : Int) (w : World) : Calls Try.prog 39 #[evV e p c, .int .i64 s] w fun en w' => en = .returned (tkV ⟨0, e, s, false, false⟩ (.slice p e.data.length c)) ∧ Below w.heap.size w w' := by
  unfold evV
  go_enter Try.func39, Try.ntmps39
  go_wp2
  exact bodyPost_ret (v := tkV ⟨0, e, s, false, false⟩ (.slice p e.data.length c)) (by simp [results, Try.results39, tkV, go_sem]) rfl ⟨rfl, below_on (below_mk _ _) (below_mk _ _)⟩

set_option maxHeartbeats 1000000 in
theorem l3Bad_any (c : Int) (w : World) : Calls Try.prog 35 #[.int .i64 c] w (PlainTk w (badTk c)) := by
  go_enter Try.func35, Try.ntmps35
  go_wp2
  exact bodyPost_ret (v := tkV (badTk c) (.slice none 0 0)) (by simp [results, Try.results35, tkV, badTk, noEv, go_sem]) rfl ⟨rfl, below_mk _ _⟩

theorem l3Token_key (c m s : Int) (w : World) : Calls Try.prog 39 #[.agg #[.int .i64 1, .int .i64 c, .int .i64 m, .int .i64 0, .int .i64 0, .int .i64 0, .int .i64 0, .slice none 0 0], .int .i64 s] w (PlainTk w (keyTk c m s)) :=
  l3Token_any (keyEv c m) none 0 s w

set_option maxHeartbeats 1000000 in
theorem l3Key_any (c m s : Int) (w : World) : Calls Try.prog 34 #[.int .i64 c, .int .i64 m, .int .i64 s] w (PlainTk w (keyTk c m s)) := by
  go_enter Try.func34, Try.ntmps34
  go_wp2_with (go_at_call 39; refine (l3Token_key _ _ _ _).mono ?_; rintro e w1 ⟨rfl, hb⟩; unfold tkV keyTk keyEv; obtain ⟨hc, hf⟩ := bcell hb)
  exact bodyPost_ret (v := tkV (keyTk c m s) (.slice none 0 0)) (by simp [results, Try.results34, tkV, keyTk, keyEv, go_sem, hc]) rfl (tk_end_plain (tkL (keyTk c m s) (.slice none 0 0)) hb)

set_option maxHeartbeats 1000000 in
theorem isPlain_any (b : Int) (w : World) : Calls Try.prog 23 #[.int .u8 b] w fun e w' => e = .returned (.bool (inR b 32 126)) ∧ w = w' := by
  by_cases h : 32 ≤ b
  · go_enter Try.func23, Try.ntmps23
    go_wp2
    go_ret
    exact ⟨ret_bool (by simp [inR, h]), rfl⟩
  · go_enter Try.func23, Try.ntmps23
    go_wp2
    go_ret
    exact ⟨ret_bool (by simp [inR]; omega), rfl⟩

set_option maxHeartbeats 1000000 in
theorem specKey_end (b c m : Int) (w : World) (hk : keyB b = keyTk c m 1) {o : Obj} {w1 : World} (hb : Below (w.alloc o).heap.size (w.alloc o) w1) :
    PlainTk w (keyB b) (.returned (tkV (keyTk c m 1) (.slice none 0 0))) (sets w1 w.heap.size 0 (tkL (keyTk c m 1) (.slice none 0 0))) := by
  rw [hk]
  exact tk_end_plain _ hb

set_option maxRecDepth 100000 in
set_option maxHeartbeats 4000000 in
theorem implKeyOfByte_0 (w : World) : Calls Try.prog 7 #[.int .u8 9] w (PlainTk w (keyTk 2000002 0 1)) := by
  go_enter Try.func7, Try.ntmps7
  go_wp2_with (first | (go_at_call 22; refine (keyResult_any _ _ _ _).mono ?_; rintro e w1 ⟨rfl, hb⟩; unfold tkV keyTk keyEv; obtain ⟨hc, hf⟩ := bcell hb) | (go_at_call 23; refine (isPlain_any _ _).mono ?_; rintro e w0 ⟨rfl, rfl⟩))
  exact bodyPost_ret (v := tkV (keyTk 2000002 0 1) (.slice none 0 0)) (by simp [results, Try.results7, tkV, keyTk, keyEv, go_sem, hc]) rfl (tk_end_plain (tkL (keyTk 2000002 0 1) (.slice none 0 0)) hb)

set_option maxRecDepth 100000 in
set_option maxHeartbeats 4000000 in
theorem implKeyOfByte_1 (w : World) : Calls Try.prog 7 #[.int .u8 13] w (PlainTk w (keyTk 2000001 0 1)) := by
  go_enter Try.func7, Try.ntmps7
  go_wp2_with (first | (go_at_call 22; refine (keyResult_any _ _ _ _).mono ?_; rintro e w1 ⟨rfl, hb⟩; unfold tkV keyTk keyEv; obtain ⟨hc, hf⟩ := bcell hb) | (go_at_call 23; refine (isPlain_any _ _).mono ?_; rintro e w0 ⟨rfl, rfl⟩))
  exact bodyPost_ret (v := tkV (keyTk 2000001 0 1) (.slice none 0 0)) (by simp [results, Try.results7, tkV, keyTk, keyEv, go_sem, hc]) rfl (tk_end_plain (tkL (keyTk 2000001 0 1) (.slice none 0 0)) hb)

set_option maxRecDepth 100000 in
set_option maxHeartbeats 4000000 in
theorem implKeyOfByte_2 (w : World) : Calls Try.prog 7 #[.int .u8 27] w (PlainTk w (keyTk 2000004 0 1)) := by
  go_enter Try.func7, Try.ntmps7
  go_wp2_with (first | (go_at_call 22; refine (keyResult_any _ _ _ _).mono ?_; rintro e w1 ⟨rfl, hb⟩; unfold tkV keyTk keyEv; obtain ⟨hc, hf⟩ := bcell hb) | (go_at_call 23; refine (isPlain_any _ _).mono ?_; rintro e w0 ⟨rfl, rfl⟩))
  exact bodyPost_ret (v := tkV (keyTk 2000004 0 1) (.slice none 0 0)) (by simp [results, Try.results7, tkV, keyTk, keyEv, go_sem, hc]) rfl (tk_end_plain (tkL (keyTk 2000004 0 1) (.slice none 0 0)) hb)

set_option maxRecDepth 100000 in
set_option maxHeartbeats 4000000 in
theorem implKeyOfByte_3 (w : World) : Calls Try.prog 7 #[.int .u8 127] w (PlainTk w (keyTk 2000003 0 1)) := by
  go_enter Try.func7, Try.ntmps7
  go_wp2_with (first | (go_at_call 22; refine (keyResult_any _ _ _ _).mono ?_; rintro e w1 ⟨rfl, hb⟩; unfold tkV keyTk keyEv; obtain ⟨hc, hf⟩ := bcell hb) | (go_at_call 23; refine (isPlain_any _ _).mono ?_; rintro e w0 ⟨rfl, rfl⟩))
  exact bodyPost_ret (v := tkV (keyTk 2000003 0 1) (.slice none 0 0)) (by simp [results, Try.results7, tkV, keyTk, keyEv, go_sem, hc]) rfl (tk_end_plain (tkL (keyTk 2000003 0 1) (.slice none 0 0)) hb)

set_option maxRecDepth 100000 in
set_option maxHeartbeats 4000000 in
theorem implKeyOfByte_4 (w : World) : Calls Try.prog 7 #[.int .u8 0] w (PlainTk w (keyTk 32 4 1)) := by
  go_enter Try.func7, Try.ntmps7
  go_wp2_with (first | (go_at_call 22; refine (keyResult_any _ _ _ _).mono ?_; rintro e w1 ⟨rfl, hb⟩; unfold tkV keyTk keyEv; obtain ⟨hc, hf⟩ := bcell hb) | (go_at_call 23; refine (isPlain_any _ _).mono ?_; rintro e w0 ⟨rfl, rfl⟩))
  exact bodyPost_ret (v := tkV (keyTk 32 4 1) (.slice none 0 0)) (by simp [results, Try.results7, tkV, keyTk, keyEv, go_sem, hc]) rfl (tk_end_plain (tkL (keyTk 32 4 1) (.slice none 0 0)) hb)

set_option maxRecDepth 100000 in
set_option maxHeartbeats 4000000 in
theorem implKeyOfByte_5 (b : Int) (w : World) (hlo : 1 ≤ b) (hhi : b ≤ 26) (h9 : ¬ b = 9) (h13 : ¬ b = 13) : Calls Try.prog 7 #[.int .u8 b] w (PlainTk w (keyTk (96 + b) 4 1)) := by
  go_enter Try.func7, Try.ntmps7
  go_wp2_with (first | (go_at_call 22; refine (keyResult_any _ _ _ _).mono ?_; rintro e w1 ⟨rfl, hb⟩; unfold tkV keyTk keyEv; obtain ⟨hc, hf⟩ := bcell hb) | (go_at_call 23; refine (isPlain_any _ _).mono ?_; rintro e w0 ⟨rfl, rfl⟩))
  exact bodyPost_ret (v := tkV (keyTk (96 + b) 4 1) (.slice none 0 0)) (by simp [results, Try.results7, tkV, keyTk, keyEv, go_sem, hc]) rfl (tk_end_plain (tkL (keyTk (96 + b) 4 1) (.slice none 0 0)) hb)

set_option maxRecDepth 100000 in
set_option maxHeartbeats 4000000 in
theorem implKeyOfByte_6 (b : Int) (w : World) (hlo : 32 ≤ b) (hhi : b ≤ 126) : Calls Try.prog 7 #[.int .u8 b] w (PlainTk w (keyTk b 0 1)) := by
  have hin : inR b 32 126 = true := by simp [inR, hlo, hhi]
  go_enter Try.func7, Try.ntmps7
  go_wp2_with (first | (go_at_call 22; refine (keyResult_any _ _ _ _).mono ?_; rintro e w1 ⟨rfl, hb⟩; unfold tkV keyTk keyEv; obtain ⟨hc, hf⟩ := bcell hb) | (go_at_call 23; refine (isPlain_any _ _).mono ?_; rintro e w0 ⟨rfl, rfl⟩))
  exact bodyPost_ret (v := tkV (keyTk b 0 1) (.slice none 0 0)) (by simp [results, Try.results7, tkV, keyTk, keyEv, go_sem, hc]) rfl (tk_end_plain (tkL (keyTk b 0 1) (.slice none 0 0)) hb)

set_option maxRecDepth 100000 in
set_option maxHeartbeats 4000000 in
theorem implKeyOfByte_7 (b : Int) (w : World) (hlo : 28 ≤ b) (hne : ¬ b = 127) (hout : b < 32 ∨ 126 < b) : Calls Try.prog 7 #[.int .u8 b] w (PlainTk w (badTk 5)) := by
  rcases hout with hout | hout
  all_goals
    have hin : inR b 32 126 = false := by simp [inR]; omega
    go_enter Try.func7, Try.ntmps7
    go_wp2_with (first | (go_at_call 23; refine (isPlain_any _ _).mono ?_; rintro e w0 ⟨rfl, rfl⟩))
    exact bodyPost_ret (v := tkV (badTk 5) (.slice none 0 0)) (by simp [results, Try.results7, tkV, badTk, noEv, go_sem]) rfl ⟨rfl, below_mk _ _⟩

theorem implKeyOfByte_any (b : Int) (w : World) (h0 : 0 ≤ b) : Calls Try.prog 7 #[.int .u8 b] w (PlainTk w (keyB b)) := by
  by_cases h1 : b = 9
  · have hk : keyB b = keyTk 2000002 0 1 := by unfold keyB; rw [if_pos h1]
    rw [hk, h1]
    exact implKeyOfByte_0 w
  by_cases h2 : b = 13
  · have hk : keyB b = keyTk 2000001 0 1 := by unfold keyB; rw [if_neg h1, if_pos h2]
    rw [hk, h2]
    exact implKeyOfByte_1 w
  by_cases h3 : b = 27
  · have hk : keyB b = keyTk 2000004 0 1 := by unfold keyB; rw [if_neg h1, if_neg h2, if_pos h3]
    rw [hk, h3]
    exact implKeyOfByte_2 w
  by_cases h4 : b = 127
  · have hk : keyB b = keyTk 2000003 0 1 := by unfold keyB; rw [if_neg h1, if_neg h2, if_neg h3, if_pos h4]
    rw [hk, h4]
    exact implKeyOfByte_3 w
  by_cases h5 : b = 0
  · have hk : keyB b = keyTk 32 4 1 := by unfold keyB; rw [if_neg h1, if_neg h2, if_neg h3, if_neg h4, if_pos h5]
    rw [hk, h5]
    exact implKeyOfByte_4 w
  by_cases h6 : b ≤ 26
  · have hk : keyB b = keyTk (96 + b) 4 1 := by unfold keyB; rw [if_neg h1, if_neg h2, if_neg h3, if_neg h4, if_neg h5, if_pos h6]
    rw [hk]
    exact implKeyOfByte_5 b w (by omega) (by omega) h1 h2
  by_cases h7 : 32 ≤ b ∧ b ≤ 126
  · have hk : keyB b = keyTk b 0 1 := by unfold keyB; rw [if_neg h1, if_neg h2, if_neg h3, if_neg h4, if_neg h5, if_neg h6, if_pos h7]
    rw [hk]
    exact implKeyOfByte_6 b w (by omega) (by omega)
  · have hk : keyB b = badTk 5 := by unfold keyB; rw [if_neg h1, if_neg h2, if_neg h3, if_neg h4, if_neg h5, if_neg h6, if_neg h7]
    rw [hk]
    exact implKeyOfByte_7 b w (by omega) (by omega) (by omega)

set_option maxRecDepth 100000 in
set_option maxHeartbeats 4000000 in
theorem specKeyOfByte_0 (w : World) : Calls Try.prog 13 #[.int .u8 9] w (PlainTk w (keyTk 2000002 0 1)) := by
  go_enter Try.func13, Try.ntmps13
  go_wp2_with (first | (go_at_call 34; refine (l3Key_any _ _ _ _).mono ?_; rintro e w1 ⟨rfl, hb⟩; unfold tkV keyTk keyEv; obtain ⟨hc, hf⟩ := bcell hb))
  exact bodyPost_ret (v := tkV (keyTk 2000002 0 1) (.slice none 0 0)) (by simp [results, Try.results13, tkV, keyTk, keyEv, go_sem, hc]) rfl (tk_end_plain (tkL (keyTk 2000002 0 1) (.slice none 0 0)) hb)

set_option maxRecDepth 100000 in
set_option maxHeartbeats 4000000 in
theorem specKeyOfByte_1 (w : World) : Calls Try.prog 13 #[.int .u8 13] w (PlainTk w (keyTk 2000001 0 1)) := by
  go_enter Try.func13, Try.ntmps13
  go_wp2_with (first | (go_at_call 34; refine (l3Key_any _ _ _ _).mono ?_; rintro e w1 ⟨rfl, hb⟩; unfold tkV keyTk keyEv; obtain ⟨hc, hf⟩ := bcell hb))
  exact bodyPost_ret (v := tkV (keyTk 2000001 0 1) (.slice none 0 0)) (by simp [results, Try.results13, tkV, keyTk, keyEv, go_sem, hc]) rfl (tk_end_plain (tkL (keyTk 2000001 0 1) (.slice none 0 0)) hb)

set_option maxRecDepth 100000 in
set_option maxHeartbeats 4000000 in
theorem specKeyOfByte_2 (w : World) : Calls Try.prog 13 #[.int .u8 27] w (PlainTk w (keyTk 2000004 0 1)) := by
  go_enter Try.func13, Try.ntmps13
  go_wp2_with (first | (go_at_call 34; refine (l3Key_any _ _ _ _).mono ?_; rintro e w1 ⟨rfl, hb⟩; unfold tkV keyTk keyEv; obtain ⟨hc, hf⟩ := bcell hb))
  exact bodyPost_ret (v := tkV (keyTk 2000004 0 1) (.slice none 0 0)) (by simp [results, Try.results13, tkV, keyTk, keyEv, go_sem, hc]) rfl (tk_end_plain (tkL (keyTk 2000004 0 1) (.slice none 0 0)) hb)

set_option maxRecDepth 100000 in
set_option maxHeartbeats 4000000 in
theorem specKeyOfByte_3 (w : World) : Calls Try.prog 13 #[.int .u8 127] w (PlainTk w (keyTk 2000003 0 1)) := by
  go_enter Try.func13, Try.ntmps13
  go_wp2_with (first | (go_at_call 34; refine (l3Key_any _ _ _ _).mono ?_; rintro e w1 ⟨rfl, hb⟩; unfold tkV keyTk keyEv; obtain ⟨hc, hf⟩ := bcell hb))
  exact bodyPost_ret (v := tkV (keyTk 2000003 0 1) (.slice none 0 0)) (by simp [results, Try.results13, tkV, keyTk, keyEv, go_sem, hc]) rfl (tk_end_plain (tkL (keyTk 2000003 0 1) (.slice none 0 0)) hb)

set_option maxRecDepth 100000 in
set_option maxHeartbeats 4000000 in
theorem specKeyOfByte_4 (w : World) : Calls Try.prog 13 #[.int .u8 0] w (PlainTk w (keyTk 32 4 1)) := by
  go_enter Try.func13, Try.ntmps13
  go_wp2_with (first | (go_at_call 34; refine (l3Key_any _ _ _ _).mono ?_; rintro e w1 ⟨rfl, hb⟩; unfold tkV keyTk keyEv; obtain ⟨hc, hf⟩ := bcell hb))
  exact bodyPost_ret (v := tkV (keyTk 32 4 1) (.slice none 0 0)) (by simp [results, Try.results13, tkV, keyTk, keyEv, go_sem, hc]) rfl (tk_end_plain (tkL (keyTk 32 4 1) (.slice none 0 0)) hb)

set_option maxRecDepth 100000 in
set_option maxHeartbeats 4000000 in
theorem specKeyOfByte_5 (b : Int) (w : World) (hlo : 1 ≤ b) (hhi : b ≤ 26) (h9 : ¬ b = 9) (h13 : ¬ b = 13) : Calls Try.prog 13 #[.int .u8 b] w (PlainTk w (keyTk (97 + b - 1) 4 1)) := by
  go_enter Try.func13, Try.ntmps13
  go_wp2_with (first | (go_at_call 34; refine (l3Key_any _ _ _ _).mono ?_; rintro e w1 ⟨rfl, hb⟩; unfold tkV keyTk keyEv; obtain ⟨hc, hf⟩ := bcell hb))
  exact bodyPost_ret (v := tkV (keyTk (97 + b - 1) 4 1) (.slice none 0 0)) (by simp [results, Try.results13, tkV, keyTk, keyEv, go_sem, hc]) rfl (tk_end_plain (tkL (keyTk (97 + b - 1) 4 1) (.slice none 0 0)) hb)

set_option maxRecDepth 100000 in
set_option maxHeartbeats 4000000 in
theorem specKeyOfByte_6 (b : Int) (w : World) (hlo : 32 ≤ b) (hhi : b ≤ 126) : Calls Try.prog 13 #[.int .u8 b] w (PlainTk w (keyTk b 0 1)) := by
  go_enter Try.func13, Try.ntmps13
  go_wp2_with (first | (go_at_call 34; refine (l3Key_any _ _ _ _).mono ?_; rintro e w1 ⟨rfl, hb⟩; unfold tkV keyTk keyEv; obtain ⟨hc, hf⟩ := bcell hb))
  exact bodyPost_ret (v := tkV (keyTk b 0 1) (.slice none 0 0)) (by simp [results, Try.results13, tkV, keyTk, keyEv, go_sem, hc]) rfl (tk_end_plain (tkL (keyTk b 0 1) (.slice none 0 0)) hb)

set_option maxRecDepth 100000 in
set_option maxHeartbeats 4000000 in
theorem specKeyOfByte_7 (b : Int) (w : World) (hlo : 28 ≤ b) (hne : ¬ b = 127) (hout : b < 32 ∨ 126 < b) : Calls Try.prog 13 #[.int .u8 b] w (PlainTk w (badTk 5)) := by
  rcases hout with hout | hout
  all_goals
    go_enter Try.func13, Try.ntmps13
    go_wp2_with (first | (go_at_call 35; refine (l3Bad_any _ _).mono ?_; rintro e w1 ⟨rfl, hb⟩; unfold tkV badTk noEv; obtain ⟨hc, hf⟩ := bcell hb))
    all_goals first | (exfalso; omega) | exact bodyPost_ret (v := tkV (badTk 5) (.slice none 0 0)) (by simp [results, Try.results13, tkV, badTk, noEv, go_sem, hc]) rfl (tk_end_plain (tkL (badTk 5) (.slice none 0 0)) hb)

theorem specKeyOfByte_any (b : Int) (w : World) (h0 : 0 ≤ b) : Calls Try.prog 13 #[.int .u8 b] w (PlainTk w (keyB b)) := by
  by_cases h1 : b = 9
  · have hk : keyB b = keyTk 2000002 0 1 := by unfold keyB; rw [if_pos h1]
    rw [hk, h1]
    exact specKeyOfByte_0 w
  by_cases h2 : b = 13
  · have hk : keyB b = keyTk 2000001 0 1 := by unfold keyB; rw [if_neg h1, if_pos h2]
    rw [hk, h2]
    exact specKeyOfByte_1 w
  by_cases h3 : b = 27
  · have hk : keyB b = keyTk 2000004 0 1 := by unfold keyB; rw [if_neg h1, if_neg h2, if_pos h3]
    rw [hk, h3]
    exact specKeyOfByte_2 w
  by_cases h4 : b = 127
  · have hk : keyB b = keyTk 2000003 0 1 := by unfold keyB; rw [if_neg h1, if_neg h2, if_neg h3, if_pos h4]
    rw [hk, h4]
    exact specKeyOfByte_3 w
  by_cases h5 : b = 0
  · have hk : keyB b = keyTk 32 4 1 := by unfold keyB; rw [if_neg h1, if_neg h2, if_neg h3, if_neg h4, if_pos h5]
    rw [hk, h5]
    exact specKeyOfByte_4 w
  by_cases h6 : b ≤ 26
  · have hk : keyB b = keyTk (96 + b) 4 1 := by unfold keyB; rw [if_neg h1, if_neg h2, if_neg h3, if_neg h4, if_neg h5, if_pos h6]
    rw [hk, show 96 + b = 97 + b - 1 by omega]
    exact specKeyOfByte_5 b w (by omega) (by omega) h1 h2
  by_cases h7 : 32 ≤ b ∧ b ≤ 126
  · have hk : keyB b = keyTk b 0 1 := by unfold keyB; rw [if_neg h1, if_neg h2, if_neg h3, if_neg h4, if_neg h5, if_neg h6, if_pos h7]
    rw [hk]
    exact specKeyOfByte_6 b w (by omega) (by omega)
  · have hk : keyB b = badTk 5 := by unfold keyB; rw [if_neg h1, if_neg h2, if_neg h3, if_neg h4, if_neg h5, if_neg h6, if_neg h7]
    rw [hk]
    exact specKeyOfByte_7 b w (by omega) (by omega) (by omega)

end Go.Proofs.Ytnmnklilmcpkaaa

/- Fields of a token's value. -/
namespace Go.Proofs.Ytnmnklilmcpkaaa
open Go.RowKit

theorem fld_token (a0 a1 a2 a3 a4 a5 a6 a7 a8 a9 a10 a11 : Value) (w : World) : (Instr.field 30 (.agg #[a0, a1, a2, a3, a4, a5, a6, a7, a8, a9, a10, a11]) 1).run Try.prog w = .ok (.agg #[a1, a2, a3, a4, a5, a6, a7, a8, a9, a10, a11]) w := by kernel_rfl
theorem fld_code (a0 a1 a2 a3 a4 a5 a6 a7 a8 a9 a10 a11 : Value) (w : World) : (Instr.field 30 (.agg #[a0, a1, a2, a3, a4, a5, a6, a7, a8, a9, a10, a11]) 0).run Try.prog w = .ok a0 w := by kernel_rfl
theorem fld_event (a1 a2 a3 a4 a5 a6 a7 a8 a9 a10 a11 : Value) (w : World) : (Instr.field 28 (.agg #[a1, a2, a3, a4, a5, a6, a7, a8, a9, a10, a11]) 0).run Try.prog w = .ok (.agg #[a1, a2, a3, a4, a5, a6, a7, a8]) w := by kernel_rfl
theorem fld_evcode (a1 a2 a3 a4 a5 a6 a7 a8 : Value) (w : World) : (Instr.field 26 (.agg #[a1, a2, a3, a4, a5, a6, a7, a8]) 1).run Try.prog w = .ok a2 w := by kernel_rfl

end Go.Proofs.Ytnmnklilmcpkaaa
