/- Tokens as plain data, and the contracts of what makes one: keyToken, keyResult; the model's l3Token, l3Key, l3Bad. -/
import Derived.Test.YtbnpodledgaipaaGreatDoorQFaultToSpecFault
import Derived.Test.YtbnpodledgaipaaGreatDoorQPutToMarksBig
import Derived.Test.YtbnpodledgaipaaGreatDoorQBytesToCells
namespace Go.Proofs.YtbnpodledgaipaaGreatDoor
open Go.RowKit

/-- a TokenResult as data -/
structure Tk where
  code : Int
  ev : Ev
  size : Int
  paste : Bool
  none : Bool

/-- no event -/
def noEv : Ev := ⟨0, 0, 0, 0, 0, 0, 0, []⟩
def keyEv (code mods : Int) : Ev := ⟨1, code, mods, 0, 0, 0, 0, []⟩
def keyTk (code mods size : Int) : Tk := ⟨0, keyEv code mods, size, false, false⟩
def badTk (c : Int) : Tk := ⟨c, noEv, 0, false, false⟩

/-- a Token as a value, its data at v -/
def tokV (e : Ev) (v : Value) (size : Int) (paste none : Bool) : Value :=
  .agg #[.int .i64 e.kind, .int .i64 e.code, .int .i64 e.mods, .int .i64 e.button, .int .i64 e.act, .int .i64 e.col, .int .i64 e.row, v, .int .i64 size, .bool paste, .bool none]
/-- a TokenResult as a value, its data at v -/
def tkV (t : Tk) (v : Value) : Value :=
  .agg #[.int .i64 t.code, .int .i64 t.ev.kind, .int .i64 t.ev.code, .int .i64 t.ev.mods, .int .i64 t.ev.button, .int .i64 t.ev.act, .int .i64 t.ev.col, .int .i64 t.ev.row, v, .int .i64 t.size, .bool t.paste, .bool t.none]
/-- its cells -/
def tkL (t : Tk) (v : Value) : List Value :=
  [.int .i64 t.code, .int .i64 t.ev.kind, .int .i64 t.ev.code, .int .i64 t.ev.mods, .int .i64 t.ev.button, .int .i64 t.ev.act, .int .i64 t.ev.col, .int .i64 t.ev.row, v, .int .i64 t.size, .bool t.paste, .bool t.none]

/-- what a call leaves that hands back a token without data -/
def PlainTk (w : World) (t : Tk) (e : Ending) (w' : World) : Prop := e = .returned (tkV t (.slice none 0 0)) ∧ Below w.heap.size w w'
/-- what a call leaves that hands back a token with data of its own -/
def NewTk (w : World) (t : Tk) (e : Ending) (w' : World) : Prop := ∃ v, e = .returned (tkV t v) ∧ Own w' w.heap.size v t.ev.data ∧ Below w.heap.size w w'
theorem PlainTk.new {w : World} {t : Tk} {e : Ending} {w' : World} (ht : t.ev.data = []) (h : PlainTk w t e w') : NewTk w t e w' := ⟨_, h.1, by rw [ht]; exact own_nil _ _, h.2⟩

/-- a result's twelve cells, written -/
def sets (w : World) (b : Nat) : Nat → List Value → World
  | _, [] => w
  | i, v :: r => sets (w.setCell ⟨b, i, none⟩ v) b (i + 1) r
theorem sets_below {B b : Nat} (hB : B ≤ b) : ∀ (vs : List Value) (i : Nat) (a w : World), Below B a w → Below B a (sets w b i vs)
  | [], _, _, _, h => h
  | _ :: r, i, a, _, h => sets_below hB r (i + 1) a _ (h.setCell hB _)
theorem sets_own {b base : Nat} {v : Value} {l : List UInt8} (hb : b < base) : ∀ (vs : List Value) (i : Nat) (w : World), Own w base v l → Own (sets w b i vs) base v l
  | [], _, _, h => h
  | _ :: r, i, _, h => sets_own hb r (i + 1) _ (h.setBelow (a := ⟨b, i, none⟩) hb _)

/-- the result's cells written behind the callee's own memory -/
theorem tk_end {w w1 : World} {o : Obj} {t : Tk} {v : Value} (vs : List Value) (ho : Own w1 (w.alloc o).heap.size v t.ev.data) (hb : Below (w.alloc o).heap.size (w.alloc o) w1) :
    NewTk w t (.returned (tkV t v)) (sets w1 w.heap.size 0 vs) :=
  ⟨v, rfl, (sets_own (by simp) vs 0 _ ho).lower (by simp), sets_below (Nat.le_refl _) vs 0 _ _ (below_on (below_mk _ o) hb)⟩
theorem tk_end_plain {w w1 : World} {o : Obj} {t : Tk} (vs : List Value) (hb : Below (w.alloc o).heap.size (w.alloc o) w1) :
    PlainTk w t (.returned (tkV t (.slice none 0 0))) (sets w1 w.heap.size 0 vs) :=
  ⟨rfl, sets_below (Nat.le_refl _) vs 0 _ _ (below_on (below_mk _ o) hb)⟩

set_option maxHeartbeats 1000000 in
theorem keyToken_any (c m s : Int) (w : World) : Calls Tryz.prog 124 #[.int .i64 c, .int .i64 m, .int .i64 s] w fun e w' => e = .returned (tokV (keyEv c m) (.slice none 0 0) s false false) ∧ Below w.heap.size w w' := by
  go_enter Tryz.func124, Tryz.ntmps124
  go_wp2
  exact bodyPost_ret (v := tokV (keyEv c m) (.slice none 0 0) s false false) (by simp [results, Tryz.results124, tokV, keyEv, go_sem]) rfl ⟨rfl, below_mk _ _⟩

set_option maxHeartbeats 1000000 in
theorem keyResult_any (c m s : Int) (w : World) : Calls Tryz.prog 134 #[.int .i64 c, .int .i64 m, .int .i64 s] w (PlainTk w (keyTk c m s)) := by
  go_enter Tryz.func134, Tryz.ntmps134
  go_wp2_with (go_at_call 124; refine (keyToken_any _ _ _ _).mono ?_; rintro e w1 ⟨rfl, hb⟩; unfold tokV keyEv; obtain ⟨hc, hf⟩ := bcell hb)
  exact bodyPost_ret (v := tkV (keyTk c m s) (.slice none 0 0)) (by simp [results, Tryz.results134, tkV, keyTk, keyEv, go_sem, hc]) rfl (tk_end_plain (tkL (keyTk c m s) (.slice none 0 0)) hb)

end Go.Proofs.YtbnpodledgaipaaGreatDoor

/- The contracts of KeyOfByte, the program's and the model's. -/
namespace Go.Proofs.YtbnpodledgaipaaGreatDoor
open Go.RowKit

/-- the key of a byte -/
def keyB (b : Int) : Tk :=
  if b = 9 then keyTk 2000002 0 1 else if b = 13 then keyTk 2000001 0 1 else if b = 27 then keyTk 2000004 0 1 else if b = 127 then keyTk 2000003 0 1
  else if b = 0 then keyTk 32 4 1 else if b ≤ 26 then keyTk (96 + b) 4 1 else if 32 ≤ b ∧ b ≤ 126 then keyTk b 0 1 else badTk 5

theorem keyB_data (b : Int) : (keyB b).ev.data = [] := by
  unfold keyB
  repeat' split
  all_goals rfl

set_option maxHeartbeats 1000000 in
theorem l3Token_any (e : Ev) (p : Option Addr) (c : Nat) (s : Int) (w : World) : Calls Tryz.prog 115 #[evV e p c, .int .i64 s] w fun en w' => en = .returned (tkV ⟨0, e, s, false, false⟩ (.slice p e.data.length c)) ∧ Below w.heap.size w w' := by
  unfold evV
  go_enter Tryz.func115, Tryz.ntmps115
  go_wp2
  exact bodyPost_ret (v := tkV ⟨0, e, s, false, false⟩ (.slice p e.data.length c)) (by simp [results, Tryz.results115, tkV, go_sem]) rfl ⟨rfl, below_on (below_mk _ _) (below_mk _ _)⟩

set_option maxHeartbeats 1000000 in
theorem l3Bad_any (c : Int) (w : World) : Calls Tryz.prog 65 #[.int .i64 c] w (PlainTk w (badTk c)) := by
  go_enter Tryz.func65, Tryz.ntmps65
  go_wp2
  exact bodyPost_ret (v := tkV (badTk c) (.slice none 0 0)) (by simp [results, Tryz.results65, tkV, badTk, noEv, go_sem]) rfl ⟨rfl, below_mk _ _⟩

theorem l3Token_key (c m s : Int) (w : World) : Calls Tryz.prog 115 #[.agg #[.int .i64 1, .int .i64 c, .int .i64 m, .int .i64 0, .int .i64 0, .int .i64 0, .int .i64 0, .slice none 0 0], .int .i64 s] w (PlainTk w (keyTk c m s)) :=
  l3Token_any (keyEv c m) none 0 s w

set_option maxHeartbeats 1000000 in
theorem l3Key_any (c m s : Int) (w : World) : Calls Tryz.prog 70 #[.int .i64 c, .int .i64 m, .int .i64 s] w (PlainTk w (keyTk c m s)) := by
  go_enter Tryz.func70, Tryz.ntmps70
  go_wp2_with (go_at_call 115; refine (l3Token_key _ _ _ _).mono ?_; rintro e w1 ⟨rfl, hb⟩; unfold tkV keyTk keyEv; obtain ⟨hc, hf⟩ := bcell hb)
  exact bodyPost_ret (v := tkV (keyTk c m s) (.slice none 0 0)) (by simp [results, Tryz.results70, tkV, keyTk, keyEv, go_sem, hc]) rfl (tk_end_plain (tkL (keyTk c m s) (.slice none 0 0)) hb)

set_option maxHeartbeats 1000000 in
theorem isPlain_any (b : Int) (w : World) : Calls Tryz.prog 132 #[.int .u8 b] w fun e w' => e = .returned (.bool (inR b 32 126)) ∧ w = w' := by
  by_cases h : 32 ≤ b
  · go_enter Tryz.func132, Tryz.ntmps132
    go_wp2
    go_ret
    exact ⟨ret_bool (by simp [inR, h]), rfl⟩
  · go_enter Tryz.func132, Tryz.ntmps132
    go_wp2
    go_ret
    exact ⟨ret_bool (by simp [inR]; omega), rfl⟩

set_option maxHeartbeats 1000000 in
theorem specKey_end (b c m : Int) (w : World) (hk : keyB b = keyTk c m 1) {o : Obj} {w1 : World} (hb : Below (w.alloc o).heap.size (w.alloc o) w1) :
    PlainTk w (keyB b) (.returned (tkV (keyTk c m 1) (.slice none 0 0))) (sets w1 w.heap.size 0 (tkL (keyTk c m 1) (.slice none 0 0))) := by
  rw [hk]
  exact tk_end_plain _ hb

set_option maxRecDepth 100000 in
set_option maxHeartbeats 4000000 in
theorem implKeyOfByte_0 (w : World) : Calls Tryz.prog 109 #[.int .u8 9] w (PlainTk w (keyTk 2000002 0 1)) := by
  go_enter Tryz.func109, Tryz.ntmps109
  go_wp2_with (first | (go_at_call 134; refine (keyResult_any _ _ _ _).mono ?_; rintro e w1 ⟨rfl, hb⟩; unfold tkV keyTk keyEv; obtain ⟨hc, hf⟩ := bcell hb) | (go_at_call 132; refine (isPlain_any _ _).mono ?_; rintro e w0 ⟨rfl, rfl⟩))
  exact bodyPost_ret (v := tkV (keyTk 2000002 0 1) (.slice none 0 0)) (by simp [results, Tryz.results109, tkV, keyTk, keyEv, go_sem, hc]) rfl (tk_end_plain (tkL (keyTk 2000002 0 1) (.slice none 0 0)) hb)

set_option maxRecDepth 100000 in
set_option maxHeartbeats 4000000 in
theorem implKeyOfByte_1 (w : World) : Calls Tryz.prog 109 #[.int .u8 13] w (PlainTk w (keyTk 2000001 0 1)) := by
  go_enter Tryz.func109, Tryz.ntmps109
  go_wp2_with (first | (go_at_call 134; refine (keyResult_any _ _ _ _).mono ?_; rintro e w1 ⟨rfl, hb⟩; unfold tkV keyTk keyEv; obtain ⟨hc, hf⟩ := bcell hb) | (go_at_call 132; refine (isPlain_any _ _).mono ?_; rintro e w0 ⟨rfl, rfl⟩))
  exact bodyPost_ret (v := tkV (keyTk 2000001 0 1) (.slice none 0 0)) (by simp [results, Tryz.results109, tkV, keyTk, keyEv, go_sem, hc]) rfl (tk_end_plain (tkL (keyTk 2000001 0 1) (.slice none 0 0)) hb)

set_option maxRecDepth 100000 in
set_option maxHeartbeats 4000000 in
theorem implKeyOfByte_2 (w : World) : Calls Tryz.prog 109 #[.int .u8 27] w (PlainTk w (keyTk 2000004 0 1)) := by
  go_enter Tryz.func109, Tryz.ntmps109
  go_wp2_with (first | (go_at_call 134; refine (keyResult_any _ _ _ _).mono ?_; rintro e w1 ⟨rfl, hb⟩; unfold tkV keyTk keyEv; obtain ⟨hc, hf⟩ := bcell hb) | (go_at_call 132; refine (isPlain_any _ _).mono ?_; rintro e w0 ⟨rfl, rfl⟩))
  exact bodyPost_ret (v := tkV (keyTk 2000004 0 1) (.slice none 0 0)) (by simp [results, Tryz.results109, tkV, keyTk, keyEv, go_sem, hc]) rfl (tk_end_plain (tkL (keyTk 2000004 0 1) (.slice none 0 0)) hb)

set_option maxRecDepth 100000 in
set_option maxHeartbeats 4000000 in
theorem implKeyOfByte_3 (w : World) : Calls Tryz.prog 109 #[.int .u8 127] w (PlainTk w (keyTk 2000003 0 1)) := by
  go_enter Tryz.func109, Tryz.ntmps109
  go_wp2_with (first | (go_at_call 134; refine (keyResult_any _ _ _ _).mono ?_; rintro e w1 ⟨rfl, hb⟩; unfold tkV keyTk keyEv; obtain ⟨hc, hf⟩ := bcell hb) | (go_at_call 132; refine (isPlain_any _ _).mono ?_; rintro e w0 ⟨rfl, rfl⟩))
  exact bodyPost_ret (v := tkV (keyTk 2000003 0 1) (.slice none 0 0)) (by simp [results, Tryz.results109, tkV, keyTk, keyEv, go_sem, hc]) rfl (tk_end_plain (tkL (keyTk 2000003 0 1) (.slice none 0 0)) hb)

set_option maxRecDepth 100000 in
set_option maxHeartbeats 4000000 in
theorem implKeyOfByte_4 (w : World) : Calls Tryz.prog 109 #[.int .u8 0] w (PlainTk w (keyTk 32 4 1)) := by
  go_enter Tryz.func109, Tryz.ntmps109
  go_wp2_with (first | (go_at_call 134; refine (keyResult_any _ _ _ _).mono ?_; rintro e w1 ⟨rfl, hb⟩; unfold tkV keyTk keyEv; obtain ⟨hc, hf⟩ := bcell hb) | (go_at_call 132; refine (isPlain_any _ _).mono ?_; rintro e w0 ⟨rfl, rfl⟩))
  exact bodyPost_ret (v := tkV (keyTk 32 4 1) (.slice none 0 0)) (by simp [results, Tryz.results109, tkV, keyTk, keyEv, go_sem, hc]) rfl (tk_end_plain (tkL (keyTk 32 4 1) (.slice none 0 0)) hb)

set_option maxRecDepth 100000 in
set_option maxHeartbeats 4000000 in
theorem implKeyOfByte_5 (b : Int) (w : World) (hlo : 1 ≤ b) (hhi : b ≤ 26) (h9 : ¬ b = 9) (h13 : ¬ b = 13) : Calls Tryz.prog 109 #[.int .u8 b] w (PlainTk w (keyTk (96 + b) 4 1)) := by
  go_enter Tryz.func109, Tryz.ntmps109
  go_wp2_with (first | (go_at_call 134; refine (keyResult_any _ _ _ _).mono ?_; rintro e w1 ⟨rfl, hb⟩; unfold tkV keyTk keyEv; obtain ⟨hc, hf⟩ := bcell hb) | (go_at_call 132; refine (isPlain_any _ _).mono ?_; rintro e w0 ⟨rfl, rfl⟩))
  exact bodyPost_ret (v := tkV (keyTk (96 + b) 4 1) (.slice none 0 0)) (by simp [results, Tryz.results109, tkV, keyTk, keyEv, go_sem, hc]) rfl (tk_end_plain (tkL (keyTk (96 + b) 4 1) (.slice none 0 0)) hb)

set_option maxRecDepth 100000 in
set_option maxHeartbeats 4000000 in
theorem implKeyOfByte_6 (b : Int) (w : World) (hlo : 32 ≤ b) (hhi : b ≤ 126) : Calls Tryz.prog 109 #[.int .u8 b] w (PlainTk w (keyTk b 0 1)) := by
  have hin : inR b 32 126 = true := by simp [inR, hlo, hhi]
  go_enter Tryz.func109, Tryz.ntmps109
  go_wp2_with (first | (go_at_call 134; refine (keyResult_any _ _ _ _).mono ?_; rintro e w1 ⟨rfl, hb⟩; unfold tkV keyTk keyEv; obtain ⟨hc, hf⟩ := bcell hb) | (go_at_call 132; refine (isPlain_any _ _).mono ?_; rintro e w0 ⟨rfl, rfl⟩))
  exact bodyPost_ret (v := tkV (keyTk b 0 1) (.slice none 0 0)) (by simp [results, Tryz.results109, tkV, keyTk, keyEv, go_sem, hc]) rfl (tk_end_plain (tkL (keyTk b 0 1) (.slice none 0 0)) hb)

set_option maxRecDepth 100000 in
set_option maxHeartbeats 4000000 in
theorem implKeyOfByte_7 (b : Int) (w : World) (hlo : 28 ≤ b) (hne : ¬ b = 127) (hout : b < 32 ∨ 126 < b) : Calls Tryz.prog 109 #[.int .u8 b] w (PlainTk w (badTk 5)) := by
  rcases hout with hout | hout
  all_goals
    have hin : inR b 32 126 = false := by simp [inR]; omega
    go_enter Tryz.func109, Tryz.ntmps109
    go_wp2_with (first | (go_at_call 132; refine (isPlain_any _ _).mono ?_; rintro e w0 ⟨rfl, rfl⟩))
    exact bodyPost_ret (v := tkV (badTk 5) (.slice none 0 0)) (by simp [results, Tryz.results109, tkV, badTk, noEv, go_sem]) rfl ⟨rfl, below_mk _ _⟩

theorem implKeyOfByte_any (b : Int) (w : World) (h0 : 0 ≤ b) : Calls Tryz.prog 109 #[.int .u8 b] w (PlainTk w (keyB b)) := by
  by_cases h1 : b = 9
  · have hk : keyB b = keyTk 2000002 0 1 := by unfold keyB; rw [if_pos h1]
    rw [hk, h1]
    exact implKeyOfByte_0 w
  by_cases h2 : b = 13
  · have hk : keyB b = keyTk 2000001 0 1 := by unfold keyB; rw [if_neg h1, if_pos h2]
    rw [hk, h2]
    exact implKeyOfByte_1 w
  by_cases h3 : b = 27
  · have hk : keyB b = keyTk 2000004 0 1 := by unfold keyB; rw [if_neg h1, if_neg h2, if_pos h3]
    rw [hk, h3]
    exact implKeyOfByte_2 w
  by_cases h4 : b = 127
  · have hk : keyB b = keyTk 2000003 0 1 := by unfold keyB; rw [if_neg h1, if_neg h2, if_neg h3, if_pos h4]
    rw [hk, h4]
    exact implKeyOfByte_3 w
  by_cases h5 : b = 0
  · have hk : keyB b = keyTk 32 4 1 := by unfold keyB; rw [if_neg h1, if_neg h2, if_neg h3, if_neg h4, if_pos h5]
    rw [hk, h5]
    exact implKeyOfByte_4 w
  by_cases h6 : b ≤ 26
  · have hk : keyB b = keyTk (96 + b) 4 1 := by unfold keyB; rw [if_neg h1, if_neg h2, if_neg h3, if_neg h4, if_neg h5, if_pos h6]
    rw [hk]
    exact implKeyOfByte_5 b w (by omega) (by omega) h1 h2
  by_cases h7 : 32 ≤ b ∧ b ≤ 126
  · have hk : keyB b = keyTk b 0 1 := by unfold keyB; rw [if_neg h1, if_neg h2, if_neg h3, if_neg h4, if_neg h5, if_neg h6, if_pos h7]
    rw [hk]
    exact implKeyOfByte_6 b w (by omega) (by omega)
  · have hk : keyB b = badTk 5 := by unfold keyB; rw [if_neg h1, if_neg h2, if_neg h3, if_neg h4, if_neg h5, if_neg h6, if_neg h7]
    rw [hk]
    exact implKeyOfByte_7 b w (by omega) (by omega) (by omega)

set_option maxRecDepth 100000 in
set_option maxHeartbeats 4000000 in
theorem specKeyOfByte_0 (w : World) : Calls Tryz.prog 67 #[.int .u8 9] w (PlainTk w (keyTk 2000002 0 1)) := by
  go_enter Tryz.func67, Tryz.ntmps67
  go_wp2_with (first | (go_at_call 70; refine (l3Key_any _ _ _ _).mono ?_; rintro e w1 ⟨rfl, hb⟩; unfold tkV keyTk keyEv; obtain ⟨hc, hf⟩ := bcell hb))
  exact bodyPost_ret (v := tkV (keyTk 2000002 0 1) (.slice none 0 0)) (by simp [results, Tryz.results67, tkV, keyTk, keyEv, go_sem, hc]) rfl (tk_end_plain (tkL (keyTk 2000002 0 1) (.slice none 0 0)) hb)

set_option maxRecDepth 100000 in
set_option maxHeartbeats 4000000 in
theorem specKeyOfByte_1 (w : World) : Calls Tryz.prog 67 #[.int .u8 13] w (PlainTk w (keyTk 2000001 0 1)) := by
  go_enter Tryz.func67, Tryz.ntmps67
  go_wp2_with (first | (go_at_call 70; refine (l3Key_any _ _ _ _).mono ?_; rintro e w1 ⟨rfl, hb⟩; unfold tkV keyTk keyEv; obtain ⟨hc, hf⟩ := bcell hb))
  exact bodyPost_ret (v := tkV (keyTk 2000001 0 1) (.slice none 0 0)) (by simp [results, Tryz.results67, tkV, keyTk, keyEv, go_sem, hc]) rfl (tk_end_plain (tkL (keyTk 2000001 0 1) (.slice none 0 0)) hb)

set_option maxRecDepth 100000 in
set_option maxHeartbeats 4000000 in
theorem specKeyOfByte_2 (w : World) : Calls Tryz.prog 67 #[.int .u8 27] w (PlainTk w (keyTk 2000004 0 1)) := by
  go_enter Tryz.func67, Tryz.ntmps67
  go_wp2_with (first | (go_at_call 70; refine (l3Key_any _ _ _ _).mono ?_; rintro e w1 ⟨rfl, hb⟩; unfold tkV keyTk keyEv; obtain ⟨hc, hf⟩ := bcell hb))
  exact bodyPost_ret (v := tkV (keyTk 2000004 0 1) (.slice none 0 0)) (by simp [results, Tryz.results67, tkV, keyTk, keyEv, go_sem, hc]) rfl (tk_end_plain (tkL (keyTk 2000004 0 1) (.slice none 0 0)) hb)

set_option maxRecDepth 100000 in
set_option maxHeartbeats 4000000 in
theorem specKeyOfByte_3 (w : World) : Calls Tryz.prog 67 #[.int .u8 127] w (PlainTk w (keyTk 2000003 0 1)) := by
  go_enter Tryz.func67, Tryz.ntmps67
  go_wp2_with (first | (go_at_call 70; refine (l3Key_any _ _ _ _).mono ?_; rintro e w1 ⟨rfl, hb⟩; unfold tkV keyTk keyEv; obtain ⟨hc, hf⟩ := bcell hb))
  exact bodyPost_ret (v := tkV (keyTk 2000003 0 1) (.slice none 0 0)) (by simp [results, Tryz.results67, tkV, keyTk, keyEv, go_sem, hc]) rfl (tk_end_plain (tkL (keyTk 2000003 0 1) (.slice none 0 0)) hb)

set_option maxRecDepth 100000 in
set_option maxHeartbeats 4000000 in
theorem specKeyOfByte_4 (w : World) : Calls Tryz.prog 67 #[.int .u8 0] w (PlainTk w (keyTk 32 4 1)) := by
  go_enter Tryz.func67, Tryz.ntmps67
  go_wp2_with (first | (go_at_call 70; refine (l3Key_any _ _ _ _).mono ?_; rintro e w1 ⟨rfl, hb⟩; unfold tkV keyTk keyEv; obtain ⟨hc, hf⟩ := bcell hb))
  exact bodyPost_ret (v := tkV (keyTk 32 4 1) (.slice none 0 0)) (by simp [results, Tryz.results67, tkV, keyTk, keyEv, go_sem, hc]) rfl (tk_end_plain (tkL (keyTk 32 4 1) (.slice none 0 0)) hb)

set_option maxRecDepth 100000 in
set_option maxHeartbeats 4000000 in
theorem specKeyOfByte_5 (b : Int) (w : World) (hlo : 1 ≤ b) (hhi : b ≤ 26) (h9 : ¬ b = 9) (h13 : ¬ b = 13) : Calls Tryz.prog 67 #[.int .u8 b] w (PlainTk w (keyTk (97 + b - 1) 4 1)) := by
  go_enter Tryz.func67, Tryz.ntmps67
  go_wp2_with (first | (go_at_call 70; refine (l3Key_any _ _ _ _).mono ?_; rintro e w1 ⟨rfl, hb⟩; unfold tkV keyTk keyEv; obtain ⟨hc, hf⟩ := bcell hb))
  exact bodyPost_ret (v := tkV (keyTk (97 + b - 1) 4 1) (.slice none 0 0)) (by simp [results, Tryz.results67, tkV, keyTk, keyEv, go_sem, hc]) rfl (tk_end_plain (tkL (keyTk (97 + b - 1) 4 1) (.slice none 0 0)) hb)

set_option maxRecDepth 100000 in
set_option maxHeartbeats 4000000 in
theorem specKeyOfByte_6 (b : Int) (w : World) (hlo : 32 ≤ b) (hhi : b ≤ 126) : Calls Tryz.prog 67 #[.int .u8 b] w (PlainTk w (keyTk b 0 1)) := by
  go_enter Tryz.func67, Tryz.ntmps67
  go_wp2_with (first | (go_at_call 70; refine (l3Key_any _ _ _ _).mono ?_; rintro e w1 ⟨rfl, hb⟩; unfold tkV keyTk keyEv; obtain ⟨hc, hf⟩ := bcell hb))
  exact bodyPost_ret (v := tkV (keyTk b 0 1) (.slice none 0 0)) (by simp [results, Tryz.results67, tkV, keyTk, keyEv, go_sem, hc]) rfl (tk_end_plain (tkL (keyTk b 0 1) (.slice none 0 0)) hb)

set_option maxRecDepth 100000 in
set_option maxHeartbeats 4000000 in
theorem specKeyOfByte_7 (b : Int) (w : World) (hlo : 28 ≤ b) (hne : ¬ b = 127) (hout : b < 32 ∨ 126 < b) : Calls Tryz.prog 67 #[.int .u8 b] w (PlainTk w (badTk 5)) := by
  rcases hout with hout | hout
  all_goals
    go_enter Tryz.func67, Tryz.ntmps67
    go_wp2_with (first | (go_at_call 65; refine (l3Bad_any _ _).mono ?_; rintro e w1 ⟨rfl, hb⟩; unfold tkV badTk noEv; obtain ⟨hc, hf⟩ := bcell hb))
    all_goals first | (exfalso; omega) | exact bodyPost_ret (v := tkV (badTk 5) (.slice none 0 0)) (by simp [results, Tryz.results67, tkV, badTk, noEv, go_sem, hc]) rfl (tk_end_plain (tkL (badTk 5) (.slice none 0 0)) hb)

theorem specKeyOfByte_any (b : Int) (w : World) (h0 : 0 ≤ b) : Calls Tryz.prog 67 #[.int .u8 b] w (PlainTk w (keyB b)) := by
  by_cases h1 : b = 9
  · have hk : keyB b = keyTk 2000002 0 1 := by unfold keyB; rw [if_pos h1]
    rw [hk, h1]
    exact specKeyOfByte_0 w
  by_cases h2 : b = 13
  · have hk : keyB b = keyTk 2000001 0 1 := by unfold keyB; rw [if_neg h1, if_pos h2]
    rw [hk, h2]
    exact specKeyOfByte_1 w
  by_cases h3 : b = 27
  · have hk : keyB b = keyTk 2000004 0 1 := by unfold keyB; rw [if_neg h1, if_neg h2, if_pos h3]
    rw [hk, h3]
    exact specKeyOfByte_2 w
  by_cases h4 : b = 127
  · have hk : keyB b = keyTk 2000003 0 1 := by unfold keyB; rw [if_neg h1, if_neg h2, if_neg h3, if_pos h4]
    rw [hk, h4]
    exact specKeyOfByte_3 w
  by_cases h5 : b = 0
  · have hk : keyB b = keyTk 32 4 1 := by unfold keyB; rw [if_neg h1, if_neg h2, if_neg h3, if_neg h4, if_pos h5]
    rw [hk, h5]
    exact specKeyOfByte_4 w
  by_cases h6 : b ≤ 26
  · have hk : keyB b = keyTk (96 + b) 4 1 := by unfold keyB; rw [if_neg h1, if_neg h2, if_neg h3, if_neg h4, if_neg h5, if_pos h6]
    rw [hk, show 96 + b = 97 + b - 1 by omega]
    exact specKeyOfByte_5 b w (by omega) (by omega) h1 h2
  by_cases h7 : 32 ≤ b ∧ b ≤ 126
  · have hk : keyB b = keyTk b 0 1 := by unfold keyB; rw [if_neg h1, if_neg h2, if_neg h3, if_neg h4, if_neg h5, if_neg h6, if_pos h7]
    rw [hk]
    exact specKeyOfByte_6 b w (by omega) (by omega)
  · have hk : keyB b = badTk 5 := by unfold keyB; rw [if_neg h1, if_neg h2, if_neg h3, if_neg h4, if_neg h5, if_neg h6, if_neg h7]
    rw [hk]
    exact specKeyOfByte_7 b w (by omega) (by omega) (by omega)

end Go.Proofs.YtbnpodledgaipaaGreatDoor

/- Fields of a token's value. -/
namespace Go.Proofs.YtbnpodledgaipaaGreatDoor
open Go.RowKit

theorem fld_token (a0 a1 a2 a3 a4 a5 a6 a7 a8 a9 a10 a11 : Value) (w : World) : (Instr.field 30 (.agg #[a0, a1, a2, a3, a4, a5, a6, a7, a8, a9, a10, a11]) 1).run Tryz.prog w = .ok (.agg #[a1, a2, a3, a4, a5, a6, a7, a8, a9, a10, a11]) w := by kernel_rfl
theorem fld_code (a0 a1 a2 a3 a4 a5 a6 a7 a8 a9 a10 a11 : Value) (w : World) : (Instr.field 30 (.agg #[a0, a1, a2, a3, a4, a5, a6, a7, a8, a9, a10, a11]) 0).run Tryz.prog w = .ok a0 w := by kernel_rfl
theorem fld_event (a1 a2 a3 a4 a5 a6 a7 a8 a9 a10 a11 : Value) (w : World) : (Instr.field 28 (.agg #[a1, a2, a3, a4, a5, a6, a7, a8, a9, a10, a11]) 0).run Tryz.prog w = .ok (.agg #[a1, a2, a3, a4, a5, a6, a7, a8]) w := by kernel_rfl
theorem fld_evcode (a1 a2 a3 a4 a5 a6 a7 a8 : Value) (w : World) : (Instr.field 26 (.agg #[a1, a2, a3, a4, a5, a6, a7, a8]) 1).run Tryz.prog w = .ok a2 w := by kernel_rfl

end Go.Proofs.YtbnpodledgaipaaGreatDoor

/- The contracts of eqTokenResult, markTokenResult, heldTokenResult. -/
namespace Go.Proofs.YtbnpodledgaipaaGreatDoor
open Go.RowKit



theorem grown_mk {w w' : World} {o : Obj} {row : Option Nat} (h : (w.alloc o).grownBy w' row) : w.grownBy w' row :=
  grown_trans (grown_of_below (below_mk w o) row) h







end Go.Proofs.YtbnpodledgaipaaGreatDoor

/- What the laws over tokens share: a token in a block, and the helpers at a token without data. -/
namespace Go.Proofs.YtbnpodledgaipaaGreatDoor
open Go.RowKit

/-- the twelve cells of a token in a block -/
structure TkAt (w : World) (b : Nat) (t : Tk) (v : Value) : Prop where
  c0 : w.cell? ⟨b, 0, none⟩ = some (.int .i64 t.code)
  c1 : w.cell? ⟨b, 1, none⟩ = some (.int .i64 t.ev.kind)
  c2 : w.cell? ⟨b, 2, none⟩ = some (.int .i64 t.ev.code)
  c3 : w.cell? ⟨b, 3, none⟩ = some (.int .i64 t.ev.mods)
  c4 : w.cell? ⟨b, 4, none⟩ = some (.int .i64 t.ev.button)
  c5 : w.cell? ⟨b, 5, none⟩ = some (.int .i64 t.ev.act)
  c6 : w.cell? ⟨b, 6, none⟩ = some (.int .i64 t.ev.col)
  c7 : w.cell? ⟨b, 7, none⟩ = some (.int .i64 t.ev.row)
  c8 : w.cell? ⟨b, 8, none⟩ = some v
  c9 : w.cell? ⟨b, 9, none⟩ = some (.int .i64 t.size)
  c10 : w.cell? ⟨b, 10, none⟩ = some (.bool t.paste)
  c11 : w.cell? ⟨b, 11, none⟩ = some (.bool t.none)
theorem AtL.tk {w : World} {b : Nat} {t : Tk} {v : Value} (h : AtL w b (tkL t v)) : TkAt w b t v :=
  ⟨h.get 0 rfl, h.get 1 rfl, h.get 2 rfl, h.get 3 rfl, h.get 4 rfl, h.get 5 rfl, h.get 6 rfl, h.get 7 rfl, h.get 8 rfl, h.get 9 rfl, h.get 10 rfl, h.get 11 rfl⟩




end Go.Proofs.YtbnpodledgaipaaGreatDoor

/- What the laws over tokens of bytes share: the argument's copy as a slice of the call's own. -/
namespace Go.Proofs.YtbnpodledgaipaaGreatDoor
open Go.RowKit

/-- toByteS: a slice of the call's own -/
def NewXb (w : World) (l : List UInt8) (e : Ending) (w' : World) : Prop :=
  ∃ g, e = .returned (.slice (some ⟨g, 0, none⟩) l.length l.length) ∧ g = w.heap.size ∧ Own w' w.heap.size (.slice (some ⟨g, 0, none⟩) l.length l.length) l ∧ Below w.heap.size w w'
theorem toByteS_x (p : Option Addr) (c : Nat) (l : List UInt8) (w : World) (h : Bs w w.heap.size p l) (hl : l.length ≤ 1048576) :
    Calls Tryz.prog 41 #[.slice p l.length c] w (NewXb w l) :=
  (toByteS_any p c l w h hl).mono fun _ _ ⟨he, hw⟩ => ⟨_, he, rfl, by subst hw; exact own_lit w l _ _ _ rfl rfl rfl hl, by subst hw; exact below_mk _ _⟩

end Go.Proofs.YtbnpodledgaipaaGreatDoor
