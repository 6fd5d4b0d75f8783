/- Tokens as plain data, and the contracts of what makes one: keyToken, keyResult; the model's l3Token, l3Key, l3Bad. -/
import Derived.Test.YtbfickdgjgbfhaaQFaultToLws
import Derived.Test.YtbfickdgjgbfhaaQPutToMarks
import Derived.Test.YtbfickdgjgbfhaaQBytesToCells
namespace Go.Proofs.Ytbfickdgjgbfhaa
open Go.RowKit

/-- a TokenResult as data -/
structure Tk where
  code : Int
  ev : Ev
  size : Int
  paste : Bool
  none : Bool

/-- no event -/
def noEv : Ev := ⟨0, 0, 0, 0, 0, 0, 0, []⟩
def keyEv (code mods : Int) : Ev := ⟨1, code, mods, 0, 0, 0, 0, []⟩
def keyTk (code mods size : Int) : Tk := ⟨0, keyEv code mods, size, false, false⟩
def badTk (c : Int) : Tk := ⟨c, noEv, 0, false, false⟩

/-- a Token as a value, its data at v -/
def tokV (e : Ev) (v : Value) (size : Int) (paste none : Bool) : Value :=
  .agg #[.int .i64 e.kind, .int .i64 e.code, .int .i64 e.mods, .int .i64 e.button, .int .i64 e.act, .int .i64 e.col, .int .i64 e.row, v, .int .i64 size, .bool paste, .bool none]
/-- a TokenResult as a value, its data at v -/
def tkV (t : Tk) (v : Value) : Value :=
  .agg #[.int .i64 t.code, .int .i64 t.ev.kind, .int .i64 t.ev.code, .int .i64 t.ev.mods, .int .i64 t.ev.button, .int .i64 t.ev.act, .int .i64 t.ev.col, .int .i64 t.ev.row, v, .int .i64 t.size, .bool t.paste, .bool t.none]
/-- its cells -/
def tkL (t : Tk) (v : Value) : List Value :=
  [.int .i64 t.code, .int .i64 t.ev.kind, .int .i64 t.ev.code, .int .i64 t.ev.mods, .int .i64 t.ev.button, .int .i64 t.ev.act, .int .i64 t.ev.col, .int .i64 t.ev.row, v, .int .i64 t.size, .bool t.paste, .bool t.none]

/-- what a call leaves that hands back a token without data -/
def PlainTk (w : World) (t : Tk) (e : Ending) (w' : World) : Prop := e = .returned (tkV t (.slice none 0 0)) ∧ Below w.heap.size w w'
/-- what a call leaves that hands back a token with data of its own -/
def NewTk (w : World) (t : Tk) (e : Ending) (w' : World) : Prop := ∃ v, e = .returned (tkV t v) ∧ Own w' w.heap.size v t.ev.data ∧ Below w.heap.size w w'
theorem PlainTk.new {w : World} {t : Tk} {e : Ending} {w' : World} (ht : t.ev.data = []) (h : PlainTk w t e w') : NewTk w t e w' := ⟨_, h.1, by rw [ht]; exact own_nil _ _, h.2⟩

/-- a result's twelve cells, written -/
def sets (w : World) (b : Nat) : Nat → List Value → World
  | _, [] => w
  | i, v :: r => sets (w.setCell ⟨b, i, none⟩ v) b (i + 1) r
theorem sets_below {B b : Nat} (hB : B ≤ b) : ∀ (vs : List Value) (i : Nat) (a w : World), Below B a w → Below B a (sets w b i vs)
  | [], _, _, _, h => h
  | _ :: r, i, a, _, h => sets_below hB r (i + 1) a _ (h.setCell hB _)
theorem sets_own {b base : Nat} {v : Value} {l : List UInt8} (hb : b < base) : ∀ (vs : List Value) (i : Nat) (w : World), Own w base v l → Own (sets w b i vs) base v l
  | [], _, _, h => h
  | _ :: r, i, _, h => sets_own hb r (i + 1) _ (h.setBelow (a := ⟨b, i, none⟩) hb _)

/-- the result's cells written behind the callee's own memory -/
theorem tk_end {w w1 : World} {o : Obj} {t : Tk} {v : Value} (vs : List Value) (ho : Own w1 (w.alloc o).heap.size v t.ev.data) (hb : Below (w.alloc o).heap.size (w.alloc o) w1) :
    NewTk w t (.returned (tkV t v)) (sets w1 w.heap.size 0 vs) :=
  ⟨v, rfl, (sets_own (by simp) vs 0 _ ho).lower (by simp), sets_below (Nat.le_refl _) vs 0 _ _ (below_on (below_mk _ o) hb)⟩
theorem tk_end_plain {w w1 : World} {o : Obj} {t : Tk} (vs : List Value) (hb : Below (w.alloc o).heap.size (w.alloc o) w1) :
    PlainTk w t (.returned (tkV t (.slice none 0 0))) (sets w1 w.heap.size 0 vs) :=
  ⟨rfl, sets_below (Nat.le_refl _) vs 0 _ _ (below_on (below_mk _ o) hb)⟩



end Go.Proofs.Ytbfickdgjgbfhaa
