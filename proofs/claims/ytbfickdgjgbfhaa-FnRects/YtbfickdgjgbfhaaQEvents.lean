/- Events as plain data, and the contracts of what reads one: the model's l1Point, l1Key, l1Form, EventFault. -/
import Derived.Test.YtbfickdgjgbfhaaQNumsToLyTree3
import Derived.Test.YtbfickdgjgbfhaaQBytesToCells
namespace Go.Proofs.Ytbfickdgjgbfhaa
open Go.RowKit

/-- a code point -/
def point (p : Int) : Bool := inR p 0 1114111 && !inR p 55296 57343
/-- a key's code -/
def keyCode (c : Int) : Bool := (point c && decide (32 ≤ c) && (c != 127)) || special c





/-- an event as data -/
structure Ev where
  kind : Int
  code : Int
  mods : Int
  button : Int
  act : Int
  col : Int
  row : Int
  data : List UInt8

/-- an event as a value: its data lie at p -/
def evV (e : Ev) (p : Option Addr) (c : Nat) : Value :=
  .agg #[.int .i64 e.kind, .int .i64 e.code, .int .i64 e.mods, .int .i64 e.button, .int .i64 e.act, .int .i64 e.col, .int .i64 e.row, .slice p e.data.length c]

/-- its cells -/
def evC (e : Ev) (p : Option Addr) (c : Nat) : Array Value :=
  #[.int .i64 e.kind, .int .i64 e.code, .int .i64 e.mods, .int .i64 e.button, .int .i64 e.act, .int .i64 e.col, .int .i64 e.row, .slice p e.data.length c]

/-- block b, from off on, holds an event -/
structure EvAt (w : World) (b off : Nat) (e : Ev) (p : Option Addr) (c : Nat) : Prop where
  c0 : w.cell? ⟨b, off, none⟩ = some (.int .i64 e.kind)
  c1 : w.cell? ⟨b, off + 1, none⟩ = some (.int .i64 e.code)
  c2 : w.cell? ⟨b, off + 2, none⟩ = some (.int .i64 e.mods)
  c3 : w.cell? ⟨b, off + 3, none⟩ = some (.int .i64 e.button)
  c4 : w.cell? ⟨b, off + 4, none⟩ = some (.int .i64 e.act)
  c5 : w.cell? ⟨b, off + 5, none⟩ = some (.int .i64 e.col)
  c6 : w.cell? ⟨b, off + 6, none⟩ = some (.int .i64 e.row)
  c7 : w.cell? ⟨b, off + 7, none⟩ = some (.slice p e.data.length c)

theorem EvAt.keep {w w' : World} {b off : Nat} {e : Ev} {p : Option Addr} {c : Nat} (h : EvAt w b off e p c) (hk : ∀ o, w'.cell? ⟨b, o, none⟩ = w.cell? ⟨b, o, none⟩) : EvAt w' b off e p c :=
  ⟨(hk _).trans h.c0, (hk _).trans h.c1, (hk _).trans h.c2, (hk _).trans h.c3, (hk _).trans h.c4, (hk _).trans h.c5, (hk _).trans h.c6, (hk _).trans h.c7⟩
theorem EvAt.below {w w' : World} {b off B : Nat} {e : Ev} {p : Option Addr} {c : Nat} (h : EvAt w b off e p c) (hb : Below B w w') (hB : b < B) : EvAt w' b off e p c :=
  h.keep fun o => hb.cell (p := ⟨b, o, none⟩) hB
theorem EvAt.lt {w : World} {b off : Nat} {e : Ev} {p : Option Addr} {c : Nat} (h : EvAt w b off e p c) : b < w.heap.size := World.block_lt_of_cell? _ _ h.c0
theorem EvAt.new (w : World) (e : Ev) (p : Option Addr) (c : Nat) (t : TypeId) : EvAt (w.alloc (.cells (evC e p c) t)) w.heap.size 0 e p c := by
  constructor <;> simp [evC]

/-- what an event has not is zero -/
def Ev.form (e : Ev) : Bool :=
  if e.kind = 1 then (e.button == 0 && (e.act == 0 && (e.col == 0 && e.row == 0))) && e.data.isEmpty
  else if e.kind = 2 then e.code == 0 && e.data.isEmpty
  else if e.kind = 3 ∨ e.kind = 4 then e.code == 0 && (e.mods == 0 && (e.button == 0 && (e.act == 0 && (e.col == 0 && e.row == 0))))
  else false

theorem len_zero (l : List UInt8) : ((l.length : Int) == 0) = l.isEmpty := by
  cases l with
  | nil => rfl
  | cons x r => simp; omega

end Go.Proofs.Ytbfickdgjgbfhaa
