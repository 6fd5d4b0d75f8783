/- The key of parts: the program's modsOfNumbers, codeOfLetter, codeOfNumber, codeOfPoint, codeOfParts. -/
import Derived.Test.YtjopjddhgaiddaaDoorQTokToFields
import Derived.Test.YtjopjddhgaiddaaDoorQPiecesInToPartsImpl
namespace Go.Proofs.YtjopjddhgaiddaaDoor
open Go.RowKit

/-- the modifiers of numbers, and whether they are defined -/
def modsT : List Int → Int × Bool
  | [] => (0, true)
  | [_] => (0, true)
  | [_, m] => if 1 ≤ m ∧ m ≤ 8 then (m - 1, true) else (0, false)
  | _ => (0, false)
/-- the key of a final letter -/
def letterK (c : Int) : Int := if c = 65 then 2000005 else if c = 66 then 2000006 else if c = 67 then 2000007 else if c = 68 then 2000008 else if c = 72 then 2000009 else if c = 70 then 2000010 else 0
/-- the key of a number -/
def tildeK (n : Int) : Int := if n = 1 then 2000009 else if n = 2 then 2000011 else if n = 3 then 2000012 else if n = 4 then 2000010 else if n = 5 then 2000013 else if n = 6 then 2000014 else 0
/-- the key of a code -/
def codedK (n : Int) : Int := if n = 13 then 2000001 else if n = 9 then 2000002 else if n = 127 then 2000003 else if n = 27 then 2000004 else if (point n && decide (32 ≤ n)) = true then n else 0

theorem Is.cons {w : World} {B : Nat} {p : Option Addr} {x : Int} {r : List Int} (h : Is w B p (x :: r)) : ∃ b off, p = some ⟨b, off, none⟩ ∧ b < B ∧ ∀ i, i < r.length + 1 → w.cell? ⟨b, off + i, none⟩ = some (.int .i64 ((x :: r).getD i 0)) := h (by simp)







def pointT (n : Int) : Int × Bool := if n = 13 ∨ n = 9 ∨ n = 127 ∨ n = 27 then (codedK n, true) else (n, point n && decide (32 ≤ n))
theorem keyB_13 : keyB 13 = keyTk 2000001 0 1 := rfl
theorem keyB_9 : keyB 9 = keyTk 2000002 0 1 := rfl
theorem keyB_127 : keyB 127 = keyTk 2000003 0 1 := rfl
theorem keyB_27 : keyB 27 = keyTk 2000004 0 1 := rfl







end Go.Proofs.YtjopjddhgaiddaaDoor
