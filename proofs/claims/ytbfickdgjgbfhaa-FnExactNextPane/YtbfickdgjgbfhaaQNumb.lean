/- The plain facts on decimal digits, and the contracts of NumberOf (of the model and of the program). -/
import Derived.Test.YtbfickdgjgbfhaaQBytesToCells
import Derived.Lib.MinMax
namespace Go.Proofs.Ytbfickdgjgbfhaa
open Go.RowKit

/-- a byte is a decimal digit -/
def dgt (b : UInt8) : Bool := decide (48 ≤ (b.toNat : Int)) && decide ((b.toNat : Int) ≤ 57)
/-- one digit more, at most 9999999 -/
def numStep (v : Int) (b : UInt8) : Int := if v * 10 + ((b.toNat : Int) - 48) < 9999999 then v * 10 + ((b.toNat : Int) - 48) else 9999999
/-- the number of a row of digits -/
def numV (l : List UInt8) : Int := l.foldl numStep 0
def dgts (l : List UInt8) : Bool := l.all dgt

theorem dgt_range {b : UInt8} (h : dgt b = true) : 48 ≤ (b.toNat : Int) ∧ (b.toNat : Int) ≤ 57 := by
  simpa [dgt] using h
theorem numStep_range {v : Int} {b : UInt8} (h : dgt b = true) (h0 : 0 ≤ v) (h1 : v ≤ 9999999) : 0 ≤ numStep v b ∧ numStep v b ≤ 9999999 := by
  have := dgt_range h
  unfold numStep
  split <;> omega
theorem numV_snoc (l : List UInt8) (b : UInt8) : numV (l ++ [b]) = numStep (numV l) b := by simp [numV]
theorem foldl_range (l : List UInt8) (h : dgts l = true) : ∀ v : Int, 0 ≤ v → v ≤ 9999999 → 0 ≤ l.foldl numStep v ∧ l.foldl numStep v ≤ 9999999 := by
  induction l with
  | nil => intro v h0 h1; exact ⟨h0, h1⟩
  | cons b l ih =>
    intro v h0 h1
    simp only [dgts, List.all_cons, Bool.and_eq_true] at h
    have := numStep_range h.1 h0 h1
    exact ih h.2 _ this.1 this.2
theorem numV_range {l : List UInt8} (h : dgts l = true) : 0 ≤ numV l ∧ numV l ≤ 9999999 := foldl_range l h 0 (by omega) (by omega)
theorem numV_take (l : List UInt8) (k : Nat) (h : k < l.length) : numV (l.take (k + 1)) = numStep (numV (l.take k)) (l.getD k 0) := by
  rw [List.take_succ_eq_append_getElem h, numV_snoc, List.getD_eq_getElem?_getD, List.getElem?_eq_getElem h]
  rfl
theorem dgts_take (l : List UInt8) (k : Nat) (h : k < l.length) : dgts (l.take (k + 1)) = (dgts (l.take k) && dgt (l.getD k 0)) := by
  unfold dgts
  rw [List.take_succ_eq_append_getElem h, List.all_append, List.getD_eq_getElem?_getD, List.getElem?_eq_getElem h]
  simp
theorem dgts_no (l : List UInt8) (k : Nat) (h : k < l.length) (hz : dgt (l.getD k 0) = false) : dgts l = false := by
  rw [List.getD_eq_getElem?_getD, List.getElem?_eq_getElem h] at hz
  simp only [dgts, List.all_eq_false]
  exact ⟨_, List.getElem_mem h, by simpa using hz⟩
theorem dgts_at {l : List UInt8} (h : dgts l = true) (k : Nat) (hk : k < l.length) : dgt (l.getD k 0) = true := by
  rw [List.getD_eq_getElem?_getD, List.getElem?_eq_getElem hk]
  simp only [dgts, List.all_eq_true] at h
  exact h _ (List.getElem_mem hk)





/-- the lesser of two numbers -/
def lesser (a b : Int) : Int := if a < b then a else b

set_option maxHeartbeats 400000 in
theorem l1Min_any (a b : Int) (w : World) :
    Calls Try.prog 90 #[.int .i64 a, .int .i64 b] w fun e w' => e = .returned (.int .i64 (lesser a b)) ∧ w = w' := by
  by_cases h1 : a < b
  · go_enter Try.func90, Try.ntmps90
    go_wp2
    go_ret
    exact ⟨ret_int (by simp [lesser, h1]), rfl⟩
  · go_enter Try.func90, Try.ntmps90
    go_wp2
    go_ret
    exact ⟨ret_int (by unfold lesser; rw [if_neg (by omega)]), rfl⟩

theorem numStep_lesser (v : Int) (b : UInt8) : numStep v b = lesser (v * 10 + ((b.toNat : Int) - 48)) 9999999 := rfl



/-- an IntResult as a value -/
def irV (code v : Int) : Value := .agg #[.int .i64 code, .int .i64 v]
def numCode (l : List UInt8) : Int := if dgts l = true then 0 else 5
def numRes (l : List UInt8) : Int := if dgts l = true then numV l else 0
theorem numRes_range (l : List UInt8) : 0 ≤ numRes l ∧ numRes l ≤ 9999999 := by
  unfold numRes
  split
  · exact numV_range (by assumption)
  · omega

/-- what a call leaves that hands back a code and a number -/
def RetIr (w : World) (code v : Int) (e : Ending) (w' : World) : Prop := e = .returned (irV code v) ∧ Below w.heap.size w w'





set_option maxHeartbeats 1000000 in
theorem eqIntResult_same (code v : Int) (w : World) :
    Calls Try.prog 25 #[irV code v, irV code v] w fun e w' => e = .returned (.bool true) ∧ Below w.heap.size w w' := by
  have h1 : (code != code) = false := by simp
  have h2 : (v != v) = false := by simp
  unfold irV
  go_enter Try.func25, Try.ntmps25
  go_wp2
  go_ret
  exact ⟨rfl, ((Below.refl _ _).alloc (Nat.le_refl _) _).alloc (by simp) _⟩

end Go.Proofs.Ytbfickdgjgbfhaa
