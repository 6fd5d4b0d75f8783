/- The draws of stage 1 that hand back bytes: l1Some, l1Copy. -/
import Derived.Test.YtcchhlcgamcceaaDraws2
import Derived.Test.YtcchhlcgamcceaaPut
namespace Go.Proofs.Ytcchhlcgamcceaa
open Go.RowKit

theorem grownBy_on {a b c : World} {g : Nat} {row : Option Nat} (h : a.grownBy b (some g)) (k : b.grownBy c row) (hr : ∀ j, row = some j → a.heap.size ≤ j ∨ j = g) : a.grownBy c (some g) := by
  refine ⟨k.os.trans h.os, k.tape.trans h.tape, k.output.trans h.output, Nat.le_trans h.size k.size, fun i hi hne => (k.block i (Nat.lt_of_lt_of_le hi h.size) ?_).trans (h.block i hi hne)⟩
  intro e
  rcases hr i e.symm with h1 | h1
  · omega
  · exact hne (by rw [h1])

theorem Src.grown {w w' : World} {g : Nat} {q : Option Addr} {c : Nat} {l : List UInt8} {N : Nat} {row : Option Nat} (h : Src w g q c l N) (k : w.grownBy w' row) (hr : ∀ j, row = some j → g < j) : Src w' g q c l N := by
  obtain ⟨n, hn, h, hg⟩ := h
  have hb : ∀ i, i ≤ g → w'.heap[i]? = w.heap[i]? := fun i hi => k.block i (by omega) (fun e => by have := hr i e.symm; omega)
  have hb0 := hb g (Nat.le_refl _)
  exact ⟨n, hn, ⟨(World.cell?_of_block hb0).trans h.code, (World.cell?_of_block hb0).trans h.read, fun o => (World.frozen?_of_block hb0).trans (h.free o), h.bytes.keep (Nat.le_refl _) fun a ha => World.cell?_of_block (hb a.block (by omega))⟩, Nat.lt_of_lt_of_le hg k.size⟩

theorem Src.more {w : World} {g : Nat} {q : Option Addr} {c : Nat} {l : List UInt8} {N M : Nat} (h : Src w g q c l N) (hm : N ≤ M) : Src w g q c l M := by
  obtain ⟨n, hn, h, hg⟩ := h
  exact ⟨n, by omega, h, hg⟩

/-- what a draw of k bytes leaves -/
def SomePost (w : World) (g : Nat) (q : Option Addr) (c : Nat) (l : List UInt8) (N : Nat) (k : Nat) (e : Ending) (w' : World) : Prop :=
  ∃ v bs, e = .returned v ∧ bs.length = k ∧ Own w' w.heap.size v bs ∧ Src w' g q c l (N + k) ∧ w.grownBy w' (some g)

/-- .. and that it is not nil -/
def SomePlus (w : World) (g : Nat) (q : Option Addr) (c : Nat) (l : List UInt8) (N : Nat) (k : Nat) (e : Ending) (w' : World) : Prop :=
  ∃ v bs, e = .returned v ∧ bs.length = k ∧ Own w' w.heap.size v bs ∧ Src w' g q c l (N + k) ∧ w.grownBy w' (some g) ∧ v ≠ .slice none 0 0

/-- the loop's relation -/
def SomeRel (w : World) (g : Nat) (q : Option Addr) (c : Nat) (l : List UInt8) (N k : Nat) (n out : Value) (wr : World) : Prop :=
  ∃ (j : Nat) (bs : List UInt8), n = .int .i64 j ∧ bs.length + j = k ∧ Own wr w.heap.size out bs ∧ Src wr g q c l (N + bs.length) ∧ w.grownBy wr (some g) ∧ out ≠ .slice none 0 0

theorem Own.next {w2 : World} {base : Nat} {v' : Value} {bs : List UInt8} {x : Nat} (hx : x < 256) (h : w2.ownsRow base 5 1 v' (bs.length + 1) (bs.map (fun x : UInt8 => Value.int .u8 (x.toNat : Int)) ++ [.int .u8 (x : Int)])) :
    Own w2 base v' (bs ++ [UInt8.ofNat x]) := by
  have e : ((UInt8.ofNat x).toNat : Int) = (x : Int) := by simp; omega
  unfold Own
  rw [List.map_append, List.length_append]
  rw [List.map_cons, List.map_nil, e]
  exact h

theorem Own.past {w : World} {base g : Nat} {v : Value} {l : List UInt8} (h : Own w base v l) (hg : g < base) : ∀ j, v.ownBlock = some j → g < j := fun j hj => Nat.lt_of_lt_of_le hg (World.ownsRow.lt h j hj).1
theorem Own.apart {w : World} {base g : Nat} {v : Value} {l : List UInt8} (h : Own w base v l) (hg : g < base) : v.ownBlock = none ∨ v.ownBlock ≠ some g :=
  .inr fun e => Nat.lt_irrefl _ (h.past hg g e)





end Go.Proofs.Ytcchhlcgamcceaa
