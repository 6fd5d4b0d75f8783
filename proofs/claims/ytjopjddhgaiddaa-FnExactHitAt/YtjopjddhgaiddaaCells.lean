/- A struct in a block: its cells, and how they are kept. -/
import Derived.Test.YtjopjddhgaiddaaBytes
namespace Go.Proofs.Ytjopjddhgaiddaa
open Go.RowKit

/-- block b holds the cells vs -/
def AtL (w : World) (b : Nat) (vs : List Value) : Prop := b < w.heap.size ∧ ∀ i v, vs[i]? = some v → w.cell? ⟨b, i, none⟩ = some v
theorem AtL.get {w : World} {b : Nat} {vs : List Value} (h : AtL w b vs) (i : Nat) {v : Value} (hv : vs[i]? = some v) : w.cell? ⟨b, i, none⟩ = some v := h.2 i v hv
theorem AtL.keep {w w' : World} {b : Nat} {vs : List Value} (h : AtL w b vs) (hs : w.heap.size ≤ w'.heap.size) (hk : ∀ o, w'.cell? ⟨b, o, none⟩ = w.cell? ⟨b, o, none⟩) : AtL w' b vs :=
  ⟨Nat.lt_of_lt_of_le h.1 hs, fun i v hv => (hk i).trans (h.2 i v hv)⟩
theorem AtL.on {w w' : World} {b : Nat} {vs : List Value} (h : AtL w b vs) (hb : Below w.heap.size w w') : AtL w' b vs := h.keep hb.size fun o => hb.cell (p := ⟨b, o, none⟩) h.1
theorem AtL.far {w w' : World} {b : Nat} {vs : List Value} (h : AtL w b vs) {row : Option Nat} (hg : w.grownBy w' row) (hr : some b ≠ row) : AtL w' b vs :=
  h.keep hg.size fun o => World.cell?_of_block (a := ⟨b, o, none⟩) (hg.block b h.1 hr)
theorem AtL.new (w : World) (vs : List Value) (t : TypeId) : AtL (w.alloc (.cells vs.toArray t)) w.heap.size vs :=
  ⟨by simp, fun i v hv => by simp [hv]⟩
theorem AtL.five {w : World} {b : Nat} {v0 v1 v2 v3 v4 : Value} (h : AtL w b [v0, v1, v2, v3, v4]) : w.cell? ⟨b, 0, none⟩ = some v0 ∧ w.cell? ⟨b, 1, none⟩ = some v1 ∧ w.cell? ⟨b, 2, none⟩ = some v2 ∧ w.cell? ⟨b, 3, none⟩ = some v3 ∧ w.cell? ⟨b, 4, none⟩ = some v4 :=
  ⟨h.get 0 rfl, h.get 1 rfl, h.get 2 rfl, h.get 3 rfl, h.get 4 rfl⟩
theorem below_mk (w : World) (o : Obj) : Below w.heap.size w (w.alloc o) := (Below.refl _ _).alloc (Nat.le_refl _) o

end Go.Proofs.Ytjopjddhgaiddaa
