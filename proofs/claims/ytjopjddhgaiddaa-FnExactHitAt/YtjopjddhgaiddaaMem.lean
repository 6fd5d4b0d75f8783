/- A struct in a block that may be written. -/
import Derived.Test.YtjopjddhgaiddaaTakes
namespace Go.Proofs.Ytjopjddhgaiddaa
open Go.RowKit
set_option linter.unusedVariables false

/-- block b holds the cells vs, and they may be written -/
structure AtM (w : World) (b : Nat) (vs : List Value) : Prop where
  cells : AtL w b vs
  free : ∀ o, w.frozen? ⟨b, o, none⟩ = false
theorem AtM.keep {w w' : World} {b : Nat} {vs : List Value} (h : AtM w b vs) (hs : w.heap.size ≤ w'.heap.size) (hk : w'.heap[b]? = w.heap[b]?) : AtM w' b vs :=
  ⟨h.cells.keep hs fun o => World.cell?_of_block (a := ⟨b, o, none⟩) hk, fun o => (World.frozen?_of_block (a := ⟨b, o, none⟩) hk).trans (h.free o)⟩
theorem AtM.on {w w' : World} {b : Nat} {vs : List Value} (h : AtM w b vs) (hb : Below w.heap.size w w') : AtM w' b vs := h.keep hb.size (hb.block b h.cells.1)
theorem AtM.far {w w' : World} {b : Nat} {vs : List Value} (h : AtM w b vs) {row : Option Nat} (hg : w.grownBy w' row) (hr : some b ≠ row) : AtM w' b vs := h.keep hg.size (hg.block b h.cells.1 hr)
theorem AtM.new (w : World) (vs : List Value) (t : TypeId) : AtM (w.alloc (.cells vs.toArray t)) w.heap.size vs := ⟨AtL.new w vs t, fun o => by simp⟩
theorem AtM.set {w : World} {b : Nat} {vs : List Value} (h : AtM w b vs) (i : Nat) (v : Value) : AtM (w.setCell ⟨b, i, none⟩ v) b (vs.set i v) := by
  refine ⟨⟨by simpa using h.cells.1, fun j u hj => ?_⟩, fun o => by simpa using h.free o⟩
  by_cases hij : i = j
  · subst hij
    have hlt : i < vs.length := by
      have := (List.getElem?_eq_some_iff.1 hj).1
      simpa using this
    rw [List.getElem?_set_self hlt] at hj
    obtain rfl := Option.some.inj hj
    exact World.cell?_setCell_same _ _ _ (h.cells.2 i vs[i] (by simp))
  · rw [List.getElem?_set_ne hij] at hj
    exact (World.cell?_setCell_other _ _ _ _ (fun e => hij (by simpa using e.symm))).trans (h.cells.2 j u hj)
theorem AtM.other {w : World} {b c : Nat} {vs : List Value} (h : AtM w b vs) (hne : b ≠ c) (i : Nat) (v : Value) : AtM (w.setCell ⟨c, i, none⟩ v) b vs :=
  h.keep (by simp) (Below.heap_setCell _ _ _ _ hne)
theorem sets_size (b : Nat) : ∀ (vs : List Value) (i : Nat) (w : World), (sets w b i vs).heap.size = w.heap.size
  | [], _, _ => rfl
  | _ :: vs, i, w => (sets_size b vs (i + 1) _).trans (by simp)
theorem sets_block {b c : Nat} (hne : c ≠ b) : ∀ (vs : List Value) (i : Nat) (w : World), (sets w b i vs).heap[c]? = w.heap[c]?
  | [], _, _ => rfl
  | _ :: vs, i, w => (sets_block hne vs (i + 1) _).trans (Below.heap_setCell _ _ _ _ hne)
theorem sets_frozen (b : Nat) (a : Addr) : ∀ (vs : List Value) (i : Nat) (w : World), (sets w b i vs).frozen? a = w.frozen? a
  | [], _, _ => rfl
  | _ :: vs, i, w => (sets_frozen b a vs (i + 1) _).trans (by simp)
theorem AtM.sets {w : World} {b : Nat} {us : List Value} (vs : List Value) (h : AtM w b us) (hl : us.length = vs.length) : AtM (sets w b 0 vs) b vs :=
  ⟨sets_at vs h.cells hl, fun o => (sets_frozen b _ vs 0 w).trans (h.free o)⟩
theorem AtM.beside {w : World} {b c : Nat} {us : List Value} (h : AtM w b us) (hne : b ≠ c) (vs : List Value) (i : Nat) : AtM (Go.Proofs.Ytjopjddhgaiddaa.sets w c i vs) b us :=
  h.keep (by rw [sets_size]; exact Nat.le_refl _) (sets_block hne vs i w)
theorem sets_grown {b : Nat} : ∀ (vs : List Value) (i : Nat) (w : World), w.grownBy (sets w b i vs) (some b)
  | [], _, w => World.grownBy.refl w _
  | v :: vs, i, w =>
    have h : w.grownBy (w.setCell ⟨b, i, none⟩ v) (some b) := ⟨rfl, rfl, rfl, by simp, fun k _ hk => Below.heap_setCell _ _ _ _ (fun e => hk (by rw [e]))⟩
    have k := sets_grown vs (i + 1) (w.setCell ⟨b, i, none⟩ v)
    ⟨k.os.trans h.os, k.tape.trans h.tape, k.output.trans h.output, Nat.le_trans h.size k.size, fun j hj hne => (k.block j (Nat.lt_of_lt_of_le hj h.size) hne).trans (h.block j hj hne)⟩

end Go.Proofs.Ytjopjddhgaiddaa
