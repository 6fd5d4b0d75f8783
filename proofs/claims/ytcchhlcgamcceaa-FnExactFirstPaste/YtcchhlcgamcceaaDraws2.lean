/- The draws of stage 1 that hand back a number. -/
import Derived.Test.YtcchhlcgamcceaaDraws
namespace Go.Proofs.Ytcchhlcgamcceaa
open Go.RowKit

theorem Src.below {w w' : World} {g : Nat} {q : Option Addr} {c : Nat} {l : List UInt8} {N : Nat} (h : Src w g q c l N) (k : Below w.heap.size w w') : Src w' g q c l N := by
  obtain ⟨n, hn, h, hg⟩ := h
  exact ⟨n, hn, ⟨(k.cell hg).trans h.code, (k.cell hg).trans h.read, fun o => (World.frozen?_of_block (k.block g hg)).trans (h.free o), h.bytes.keep (Nat.le_refl _) fun a ha => k.cell (Nat.lt_trans ha hg)⟩, Nat.lt_of_lt_of_le hg k.size⟩

/-- l1Pick of a list that was laid last -/
theorem l1Pick_lit (g : Nat) (q : Option Addr) (c N : Nat) (l : List UInt8) (w : World) (h : Src w g q c l N) (hl : l.length ≤ 1048576) (hn : N ≤ 1000000)
    (xs : List Int) (k : Nat) (hk : xs.length = k) (X : Int → Prop) (hk1 : 1 ≤ k) (hk' : k ≤ 60000) (a : Array Value) (ha : a = (xs.map (Value.int .i64)).toArray) (t : TypeId) (hX : ∀ x ∈ xs, X x) :
    Calls Try.prog 40 #[.pointer (some ⟨g, 0, none⟩), .slice (some ⟨w.heap.size, 0, none⟩) k k] (w.alloc (.cells a t)) (NumPost w g q c l (N + 1) X) := by
  have hg := h.choose_spec.2.2
  refine (l1Pick_any g q c N l (w.alloc (.cells a t)) (h.below ((Below.refl _ _).alloc (Nat.le_refl _) _)) hl hn w.heap.size k X hk1 hk' (by omega) (by simp) ?_).mono ?_
  · intro i hi
    refine ⟨xs[i]'(by omega), ?_, hX _ (List.getElem_mem _)⟩
    subst ha
    simp [hk, hi]
  · rintro e w' ⟨v, rfl, hv, hs, hw⟩
    exact ⟨v, rfl, hv, hs, ⟨hw.os, hw.tape, hw.output, Nat.le_trans (by simp) hw.size, fun b hb hne => (hw.block b (by simp; omega) hne).trans (Below.heap_alloc _ _ _ hb)⟩⟩





end Go.Proofs.Ytcchhlcgamcceaa
