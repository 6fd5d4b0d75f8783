/- The contracts of the law's own helpers over events: szByteS, szEvent, toEvent, eqEvent. -/
import Derived.Test.YtjopjddhgaiddaaFault
namespace Go.Proofs.Ytjopjddhgaiddaa
open Go.RowKit

/-- what is left of a budget behind n values: -1 where it is spent -/
def leftOf (left : Int) (n : Nat) : Int := if left - n < 0 then -1 else left - n


theorem leftOf_neg {left : Int} {n : Nat} (h : leftOf left n < 0) : leftOf left n = -1 := by
  unfold leftOf at h ⊢; split at h <;> simp_all
theorem leftOf_le {left : Int} {n : Nat} (h : 0 ≤ leftOf left n) : leftOf left n ≤ left ∧ (n : Int) ≤ left := by
  unfold leftOf at h ⊢; split at h <;> simp_all <;> omega


theorem Bs.new_at (w : World) (l : List UInt8) (t : TypeId) (g B : Nat) (hg : g = w.heap.size) (hB : w.heap.size < B) : Bs (w.alloc (.cells (bcells l) t)) B (some ⟨g, 0, none⟩) l := by
  subst hg
  exact (Bs.new w l t).more hB

/-- as 'Bs', in a block from lo on -/
def Bsx (w : World) (lo hi : Nat) (p : Option Addr) (l : List UInt8) : Prop :=
  l ≠ [] → ∃ b off, p = some ⟨b, off, none⟩ ∧ lo ≤ b ∧ b < hi ∧ ∀ i, i < l.length → w.cell? ⟨b, off + i, none⟩ = some (.int .u8 ((l.getD i 0).toNat : Int))
theorem Bsx.bs {w : World} {lo hi : Nat} {p : Option Addr} {l : List UInt8} (h : Bsx w lo hi p l) : Bs w hi p l := fun hl => by
  obtain ⟨b, off, e, _, h2, h3⟩ := h hl
  exact ⟨b, off, e, h2, h3⟩
theorem Bsx.keep {w w' : World} {lo lo' hi hi' : Nat} {p : Option Addr} {l : List UInt8} (h : Bsx w lo hi p l) (hlo : lo' ≤ lo) (hhi : hi ≤ hi') (hk : ∀ a : Addr, lo ≤ a.block → a.block < hi → w'.cell? a = w.cell? a) : Bsx w' lo' hi' p l := fun hl => by
  obtain ⟨b, off, e, h1, h2, h3⟩ := h hl
  exact ⟨b, off, e, by omega, by omega, fun i hi => (hk ⟨b, off + i, none⟩ h1 h2).trans (h3 i hi)⟩
theorem Bsx.new_at (w : World) (l : List UInt8) (t : TypeId) (g lo B : Nat) (hg : g = w.heap.size) (hlo : lo ≤ g) (hB : w.heap.size < B) : Bsx (w.alloc (.cells (bcells l) t)) lo B (some ⟨g, 0, none⟩) l := fun hl => by
  subst hg
  obtain ⟨b, off, e, _, h3⟩ := Bs.new w l t hl
  simp at e
  obtain ⟨rfl, rfl⟩ := e
  exact ⟨_, _, rfl, hlo, hB, h3⟩

/-- what a call that hands back a new event leaves: its data lie in a block of the call's own -/
def FreshEv (w : World) (e : Ev) (en : Ending) (w' : World) : Prop :=
  ∃ p, en = .returned (evV e p e.data.length) ∧ Bsx w' w.heap.size w'.heap.size p e.data ∧ Below w.heap.size w w'
/-- what a call that hands back a new event leaves -/
def NewEv (w : World) (e : Ev) (en : Ending) (w' : World) : Prop :=
  ∃ p, en = .returned (evV e p e.data.length) ∧ Bs w' w'.heap.size p e.data ∧ Below w.heap.size w w'




end Go.Proofs.Ytjopjddhgaiddaa
