/- The contracts of the program's EventFault and of what it calls. -/
import Derived.Test.YtbfickdgjgbfhaaQEvents
import Derived.BigGuardPart
import Derived.Test.YtbfickdgjgbfhaaQBytesToCells
namespace Go.Proofs.Ytbfickdgjgbfhaa
open Go.RowKit

/-- old cells and marks read as before -/
theorem bcell {W w1 : World} (hb : Below W.heap.size W w1) : (∀ b o, b < W.heap.size → w1.cell? ⟨b, o, none⟩ = W.cell? ⟨b, o, none⟩) ∧ (∀ b o, b < W.heap.size → w1.frozen? ⟨b, o, none⟩ = W.frozen? ⟨b, o, none⟩) :=
  ⟨fun b o h => hb.cell (p := ⟨b, o, none⟩) h, fun b o h => hb.frozen (p := ⟨b, o, none⟩) h⟩

theorem bcell_at {W w1 : World} (hb : Below W.heap.size W w1) (b : Nat) (h : b < W.heap.size) : ∀ o, w1.cell? ⟨b, o, none⟩ = W.cell? ⟨b, o, none⟩ := fun o => hb.cell (p := ⟨b, o, none⟩) h

theorem bfrozen_at {W w1 : World} (hb : Below W.heap.size W w1) (b : Nat) (h : b < W.heap.size) : ∀ o, w1.frozen? ⟨b, o, none⟩ = W.frozen? ⟨b, o, none⟩ := fun o => hb.frozen (p := ⟨b, o, none⟩) h

/-- the numbers of an event are in range -/
def Ev.nums (e : Ev) : Bool :=
  if e.kind = 1 then keyCode e.code && inR e.mods 0 7
  else if e.kind = 2 then inR e.button 0 2 && (inR e.act 1 3 && (inR e.mods 0 7 && (inR e.col 0 199 && inR e.row 0 199)))
  else true
/-- its data are as many as its kind lets -/
def Ev.fits (e : Ev) : Bool :=
  if e.kind = 3 then inR e.data.length 1 32 else if e.kind = 4 then inR e.data.length 1 24 else true
/-- EventFault -/
def Ev.fault (e : Ev) : Int := if e.form = false then 1 else if e.nums = false then 3 else if e.fits = false then 2 else 0

theorem point_pairs (c : Int) : (inR c 0 55295 || inR c 57344 1114111) = point c := by
  rw [Bool.eq_iff_iff]; simp [point, inR]; omega





theorem zeros4 (a b c d : Int) : zeros [a, b, c, d] = (a == 0 && (b == 0 && (c == 0 && d == 0))) := by simp [zeros]
theorem zeros6 (a b c d x y : Int) : zeros [a, b, c, d, x, y] = (a == 0 && (b == 0 && (c == 0 && (d == 0 && (x == 0 && y == 0))))) := by simp [zeros]

/-- the kinds of an event, as the walks ask for them -/
theorem kinds (k : Int) : ((k == 1) = true ∧ (k == 2) = false ∧ (k == 3) = false ∧ (k == 4) = false) ∨ ((k == 1) = false ∧ (k == 2) = true ∧ (k == 3) = false ∧ (k == 4) = false) ∨
    ((k == 1) = false ∧ (k == 2) = false ∧ (k == 3) = true ∧ (k == 4) = false) ∨ ((k == 1) = false ∧ (k == 2) = false ∧ (k == 3) = false ∧ (k == 4) = true) ∨
    ((k == 1) = false ∧ (k == 2) = false ∧ (k == 3) = false ∧ (k == 4) = false) := by
  simp; omega







theorem fault_1 {e : Ev} (h : e.form = false) : e.fault = 1 := by unfold Ev.fault; rw [if_pos h]
theorem fault_3 {e : Ev} (h : e.form = true) (k : e.nums = false) : e.fault = 3 := by unfold Ev.fault; rw [if_neg (by simp [h]), if_pos k]
theorem fault_2 {e : Ev} (h : e.form = true) (k : e.nums = true) (l : e.fits = false) : e.fault = 2 := by unfold Ev.fault; rw [if_neg (by simp [h]), if_neg (by simp [k]), if_pos l]
theorem fault_0 {e : Ev} (h : e.form = true) (k : e.nums = true) (l : e.fits = true) : e.fault = 0 := by unfold Ev.fault; rw [if_neg (by simp [h]), if_neg (by simp [k]), if_neg (by simp [l])]



end Go.Proofs.Ytbfickdgjgbfhaa

/- The contracts of the law's own helpers over events: szByteS, szEvent, toEvent, eqEvent. -/
namespace Go.Proofs.Ytbfickdgjgbfhaa
open Go.RowKit

/-- what is left of a budget behind n values: -1 where it is spent -/
def leftOf (left : Int) (n : Nat) : Int := if left - n < 0 then -1 else left - n


theorem leftOf_neg {left : Int} {n : Nat} (h : leftOf left n < 0) : leftOf left n = -1 := by
  unfold leftOf at h ⊢; split at h <;> simp_all
theorem leftOf_le {left : Int} {n : Nat} (h : 0 ≤ leftOf left n) : leftOf left n ≤ left ∧ (n : Int) ≤ left := by
  unfold leftOf at h ⊢; split at h <;> simp_all <;> omega


theorem Bs.new_at (w : World) (l : List UInt8) (t : TypeId) (g B : Nat) (hg : g = w.heap.size) (hB : w.heap.size < B) : Bs (w.alloc (.cells (bcells l) t)) B (some ⟨g, 0, none⟩) l := by
  subst hg
  exact (Bs.new w l t).more hB

/-- as 'Bs', in a block from lo on -/
def Bsx (w : World) (lo hi : Nat) (p : Option Addr) (l : List UInt8) : Prop :=
  l ≠ [] → ∃ b off, p = some ⟨b, off, none⟩ ∧ lo ≤ b ∧ b < hi ∧ ∀ i, i < l.length → w.cell? ⟨b, off + i, none⟩ = some (.int .u8 ((l.getD i 0).toNat : Int))
theorem Bsx.bs {w : World} {lo hi : Nat} {p : Option Addr} {l : List UInt8} (h : Bsx w lo hi p l) : Bs w hi p l := fun hl => by
  obtain ⟨b, off, e, _, h2, h3⟩ := h hl
  exact ⟨b, off, e, h2, h3⟩
theorem Bsx.keep {w w' : World} {lo lo' hi hi' : Nat} {p : Option Addr} {l : List UInt8} (h : Bsx w lo hi p l) (hlo : lo' ≤ lo) (hhi : hi ≤ hi') (hk : ∀ a : Addr, lo ≤ a.block → a.block < hi → w'.cell? a = w.cell? a) : Bsx w' lo' hi' p l := fun hl => by
  obtain ⟨b, off, e, h1, h2, h3⟩ := h hl
  exact ⟨b, off, e, by omega, by omega, fun i hi => (hk ⟨b, off + i, none⟩ h1 h2).trans (h3 i hi)⟩
theorem Bsx.new_at (w : World) (l : List UInt8) (t : TypeId) (g lo B : Nat) (hg : g = w.heap.size) (hlo : lo ≤ g) (hB : w.heap.size < B) : Bsx (w.alloc (.cells (bcells l) t)) lo B (some ⟨g, 0, none⟩) l := fun hl => by
  subst hg
  obtain ⟨b, off, e, _, h3⟩ := Bs.new w l t hl
  simp at e
  obtain ⟨rfl, rfl⟩ := e
  exact ⟨_, _, rfl, hlo, hB, h3⟩

/-- what a call that hands back a new event leaves: its data lie in a block of the call's own -/
def FreshEv (w : World) (e : Ev) (en : Ending) (w' : World) : Prop :=
  ∃ p, en = .returned (evV e p e.data.length) ∧ Bsx w' w.heap.size w'.heap.size p e.data ∧ Below w.heap.size w w'
/-- what a call that hands back a new event leaves -/
def NewEv (w : World) (e : Ev) (en : Ending) (w' : World) : Prop :=
  ∃ p, en = .returned (evV e p e.data.length) ∧ Bs w' w'.heap.size p e.data ∧ Below w.heap.size w w'




end Go.Proofs.Ytbfickdgjgbfhaa

/- The laws' own small functions: lwBig, lwSame, lwBytes. -/
namespace Go.Proofs.Ytbfickdgjgbfhaa
open Go.RowKit

set_option maxRecDepth 100000 in
set_option maxHeartbeats 400000 in
theorem lwBig_any (p : Option Addr) (n c : Nat) (w : World) :
    Calls Try.prog 28 #[.slice p n c] w fun e w' => e = .returned (.bool (decide (1048576 < (n : Int)))) ∧ w = w' := by
  go_enter Try.func28, Try.ntmps28
  go_wp2
  go_ret
  exact ⟨rfl, rfl⟩





end Go.Proofs.Ytbfickdgjgbfhaa
