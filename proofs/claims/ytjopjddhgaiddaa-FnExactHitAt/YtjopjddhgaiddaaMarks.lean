/- Marks: the contracts of markByteS and heldByteS over a slice of the call's own. -/
import Derived.Test.YtjopjddhgaiddaaMarks0
namespace Go.Proofs.Ytjopjddhgaiddaa
open Go.RowKit

/-- the marks k, k + 1, .. of n bytes -/
def marksL (k n : Nat) : List UInt8 := (List.range n).map fun i => UInt8.ofNat (k + i)

theorem marksL_length (k n : Nat) : (marksL k n).length = n := by simp [marksL]
theorem marksL_get (k n i : Nat) (h : i < n) : (marksL k n)[i]? = some (UInt8.ofNat (k + i)) := by simp [marksL, h]

/-- the cells of marks so far, and what is left of l -/
def half (l : List UInt8) (k j : Nat) : List UInt8 := marksL k j ++ l.drop j
theorem half_zero (l : List UInt8) (k : Nat) : half l k 0 = l := by simp [half, marksL]
theorem half_all (l : List UInt8) (k : Nat) : half l k l.length = marksL k l.length := by simp [half]
theorem half_len (l : List UInt8) (k j : Nat) (h : j ≤ l.length) : (half l k j).length = l.length := by simp [half, marksL_length]; omega
theorem half_set (l : List UInt8) (k j : Nat) (h : j < l.length) : (half l k j).set j (UInt8.ofNat (k + j)) = half l k (j + 1) := by
  unfold half
  have e : marksL k (j + 1) = marksL k j ++ [UInt8.ofNat (k + j)] := by simp [marksL, List.range_succ]
  rw [List.drop_eq_getElem_cons h, List.set_append_right _ _ (by rw [marksL_length]; exact Nat.le_refl _), marksL_length, Nat.sub_self, List.set_cons_zero, e, List.append_assoc, List.singleton_append]

theorem Own.stored {w : World} {base g cap n : Nat} {l : List UInt8} (h : Own w base (.slice (some ⟨g, 0, none⟩) n cap) l) (j : Nat) (x : UInt8) :
    Own (w.setCell ⟨g, j, none⟩ (.int .u8 (x.toNat : Int))) base (.slice (some ⟨g, 0, none⟩) n cap) (l.set j x) ∧ w.grownBy (w.setCell ⟨g, j, none⟩ (.int .u8 (x.toNat : Int))) (some g) := by
  have hn := h.bs.1
  subst hn
  obtain ⟨h1, h2⟩ := World.ownsRow.stored h j (.int .u8 (x.toNat : Int))
  refine ⟨?_, h2⟩
  rw [Own, List.map_set, List.length_set]
  exact h1

theorem ofNat_mod (k j : Nat) : ((UInt8.ofNat (k + j)).toNat : Int) = ((k : Int) + (j : Int)) % 256 := by
  simp
theorem Own.cellAt {w : World} {base g cap n : Nat} {l : List UInt8} (h : Own w base (.slice (some ⟨g, 0, none⟩) n cap) l) (j : Nat) (hj : j < l.length) :
    w.cell? ⟨g, j, none⟩ = some (.int .u8 ((l.getD j 0).toNat : Int)) ∧ w.frozen? ⟨g, j, none⟩ = false := by
  have hn := h.bs.1
  subst hn
  refine ⟨?_, World.ownsRow.frozenAt h j⟩
  rw [World.ownsRow.cellAt h j (by simpa using hj)]
  simp [hj]



/-- what marking leaves -/
def Marked (w : World) (base : Nat) (v : Value) (l : List UInt8) (k : Nat) (e : Ending) (w' : World) : Prop :=
  e = .returned (.int .i64 ((k + l.length : Nat) : Int)) ∧ Own w' base v (marksL k l.length) ∧ w.grownBy w' v.ownBlock


theorem marks_get (l : List UInt8) (k j : Nat) (hm : l = marksL k l.length) (h : j < l.length) : ((l.getD j 0).toNat : Int) = ((k : Int) + (j : Int)) % 256 := by
  have e : l[j]? = some (UInt8.ofNat (k + j)) := by rw [hm]; exact marksL_get k _ j h
  rw [List.getD_eq_getElem?_getD, e]
  simp


end Go.Proofs.Ytjopjddhgaiddaa
