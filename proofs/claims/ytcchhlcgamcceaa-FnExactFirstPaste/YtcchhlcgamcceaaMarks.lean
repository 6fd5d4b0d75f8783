/- Marks: the contracts of markByteS and heldByteS over a slice of the call's own. -/
import Derived.Test.YtcchhlcgamcceaaMarks0
namespace Go.Proofs.Ytcchhlcgamcceaa
open Go.RowKit

/-- the marks k, k + 1, .. of n bytes -/
def marksL (k n : Nat) : List UInt8 := (List.range n).map fun i => UInt8.ofNat (k + i)

theorem marksL_length (k n : Nat) : (marksL k n).length = n := by simp [marksL]
theorem marksL_get (k n i : Nat) (h : i < n) : (marksL k n)[i]? = some (UInt8.ofNat (k + i)) := by simp [marksL, h]

/-- the cells of marks so far, and what is left of l -/
def half (l : List UInt8) (k j : Nat) : List UInt8 := marksL k j ++ l.drop j
theorem half_zero (l : List UInt8) (k : Nat) : half l k 0 = l := by simp [half, marksL]
theorem half_all (l : List UInt8) (k : Nat) : half l k l.length = marksL k l.length := by simp [half]
theorem half_len (l : List UInt8) (k j : Nat) (h : j ≤ l.length) : (half l k j).length = l.length := by simp [half, marksL_length]; omega
theorem half_set (l : List UInt8) (k j : Nat) (h : j < l.length) : (half l k j).set j (UInt8.ofNat (k + j)) = half l k (j + 1) := by
  unfold half
  have e : marksL k (j + 1) = marksL k j ++ [UInt8.ofNat (k + j)] := by simp [marksL, List.range_succ]
  rw [List.drop_eq_getElem_cons h, List.set_append_right _ _ (by rw [marksL_length]; exact Nat.le_refl _), marksL_length, Nat.sub_self, List.set_cons_zero, e, List.append_assoc, List.singleton_append]

theorem Own.stored {w : World} {base g cap n : Nat} {l : List UInt8} (h : Own w base (.slice (some ⟨g, 0, none⟩) n cap) l) (j : Nat) (x : UInt8) :
    Own (w.setCell ⟨g, j, none⟩ (.int .u8 (x.toNat : Int))) base (.slice (some ⟨g, 0, none⟩) n cap) (l.set j x) ∧ w.grownBy (w.setCell ⟨g, j, none⟩ (.int .u8 (x.toNat : Int))) (some g) := by
  have hn := h.bs.1
  subst hn
  obtain ⟨h1, h2⟩ := World.ownsRow.stored h j (.int .u8 (x.toNat : Int))
  refine ⟨?_, h2⟩
  rw [Own, List.map_set, List.length_set]
  exact h1

theorem ofNat_mod (k j : Nat) : ((UInt8.ofNat (k + j)).toNat : Int) = ((k : Int) + (j : Int)) % 256 := by
  simp
theorem Own.cellAt {w : World} {base g cap n : Nat} {l : List UInt8} (h : Own w base (.slice (some ⟨g, 0, none⟩) n cap) l) (j : Nat) (hj : j < l.length) :
    w.cell? ⟨g, j, none⟩ = some (.int .u8 ((l.getD j 0).toNat : Int)) ∧ w.frozen? ⟨g, j, none⟩ = false := by
  have hn := h.bs.1
  subst hn
  refine ⟨?_, World.ownsRow.frozenAt h j⟩
  rw [World.ownsRow.cellAt h j (by simpa using hj)]
  simp [hj]

set_option maxHeartbeats 1000000 in
theorem markByteS_own (w : World) (base g cap k : Nat) (l : List UInt8) (h : Own w base (.slice (some ⟨g, 0, none⟩) l.length cap) l) (hl : l.length ≤ 1048576) (hk : k ≤ 1048576) :
    Calls Try.prog 30 #[.slice (some ⟨g, 0, none⟩) l.length cap, .int .i64 k] w fun e w' => e = .returned (.int .i64 ((k + l.length : Nat) : Int)) ∧
      Own w' base (.slice (some ⟨g, 0, none⟩) l.length cap) (marksL k l.length) ∧ w.grownBy w' (some g) := by
  have HO := Lib.hid h
  clear h
  go_enter Try.func30, Try.ntmps30
  go_wp2
  go_loopw [1, 5] (fun q i wr => ∃ j : Nat, j ≤ l.length ∧ i = .int .i64 j ∧ q = .int .i64 (k + j : Nat) ∧ Own wr base (.slice (some ⟨g, 0, none⟩) l.length cap) (half l k j) ∧ w.grownBy wr (some g)) (fun _ i _ => l.length - (intOf i).toNat)
  case atStart => exact ⟨0, by omega, rfl, rfl, by rw [half_zero]; exact HO.out, World.grownBy.refl w _⟩
  case round =>
    obtain ⟨j, hj, rfl, rfl, ho, hg⟩ := hrel
    by_cases hlt : j < l.length
    · have HS := Lib.hid (ho.stored j (UInt8.ofNat (k + j)))
      have HT := Lib.hid (half_set l k j hlt)
      have HM := Lib.hid (ofNat_mod k j)
      obtain ⟨hc, hf⟩ := ho.cellAt j (by rw [half_len l k j hj]; exact hlt)
      have HG := Lib.hid hg
      clear ho hg HO
      go_wp2
      have hs := HS.out
      rw [HT.out, HM.out] at hs
      exact ⟨⟨j + 1, by omega, by go_num, by go_num, hs.1, grown_trans HG.out hs.2⟩, by simp [intOf]; omega⟩
    · obtain rfl : j = l.length := by omega
      have HA := Lib.hid (half_all l k)
      go_wp2
      go_ret
      exact ⟨by go_num, by rw [← HA.out]; exact ho, hg⟩

set_option maxHeartbeats 400000 in
theorem markByteS_nil (w : World) (k : Nat) :
    Calls Try.prog 30 #[.slice none 0 0, .int .i64 k] w fun e w' => e = .returned (.int .i64 k) ∧ w = w' := by
  go_enter Try.func30, Try.ntmps30
  go_wp2
  go_loop [1, 5] (fun q i => i = .int .i64 0 ∧ q = .int .i64 k) (fun _ _ => 0)
  case atStart => exact ⟨rfl, rfl⟩
  case round =>
    obtain ⟨rfl, rfl⟩ := hrel
    go_wp2
    go_ret
    exact ⟨rfl, rfl⟩

/-- what marking leaves -/
def Marked (w : World) (base : Nat) (v : Value) (l : List UInt8) (k : Nat) (e : Ending) (w' : World) : Prop :=
  e = .returned (.int .i64 ((k + l.length : Nat) : Int)) ∧ Own w' base v (marksL k l.length) ∧ w.grownBy w' v.ownBlock

theorem markByteS_any (w : World) (base k : Nat) (v : Value) (l : List UInt8) (h : Own w base v l) (hl : l.length ≤ 1048576) (hk : k ≤ 1048576) :
    Calls Try.prog 30 #[v, .int .i64 k] w (Marked w base v l k) := by
  rcases h.form with ⟨rfl, rfl⟩ | ⟨g, cap, rfl, _, _, _⟩
  · exact (markByteS_nil w k).mono fun _ _ ⟨he, hw⟩ => ⟨by rw [he]; rfl, by subst hw; exact h, by subst hw; exact grown_refl _ _⟩
  · exact markByteS_own w base g cap k l h hl hk

theorem marks_get (l : List UInt8) (k j : Nat) (hm : l = marksL k l.length) (h : j < l.length) : ((l.getD j 0).toNat : Int) = ((k : Int) + (j : Int)) % 256 := by
  have e : l[j]? = some (UInt8.ofNat (k + j)) := by rw [hm]; exact marksL_get k _ j h
  rw [List.getD_eq_getElem?_getD, e]
  simp

set_option maxHeartbeats 1000000 in
theorem heldByteS_any (w : World) (p : Option Addr) (c k : Nat) (l : List UInt8) {B : Nat} (h : Bs w B p l) (hm : l = marksL k l.length) (hl : l.length ≤ 1048576) (hk : k ≤ 1048576) :
    Calls Try.prog 95 #[.slice p l.length c, .int .i64 k] w fun e w' => e = .returned (.int .i64 ((k + l.length : Nat) : Int)) ∧ w = w' := by
  have HO := Lib.hid h
  have HM := Lib.hid hm
  clear h hm
  go_enter Try.func95, Try.ntmps95
  go_wp2
  go_loop [1, 5] (fun q i => ∃ j : Nat, j ≤ l.length ∧ i = .int .i64 j ∧ q = .int .i64 (k + j : Nat)) (fun _ i => l.length - (intOf i).toNat)
  case atStart => exact ⟨0, by omega, rfl, rfl⟩
  case round =>
    obtain ⟨j, hj, rfl, rfl⟩ := hrel
    by_cases hlt : j < l.length
    · obtain ⟨b, off, rfl, _, hc⟩ := HO.out (by intro e; simp [e] at hlt)
      have hc0 := hc j hlt
      rw [marks_get l k j HM.out hlt] at hc0
      clear hc
      go_wp2
      exact ⟨⟨j + 1, by omega, by go_num, by go_num⟩, by simp [intOf]; omega⟩
    · obtain rfl : j = l.length := by omega
      go_wp2
      go_ret
      exact ⟨by go_num, rfl⟩

end Go.Proofs.Ytcchhlcgamcceaa
