/- Opening a slice of events that came in. -/
import Derived.Test.YtmbdlclnfnkdmaaOpenEv
import Derived.Test.YtmbdlclnfnkdmaaEvs
import Derived.Deep.Slices
namespace Go.Proofs.Ytmbdlclnfnkdmaa
open Go.ChangeShapes Go.WideShapes Go.ChangeAt Go.RowKit Go.Deep

/-- a list out of its elements -/
theorem list_of {α : Type} {Q : Nat → α → Prop} : ∀ (n : Nat), (∀ i, i < n → ∃ a, Q i a) → ∃ l : List α, l.length = n ∧ ∀ i (h : i < l.length), Q i l[i]
  | 0, _ => ⟨[], rfl, fun i h => by simp at h⟩
  | n + 1, h => by
    obtain ⟨l, hl, hq⟩ := list_of n fun i hi => h i (by omega)
    obtain ⟨a, ha⟩ := h n (by omega)
    refine ⟨l ++ [a], by simp [hl], fun i hi => ?_⟩
    by_cases e : i < l.length
    · rw [List.getElem_append_left e]; exact hq i e
    · have : i = l.length := by simp at hi; omega
      subst this
      simp
      rw [hl]
      exact ha

theorem add_add (a : Addr) (i j : Nat) : (a.add i).add j = a.add (i + j) := by
  unfold Addr.add
  by_cases hi : i = 0 <;> by_cases hj : j = 0 <;> simp [hi, hj, Nat.add_assoc]

theorem open_lawEvents {H : Type} {enc : TypeId × Value → H} {W : World} {a0 : Option Addr} {len cap : Nat} {d : DataW H} {p : List MemPlace}
    (h : DataW.Trod enc Try.prog W 0 (fun _ => true) true 37 (.slice a0 len cap) d p) :
    ∃ l : List Ev, l.length = len ∧ Es W W.heap.size a0 l ∧ l.length ≤ 9223372036854775807 ∧ ∀ e ∈ l, e.data.length ≤ 9223372036854775807 := by
  obtain ⟨fuel, hf⟩ := h
  rcases open_slice Try.underlying37 hf with ⟨hcs, _⟩ | ⟨a, len', cap', m, n, D, Pl, hcs, _, hl, hm, hmm, _, hi⟩
  · simp [Value.cells] at hcs
    obtain ⟨rfl, rfl, rfl⟩ := hcs
    exact ⟨[], rfl, fun h => absurd rfl h, Nat.zero_le _, fun e he => by cases he⟩
  · simp [Value.cells] at hcs
    obtain ⟨rfl, rfl, rfl⟩ := hcs
    simp only [if_true] at hmm
    subst hmm
    have hC : Try.prog.cellsOf 30 = 8 := by kernel_rfl
    rw [hC] at hi
    have hel : ∀ i, i < len → ∃ e : Ev, ∃ q c, (∀ j, j < 8 → W.cell? (a.add (i * 8 + j)) = (evC e q c)[j]?) ∧ Bs W W.heap.size q e.data ∧ e.data.length ≤ maxLen := fun i hlt => by
      obtain ⟨cs', hc, ht⟩ := hi i (by omega)
      obtain ⟨_, hcl, hat⟩ := World.cells?_some hc
      obtain ⟨n', hl', hf'⟩ := trod_fields Try.underlying30 (by kernel_rfl) (by kernel_rfl) ht
      obtain ⟨e, q, c, rfl, hb, hme⟩ := ev_of_cells (by rfl) hl' hf'
      exact ⟨e, q, c, fun j hj => by rw [← add_add, hat j hj]; simp, hb, hme⟩
    obtain ⟨l, rfl, hq⟩ := list_of len hel
    refine ⟨l, rfl, fun hne => ?_, by have : l.length ≤ maxLen := by omega
                                      simpa [maxLen] using this, fun e he => ?_⟩
    · have hpos : 0 < l.length := List.length_pos_iff.2 hne
      obtain ⟨q0, c0, h0, _, _⟩ := hq 0 hpos
      obtain ⟨b, off, s⟩ := a
      have h00 := h0 0 (by omega)
      simp [evC] at h00
      obtain rfl : s = none := by simpa [Addr.add] using World.cell?_spot h00
      have hadd : ∀ i, (⟨b, off, none⟩ : Addr).add i = ⟨b, off + i, none⟩ := fun i => by unfold Addr.add; split <;> simp_all
      refine ⟨b, off, rfl, ?_, fun i hi => ?_⟩
      · have := World.block_lt_of_cell? _ _ h00
        rw [hadd] at this
        exact this
      · obtain ⟨q, c, hc, hb, _⟩ := hq i hi
        refine ⟨q, c, ?_, hb⟩
        have hc' : ∀ j, j < 8 → W.cell? ⟨b, off + i * 8 + j, none⟩ = (evC l[i] q c)[j]? := fun j hj => by rw [← hc j hj, hadd, Nat.add_assoc]
        exact ⟨hc' 0 (by omega), hc' 1 (by omega), hc' 2 (by omega), hc' 3 (by omega), hc' 4 (by omega), hc' 5 (by omega), hc' 6 (by omega), hc' 7 (by omega)⟩
    · obtain ⟨i, hi, rfl⟩ := List.getElem_of_mem he
      obtain ⟨q, c, _, _, hme⟩ := hq i hi
      simpa [maxLen] using hme

end Go.Proofs.Ytmbdlclnfnkdmaa
