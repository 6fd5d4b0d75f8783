/- Opening a layout that came in. -/
import Derived.Test.YtbfickdgjgbfhaaQOpen
import Derived.Test.YtbfickdgjgbfhaaQQOpsToLySame
import Derived.Deep.Slices
namespace Go.Proofs.Ytbfickdgjgbfhaa
open Go.ChangeShapes Go.WideShapes Go.ChangeAt Go.RowKit Go.Deep

theorem int_cellL {H : Type} {enc : TypeId × Value → H} {P : Program} {W : World} {base : Nat} {spare : Nat → Bool} {held : Bool} {t : TypeId} {k : IntKind} {v : Value} {n : Nat} {y : DataW H × List MemPlace}
    (ht : P.underlying t = some (.int k)) (h : DataW.trod enc P W base spare held n t [v] = some y) : ∃ a, v = .int k a ∧ (Lit.int k a).wf = true := by
  obtain ⟨a, e, _, w⟩ := DataW.trod_int ht h
  exact ⟨a, by simpa using e, w⟩

theorem list_ofL {α : Type} {Q : Nat → α → Prop} : ∀ (n : Nat), (∀ i, i < n → ∃ a, Q i a) → ∃ l : List α, l.length = n ∧ ∀ i (h : i < l.length), Q i l[i]
  | 0, _ => ⟨[], rfl, fun i h => by simp at h⟩
  | n + 1, h => by
    obtain ⟨l, hl, hq⟩ := list_ofL n fun i hi => h i (by omega)
    obtain ⟨a, ha⟩ := h n (by omega)
    refine ⟨l ++ [a], by simp [hl], fun i hi => ?_⟩
    by_cases e : i < l.length
    · rw [List.getElem_append_left e]; exact hq i e
    · have : i = l.length := by simp at hi; omega
      subst this
      simp
      rw [hl]
      exact ha

theorem add_addL (a : Addr) (i j : Nat) : (a.add i).add j = a.add (i + j) := by
  unfold Addr.add
  by_cases hi : i = 0 <;> by_cases hj : j = 0 <;> simp [hi, hj, Nat.add_assoc]

set_option maxRecDepth 100000 in
theorem q_of_cells {H : Type} {enc : TypeId × Value → H} {W : World} {cs : List Value} {n : Nat} {fs : Array Field}
    (hfs : fs.toList.map (·.type) = [2, 2, 2, 2, 2]) (hl : cs.length = fs.size)
    (hf : ∀ (j : Nat) (f : Field) (c : Value), fs[j]? = some f → cs[j]? = some c → ∃ y, DataW.trod enc Try.prog W 0 (fun _ => true) true n f.type [c] = some y) :
    ∃ q : Q, cs = qC q := by
  obtain ⟨l⟩ := fs
  have h5 : l.length = 5 := by simpa using congrArg List.length hfs
  match l, h5 with
  | [f0, f1, f2, f3, f4], _ =>
    simp at hfs
    obtain ⟨t0, t1, t2, t3, t4⟩ := hfs
    match cs, hl with
    | [c0, c1, c2, c3, c4], _ =>
      obtain ⟨y0, g0⟩ := hf 0 f0 c0 rfl rfl
      obtain ⟨y1, g1⟩ := hf 1 f1 c1 rfl rfl
      obtain ⟨y2, g2⟩ := hf 2 f2 c2 rfl rfl
      obtain ⟨y3, g3⟩ := hf 3 f3 c3 rfl rfl
      obtain ⟨y4, g4⟩ := hf 4 f4 c4 rfl rfl
      rw [t0] at g0; rw [t1] at g1; rw [t2] at g2; rw [t3] at g3; rw [t4] at g4
      obtain ⟨a0, rfl, _⟩ := int_cellL Try.underlying2 g0
      obtain ⟨a1, rfl, _⟩ := int_cellL Try.underlying2 g1
      obtain ⟨a2, rfl, _⟩ := int_cellL Try.underlying2 g2
      obtain ⟨a3, rfl, _⟩ := int_cellL Try.underlying2 g3
      obtain ⟨a4, rfl, _⟩ := int_cellL Try.underlying2 g4
      exact ⟨⟨a0, a1, a2, a3, a4⟩, rfl⟩

theorem open_nodes {H : Type} {enc : TypeId × Value → H} {W : World} {v : Value} {fuel : Nat} {y : DataW H × List MemPlace}
    (hf : DataW.trod enc Try.prog W 0 (fun _ => true) true fuel 22 [v] = some y) :
    ∃ (p : Option Addr) (c : Nat) (l : List Q), v = .slice p l.length c ∧ Qs W W.heap.size p l ∧ l.length ≤ 9223372036854775807 := by
  rcases open_slice Try.underlying22 hf with ⟨hcs, _⟩ | ⟨a, len, cap, m, n, D, Pl, hcs, _, hl, hm, hmm, _, hi⟩
  · simp at hcs
    subst hcs
    exact ⟨none, 0, [], rfl, qx_nil _ _ _ _, Nat.zero_le _⟩
  · simp at hcs
    subst hcs
    simp only [if_true] at hmm
    subst hmm
    have hC : Try.prog.cellsOf 113 = 5 := by kernel_rfl
    rw [hC] at hi
    have hel : ∀ i, i < len → ∃ q : Q, ∀ j, j < 5 → W.cell? (a.add (i * 5 + j)) = (qC q)[j]? := fun i hlt => by
      obtain ⟨cs', hc, ht⟩ := hi i (by omega)
      obtain ⟨_, hcl, hat⟩ := World.cells?_some hc
      obtain ⟨n', hl', hf'⟩ := trod_fields Try.underlying113 (by kernel_rfl) (by kernel_rfl) ht
      obtain ⟨q, rfl⟩ := q_of_cells (by rfl) hl' hf'
      exact ⟨q, fun j hj => by rw [← add_addL, hat j hj]⟩
    obtain ⟨l, rfl, hq⟩ := list_ofL len hel
    refine ⟨some a, m, l, rfl, fun hne => ?_, (by have h0 : l.length ≤ maxLen := (by omega); simpa [maxLen] using h0)⟩
    have hpos : 0 < l.length := List.length_pos_iff.2 hne
    have h0 := hq 0 hpos
    obtain ⟨b, off, s⟩ := a
    have h00 := h0 0 (by omega)
    simp [qC] at h00
    obtain rfl : s = none := by simpa [Addr.add] using World.cell?_spot h00
    have hadd : ∀ i, (⟨b, off, none⟩ : Addr).add i = ⟨b, off + i, none⟩ := fun i => by unfold Addr.add; split <;> simp_all
    refine ⟨b, off, rfl, Nat.zero_le _, ?_, fun i hi => QAt.of fun j hj => ?_⟩
    · have := World.block_lt_of_cell? _ _ h00
      rw [hadd] at this
      exact this
    · have := hq i hi j hj
      rw [hadd, ← Nat.add_assoc] at this
      rw [this, nth_eq hi]

set_option maxRecDepth 100000 in
theorem open_lawLayout {H : Type} {enc : TypeId × Value → H} {W : World} {v : Value} {d : DataW H} {p : List MemPlace} {b0 : Nat} {r : Reach}
    (hv : Value.okWide Try.prog W r b0 24 v) (h : DataW.Trod enc Try.prog W 0 (fun _ => true) true 24 v d p) :
    ∃ (x : Ly) (p : Option Addr) (c : Nat), v = lyV x p c ∧ Qs W W.heap.size p x.nodes ∧ x.nodes.length ≤ 9223372036854775807 := by
  obtain ⟨cs, n, rfl, hl, hf⟩ := open_fields Try.underlying24 (by kernel_rfl) (by kernel_rfl) hv h
  match cs, hl with
  | [c0, c1, c2], _ =>
    obtain ⟨y0, g0⟩ := hf 0 _ c0 rfl rfl
    obtain ⟨y1, g1⟩ := hf 1 _ c1 rfl rfl
    obtain ⟨y2, g2⟩ := hf 2 _ c2 rfl rfl
    obtain ⟨a0, rfl, _⟩ := int_cellL Try.underlying2 g0
    obtain ⟨a1, rfl, _⟩ := int_cellL Try.underlying2 g1
    obtain ⟨p, c, l, rfl, hb, hm⟩ := open_nodes g2
    exact ⟨⟨a0, a1, l⟩, p, c, rfl, hb, hm⟩

end Go.Proofs.Ytbfickdgjgbfhaa
