/- Opening arguments of a row: a slice of bytes, in one word. -/
import Derived.Test.YtbfickdgjgbfhaaQBytesToCells
import Derived.ProofKit
import Derived.OpenShut
import Derived.Lib.SmallJoins
namespace Go.Proofs.Ytbfickdgjgbfhaa
open Go.ChangeShapes Go.WideShapes Go.ChangeAt Go.RowKit Go.Deep

theorem byte_range {x : Int} (h : (Lit.int .u8 x).wf = true) : 0 ≤ x ∧ x < 256 := by
  have h1 : IntKind.u8.min = 0 := rfl
  have h2 : IntKind.u8.max = 255 := rfl
  simp only [Lit.wf, Bool.and_eq_true, decide_eq_true_eq] at h
  omega

/-- an argument of type []byte, nil or not: it holds some bytes -/
theorem open_bs {H : Type} {enc : TypeId × Value → H} {P : Program} {t e : TypeId} (ht : P.underlying t = some (.slice e)) (he : P.underlying e = some (.int .u8)) (hc : P.cellsOf e = 1) {W : World} {a0 : Option Addr} {len cap : Nat} {d0 : DataW H} {p : List MemPlace}
    (h0 : DataW.Trod enc P W 0 (fun _ => true) true t (.slice a0 len cap) d0 p) : ∃ l : List UInt8, l.length = len ∧ Bs W W.heap.size a0 l := by
  obtain ⟨fuel, hf⟩ := h0
  rcases open_ints ht he hc hf with ⟨hcs, hx⟩ | ⟨a, len', cap', zs, hcs, _, hl, hm, hz, hx, hcell, hwz⟩
  · simp [Value.cells] at hcs
    obtain ⟨rfl, rfl, rfl⟩ := hcs
    exact ⟨[], rfl, fun h => absurd rfl h⟩
  · simp [Value.cells] at hcs
    obtain ⟨rfl, rfl, rfl⟩ := hcs
    simp only [if_true] at hz
    refine ⟨(zs.take len).map fun x => UInt8.ofNat x.toNat, by simp; omega, fun hne => ?_⟩
    have hpos : 0 < zs.length := by
      rcases Nat.eq_zero_or_pos zs.length with h | h
      · exact absurd (by simp [List.eq_nil_of_length_eq_zero h]) hne
      · exact h
    obtain ⟨b, off, s⟩ := a
    have h00 := hcell 0 hpos
    obtain rfl : s = none := by simpa [Addr.add] using World.cell?_spot h00
    have hadd : ∀ i, (⟨b, off, none⟩ : Addr).add i = ⟨b, off + i, none⟩ := fun i => by unfold Addr.add; split <;> simp_all
    refine ⟨b, off, rfl, ?_, fun i hi => ?_⟩
    · have := World.block_lt_of_cell? _ _ h00
      rw [hadd] at this
      exact this
    · simp at hi
      have hiz : i < zs.length := by omega
      have hb := byte_range (hwz zs[i] (List.getElem_mem hiz))
      rw [← hadd, hcell i hiz]
      simp [List.getD_eq_getElem?_getD, List.getElem?_eq_getElem hiz, hi]
      omega

/-- the same of a reading by cells -/
theorem open_bs_cell {H : Type} {enc : TypeId × Value → H} {P : Program} {t e : TypeId} (ht : P.underlying t = some (.slice e)) (he : P.underlying e = some (.int .u8)) (hc : P.cellsOf e = 1) {W : World} {v : Value} {fuel : Nat} {y : DataW H × List MemPlace}
    (h0 : DataW.trod enc P W 0 (fun _ => true) true fuel t [v] = some y) : ∃ (p : Option Addr) (c : Nat) (l : List UInt8), v = .slice p l.length c ∧ Bs W W.heap.size p l ∧ l.length ≤ maxLen := by
  have hv : ∃ p n c, v = .slice p n c ∧ n ≤ maxLen := by
    rcases open_ints ht he hc h0 with ⟨hcs, _⟩ | ⟨a, len', cap', zs, hcs, _, hl, hm, _⟩
    · exact ⟨_, _, _, by simpa using hcs, Nat.zero_le _⟩
    · exact ⟨_, _, _, by simpa using hcs, by omega⟩
  obtain ⟨p, n, c, rfl, hn⟩ := hv
  obtain ⟨l, rfl, hb⟩ := open_bs (d0 := y.1) (p := y.2) ht he hc ⟨fuel, by simpa [Value.cells] using h0⟩
  exact ⟨p, c, l, rfl, hb, hn⟩

/-- a struct of one-cell fields, by its cells: each field's own reading -/
theorem trod_fields {H : Type} {enc : TypeId × Value → H} {P : Program} {W : World} {base : Nat} {spare : Nat → Bool} {held : Bool} {t : TypeId} {fs : Array Field} {fuel : Nat} {cs : List Value} {x : DataW H × List MemPlace}
    (hs : P.underlying t = some (.struct fs)) (hone : oneCellFields P fs = true) (hC : P.cellsOf t = fs.size) (h : DataW.trod enc P W base spare held fuel t cs = some x) :
    ∃ n, cs.length = fs.size ∧ ∀ (j : Nat) (f : Field) (c : Value), fs[j]? = some f → cs[j]? = some c → ∃ y, DataW.trod enc P W base spare held n f.type [c] = some y := by
  obtain ⟨xs, n, _, _, hl, hlen, hf⟩ := DataW.trod_struct hs h
  refine ⟨n, hl.trans hC, fun j f c hj hcj => ?_⟩
  obtain ⟨ho, hk⟩ := hone_of hone j f hj
  have h1 := hf j f hj
  have hjl : j < cs.length := (List.getElem?_eq_some_iff.1 hcj).1
  have hxl : j < xs.length := by have := (Array.getElem?_eq_some_iff.1 hj).1; omega
  rw [ho, hk, List.drop_eq_getElem_cons hjl, List.getElem?_eq_getElem hxl] at h1
  rw [List.getElem?_eq_getElem hjl] at hcj
  injection hcj with hcj
  exact ⟨_, by simpa [hcj] using h1⟩

/-- .. and by value -/
theorem open_fields {H : Type} {enc : TypeId × Value → H} {P : Program} {W : World} {base b0 : Nat} {r : Reach} {spare : Nat → Bool} {held : Bool} {t : TypeId} {fs : Array Field} {v : Value} {d : DataW H} {p : List MemPlace}
    (hs : P.underlying t = some (.struct fs)) (hone : oneCellFields P fs = true) (hC : P.cellsOf t = fs.size) (hv : Value.okWide P W r b0 t v) (h : DataW.Trod enc P W base spare held t v d p) :
    ∃ (cs : List Value) (n : Nat), v = .agg cs.toArray ∧ cs.length = fs.size ∧ ∀ (j : Nat) (f : Field) (c : Value), fs[j]? = some f → cs[j]? = some c → ∃ y, DataW.trod enc P W base spare held n f.type [c] = some y := by
  obtain ⟨cs, rfl, hsz⟩ := okWide_struct hs hv
  obtain ⟨fuel, hf⟩ := h
  obtain ⟨n, hl, hg⟩ := trod_fields hs hone hC hf
  refine ⟨cs.toList, n, rfl, by simpa using hsz.trans hC, fun j f c hj hcj => hg j f c hj (by simpa [Value.cells] using hcj)⟩

end Go.Proofs.Ytbfickdgjgbfhaa
