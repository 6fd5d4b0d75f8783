/- Opening a decoder that came in. -/
import Derived.Test.YtbmfdakagcbpiaaDoorQOpenEv
import Derived.Test.YtbmfdakagcbpiaaDoorQDec
namespace Go.Proofs.YtbmfdakagcbpiaaDoor
open Go.ChangeShapes Go.WideShapes Go.ChangeAt Go.RowKit Go.Deep

theorem bool_cell {H : Type} {enc : TypeId × Value → H} {P : Program} {W : World} {base : Nat} {spare : Nat → Bool} {held : Bool} {t : TypeId} {v : Value} {n : Nat} {y : DataW H × List MemPlace}
    (ht : P.underlying t = some .bool) (h : DataW.trod enc P W base spare held n t [v] = some y) : ∃ a, v = .bool a := by
  obtain ⟨a, e, _⟩ := DataW.trod_bool ht h
  exact ⟨a, by simpa using e⟩

set_option maxRecDepth 100000 in
theorem open_lawDecoder {H : Type} {enc : TypeId × Value → H} {W : World} {v : Value} {d : DataW H} {p : List MemPlace} {b0 : Nat} {r : Reach}
    (hv : Value.okWide Tryd.prog W r b0 24 v) (h : DataW.Trod enc Tryd.prog W 0 (fun _ => true) true 24 v d p) :
    ∃ (e : Dc) (p : Option Addr) (c : Nat), v = dcV e p c ∧ Bs W W.heap.size p e.pend ∧ e.pend.length ≤ 9223372036854775807 := by
  obtain ⟨cs, n, rfl, hl, hf⟩ := open_fields Tryd.underlying24 (by kernel_rfl) (by kernel_rfl) hv h
  match cs, hl with
  | [c0, c1, c2], _ =>
    obtain ⟨y0, g0⟩ := hf 0 _ c0 rfl rfl
    obtain ⟨y1, g1⟩ := hf 1 _ c1 rfl rfl
    obtain ⟨y2, g2⟩ := hf 2 _ c2 rfl rfl
    obtain ⟨p, c, l, rfl, hb, hm⟩ := open_bs_cell Tryd.underlying22 Tryd.underlying5 (by kernel_rfl) g0
    obtain ⟨a1, rfl⟩ := bool_cell Tryd.underlying4 g1
    obtain ⟨a2, rfl, _⟩ := int_cell Tryd.underlying2 g2
    exact ⟨⟨l, a1, a2⟩, p, c, rfl, hb, by simpa [maxLen] using hm⟩

end Go.Proofs.YtbmfdakagcbpiaaDoor
