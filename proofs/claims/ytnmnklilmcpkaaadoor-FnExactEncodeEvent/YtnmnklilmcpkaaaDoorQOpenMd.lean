/- Opening Modes that came in. -/
import Derived.Test.YtnmnklilmcpkaaaDoorQOpenEv
import Derived.Test.YtnmnklilmcpkaaaDoorQMd
namespace Go.Proofs.YtnmnklilmcpkaaaDoor
open Go.ChangeShapes Go.WideShapes Go.ChangeAt Go.RowKit Go.Deep

theorem bool_cellM {H : Type} {enc : TypeId × Value → H} {P : Program} {W : World} {base : Nat} {spare : Nat → Bool} {held : Bool} {t : TypeId} {v : Value} {n : Nat} {y : DataW H × List MemPlace}
    (ht : P.underlying t = some .bool) (h : DataW.trod enc P W base spare held n t [v] = some y) : ∃ a, v = .bool a := by
  obtain ⟨a, e, _⟩ := DataW.trod_bool ht h
  exact ⟨a, by simpa using e⟩

set_option maxRecDepth 100000 in
theorem open_lawModes {H : Type} {enc : TypeId × Value → H} {W : World} {v : Value} {d : DataW H} {p : List MemPlace} {b0 : Nat} {r : Reach}
    (hv : Value.okWide Tryd.prog W r b0 34 v) (h : DataW.Trod enc Tryd.prog W 0 (fun _ => true) true 34 v d p) :
    ∃ m : Md, v = mdV m := by
  obtain ⟨cs, n, rfl, hl, hf⟩ := open_fields Tryd.underlying34 (by kernel_rfl) (by kernel_rfl) hv h
  match cs, hl with
  | [c0, c1, c2, c3, c4], _ =>
    obtain ⟨y0, g0⟩ := hf 0 _ c0 rfl rfl
    obtain ⟨y1, g1⟩ := hf 1 _ c1 rfl rfl
    obtain ⟨y2, g2⟩ := hf 2 _ c2 rfl rfl
    obtain ⟨y3, g3⟩ := hf 3 _ c3 rfl rfl
    obtain ⟨y4, g4⟩ := hf 4 _ c4 rfl rfl
    obtain ⟨a0, rfl⟩ := bool_cellM Tryd.underlying4 g0
    obtain ⟨a1, rfl⟩ := bool_cellM Tryd.underlying4 g1
    obtain ⟨a2, rfl, _⟩ := int_cell Tryd.underlying2 g2
    obtain ⟨a3, rfl⟩ := bool_cellM Tryd.underlying4 g3
    obtain ⟨a4, rfl⟩ := bool_cellM Tryd.underlying4 g4
    exact ⟨⟨a0, a1, a2, a3, a4⟩, rfl⟩

end Go.Proofs.YtnmnklilmcpkaaaDoor
