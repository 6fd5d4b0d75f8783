/- Opening an event that came in. -/
import Derived.Test.YtnmnklilmcpkaaaDoorQOpen
import Derived.Test.YtnmnklilmcpkaaaDoorQEvents
namespace Go.Proofs.YtnmnklilmcpkaaaDoor
open Go.ChangeShapes Go.WideShapes Go.ChangeAt Go.RowKit Go.Deep

theorem int_cell {H : Type} {enc : TypeId × Value → H} {P : Program} {W : World} {base : Nat} {spare : Nat → Bool} {held : Bool} {t : TypeId} {k : IntKind} {v : Value} {n : Nat} {y : DataW H × List MemPlace}
    (ht : P.underlying t = some (.int k)) (h : DataW.trod enc P W base spare held n t [v] = some y) : ∃ a, v = .int k a ∧ (Lit.int k a).wf = true := by
  obtain ⟨a, e, _, w⟩ := DataW.trod_int ht h
  exact ⟨a, by simpa using e, w⟩

set_option maxRecDepth 100000 in
/-- the cells of an event (the law's or the program's type), as its reading gives them -/
theorem ev_of_cells {H : Type} {enc : TypeId × Value → H} {W : World} {cs : List Value} {n : Nat} {fs : Array Field}
    (hfs : fs.toList.map (·.type) = [2, 2, 2, 2, 2, 2, 2, 22]) (hl : cs.length = fs.size)
    (hf : ∀ (j : Nat) (f : Field) (c : Value), fs[j]? = some f → cs[j]? = some c → ∃ y, DataW.trod enc Tryd.prog W 0 (fun _ => true) true n f.type [c] = some y) :
    ∃ (e : Ev) (p : Option Addr) (c : Nat), cs = (evC e p c).toList ∧ Bs W W.heap.size p e.data ∧ e.data.length ≤ maxLen := by
  obtain ⟨l⟩ := fs
  have h8 : l.length = 8 := by simpa using congrArg List.length hfs
  match l, h8 with
  | [f0, f1, f2, f3, f4, f5, f6, f7], _ =>
    simp at hfs
    obtain ⟨t0, t1, t2, t3, t4, t5, t6, t7⟩ := hfs
    match cs, hl with
    | [c0, c1, c2, c3, c4, c5, c6, c7], _ =>
      obtain ⟨y0, g0⟩ := hf 0 f0 c0 rfl rfl
      obtain ⟨y1, g1⟩ := hf 1 f1 c1 rfl rfl
      obtain ⟨y2, g2⟩ := hf 2 f2 c2 rfl rfl
      obtain ⟨y3, g3⟩ := hf 3 f3 c3 rfl rfl
      obtain ⟨y4, g4⟩ := hf 4 f4 c4 rfl rfl
      obtain ⟨y5, g5⟩ := hf 5 f5 c5 rfl rfl
      obtain ⟨y6, g6⟩ := hf 6 f6 c6 rfl rfl
      obtain ⟨y7, g7⟩ := hf 7 f7 c7 rfl rfl
      rw [t0] at g0; rw [t1] at g1; rw [t2] at g2; rw [t3] at g3; rw [t4] at g4; rw [t5] at g5; rw [t6] at g6; rw [t7] at g7
      obtain ⟨a0, rfl, _⟩ := int_cell Tryd.underlying2 g0
      obtain ⟨a1, rfl, _⟩ := int_cell Tryd.underlying2 g1
      obtain ⟨a2, rfl, _⟩ := int_cell Tryd.underlying2 g2
      obtain ⟨a3, rfl, _⟩ := int_cell Tryd.underlying2 g3
      obtain ⟨a4, rfl, _⟩ := int_cell Tryd.underlying2 g4
      obtain ⟨a5, rfl, _⟩ := int_cell Tryd.underlying2 g5
      obtain ⟨a6, rfl, _⟩ := int_cell Tryd.underlying2 g6
      obtain ⟨p, c, d, rfl, hb, hm⟩ := open_bs_cell Tryd.underlying22 Tryd.underlying5 (by kernel_rfl) g7
      exact ⟨⟨a0, a1, a2, a3, a4, a5, a6, d⟩, p, c, rfl, hb, hm⟩

set_option maxRecDepth 100000 in
theorem open_lawEvent {H : Type} {enc : TypeId × Value → H} {W : World} {v : Value} {d : DataW H} {p : List MemPlace} {b0 : Nat} {r : Reach}
    (hv : Value.okWide Tryd.prog W r b0 35 v) (h : DataW.Trod enc Tryd.prog W 0 (fun _ => true) true 35 v d p) :
    ∃ (e : Ev) (p : Option Addr) (c : Nat), v = evV e p c ∧ Bs W W.heap.size p e.data ∧ e.data.length ≤ 9223372036854775807 := by
  obtain ⟨cs, n, rfl, hl, hf⟩ := open_fields Tryd.underlying35 (by kernel_rfl) (by kernel_rfl) hv h
  obtain ⟨e, p, c, rfl, hb, hm⟩ := ev_of_cells (by rfl) hl hf
  exact ⟨e, p, c, rfl, hb, by simpa [maxLen] using hm⟩

end Go.Proofs.YtnmnklilmcpkaaaDoor
