/- What holds in the midst of the laws over the layout edits. -/
import Derived.Test.YtbfickdgjgbfhaaQEdMarks
import Derived.Test.YtbfickdgjgbfhaaQEdDataToEdKill
namespace Go.Proofs.Ytbfickdgjgbfhaa
open Go.RowKit
set_option linter.unusedVariables false

/-- .. in memory that nobody else had -/
def NewLx (w : World) (k : Int) (x : Ly) (e : Ending) (w' : World) : Prop := ∃ p c, e = .returned (lrV k x (.slice p x.nodes.length c)) ∧ Qx w' w.heap.size w'.heap.size p x.nodes ∧ Below w.heap.size w w'
theorem NewLr.lx {w : World} {k : Int} {x : Ly} {e : Ending} {w' : World} (h : NewLr w k x e w') : NewLx w k x e w' := by
  obtain ⟨v, he, ho, hb⟩ := h
  obtain ⟨p, c, rfl⟩ := ho.slice
  exact ⟨p, c, he, ho.qx.2, hb⟩
theorem Tree.small {x : Ly} (h : Tree x) : x.nodes.length ≤ 2048 := by have := h.n1; omega

structure ESt (w : World) (a : Ly) (p : Option Addr) (c : Nat) (r : Int × Ly) (b3 b4 b6 : Nat) (p3 : Option Addr) (c3 : Nat) (p4 p6 : Option Addr) (c6 base4 base6 lo hi : Nat) (nodes rects : List Q) (W : World) : Prop where
  A : AtL W w.heap.size [.int .i64 a.wide, .int .i64 a.high, .slice p a.nodes.length c]
  W3 : AtL W b3 [.int .i64 r.1, .int .i64 r.2.wide, .int .i64 r.2.high, .slice p3 r.2.nodes.length c3]
  X4 : AtL W b4 [.int .i64 a.wide, .int .i64 a.high, .slice p4 a.nodes.length a.nodes.length]
  Y6 : AtL W b6 [.int .i64 r.1, .int .i64 r.2.wide, .int .i64 r.2.high, .slice p6 r.2.nodes.length c6]
  w0 : Qx W lo hi p3 r.2.nodes
  x0 : OwnQ 76 W base4 (.slice p4 a.nodes.length a.nodes.length) nodes
  g0 : OwnQ 76 W base6 (.slice p6 r.2.nodes.length c6) rects
  D : Below w.heap.size w W
  o0 : w.heap.size < lo
  o2 : hi ≤ b3
  o3 : b3 < base4
  o4 : ∀ g, (Value.slice p4 a.nodes.length a.nodes.length).ownBlock = some g → g < b4
  o5 : b4 < base6
  o6 : ∀ g, (Value.slice p6 r.2.nodes.length c6).ownBlock = some g → g < b6
  o7 : b3 < b4
  o8 : b4 < b6
  o9 : w.heap.size < b3

section
variable {w W W' : World} {a : Ly} {p : Option Addr} {c : Nat} {r : Int × Ly} {b3 b4 b6 : Nat} {p3 : Option Addr} {c3 : Nat} {p4 p6 : Option Addr} {c6 base4 base6 lo hi : Nat} {nodes rects : List Q}
theorem ESt.on (h : ESt w a p c r b3 b4 b6 p3 c3 p4 p6 c6 base4 base6 lo hi nodes rects W) (hb : Below W.heap.size W W') : ESt w a p c r b3 b4 b6 p3 c3 p4 p6 c6 base4 base6 lo hi nodes rects W' :=
  ⟨h.A.on hb, h.W3.on hb, h.X4.on hb, h.Y6.on hb, h.w0.at hb (by have := h.W3.1; have := h.o2; omega), h.x0.on hb, h.g0.on hb, below_on h.D hb, h.o0, h.o2, h.o3, h.o4, h.o5, h.o6, h.o7, h.o8, h.o9⟩
theorem ESt.markX (h : ESt w a p c r b3 b4 b6 p3 c3 p4 p6 c6 base4 base6 lo hi nodes rects W) {ns : List Q} (hx : OwnQ 76 W' base4 (.slice p4 a.nodes.length a.nodes.length) ns) (hg : W.grownBy W' (Value.slice p4 a.nodes.length a.nodes.length).ownBlock) :
    ESt w a p c r b3 b4 b6 p3 c3 p4 p6 c6 base4 base6 lo hi ns rects W' := by
  have hl := h.x0.lt
  have h4 := h.o4
  have h0 := h.o0; have h2 := h.o2; have h3 := h.o3; have h5 := h.o5; have h7 := h.o7; have h8 := h.o8; have h9' := h.o9
  refine ⟨h.A.far hg (fun e => by have := hl _ e.symm; have := h4 _ e.symm; omega), h.W3.far hg (fun e => by have := hl _ e.symm; omega), h.X4.far hg (fun e => by have := h4 _ e.symm; omega), h.Y6.far hg (fun e => by have := h4 _ e.symm; omega),
    h.w0.far (by have := h.W3.1; omega) hg (fun g e => by have := hl _ e; omega), hx, h.g0.far hg (fun g e e' => by have := h4 _ e'.symm; have := (h.g0.lt g e).1; omega), h.D.trans (below_of_grown hg h.D.size (fun g e => by have := hl _ e; omega)), h.o0, h.o2, h.o3, h.o4, h.o5, h.o6, h.o7, h.o8, h.o9⟩
theorem ESt.markG (h : ESt w a p c r b3 b4 b6 p3 c3 p4 p6 c6 base4 base6 lo hi nodes rects W) {rs : List Q} (hx : OwnQ 76 W' base6 (.slice p6 r.2.nodes.length c6) rs) (hg : W.grownBy W' (Value.slice p6 r.2.nodes.length c6).ownBlock) :
    ESt w a p c r b3 b4 b6 p3 c3 p4 p6 c6 base4 base6 lo hi nodes rs W' := by
  have hl := h.g0.lt
  have h4 := h.o4
  have h6 := h.o6
  have h0 := h.o0; have h2 := h.o2; have h3 := h.o3; have h5 := h.o5; have h7 := h.o7; have h8 := h.o8; have h9' := h.o9
  refine ⟨h.A.far hg (fun e => by have := hl _ e.symm; omega), h.W3.far hg (fun e => by have := hl _ e.symm; omega), h.X4.far hg (fun e => by have := hl _ e.symm; omega), h.Y6.far hg (fun e => by have := h6 _ e.symm; omega),
    h.w0.far (by have := h.W3.1; omega) hg (fun g e => by have := hl _ e; omega), h.x0.far hg (fun g e e' => by have := h4 _ e; have := hl _ e'.symm; omega), hx, h.D.trans (below_of_grown hg h.D.size (fun g e => by have := hl _ e; omega)), h.o0, h.o2, h.o3, h.o4, h.o5, h.o6, h.o7, h.o8, h.o9⟩
end

end Go.Proofs.Ytbfickdgjgbfhaa
