/- What holds in the midst of the laws over RectsOf and RectOf. -/
import Derived.Test.YtbfickdgjgbfhaaQLyImpl5ToQMarks
namespace Go.Proofs.Ytbfickdgjgbfhaa
open Go.RowKit
set_option linter.unusedVariables false

theorem NewRr.rx {w : World} {r : Int × List Q} {e : Ending} {w' : World} (h : NewRr w r e w') : NewRx w r e w' := by
  obtain ⟨v, he, ho, hb⟩ := h
  obtain ⟨p, c, rfl⟩ := ho.slice
  exact ⟨p, c, he, ho.qx.2, hb⟩
theorem rrOf_len (x : Ly) (h : lyFault x = 0 → x.nodes.length ≤ 11) : (rrOf x).2.length ≤ 2048 := by
  unfold rrOf
  split
  · rename_i hf
    have h1 := rcOf_len x.nodes x.nodes.length 0 (whole x.wide x.high)
    have hpow : 2 ^ x.nodes.length ≤ 2 ^ 11 := Nat.pow_le_pow_right (by omega) (h hf)
    have hpow2 : (2 : Nat) ^ 11 = 2048 := by decide
    unfold lyRects
    simp only
    omega
  · simp
theorem roOf_len (x : Ly) (pn : Int) : (roOf x pn).2.length ≤ 2048 := by
  have h1 : ∀ L : List Q, (findQ pn L).length ≤ 1 := by
    intro L
    induction L with
    | nil => simp [findQ]
    | cons q t ih => unfold findQ; split <;> simp_all
  unfold roOf
  split
  · split
    · simp
    · have := h1 (lyRects x); simp only; omega
  · simp
theorem rrOf_small (x : Ly) : (rrOf x).2.length ≤ 2048 := rrOf_len x fun h => (tree_of_fault h).1.n1

structure RSt (w : World) (a : Ly) (p : Option Addr) (c : Nat) (r : Int × List Q) (b3 b4 b6 : Nat) (p3 : Option Addr) (c3 : Nat) (p4 p6 : Option Addr) (c6 base4 base6 lo hi : Nat) (nodes rects : List Q) (W : World) : Prop where
  A : AtL W w.heap.size [.int .i64 a.wide, .int .i64 a.high, .slice p a.nodes.length c]
  W3 : AtL W b3 [.int .i64 r.1, .slice p3 r.2.length c3]
  X4 : AtL W b4 [.int .i64 a.wide, .int .i64 a.high, .slice p4 a.nodes.length a.nodes.length]
  Y6 : AtL W b6 [.int .i64 r.1, .slice p6 r.2.length c6]
  w0 : Qx W lo hi p3 r.2
  x0 : OwnQ 76 W base4 (.slice p4 a.nodes.length a.nodes.length) nodes
  g0 : OwnQ 69 W base6 (.slice p6 r.2.length c6) rects
  D : Below w.heap.size w W
  o0 : w.heap.size < lo
  o2 : hi ≤ b3
  o3 : b3 < base4
  o4 : ∀ g, (Value.slice p4 a.nodes.length a.nodes.length).ownBlock = some g → g < b4
  o5 : b4 < base6
  o6 : ∀ g, (Value.slice p6 r.2.length c6).ownBlock = some g → g < b6
  o7 : b3 < b4
  o8 : b4 < b6
  o9 : w.heap.size < b3

section
variable {w W W' : World} {a : Ly} {p : Option Addr} {c : Nat} {r : Int × List Q} {b3 b4 b6 : Nat} {p3 : Option Addr} {c3 : Nat} {p4 p6 : Option Addr} {c6 base4 base6 lo hi : Nat} {nodes rects : List Q}
theorem RSt.on (h : RSt w a p c r b3 b4 b6 p3 c3 p4 p6 c6 base4 base6 lo hi nodes rects W) (hb : Below W.heap.size W W') : RSt w a p c r b3 b4 b6 p3 c3 p4 p6 c6 base4 base6 lo hi nodes rects W' :=
  ⟨h.A.on hb, h.W3.on hb, h.X4.on hb, h.Y6.on hb, h.w0.at hb (by have := h.W3.1; have := h.o2; omega), h.x0.on hb, h.g0.on hb, below_on h.D hb, h.o0, h.o2, h.o3, h.o4, h.o5, h.o6, h.o7, h.o8, h.o9⟩
theorem RSt.markX (h : RSt w a p c r b3 b4 b6 p3 c3 p4 p6 c6 base4 base6 lo hi nodes rects W) {ns : List Q} (hx : OwnQ 76 W' base4 (.slice p4 a.nodes.length a.nodes.length) ns) (hg : W.grownBy W' (Value.slice p4 a.nodes.length a.nodes.length).ownBlock) :
    RSt w a p c r b3 b4 b6 p3 c3 p4 p6 c6 base4 base6 lo hi ns rects W' := by
  have hl := h.x0.lt
  have h4 := h.o4
  have h0 := h.o0; have h2 := h.o2; have h3 := h.o3; have h5 := h.o5; have h7 := h.o7; have h8 := h.o8; have h9' := h.o9
  refine ⟨h.A.far hg (fun e => by have := hl _ e.symm; have := h4 _ e.symm; omega), h.W3.far hg (fun e => by have := hl _ e.symm; omega), h.X4.far hg (fun e => by have := h4 _ e.symm; omega), h.Y6.far hg (fun e => by have := h4 _ e.symm; omega),
    h.w0.far (by have := h.W3.1; omega) hg (fun g e => by have := hl _ e; omega), hx, h.g0.far hg (fun g e e' => by have := h4 _ e'.symm; have := (h.g0.lt g e).1; omega), h.D.trans (below_of_grown hg h.D.size (fun g e => by have := hl _ e; omega)), h.o0, h.o2, h.o3, h.o4, h.o5, h.o6, h.o7, h.o8, h.o9⟩
theorem RSt.markG (h : RSt w a p c r b3 b4 b6 p3 c3 p4 p6 c6 base4 base6 lo hi nodes rects W) {rs : List Q} (hx : OwnQ 69 W' base6 (.slice p6 r.2.length c6) rs) (hg : W.grownBy W' (Value.slice p6 r.2.length c6).ownBlock) :
    RSt w a p c r b3 b4 b6 p3 c3 p4 p6 c6 base4 base6 lo hi nodes rs W' := by
  have hl := h.g0.lt
  have h4 := h.o4
  have h6 := h.o6
  have h0 := h.o0; have h2 := h.o2; have h3 := h.o3; have h5 := h.o5; have h7 := h.o7; have h8 := h.o8; have h9' := h.o9
  refine ⟨h.A.far hg (fun e => by have := hl _ e.symm; omega), h.W3.far hg (fun e => by have := hl _ e.symm; omega), h.X4.far hg (fun e => by have := hl _ e.symm; omega), h.Y6.far hg (fun e => by have := h6 _ e.symm; omega),
    h.w0.far (by have := h.W3.1; omega) hg (fun g e => by have := hl _ e; omega), h.x0.far hg (fun g e e' => by have := h4 _ e; have := hl _ e'.symm; omega), hx, h.D.trans (below_of_grown hg h.D.size (fun g e => by have := hl _ e; omega)), h.o0, h.o2, h.o3, h.o4, h.o5, h.o6, h.o7, h.o8, h.o9⟩
end

end Go.Proofs.Ytbfickdgjgbfhaa
