/- The laws' own marks over layouts and places. -/
import Derived.Test.YtbfickdgjgbfhaaQLyImpl5ToLyIn
namespace Go.Proofs.Ytbfickdgjgbfhaa
open Go.RowKit
set_option linter.unusedVariables false





/-- what marking leaves -/
def MarkedQ (T : TypeId) (w : World) (base : Nat) (v : Value) (l : List Q) (k : Nat) (e : Ending) (w' : World) : Prop :=
  e = .returned (.int .i64 ((k + l.length * 5 : Nat) : Int)) ∧ OwnQ T w' base v (marksQ k l.length) ∧ w.grownBy w' v.ownBlock

theorem OwnQ.markRow {T : TypeId} {w : World} {base g n c k j : Nat} {l : List Q} (h : OwnQ T w base (.slice (some ⟨g, 0, none⟩) n c) (halfQ l k j)) (hj : j < l.length) :
    OwnQ T (((((w.setCell ⟨g, j * 5, none⟩ (.int .i64 ((k + j * 5 : Nat) : Int))).setCell ⟨g, j * 5 + 1, none⟩ (.int .i64 (((k + j * 5 : Nat) : Int) + 1))).setCell ⟨g, j * 5 + 2, none⟩ (.int .i64 (((k + j * 5 : Nat) : Int) + 1 + 1))).setCell ⟨g, j * 5 + 3, none⟩ (.int .i64 (((k + j * 5 : Nat) : Int) + 1 + 1 + 1))).setCell ⟨g, j * 5 + 4, none⟩ (.int .i64 (((k + j * 5 : Nat) : Int) + 1 + 1 + 1 + 1))) base (.slice (some ⟨g, 0, none⟩) n c) (halfQ l k (j + 1)) ∧
    w.grownBy (((((w.setCell ⟨g, j * 5, none⟩ (.int .i64 ((k + j * 5 : Nat) : Int))).setCell ⟨g, j * 5 + 1, none⟩ (.int .i64 (((k + j * 5 : Nat) : Int) + 1))).setCell ⟨g, j * 5 + 2, none⟩ (.int .i64 (((k + j * 5 : Nat) : Int) + 1 + 1))).setCell ⟨g, j * 5 + 3, none⟩ (.int .i64 (((k + j * 5 : Nat) : Int) + 1 + 1 + 1))).setCell ⟨g, j * 5 + 4, none⟩ (.int .i64 (((k + j * 5 : Nat) : Int) + 1 + 1 + 1 + 1))) (some g) := by
  have e : (⟨((k + j * 5 : Nat) : Int), ((k + j * 5 : Nat) : Int) + 1, ((k + j * 5 : Nat) : Int) + 1 + 1, ((k + j * 5 : Nat) : Int) + 1 + 1 + 1, ((k + j * 5 : Nat) : Int) + 1 + 1 + 1 + 1⟩ : Q) = markQ (k + j * 5) := by
    unfold markQ; congr 1 <;> omega
  have := h.put j ⟨((k + j * 5 : Nat) : Int), ((k + j * 5 : Nat) : Int) + 1, ((k + j * 5 : Nat) : Int) + 1 + 1, ((k + j * 5 : Nat) : Int) + 1 + 1 + 1, ((k + j * 5 : Nat) : Int) + 1 + 1 + 1 + 1⟩ (by rw [halfQ_len l k j (by omega)]; exact hj)
  rw [← halfQ_set l k j hj, ← e]
  exact this


set_option maxRecDepth 100000 in
set_option maxHeartbeats 4000000 in
theorem markNodeS_own (w : World) (base g cap k : Nat) (l : List Q) (h : OwnQ 76 w base (.slice (some ⟨g, 0, none⟩) l.length cap) l) (hl : l.length ≤ 1048576) (hk : k ≤ 1048576) :
    Calls Try.prog 66 #[.slice (some ⟨g, 0, none⟩) l.length cap, .int .i64 k] w (MarkedQ 76 w base (.slice (some ⟨g, 0, none⟩) l.length cap) l k) := by
  have HO := Lib.hid h
  clear h
  go_enter Try.func66, Try.ntmps66
  go_wp2
  go_loopw [1, 5] (fun q i wr => ∃ j : Nat, j ≤ l.length ∧ i = .int .i64 j ∧ q = .int .i64 (k + j * 5 : Nat) ∧ OwnQ 76 wr base (.slice (some ⟨g, 0, none⟩) l.length cap) (halfQ l k j) ∧ w.grownBy wr (some g)) (fun _ i _ => l.length - (intOf i).toNat)
  case atStart => exact ⟨0, by omega, rfl, by simp, by rw [halfQ_zero]; exact HO.out, World.grownBy.refl w _⟩
  case round =>
    obtain ⟨j, hj, rfl, rfl, ho, hg⟩ := hrel
    by_cases hlt : j < l.length
    · have HS := Lib.hid (ho.markRow hlt)
      obtain ⟨-, hrow, hfz⟩ := ho.row
      obtain ⟨c0, c1, c2, c3, c4⟩ := hrow j (by rw [halfQ_len l k j hj]; exact hlt)
      have HG := Lib.hid hg
      have i3 : (j : Int) < (l.length : Int) := by omega
      have i0 : (0 : Int) ≤ (j : Int) := by omega
      clear ho hg HO hrow
      generalize hm : (k + j * 5 : Nat) = m at *
      have hm0 : (m : Int) ≤ 10000000 := by omega
      have HM := Lib.hid hm
      clear hm
      go_wp2
      exact ⟨⟨j + 1, by omega, by go_num, by have := HM.out; go_num, HS.out.1, grown_trans HG.out HS.out.2⟩, by simp [intOf]; omega⟩
    · obtain rfl : j = l.length := by omega
      rw [halfQ_all] at ho
      go_wp2
      go_ret
      exact ⟨rfl, ho, hg⟩

set_option maxHeartbeats 400000 in
theorem markNodeS_nil (w : World) (k : Nat) :
    Calls Try.prog 66 #[.slice none 0 0, .int .i64 k] w fun e w' => e = .returned (.int .i64 k) ∧ w = w' := by
  go_enter Try.func66, Try.ntmps66
  go_wp2
  go_loop [1, 5] (fun q i => i = .int .i64 0 ∧ q = .int .i64 k) (fun _ _ => 0)
  case atStart => exact ⟨rfl, rfl⟩
  case round =>
    obtain ⟨rfl, rfl⟩ := hrel
    go_wp2
    go_ret
    exact ⟨rfl, rfl⟩

theorem markNodeS_any (w : World) (base k : Nat) (v : Value) (l : List Q) (h : OwnQ 76 w base v l) (hl : l.length ≤ 1048576) (hk : k ≤ 1048576) :
    Calls Try.prog 66 #[v, .int .i64 k] w (MarkedQ 76 w base v l k) := by
  rcases h.form with ⟨rfl, rfl⟩ | ⟨g, cap, rfl, _, _, _⟩
  · exact (markNodeS_nil w k).mono fun _ _ ⟨he, hw⟩ => ⟨by rw [he]; rfl, by subst hw; exact h, by subst hw; exact grown_refl _ _⟩
  · exact markNodeS_own w base g cap k l h hl hk











set_option maxRecDepth 100000 in
set_option maxHeartbeats 1000000 in
theorem markLayout_any (w : World) (base k : Nat) (wide high : Int) (l : List Q) (p : Option Addr) (c : Nat) (h : OwnQ 76 w base (.slice p l.length c) l) (hl : l.length ≤ 1048576) (hk : k ≤ 1048576) :
    Calls Try.prog 16 #[.agg #[.int .i64 wide, .int .i64 high, .slice p l.length c], .int .i64 k] w (MarkedQ 76 w base (.slice p l.length c) l k) := by
  have HC := Lib.hid (fun o => markNodeS_any (w.alloc o) base k _ l (h.on (below_mk w o)) hl hk)
  clear h
  go_enter Try.func16, Try.ntmps16
  go_wp2_with (go_at_call 66; refine (HC.out _).mono ?_; rintro e w1 ⟨rfl, ho, hg⟩)
  go_ret
  exact ⟨rfl, ho, grown_trans (grown_of_below (below_mk _ _) _) hg⟩

end Go.Proofs.Ytbfickdgjgbfhaa

/- What holds in the midst of the laws over RectsOf and RectOf. -/
namespace Go.Proofs.Ytbfickdgjgbfhaa
open Go.RowKit
set_option linter.unusedVariables false

theorem NewRr.rx {w : World} {r : Int × List Q} {e : Ending} {w' : World} (h : NewRr w r e w') : NewRx w r e w' := by
  obtain ⟨v, he, ho, hb⟩ := h
  obtain ⟨p, c, rfl⟩ := ho.slice
  exact ⟨p, c, he, ho.qx.2, hb⟩
theorem rrOf_len (x : Ly) (h : lyFault x = 0 → x.nodes.length ≤ 11) : (rrOf x).2.length ≤ 2048 := by
  unfold rrOf
  split
  · rename_i hf
    have h1 := rcOf_len x.nodes x.nodes.length 0 (whole x.wide x.high)
    have hpow : 2 ^ x.nodes.length ≤ 2 ^ 11 := Nat.pow_le_pow_right (by omega) (h hf)
    have hpow2 : (2 : Nat) ^ 11 = 2048 := by decide
    unfold lyRects
    simp only
    omega
  · simp
theorem roOf_len (x : Ly) (pn : Int) : (roOf x pn).2.length ≤ 2048 := by
  have h1 : ∀ L : List Q, (findQ pn L).length ≤ 1 := by
    intro L
    induction L with
    | nil => simp [findQ]
    | cons q t ih => unfold findQ; split <;> simp_all
  unfold roOf
  split
  · split
    · simp
    · have := h1 (lyRects x); simp only; omega
  · simp
theorem rrOf_small (x : Ly) : (rrOf x).2.length ≤ 2048 := rrOf_len x fun h => (tree_of_fault h).1.n1

structure RSt (w : World) (a : Ly) (p : Option Addr) (c : Nat) (r : Int × List Q) (b3 b4 b6 : Nat) (p3 : Option Addr) (c3 : Nat) (p4 p6 : Option Addr) (c6 base4 base6 lo hi : Nat) (nodes rects : List Q) (W : World) : Prop where
  A : AtL W w.heap.size [.int .i64 a.wide, .int .i64 a.high, .slice p a.nodes.length c]
  W3 : AtL W b3 [.int .i64 r.1, .slice p3 r.2.length c3]
  X4 : AtL W b4 [.int .i64 a.wide, .int .i64 a.high, .slice p4 a.nodes.length a.nodes.length]
  Y6 : AtL W b6 [.int .i64 r.1, .slice p6 r.2.length c6]
  w0 : Qx W lo hi p3 r.2
  x0 : OwnQ 76 W base4 (.slice p4 a.nodes.length a.nodes.length) nodes
  g0 : OwnQ 69 W base6 (.slice p6 r.2.length c6) rects
  D : Below w.heap.size w W
  o0 : w.heap.size < lo
  o2 : hi ≤ b3
  o3 : b3 < base4
  o4 : ∀ g, (Value.slice p4 a.nodes.length a.nodes.length).ownBlock = some g → g < b4
  o5 : b4 < base6
  o6 : ∀ g, (Value.slice p6 r.2.length c6).ownBlock = some g → g < b6
  o7 : b3 < b4
  o8 : b4 < b6
  o9 : w.heap.size < b3

section
variable {w W W' : World} {a : Ly} {p : Option Addr} {c : Nat} {r : Int × List Q} {b3 b4 b6 : Nat} {p3 : Option Addr} {c3 : Nat} {p4 p6 : Option Addr} {c6 base4 base6 lo hi : Nat} {nodes rects : List Q}
theorem RSt.on (h : RSt w a p c r b3 b4 b6 p3 c3 p4 p6 c6 base4 base6 lo hi nodes rects W) (hb : Below W.heap.size W W') : RSt w a p c r b3 b4 b6 p3 c3 p4 p6 c6 base4 base6 lo hi nodes rects W' :=
  ⟨h.A.on hb, h.W3.on hb, h.X4.on hb, h.Y6.on hb, h.w0.at hb (by have := h.W3.1; have := h.o2; omega), h.x0.on hb, h.g0.on hb, below_on h.D hb, h.o0, h.o2, h.o3, h.o4, h.o5, h.o6, h.o7, h.o8, h.o9⟩
theorem RSt.markX (h : RSt w a p c r b3 b4 b6 p3 c3 p4 p6 c6 base4 base6 lo hi nodes rects W) {ns : List Q} (hx : OwnQ 76 W' base4 (.slice p4 a.nodes.length a.nodes.length) ns) (hg : W.grownBy W' (Value.slice p4 a.nodes.length a.nodes.length).ownBlock) :
    RSt w a p c r b3 b4 b6 p3 c3 p4 p6 c6 base4 base6 lo hi ns rects W' := by
  have hl := h.x0.lt
  have h4 := h.o4
  have h0 := h.o0; have h2 := h.o2; have h3 := h.o3; have h5 := h.o5; have h7 := h.o7; have h8 := h.o8; have h9' := h.o9
  refine ⟨h.A.far hg (fun e => by have := hl _ e.symm; have := h4 _ e.symm; omega), h.W3.far hg (fun e => by have := hl _ e.symm; omega), h.X4.far hg (fun e => by have := h4 _ e.symm; omega), h.Y6.far hg (fun e => by have := h4 _ e.symm; omega),
    h.w0.far (by have := h.W3.1; omega) hg (fun g e => by have := hl _ e; omega), hx, h.g0.far hg (fun g e e' => by have := h4 _ e'.symm; have := (h.g0.lt g e).1; omega), h.D.trans (below_of_grown hg h.D.size (fun g e => by have := hl _ e; omega)), h.o0, h.o2, h.o3, h.o4, h.o5, h.o6, h.o7, h.o8, h.o9⟩
theorem RSt.markG (h : RSt w a p c r b3 b4 b6 p3 c3 p4 p6 c6 base4 base6 lo hi nodes rects W) {rs : List Q} (hx : OwnQ 69 W' base6 (.slice p6 r.2.length c6) rs) (hg : W.grownBy W' (Value.slice p6 r.2.length c6).ownBlock) :
    RSt w a p c r b3 b4 b6 p3 c3 p4 p6 c6 base4 base6 lo hi nodes rs W' := by
  have hl := h.g0.lt
  have h4 := h.o4
  have h6 := h.o6
  have h0 := h.o0; have h2 := h.o2; have h3 := h.o3; have h5 := h.o5; have h7 := h.o7; have h8 := h.o8; have h9' := h.o9
  refine ⟨h.A.far hg (fun e => by have := hl _ e.symm; omega), h.W3.far hg (fun e => by have := hl _ e.symm; omega), h.X4.far hg (fun e => by have := hl _ e.symm; omega), h.Y6.far hg (fun e => by have := h6 _ e.symm; omega),
    h.w0.far (by have := h.W3.1; omega) hg (fun g e => by have := hl _ e; omega), h.x0.far hg (fun g e e' => by have := h4 _ e; have := hl _ e'.symm; omega), hx, h.D.trans (below_of_grown hg h.D.size (fun g e => by have := hl _ e; omega)), h.o0, h.o2, h.o3, h.o4, h.o5, h.o6, h.o7, h.o8, h.o9⟩
end

end Go.Proofs.Ytbfickdgjgbfhaa
