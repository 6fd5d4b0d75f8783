/- The walk of the law over SplitPane. (Written by wip/gen_lawedits.py.) -/
import Derived.Test.YtbfickdgjgbfhaaQESt
import Derived.Test.YtbfickdgjgbfhaaQEdSpec3ToEdSpec4
import Derived.Test.YtbfickdgjgbfhaaQEdSpec5ToEdSpec6
import Derived.Test.YtbfickdgjgbfhaaQTakesToMem
namespace Go.Proofs.Ytbfickdgjgbfhaa
open Go.RowKit
set_option linter.unusedVariables false

set_option maxRecDepth 100000 in
set_option maxHeartbeats 4000000 in
theorem lawSplitPane_any (a : Ly) (pn k fr : Int) (p : Option Addr) (c : Nat) (w : World) (h : Qs w w.heap.size p a.nodes) (hn : a.nodes.length ≤ 9223372036854775807) :
    Calls Try.prog 3 #[lyV a p c, .int .i64 pn, .int .i64 k, .int .i64 fr] w fun e w' => e = .returned (.bool true) ∧ Below w.heap.size w w' := by
  have b0 := below_mk w (.cells (lyL a p c).toArray 24)
  have A0 := AtL.new w (lyL a p c) 24
  unfold lyL at b0 A0
  unfold lyV
  by_cases hs : leftOf 1048576 a.nodes.length < 0
  · go_enter Try.func3, Try.ntmps3
    go_wp2_with (go_at_call 10; refine (szLayout_any a p c _ _ hn (by omega) (by omega)).mono ?_; rintro en w1 ⟨rfl, b1⟩)
    go_ret
    exact ⟨rfl, below_on b0 b1⟩
  have hs0 : 0 ≤ leftOf 1048576 a.nodes.length := by omega
  have hl : a.nodes.length ≤ 1048576 := by have := (leftOf_le hs0).2; omega
  generalize hr : leftOf 1048576 a.nodes.length = r at *
  have HR := Lib.hid hr
  clear hr
  have SP := Lib.hid (fun p c w h => (specSplit_any a pn k fr p c w h hl).mono fun _ _ hx => hx.lx)
  have IP := Lib.hid (fun p c w h => implSplit_any a pn k fr p c w h hl)
  have hsm := splitR_small a pn k fr
  generalize splitR a pn k fr = rr at *
  go_enter Try.func3, Try.ntmps3
  go_wp2_with fail
  refine (szLayout_any a p c _ _ hn (by omega) (by omega)).mono ?_
  rw [HR.out]
  rintro en w1 ⟨rfl, b1⟩
  have A1 := A0.on b1
  have D1 := below_on b0 b1
  have z1 := A1.1
  clear b0 b1 A0
  obtain ⟨x0, x1, x2⟩ := A1.tri
  go_wp2_with fail
  refine (toLayout_any a p c _ (h.on D1) hl).mono ?_
  rintro e w2 ⟨p2, rfl, o2, b2⟩
  clear x0 x1 x2
  have n2 := o2.bs.2
  have A2 := A1.on b2
  have D2 := below_on D1 b2
  have z2 := b2.size
  clear A1 D1 b2 o2
  unfold lyV
  go_wp2_with fail
  refine (SP.out p2 _ _ n2).mono ?_
  rintro e w3 ⟨p3, c3, rfl, q3, b3⟩
  unfold lrV
  have BW := below_mk w3 (.cells #[.int .i64 rr.1, .int .i64 rr.2.wide, .int .i64 rr.2.high, .slice p3 rr.2.nodes.length c3] 30)
  have W3 := AtL.new w3 [.int .i64 rr.1, .int .i64 rr.2.wide, .int .i64 rr.2.high, .slice p3 rr.2.nodes.length c3] 30
  have A3 := (A2.on b3).on BW
  have D3 := below_on (below_on D2 b3) BW
  have Q3 := q3.at BW (Nat.le_refl _)
  have z3 := b3.size
  clear A2 D2 b3 n2 q3 BW
  obtain ⟨x0, x1, x2⟩ := A3.tri
  go_wp2_with fail
  refine (toLayout_any a p c _ (h.on D3) hl).mono ?_
  rintro e w4 ⟨p4, rfl, o4, b4⟩
  clear x0 x1 x2
  unfold lyV
  have B4 := below_mk w4 (.cells #[.int .i64 a.wide, .int .i64 a.high, .slice p4 a.nodes.length a.nodes.length] 28)
  have X4 := AtL.new w4 [.int .i64 a.wide, .int .i64 a.high, .slice p4 a.nodes.length a.nodes.length] 28
  have O4 := o4.on B4
  have A4 := (A3.on b4).on B4
  have W4 := (W3.on b4).on B4
  have Q4 := (Q3.at b4 (by simp)).at B4 (by have := b4.size; simp at this; omega)
  have D4 := below_on (below_on D3 b4) B4
  have r4 : ∀ g, (Value.slice p4 a.nodes.length a.nodes.length).ownBlock = some g → g < w4.heap.size := fun g hg => (o4.lt g hg).2
  have z4 := b4.size
  rw [World.size_alloc] at z4 O4
  clear A3 D3 W3 Q3 b4 B4 o4
  obtain ⟨x0, x1, x2⟩ := X4.tri
  go_wp2_with fail
  refine (IP.out p4 _ _ O4.bs.2).mono ?_
  rintro e w6 ⟨v6, rfl, o6, b6⟩
  obtain ⟨p6, c6, rfl⟩ := o6.slice
  clear x0 x1 x2
  unfold lrV
  have B6 := below_mk w6 (.cells #[.int .i64 rr.1, .int .i64 rr.2.wide, .int .i64 rr.2.high, .slice p6 rr.2.nodes.length c6] 30)
  have Y6 := AtL.new w6 [.int .i64 rr.1, .int .i64 rr.2.wide, .int .i64 rr.2.high, .slice p6 rr.2.nodes.length c6] 30
  have z6 := b6.size
  rw [World.size_alloc] at z6
  have S6 : ESt w a p c rr w3.heap.size w4.heap.size w6.heap.size p3 c3 p4 p6 c6 (w3.heap.size + 1) (w4.heap.size + 1) w2.heap.size w3.heap.size a.nodes rr.2.nodes _ :=
    ⟨(A4.on b6).on B6, (W4.on b6).on B6, (X4.on b6).on B6, Y6, (Q4.at b6 (by simp; omega)).at B6 (by omega), (O4.on b6).on B6, by have := o6.on B6; rw [World.size_alloc] at this; exact this, below_on (below_on D4 b6) B6, by omega, Nat.le_refl _, by omega, r4, by omega, fun g hg => (o6.lt g hg).2, by omega, by omega, by omega⟩
  have HS6 := Lib.hid S6
  clear A4 W4 X4 Y6 Q4 O4 o6 b6 B6 D4 S6 r4
  go_upto_region 8 with (fail)
  refine wp_genQ (ESt w a p c rr w3.heap.size w4.heap.size w6.heap.size p3 c3 p4 p6 c6 (w3.heap.size + 1) (w4.heap.size + 1) w2.heap.size w3.heap.size a.nodes rr.2.nodes) HS6.out (fun W hW => ?_)
  clear HS6
  generalize w3.heap.size + 1 = base4 at *
  generalize w4.heap.size + 1 = base6 at *
  generalize hg3 : w3.heap.size = g3 at *
  generalize w4.heap.size = g4 at *
  generalize w6.heap.size = g6 at *
  generalize w2.heap.size = g2 at *
  clear z1 z2 z3 z4 z6 hg3 w1 w2 w3 w4 w6
  have H8 := Lib.hid hW
  obtain ⟨y0, y1, y2, y3⟩ := hW.Y6.four
  obtain ⟨u0, u1, u2, u3⟩ := hW.W3.four
  clear hW
  go_wp2_with fail
  refine (eqLayoutResult_same rr.1 rr.2 p6 p3 c6 c3 _ H8.out.g0.bs.2 (H8.out.w0.qs.more (by have := H8.out.W3.1; have := H8.out.o2; omega)) (by omega)).mono ?_
  rintro e w6 ⟨rfl, b6⟩
  have H9 := Lib.hid (H8.out.on b6)
  clear b6 H8 y0 y1 y2 y3 u0 u1 u2 u3
  have HX7 := Lib.hid (fun W' (hb : Below w6.heap.size w6 W') => (H9.out.X4.on hb).tri)
  have HA7 := Lib.hid (fun W' (hb : Below w6.heap.size w6 W') => (H9.out.A.on hb).tri)
  have HT7 : Hid (∀ W', Below w6.heap.size w6 W' → Calls Try.prog 12 #[.agg #[.int .i64 a.wide, .int .i64 a.high, .slice p a.nodes.length c]] W' fun e W2 => ∃ p1, e = .returned (.agg #[.int .i64 a.wide, .int .i64 a.high, .slice p1 a.nodes.length a.nodes.length]) ∧ Qs W2 W2.heap.size p1 a.nodes ∧ Below W'.heap.size W' W2 ∧ Below w6.heap.size w6 W2) := fun W' hb =>
    (toLayout_any a p c W' (h.on (below_on H9.out.D hb)) hl).mono fun _ _ ⟨p1, he, ho, hb2⟩ => ⟨p1, he, ho.bs.2, hb2, below_on hb hb2⟩
  have HE7 : Hid (∀ W' p1, Qs W' W'.heap.size p1 a.nodes → Below w6.heap.size w6 W' → Calls Try.prog 15 #[.agg #[.int .i64 a.wide, .int .i64 a.high, .slice p4 a.nodes.length a.nodes.length], .agg #[.int .i64 a.wide, .int .i64 a.high, .slice p1 a.nodes.length a.nodes.length]] W' fun e W2 => e = .returned (.bool true) ∧ Below w6.heap.size w6 W2) := fun W' p1 h1 hb =>
    (eqLayout_same a p4 p1 _ _ W' (H9.out.x0.bs.2.on hb) h1 hl).mono fun _ _ ⟨he, hb2⟩ => ⟨he, below_on hb hb2⟩
  go_wp2_with fail
  refine wp_region_noPanic ?_
  refine wp_region_held_drew (S := fun W' => Below (w6).heap.size (w6) W') (by kernel_rfl) (below_drewN (Below.refl _ _) 1) (fun hHeld => ?_)
  refine takeB 0 39 (.agg #[.int .i64 a.wide, .int .i64 a.high, .slice p4 a.nodes.length a.nodes.length]) (fun w o hSw ho => ?_) hHeld ?_
  · obtain rfl := Option.some.inj ho; obtain ⟨z0, z1, z2⟩ := HX7.out _ hSw; go_simp
  simp only [Act.put, sa, s0, ss]
  refine takeB 1 40 (.agg #[.int .i64 a.wide, .int .i64 a.high, .slice p a.nodes.length c]) (fun w o hSw ho => ?_) hHeld ?_
  · obtain rfl := Option.some.inj ho; obtain ⟨z0, z1, z2⟩ := HA7.out _ hSw; go_simp
  simp only [Act.put, sa, s0, ss]
  refine oneR 2 (by kernel_rfl) (by kernel_rfl) (fun o ho K' hK => ?_)
  obtain rfl := Option.some.inj ho
  clear ho
  go_simp
  refine (HT7.out _ hHeld).mono ?_
  rintro e V7 ⟨r7, rfl, hx7, hb7, hc7⟩
  clear hHeld
  go_wp2_with fail
  refine hK.out _ _ (hc7) (fun hHeld => ?_)
  clear hK K'
  try simp only [Act.put, sa, s0, ss]
  refine oneR 3 (by kernel_rfl) (by kernel_rfl) (fun o ho K' hK => ?_)
  obtain rfl := Option.some.inj ho
  clear ho
  go_simp
  refine (HE7.out _ _ hx7 hc7).mono ?_
  rintro e U7 ⟨rfl, hd7⟩
  clear hHeld
  go_wp2_with fail
  refine hK.out _ _ (hd7) (fun hHeld => ?_)
  clear hK K'
  try simp only [Act.put, sa, s0, ss]
  refine takeA 4 43 (.bool false) hHeld ?_
  simp only [Act.put, sa, s0, ss]
  refine wpAnyH_done (by kernel_rfl) ?_ _
  refine NoPanic.normal ?_
  have H10 := Lib.hid (H9.out.on hHeld)
  clear HX7 HA7 HT7 HE7 hx7 hb7 hc7 hd7 hHeld H9
  obtain ⟨x0, x1, x2⟩ := H10.out.X4.tri
  go_wp2_with fail
  refine (markLayout_any _ base4 1 a.wide a.high a.nodes p4 _ H10.out.x0 hl (by omega)).mono ?_
  rintro e w11 ⟨rfl, o11, g11⟩
  have H11 := Lib.hid (H10.out.markX o11 g11)
  clear x0 x1 x2 o11 g11 H10
  obtain ⟨y0, y1, y2, y3⟩ := H11.out.Y6.four
  obtain ⟨u0, u1, u2, u3⟩ := H11.out.W3.four
  go_wp2_with fail
  refine (eqLayoutResult_same rr.1 rr.2 p6 p3 c6 c3 _ H11.out.g0.bs.2 (H11.out.w0.qs.more (by have := H11.out.W3.1; have := H11.out.o2; omega)) (by omega)).mono ?_
  rintro e w12 ⟨rfl, b12⟩
  have H12 := Lib.hid (H11.out.on b12)
  clear b12 H11 y0 y1 y2 y3 u0 u1 u2 u3
  obtain ⟨y0, y1, y2, y3⟩ := H12.out.Y6.four
  go_wp2_with fail
  refine (markLayoutResult_any _ base6 1 rr.1 rr.2.wide rr.2.high rr.2.nodes p6 c6 H12.out.g0 (by omega) (by omega)).mono ?_
  rintro e w13 ⟨rfl, o13, g13⟩
  have H13 := Lib.hid (H12.out.markG o13 g13)
  clear y0 y1 y2 y3 o13 g13 H12
  obtain ⟨y0, y1, y2, y3⟩ := H13.out.Y6.four
  go_wp2_with fail
  refine (heldLayoutResult_any _ rr.1 rr.2.wide rr.2.high p6 c6 1 rr.2.nodes.length H13.out.g0.bs.2 (Nat.le_refl _) (by omega) (by omega)).mono ?_
  rintro e w14 ⟨rfl, b14⟩
  have H14 := Lib.hid (H13.out.on b14)
  clear b14 H13 y0 y1 y2 y3
  obtain ⟨x0, x1, x2⟩ := H14.out.A.tri
  go_wp2_with fail
  refine (toLayout_any a p c _ (h.on H14.out.D) hl).mono ?_
  rintro e w15 ⟨p15, rfl, o15, b15⟩
  have H15 := Lib.hid (H14.out.on b15)
  have N15 := o15.bs.2
  clear b15 o15 H14 x0 x1 x2
  unfold lyV
  go_wp2_with fail
  refine (IP.out p15 _ _ N15).mono ?_
  rintro e w16 ⟨v16, rfl, o16, b16⟩
  obtain ⟨p16, c16, rfl⟩ := o16.slice
  unfold lrV
  have B17 := below_mk w16 (.cells #[.int .i64 rr.1, .int .i64 rr.2.wide, .int .i64 rr.2.high, .slice p16 rr.2.nodes.length c16] 30)
  have Z17 := AtL.new w16 [.int .i64 rr.1, .int .i64 rr.2.wide, .int .i64 rr.2.high, .slice p16 rr.2.nodes.length c16] 30
  have H17 := Lib.hid ((H15.out.on b16).on B17)
  have O17 := o16.on B17
  clear b16 o16 H15 N15 B17
  obtain ⟨z0, z1, z2, z3⟩ := Z17.four
  obtain ⟨u0, u1, u2, u3⟩ := H17.out.W3.four
  go_wp2_with fail
  refine (eqLayoutResult_same rr.1 rr.2 p16 p3 c16 c3 _ O17.bs.2 (H17.out.w0.qs.more (by have := H17.out.W3.1; have := H17.out.o2; omega)) (by omega)).mono ?_
  rintro e w18 ⟨rfl, b18⟩
  have H18 := Lib.hid (H17.out.on b18)
  clear b18 H17 z0 z1 z2 z3 u0 u1 u2 u3 Z17 O17
  obtain ⟨y0, y1, y2, y3⟩ := H18.out.Y6.four
  go_wp2_with fail
  refine (heldLayoutResult_any _ rr.1 rr.2.wide rr.2.high p6 c6 1 rr.2.nodes.length H18.out.g0.bs.2 (Nat.le_refl _) (by omega) (by omega)).mono ?_
  rintro e w19 ⟨rfl, b19⟩
  have H19 := Lib.hid (H18.out.on b19)
  clear b19 H18 y0 y1 y2 y3
  go_wp2_with fail
  go_ret
  exact ⟨rfl, H19.out.D⟩

end Go.Proofs.Ytbfickdgjgbfhaa
