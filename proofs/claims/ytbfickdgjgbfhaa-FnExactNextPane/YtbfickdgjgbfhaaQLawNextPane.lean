/- The walk of the law over NextPane. -/
import Derived.Test.YtbfickdgjgbfhaaQEdNext
import Derived.Test.YtbfickdgjgbfhaaQNumb
import Derived.Test.YtbfickdgjgbfhaaQTakesToMem
namespace Go.Proofs.Ytbfickdgjgbfhaa
open Go.RowKit
set_option linter.unusedVariables false

set_option maxRecDepth 100000 in
set_option maxHeartbeats 2000000 in
theorem lawNextPane_any (a : Ly) (pn : Int) (p : Option Addr) (c : Nat) (w : World) (h : Qs w w.heap.size p a.nodes) (hn : a.nodes.length ≤ 9223372036854775807) :
    Calls Try.prog 6 #[lyV a p c, .int .i64 pn] w fun e w' => e = .returned (.bool true) ∧ Below w.heap.size w w' := by
  have b0 := below_mk w (.cells (lyL a p c).toArray 24)
  have A0 := AtL.new w (lyL a p c) 24
  unfold lyL at b0 A0
  unfold lyV
  by_cases hs : leftOf 1048576 a.nodes.length < 0
  · go_enter Try.func6, Try.ntmps6
    go_wp2_with (go_at_call 10; refine (szLayout_any a p c _ _ hn (by omega) (by omega)).mono ?_; rintro en w1 ⟨rfl, b1⟩)
    go_ret
    exact ⟨rfl, below_on b0 b1⟩
  have hs0 : 0 ≤ leftOf 1048576 a.nodes.length := by omega
  have hl : a.nodes.length ≤ 1048576 := by have := (leftOf_le hs0).2; omega
  generalize hr : leftOf 1048576 a.nodes.length = r at *
  have HR := Lib.hid hr
  clear hr
  have SP := Lib.hid (fun p2 c2 W n2 => specNext_any a pn p2 c2 W n2 hl)
  have IP := Lib.hid (fun p2 c2 W n2 => implNext_any a pn p2 c2 W n2 hl)
  generalize nextR a pn = hcv at *
  obtain ⟨hc, hv⟩ := hcv
  dsimp only at SP IP
  go_enter Try.func6, Try.ntmps6
  go_wp2_with fail
  refine (szLayout_any a p c _ _ hn (by omega) (by omega)).mono ?_
  rw [HR.out]
  rintro en w1 ⟨rfl, b1⟩
  have A1 := A0.on b1
  have D1 := below_on b0 b1
  clear b0 b1 A0
  obtain ⟨x0, x1, x2⟩ := A1.tri
  go_wp2_with fail
  refine (toLayout_any a p c _ (h.on D1) hl).mono ?_
  rintro e w2 ⟨p2, rfl, o2, b2⟩
  clear x0 x1 x2
  have n2 := o2.bs.2
  have A2 := A1.on b2
  have D2 := below_on D1 b2
  clear A1 D1 b2 o2
  unfold lyV
  go_wp2_with fail
  refine (SP.out p2 _ _ n2).mono ?_
  rintro e w3 ⟨rfl, b3⟩
  have A3 := A2.on b3
  have D3 := below_on D2 b3
  clear A2 D2 b3 n2
  have BW := below_mk w3 (.cells #[.int .i64 hc, .int .i64 hv] 43)
  have W3 := AtL.new w3 [.int .i64 hc, .int .i64 hv] 43
  have A3 := A3.on BW
  have D3 := below_on D3 BW
  clear BW
  obtain ⟨x0, x1, x2⟩ := A3.tri
  go_wp2_with fail
  refine (toLayout_any a p c _ (h.on D3) hl).mono ?_
  rintro e w4 ⟨p4, rfl, o4, b4⟩
  clear x0 x1 x2
  unfold lyV
  have B4 := below_mk w4 (.cells #[.int .i64 a.wide, .int .i64 a.high, .slice p4 a.nodes.length a.nodes.length] 28)
  have X4 := AtL.new w4 [.int .i64 a.wide, .int .i64 a.high, .slice p4 a.nodes.length a.nodes.length] 28
  have n4 := (o4.on B4).bs.2
  have A4 := (A3.on b4).on B4
  have D4 := below_on (below_on D3 b4) B4
  have W4 := (W3.on b4).on B4
  clear W3
  clear A3 D3 b4 o4 B4
  obtain ⟨x0, x1, x2⟩ := X4.tri
  go_wp2_with fail
  refine (IP.out p4 _ _ n4).mono ?_
  rintro e w6 ⟨rfl, b6⟩
  clear x0 x1 x2
  have n6 := n4.on b6
  have X6 := X4.on b6
  have A6 := A4.on b6
  have D6 := below_on D4 b6
  have W6 := W4.on b6
  clear n4 X4 A4 D4 b6 W4
  have B7 := below_mk w6 (.cells #[.int .i64 hc, .int .i64 hv] 43)
  have V7 := AtL.new w6 [.int .i64 hc, .int .i64 hv] 43
  have W7 := W6.on B7
  have n7 := n6.on B7
  have X7 := X6.on B7
  have A7 := A6.on B7
  have D7 := below_on D6 B7
  clear n6 X6 A6 D6 W6 B7
  have v0 := V7.get 0 rfl
  have v1 := V7.get 1 rfl
  have q0' := W7.get 0 rfl
  have q1' := W7.get 1 rfl
  clear V7 W7
  go_wp2_with fail
  refine (eqIntResult_same hc hv _).mono ?_
  rintro e w6' ⟨rfl, b6⟩
  clear v0 v1 q0' q1'
  have n6 := n7.on b6
  have X6 := X7.on b6
  have A6 := A7.on b6
  have D6 := below_on D7 b6
  generalize w6' = w6 at *
  clear n7 X7 A7 D7 b6
  have HX7 := Lib.hid (fun W' (hb : Below w6.heap.size w6 W') => (X6.on hb).tri)
  have HA7 := Lib.hid (fun W' (hb : Below w6.heap.size w6 W') => (A6.on hb).tri)
  have HT7 : Hid (∀ W', Below w6.heap.size w6 W' → Calls Try.prog 12 #[.agg #[.int .i64 a.wide, .int .i64 a.high, .slice p a.nodes.length c]] W' fun e W2 => ∃ p1, e = .returned (.agg #[.int .i64 a.wide, .int .i64 a.high, .slice p1 a.nodes.length a.nodes.length]) ∧ Qs W2 W2.heap.size p1 a.nodes ∧ Below W'.heap.size W' W2 ∧ Below w6.heap.size w6 W2) := fun W' hb =>
    (toLayout_any a p c W' (h.on (below_on D6 hb)) hl).mono fun _ _ ⟨p1, he, ho, hb2⟩ => ⟨p1, he, ho.bs.2, hb2, below_on hb hb2⟩
  have HE7 : Hid (∀ W' p1, Qs W' W'.heap.size p1 a.nodes → Below w6.heap.size w6 W' → Calls Try.prog 15 #[.agg #[.int .i64 a.wide, .int .i64 a.high, .slice p4 a.nodes.length a.nodes.length], .agg #[.int .i64 a.wide, .int .i64 a.high, .slice p1 a.nodes.length a.nodes.length]] W' fun e W2 => e = .returned (.bool true) ∧ Below w6.heap.size w6 W2) := fun W' p1 h1 hb =>
    (eqLayout_same a p4 p1 _ _ W' (n6.on hb) h1 hl).mono fun _ _ ⟨he, hb2⟩ => ⟨he, below_on hb hb2⟩
  go_wp2_with fail
  refine wp_region_noPanic ?_
  refine wp_region_held_drew (S := fun W' => Below (w6).heap.size (w6) W') (by kernel_rfl) (below_drewN (Below.refl _ _) 1) (fun hHeld => ?_)
  refine takeB 0 27 (.agg #[.int .i64 a.wide, .int .i64 a.high, .slice p4 a.nodes.length a.nodes.length]) (fun w o hSw ho => ?_) hHeld ?_
  · obtain rfl := Option.some.inj ho; obtain ⟨z0, z1, z2⟩ := HX7.out _ hSw; go_simp
  simp only [Act.put, sa, s0, ss]
  refine takeB 1 28 (.agg #[.int .i64 a.wide, .int .i64 a.high, .slice p a.nodes.length c]) (fun w o hSw ho => ?_) hHeld ?_
  · obtain rfl := Option.some.inj ho; obtain ⟨z0, z1, z2⟩ := HA7.out _ hSw; go_simp
  simp only [Act.put, sa, s0, ss]
  refine oneR 2 (by kernel_rfl) (by kernel_rfl) (fun o ho K' hK => ?_)
  obtain rfl := Option.some.inj ho
  clear ho
  go_simp
  refine (HT7.out _ hHeld).mono ?_
  rintro e V7 ⟨r7, rfl, hx7, hb7, hc7⟩
  clear hHeld
  go_wp2_with fail
  refine hK.out _ _ (hc7) (fun hHeld => ?_)
  clear hK K'
  try simp only [Act.put, sa, s0, ss]
  refine oneR 3 (by kernel_rfl) (by kernel_rfl) (fun o ho K' hK => ?_)
  obtain rfl := Option.some.inj ho
  clear ho
  go_simp
  refine (HE7.out _ _ hx7 hc7).mono ?_
  rintro e U7 ⟨rfl, hd7⟩
  clear hHeld
  go_wp2_with fail
  refine hK.out _ _ (hd7) (fun hHeld => ?_)
  clear hK K'
  try simp only [Act.put, sa, s0, ss]
  refine takeA 4 31 (.bool false) hHeld ?_
  simp only [Act.put, sa, s0, ss]
  refine wpAnyH_done (by kernel_rfl) ?_ _
  refine NoPanic.normal ?_
  have D8 := below_on D6 hHeld
  clear HX7 HA7 HT7 HE7 hx7 hb7 hc7 hd7 hHeld n6 X6 A6
  go_wp2_with fail
  go_ret
  exact ⟨rfl, D8⟩

end Go.Proofs.Ytbfickdgjgbfhaa
