/- The walk of the law over SameLayouts. -/
import Derived.Test.YtjopjddhgaiddaaLySame
import Derived.Test.YtjopjddhgaiddaaTakes
namespace Go.Proofs.Ytjopjddhgaiddaa
open Go.RowKit
set_option linter.unusedVariables false

set_option maxRecDepth 100000 in
set_option maxHeartbeats 2000000 in
theorem lawSameLayouts_any (a b : Ly) (p q : Option Addr) (c d : Nat) (w : World) (h : Qs w w.heap.size p a.nodes) (k : Qs w w.heap.size q b.nodes) (hn : a.nodes.length ≤ 9223372036854775807) (kn : b.nodes.length ≤ 9223372036854775807) :
    Calls Try.prog 3 #[lyV a p c, lyV b q d] w fun e w' => e = .returned (.bool true) ∧ Below w.heap.size w w' := by
  have b0 := below_on (below_mk w (.cells (lyL a p c).toArray 24)) (below_mk _ (.cells (lyL b q d).toArray 24))
  have A0 := (AtL.new w (lyL a p c) 24).on (below_mk _ (.cells (lyL b q d).toArray 24))
  have B0 := AtL.new (w.alloc (.cells (lyL a p c).toArray 24)) (lyL b q d) 24
  unfold lyL at b0 A0 B0
  rw [World.size_alloc] at B0
  unfold lyV
  by_cases hs : leftOf 1048576 a.nodes.length < 0
  · go_enter Try.func3, Try.ntmps3
    go_wp2_with (go_at_call 10; refine (szLayout_any a p c _ _ hn (by omega) (by omega)).mono ?_; rintro en w1 ⟨rfl, b1⟩)
    go_ret
    exact ⟨rfl, below_on b0 b1⟩
  have hs0 : 0 ≤ leftOf 1048576 a.nodes.length := by omega
  have hl : a.nodes.length ≤ 1048576 := by have := (leftOf_le hs0).2; omega
  have hs1 : leftOf 1048576 a.nodes.length ≤ 1048576 := (leftOf_le hs0).1
  generalize hr : leftOf 1048576 a.nodes.length = r at *
  have HR := Lib.hid hr
  clear hr
  by_cases ks : leftOf r b.nodes.length < 0
  · go_enter Try.func3, Try.ntmps3
    go_wp2_with fail
    refine (szLayout_any a p c _ _ hn (by omega) (by omega)).mono ?_
    rw [HR.out]
    rintro en w1 ⟨rfl, b1⟩
    obtain ⟨x0, x1, x2⟩ := (B0.on b1).tri
    go_wp2_with fail
    refine (szLayout_any b q d _ _ kn (by omega) (by omega)).mono ?_
    rintro en w2 ⟨rfl, b2⟩
    go_wp2
    go_ret
    exact ⟨rfl, below_on (below_on b0 b1) b2⟩
  have ks0 : 0 ≤ leftOf r b.nodes.length := by omega
  have kl : b.nodes.length ≤ 1048576 := by have := (leftOf_le ks0).2; omega
  have hne : ((lyEq a b) != (lyEq a b)) = false := by simp
  go_enter Try.func3, Try.ntmps3
  go_wp2_with fail
  refine (szLayout_any a p c _ _ hn (by omega) (by omega)).mono ?_
  rw [HR.out]
  rintro en w1 ⟨rfl, b1⟩
  have A1 := A0.on b1
  have B1 := B0.on b1
  obtain ⟨x0, x1, x2⟩ := B1.tri
  go_wp2_with fail
  refine (szLayout_any b q d _ _ kn (by omega) (by omega)).mono ?_
  rintro en w2 ⟨rfl, b2⟩
  clear x0 x1 x2
  have A2 := A1.on b2
  have B2 := B1.on b2
  have D2 := below_on (below_on b0 b1) b2
  clear b1 b2 A1 B1 A0 B0 b0
  obtain ⟨x0, x1, x2⟩ := A2.tri
  obtain ⟨y0, y1, y2⟩ := B2.tri
  have HSM2 : Hid (Below w2.heap.size w2 w2.drew) := ⟨rfl, rfl, rfl, Nat.le_refl _, fun _ _ => rfl⟩
  have HA : Hid (∀ W', Below w2.heap.size w2 W' → Calls Try.prog 12 #[.agg #[.int .i64 a.wide, .int .i64 a.high, .slice p a.nodes.length c]] W' fun e W2 => ∃ p1, e = .returned (.agg #[.int .i64 a.wide, .int .i64 a.high, .slice p1 a.nodes.length a.nodes.length]) ∧ Qs W2 W2.heap.size p1 a.nodes ∧ Below W'.heap.size W' W2 ∧ Below w2.heap.size w2 W2) := fun W' hb =>
    (toLayout_any a p c W' (h.on (below_on D2 hb)) hl).mono fun _ _ ⟨p1, he, ho, hb2⟩ => ⟨p1, he, ho.bs.2, hb2, below_on hb hb2⟩
  have HB : Hid (∀ W', Below w2.heap.size w2 W' → Calls Try.prog 12 #[.agg #[.int .i64 b.wide, .int .i64 b.high, .slice q b.nodes.length d]] W' fun e W2 => ∃ p1, e = .returned (.agg #[.int .i64 b.wide, .int .i64 b.high, .slice p1 b.nodes.length b.nodes.length]) ∧ Qs W2 W2.heap.size p1 b.nodes ∧ Below W'.heap.size W' W2 ∧ Below w2.heap.size w2 W2) := fun W' hb =>
    (toLayout_any b q d W' (k.on (below_on D2 hb)) kl).mono fun _ _ ⟨p1, he, ho, hb2⟩ => ⟨p1, he, ho.bs.2, hb2, below_on hb hb2⟩
  have HS : Hid (∀ W1 W' p1 p2, Qs W1 W1.heap.size p1 a.nodes → Below W1.heap.size W1 W' → Qs W' W'.heap.size p2 b.nodes → Below w2.heap.size w2 W' → Calls Try.prog 11 #[.agg #[.int .i64 a.wide, .int .i64 a.high, .slice p1 a.nodes.length a.nodes.length], .agg #[.int .i64 b.wide, .int .i64 b.high, .slice p2 b.nodes.length b.nodes.length]] W' fun e W2 => e = .returned (.bool (lyEq a b)) ∧ Below w2.heap.size w2 W2) := fun W1 W' p1 p2 h1 hb h2 hw =>
    (specSameLayouts_any a b p1 p2 _ _ W' (h1.on hb) h2 hl).mono fun _ _ ⟨he, hb2⟩ => ⟨he, below_on hw hb2⟩
  have HAL := Lib.hid (fun W' (hb : Below w2.heap.size w2 W') => (A2.on hb).tri)
  have HBL := Lib.hid (fun W' (hb : Below w2.heap.size w2 W') => (B2.on hb).tri)
  clear x0 x1 x2 y0 y1 y2
  go_wp2_with fail
  refine wp_region_noPanic ?_
  refine wp_region_held_drew (S := fun W' => Below (w2).heap.size (w2) W') (by kernel_rfl) (below_drewN (Below.refl _ _) 1) (fun hHeld => ?_)
  refine takeR 0 20 (.agg #[.int .i64 a.wide, .int .i64 a.high, .slice p a.nodes.length c]) (by kernel_rfl) (by kernel_rfl) (by kernel_rfl) (by kernel_rfl) (fun _ _ _ h => h) (by kernel_rfl) (fun w o hSw ho => ?_) hHeld ?_
  · obtain rfl := Option.some.inj ho; obtain ⟨z0, z1, z2⟩ := HAL.out _ hSw; go_simp
  simp only [Act.put, List.setIfInBounds_toArray, List.set_cons_zero, List.set_cons_succ]
  refine takeR 2 22 (.agg #[.int .i64 b.wide, .int .i64 b.high, .slice q b.nodes.length d]) (by kernel_rfl) (by kernel_rfl) (by kernel_rfl) (by kernel_rfl) (fun _ _ _ h => h) (by kernel_rfl) (fun w o hSw ho => ?_) hHeld ?_
  · obtain rfl := Option.some.inj ho; obtain ⟨z0, z1, z2⟩ := HBL.out _ hSw; go_simp
  simp only [Act.put, List.setIfInBounds_toArray, List.set_cons_zero, List.set_cons_succ]
  refine oneR 1 (by kernel_rfl) (by kernel_rfl) (fun o ho K' hK => ?_)
  obtain rfl := Option.some.inj ho
  clear ho
  go_simp
  refine (HA.out _ hHeld).mono ?_
  rintro e W1 ⟨p1, rfl, hx1, hb1, hc1⟩
  clear hHeld
  go_wp2_with fail
  refine hK.out _ _ (hc1) (fun hHeld => ?_)
  clear hK K'
  try simp only [Act.put, List.setIfInBounds_toArray, List.set_cons_zero, List.set_cons_succ]
  refine oneR 3 (by kernel_rfl) (by kernel_rfl) (fun o ho K' hK => ?_)
  obtain rfl := Option.some.inj ho
  clear ho
  go_simp
  refine (HB.out _ hHeld).mono ?_
  rintro e W2 ⟨p2, rfl, hx2, hb2, hc2⟩
  clear hHeld
  go_wp2_with fail
  refine hK.out _ _ (hc2) (fun hHeld => ?_)
  clear hK K'
  try simp only [Act.put, List.setIfInBounds_toArray, List.set_cons_zero, List.set_cons_succ]
  refine oneR 4 (by kernel_rfl) (by kernel_rfl) (fun o ho K' hK => ?_)
  obtain rfl := Option.some.inj ho
  clear ho
  go_simp
  refine (HS.out W1 W2 p1 p2 hx1 hb2 hx2 hc2).mono ?_
  rintro e W3 ⟨rfl, hb3⟩
  clear hHeld
  go_wp2_with fail
  refine hK.out _ _ (hb3) (fun hHeld => ?_)
  clear hK K'
  try simp only [Act.put, List.setIfInBounds_toArray, List.set_cons_zero, List.set_cons_succ]
  refine takeR 5 6 (.bool (lyEq a b)) (by kernel_rfl) (by kernel_rfl) (by kernel_rfl) (by kernel_rfl) (fun _ _ _ h => h) (by kernel_rfl) (fun w o hSw ho => ?_) hHeld ?_
  · obtain rfl := Option.some.inj ho; go_simp
  simp only [Act.put, List.setIfInBounds_toArray, List.set_cons_zero, List.set_cons_succ]
  refine wpAnyH_done (by kernel_rfl) ?_ _
  refine NoPanic.normal ?_
  have D3 := below_on D2 hHeld
  have A3 := A2.on hHeld
  have B3 := B2.on hHeld
  clear HA HB HS HAL HBL HSM2 hHeld hb1 hb2 hb3 hc1 hc2 hx1 hx2 A2 B2 D2
  obtain ⟨x0, x1, x2⟩ := A3.tri
  go_wp2_with fail
  refine (toLayout_any a p c _ (h.on D3) hl).mono ?_
  rintro e w4 ⟨p4, rfl, o4, b4⟩
  clear x0 x1 x2
  unfold lyV
  have B4 := below_mk w4 (.cells #[.int .i64 a.wide, .int .i64 a.high, .slice p4 a.nodes.length a.nodes.length] 29)
  have X4 := AtL.new w4 [.int .i64 a.wide, .int .i64 a.high, .slice p4 a.nodes.length a.nodes.length] 29
  have n4 := (o4.on B4).bs.2
  have A4 := (A3.on b4).on B4
  have B4' := (B3.on b4).on B4
  have D4 := below_on (below_on D3 b4) B4
  clear A3 B3 D3 b4 o4 B4
  obtain ⟨x0, x1, x2⟩ := B4'.tri
  go_wp2_with fail
  refine (toLayout_any b q d _ (k.on D4) kl).mono ?_
  rintro e w5 ⟨p5, rfl, o5, b5⟩
  clear x0 x1 x2
  unfold lyV
  have B5 := below_mk w5 (.cells #[.int .i64 b.wide, .int .i64 b.high, .slice p5 b.nodes.length b.nodes.length] 29)
  have Y5 := AtL.new w5 [.int .i64 b.wide, .int .i64 b.high, .slice p5 b.nodes.length b.nodes.length] 29
  have m5 := (o5.on B5).bs.2
  have n5 := (n4.on b5).on B5
  have X5 := (X4.on b5).on B5
  have A5 := (A4.on b5).on B5
  have B5' := (B4'.on b5).on B5
  have D5 := below_on (below_on D4 b5) B5
  clear A4 B4' D4 b5 o5 B5 X4 n4
  obtain ⟨x0, x1, x2⟩ := X5.tri
  obtain ⟨y0, y1, y2⟩ := Y5.tri
  go_wp2_with fail
  refine (implSameLayouts_any a b p4 p5 _ _ _ n5 m5 hl).mono ?_
  rintro e w6 ⟨rfl, b6⟩
  clear x0 x1 x2 y0 y1 y2
  have n6 := n5.on b6
  have m6 := m5.on b6
  have X6 := X5.on b6
  have Y6 := Y5.on b6
  have A6 := A5.on b6
  have B6 := B5'.on b6
  have D6 := below_on D5 b6
  clear n5 m5 X5 Y5 A5 B5' D5 b6
  have HX7 := Lib.hid (fun W' (hb : Below w6.heap.size w6 W') => (X6.on hb).tri)
  have HA7 := Lib.hid (fun W' (hb : Below w6.heap.size w6 W') => (A6.on hb).tri)
  have HT7 : Hid (∀ W', Below w6.heap.size w6 W' → Calls Try.prog 12 #[.agg #[.int .i64 a.wide, .int .i64 a.high, .slice p a.nodes.length c]] W' fun e W2 => ∃ p1, e = .returned (.agg #[.int .i64 a.wide, .int .i64 a.high, .slice p1 a.nodes.length a.nodes.length]) ∧ Qs W2 W2.heap.size p1 a.nodes ∧ Below W'.heap.size W' W2 ∧ Below w6.heap.size w6 W2) := fun W' hb =>
    (toLayout_any a p c W' (h.on (below_on D6 hb)) hl).mono fun _ _ ⟨p1, he, ho, hb2⟩ => ⟨p1, he, ho.bs.2, hb2, below_on hb hb2⟩
  have HE7 : Hid (∀ W' p1, Qs W' W'.heap.size p1 a.nodes → Below w6.heap.size w6 W' → Calls Try.prog 14 #[.agg #[.int .i64 a.wide, .int .i64 a.high, .slice p4 a.nodes.length a.nodes.length], .agg #[.int .i64 a.wide, .int .i64 a.high, .slice p1 a.nodes.length a.nodes.length]] W' fun e W2 => e = .returned (.bool true) ∧ Below w6.heap.size w6 W2) := fun W' p1 h1 hb =>
    (eqLayout_same a p4 p1 _ _ W' (n6.on hb) h1 hl).mono fun _ _ ⟨he, hb2⟩ => ⟨he, below_on hb hb2⟩
  go_wp2_with fail
  refine wp_region_noPanic ?_
  refine wp_region_held_drew (S := fun W' => Below (w6).heap.size (w6) W') (by kernel_rfl) (below_drewN (Below.refl _ _) 1) (fun hHeld => ?_)
  refine takeR 0 35 (.agg #[.int .i64 a.wide, .int .i64 a.high, .slice p4 a.nodes.length a.nodes.length]) (by kernel_rfl) (by kernel_rfl) (by kernel_rfl) (by kernel_rfl) (fun _ _ _ h => h) (by kernel_rfl) (fun w o hSw ho => ?_) hHeld ?_
  · obtain rfl := Option.some.inj ho; obtain ⟨z0, z1, z2⟩ := HX7.out _ hSw; go_simp
  simp only [Act.put, List.setIfInBounds_toArray, List.set_cons_zero, List.set_cons_succ]
  refine takeR 1 36 (.agg #[.int .i64 a.wide, .int .i64 a.high, .slice p a.nodes.length c]) (by kernel_rfl) (by kernel_rfl) (by kernel_rfl) (by kernel_rfl) (fun _ _ _ h => h) (by kernel_rfl) (fun w o hSw ho => ?_) hHeld ?_
  · obtain rfl := Option.some.inj ho; obtain ⟨z0, z1, z2⟩ := HA7.out _ hSw; go_simp
  simp only [Act.put, List.setIfInBounds_toArray, List.set_cons_zero, List.set_cons_succ]
  refine oneR 2 (by kernel_rfl) (by kernel_rfl) (fun o ho K' hK => ?_)
  obtain rfl := Option.some.inj ho
  clear ho
  go_simp
  refine (HT7.out _ hHeld).mono ?_
  rintro e V7 ⟨r7, rfl, hx7, hb7, hc7⟩
  clear hHeld
  go_wp2_with fail
  refine hK.out _ _ (hc7) (fun hHeld => ?_)
  clear hK K'
  try simp only [Act.put, List.setIfInBounds_toArray, List.set_cons_zero, List.set_cons_succ]
  refine oneR 3 (by kernel_rfl) (by kernel_rfl) (fun o ho K' hK => ?_)
  obtain rfl := Option.some.inj ho
  clear ho
  go_simp
  refine (HE7.out _ _ hx7 hc7).mono ?_
  rintro e U7 ⟨rfl, hd7⟩
  clear hHeld
  go_wp2_with fail
  refine hK.out _ _ (hd7) (fun hHeld => ?_)
  clear hK K'
  try simp only [Act.put, List.setIfInBounds_toArray, List.set_cons_zero, List.set_cons_succ]
  refine takeR 4 39 (.bool false) (by kernel_rfl) (by kernel_rfl) (by kernel_rfl) (by kernel_rfl) (fun _ _ _ h => h) (by kernel_rfl) (fun w o hSw ho => ?_) hHeld ?_
  · obtain rfl := Option.some.inj ho; go_simp
  simp only [Act.put, List.setIfInBounds_toArray, List.set_cons_zero, List.set_cons_succ]
  refine wpAnyH_done (by kernel_rfl) ?_ _
  refine NoPanic.normal ?_
  have D8 := below_on D6 hHeld
  have m8 := m6.on hHeld
  have Y8 := Y6.on hHeld
  have B8 := B6.on hHeld
  clear HX7 HA7 HT7 HE7 hx7 hb7 hc7 hd7 hHeld m6 Y6 B6 D6 n6 X6 A6
  have HX9 := Lib.hid (fun W' (hb : Below U7.heap.size U7 W') => (Y8.on hb).tri)
  have HA9 := Lib.hid (fun W' (hb : Below U7.heap.size U7 W') => (B8.on hb).tri)
  have HT9 : Hid (∀ W', Below U7.heap.size U7 W' → Calls Try.prog 12 #[.agg #[.int .i64 b.wide, .int .i64 b.high, .slice q b.nodes.length d]] W' fun e W2 => ∃ p1, e = .returned (.agg #[.int .i64 b.wide, .int .i64 b.high, .slice p1 b.nodes.length b.nodes.length]) ∧ Qs W2 W2.heap.size p1 b.nodes ∧ Below W'.heap.size W' W2 ∧ Below U7.heap.size U7 W2) := fun W' hb =>
    (toLayout_any b q d W' (k.on (below_on D8 hb)) kl).mono fun _ _ ⟨p1, he, ho, hb2⟩ => ⟨p1, he, ho.bs.2, hb2, below_on hb hb2⟩
  have HE9 : Hid (∀ W' p1, Qs W' W'.heap.size p1 b.nodes → Below U7.heap.size U7 W' → Calls Try.prog 14 #[.agg #[.int .i64 b.wide, .int .i64 b.high, .slice p5 b.nodes.length b.nodes.length], .agg #[.int .i64 b.wide, .int .i64 b.high, .slice p1 b.nodes.length b.nodes.length]] W' fun e W2 => e = .returned (.bool true) ∧ Below U7.heap.size U7 W2) := fun W' p1 h1 hb =>
    (eqLayout_same b p5 p1 _ _ W' (m8.on hb) h1 kl).mono fun _ _ ⟨he, hb2⟩ => ⟨he, below_on hb hb2⟩
  go_wp2_with fail
  refine wp_region_noPanic ?_
  refine wp_region_held_drew (S := fun W' => Below (U7).heap.size (U7) W') (by kernel_rfl) (below_drewN (Below.refl _ _) 1) (fun hHeld => ?_)
  refine takeR 0 40 (.agg #[.int .i64 b.wide, .int .i64 b.high, .slice p5 b.nodes.length b.nodes.length]) (by kernel_rfl) (by kernel_rfl) (by kernel_rfl) (by kernel_rfl) (fun _ _ _ h => h) (by kernel_rfl) (fun w o hSw ho => ?_) hHeld ?_
  · obtain rfl := Option.some.inj ho; obtain ⟨z0, z1, z2⟩ := HX9.out _ hSw; go_simp
  simp only [Act.put, List.setIfInBounds_toArray, List.set_cons_zero, List.set_cons_succ]
  refine takeR 1 41 (.agg #[.int .i64 b.wide, .int .i64 b.high, .slice q b.nodes.length d]) (by kernel_rfl) (by kernel_rfl) (by kernel_rfl) (by kernel_rfl) (fun _ _ _ h => h) (by kernel_rfl) (fun w o hSw ho => ?_) hHeld ?_
  · obtain rfl := Option.some.inj ho; obtain ⟨z0, z1, z2⟩ := HA9.out _ hSw; go_simp
  simp only [Act.put, List.setIfInBounds_toArray, List.set_cons_zero, List.set_cons_succ]
  refine oneR 2 (by kernel_rfl) (by kernel_rfl) (fun o ho K' hK => ?_)
  obtain rfl := Option.some.inj ho
  clear ho
  go_simp
  refine (HT9.out _ hHeld).mono ?_
  rintro e V9 ⟨r9, rfl, hx9, hb9, hc9⟩
  clear hHeld
  go_wp2_with fail
  refine hK.out _ _ (hc9) (fun hHeld => ?_)
  clear hK K'
  try simp only [Act.put, List.setIfInBounds_toArray, List.set_cons_zero, List.set_cons_succ]
  refine oneR 3 (by kernel_rfl) (by kernel_rfl) (fun o ho K' hK => ?_)
  obtain rfl := Option.some.inj ho
  clear ho
  go_simp
  refine (HE9.out _ _ hx9 hc9).mono ?_
  rintro e U9 ⟨rfl, hd9⟩
  clear hHeld
  go_wp2_with fail
  refine hK.out _ _ (hd9) (fun hHeld => ?_)
  clear hK K'
  try simp only [Act.put, List.setIfInBounds_toArray, List.set_cons_zero, List.set_cons_succ]
  refine takeR 4 44 (.bool false) (by kernel_rfl) (by kernel_rfl) (by kernel_rfl) (by kernel_rfl) (fun _ _ _ h => h) (by kernel_rfl) (fun w o hSw ho => ?_) hHeld ?_
  · obtain rfl := Option.some.inj ho; go_simp
  simp only [Act.put, List.setIfInBounds_toArray, List.set_cons_zero, List.set_cons_succ]
  refine wpAnyH_done (by kernel_rfl) ?_ _
  refine NoPanic.normal ?_
  have D9 := below_on D8 hHeld
  clear HX9 HA9 HT9 HE9 hx9 hb9 hc9 hd9 hHeld
  go_wp2_with fail
  go_ret
  exact ⟨rfl, D9⟩

end Go.Proofs.Ytjopjddhgaiddaa
