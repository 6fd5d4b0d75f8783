/- MouseOfParts of the model at three numbers. -/
import Derived.Test.YtjopjddhgaiddabGreatDoorQSpecMouse2
namespace Go.Proofs.YtjopjddhgaiddabGreatDoor
open Go.RowKit

theorem mouse_cells {w W' : World} {b off : Nat} {n x y v0 v1 v2 v3 v4 : Value} {t : TypeId} {o2 : Obj} (hb : b < w.heap.size) (hc0 : w.cell? ⟨b, off, none⟩ = some n) (hc1 : w.cell? ⟨b, off + 1, none⟩ = some x) (hc2 : w.cell? ⟨b, off + 2, none⟩ = some y)
    (h : Below ((w.alloc (.cells #[v0, v1, v2, v3, v4] t)).alloc o2).heap.size ((w.alloc (.cells #[v0, v1, v2, v3, v4] t)).alloc o2) W') :
    W'.cell? ⟨w.heap.size, 2, none⟩ = some v2 ∧ W'.cell? ⟨w.heap.size, 3, none⟩ = some v3 ∧ W'.cell? ⟨w.heap.size, 4, none⟩ = some v4 ∧ W'.cell? ⟨b, off, none⟩ = some n ∧ W'.cell? ⟨b, off + 1, none⟩ = some x ∧ W'.cell? ⟨b, off + 2, none⟩ = some y := by
  have hA := ((AtL.new w [v0, v1, v2, v3, v4] t).on (below_mk _ o2)).on h
  have hk := below_on (below_on (below_mk w (.cells #[v0, v1, v2, v3, v4] t)) (below_mk _ o2)) h
  exact ⟨hA.get 2 rfl, hA.get 3 rfl, hA.get 4 rfl, (hk.cell (p := ⟨b, off, none⟩) hb).trans hc0, (hk.cell (p := ⟨b, off + 1, none⟩) hb).trans hc1, (hk.cell (p := ⟨b, off + 2, none⟩) hb).trans hc2⟩

theorem at_mouse (w : World) (o1 o2 : Obj) (vs : List Value) (t : TypeId) {w1 : World} (h : Below (((w.alloc o1).alloc o2).drew.alloc (.cells vs.toArray t)).heap.size (((w.alloc o1).alloc o2).drew.alloc (.cells vs.toArray t)) w1) : AtL w1 (w.heap.size + 1 + 1) vs := by
  have hA := (AtL.new ((w.alloc o1).alloc o2).drew vs t).on h
  have e : ((w.alloc o1).alloc o2).drew.heap.size = w.heap.size + 1 + 1 := by
    show ((w.alloc o1).alloc o2).heap.size = _
    simp
  rw [e] at hA
  exact hA
theorem froz_mouse (w : World) (o1 o2 : Obj) (vs : Array Value) (t : TypeId) {w1 : World} (h : Below (((w.alloc o1).alloc o2).drew.alloc (.cells vs t)).heap.size (((w.alloc o1).alloc o2).drew.alloc (.cells vs t)) w1) (o : Nat) : w1.frozen? ⟨w.heap.size + 1 + 1, o, none⟩ = false := by
  have e : ((w.alloc o1).alloc o2).drew.heap.size = w.heap.size + 1 + 1 := by
    show ((w.alloc o1).alloc o2).heap.size = _
    simp
  have k := h.frozen (p := ⟨w.heap.size + 1 + 1, o, none⟩) (by rw [World.size_alloc, e]; exact Nat.lt_succ_self _)
  rw [k]
  have q : ∀ W0 : World, (W0.alloc (.cells vs t)).frozen? ⟨W0.heap.size, o, none⟩ = false := fun W0 => by simp
  have := q ((w.alloc o1).alloc o2).drew
  rw [e] at this
  exact this

set_option maxRecDepth 100000 in
set_option maxHeartbeats 4000000 in
theorem specMouseOfParts_a (b off c : Nat) (n x y a : Int) (code size : Int) (w : World) (hb : b < w.heap.size) (hc0 : w.cell? ⟨b, off, none⟩ = some (.int .i64 n)) (hc1 : w.cell? ⟨b, off + 1, none⟩ = some (.int .i64 x)) (hc2 : w.cell? ⟨b, off + 2, none⟩ = some (.int .i64 y))
    (HA : Hid (∀ w, Calls Tryz.prog 145 #[.int .i64 n, .int .i64 x, .int .i64 y, .bool false] w fun e w' => e = .returned (.tuple #[.agg #[.int .i64 2, .int .i64 0, .int .i64 ((n.tdiv 4).tmod 8), .int .i64 (n.tmod 4), .int .i64 a, .int .i64 (x - 1), .int .i64 (y - 1), .slice none 0 0], .bool false]) ∧ Below w.heap.size w w')) :
    Calls Tryz.prog 131 #[.agg #[.int .i64 code, .bool true, .slice (some ⟨b, off, none⟩) 3 c, .int .u8 77, .int .i64 size]] w (PlainTk w (badTk 5)) := by
  have HP : Hid (∀ W', Below ((w.alloc (.cells #[.int .i64 code, .bool true, .slice (some ⟨b, off, none⟩) 3 c, .int .u8 77, .int .i64 size] 133)).alloc (.cells #[.int .i64 0, .int .i64 0, .int .i64 0, .int .i64 0, .int .i64 0, .int .i64 0, .int .i64 0, .int .i64 0, .slice none 0 0, .int .i64 0, .bool false, .bool false] 58)).heap.size ((w.alloc (.cells #[.int .i64 code, .bool true, .slice (some ⟨b, off, none⟩) 3 c, .int .u8 77, .int .i64 size] 133)).alloc (.cells #[.int .i64 0, .int .i64 0, .int .i64 0, .int .i64 0, .int .i64 0, .int .i64 0, .int .i64 0, .int .i64 0, .slice none 0 0, .int .i64 0, .bool false, .bool false] 58)) W' → _) := fun W' h => mouse_cells hb hc0 hc1 hc2 h
  go_enter Tryz.func131, Tryz.ntmps131
  go_wp2_with fail
  clear hb hc0 hc1 hc2
  refine wp_region_noPanic ?_
  refine wp_region_held_drew (S := fun W' => Below ((w.alloc (.cells #[.int .i64 code, .bool true, .slice (some ⟨b, off, none⟩) 3 c, .int .u8 77, .int .i64 size] 133)).alloc (.cells #[.int .i64 0, .int .i64 0, .int .i64 0, .int .i64 0, .int .i64 0, .int .i64 0, .int .i64 0, .int .i64 0, .slice none 0 0, .int .i64 0, .bool false, .bool false] 58)).heap.size ((w.alloc (.cells #[.int .i64 code, .bool true, .slice (some ⟨b, off, none⟩) 3 c, .int .u8 77, .int .i64 size] 133)).alloc (.cells #[.int .i64 0, .int .i64 0, .int .i64 0, .int .i64 0, .int .i64 0, .int .i64 0, .int .i64 0, .int .i64 0, .slice none 0 0, .int .i64 0, .bool false, .bool false] 58)) W') (by kernel_rfl) (below_drewN (Below.refl _ _) 1) (fun hHeld => ?_)
  refine takeR 0 26 (.pointer (some ⟨w.heap.size, 2, none⟩)) (by kernel_rfl) (by kernel_rfl) (by kernel_rfl) (by kernel_rfl) (fun _ _ _ h => h) (by kernel_rfl) (fun w o hSw ho => ?_) hHeld ?_
  · obtain rfl := Option.some.inj ho; go_simp
  simp only [Act.put, List.setIfInBounds_toArray, List.set_cons_zero, List.set_cons_succ]
  refine takeR 1 27 (.slice (some ⟨b, off, none⟩) 3 c) (by kernel_rfl) (by kernel_rfl) (by kernel_rfl) (by kernel_rfl) (fun _ _ _ h => h) (by kernel_rfl) (fun w o hSw ho => ?_) hHeld ?_
  · obtain rfl := Option.some.inj ho; obtain ⟨q2, q3, q4, h0, h1, h2⟩ := HP.out _ hSw; go_simp
  simp only [Act.put, List.setIfInBounds_toArray, List.set_cons_zero, List.set_cons_succ]
  refine takeR 2 28 (.pointer (some ⟨b, off, none⟩)) (by kernel_rfl) (by kernel_rfl) (by kernel_rfl) (by kernel_rfl) (fun _ _ _ h => h) (by kernel_rfl) (fun w o hSw ho => ?_) hHeld ?_
  · obtain rfl := Option.some.inj ho; go_simp
  simp only [Act.put, List.setIfInBounds_toArray, List.set_cons_zero, List.set_cons_succ]
  refine takeR 3 29 (.int .i64 n) (by kernel_rfl) (by kernel_rfl) (by kernel_rfl) (by kernel_rfl) (fun _ _ _ h => h) (by kernel_rfl) (fun w o hSw ho => ?_) hHeld ?_
  · obtain rfl := Option.some.inj ho; obtain ⟨q2, q3, q4, h0, h1, h2⟩ := HP.out _ hSw; go_simp
  simp only [Act.put, List.setIfInBounds_toArray, List.set_cons_zero, List.set_cons_succ]
  refine takeR 4 30 (.pointer (some ⟨w.heap.size, 2, none⟩)) (by kernel_rfl) (by kernel_rfl) (by kernel_rfl) (by kernel_rfl) (fun _ _ _ h => h) (by kernel_rfl) (fun w o hSw ho => ?_) hHeld ?_
  · obtain rfl := Option.some.inj ho; go_simp
  simp only [Act.put, List.setIfInBounds_toArray, List.set_cons_zero, List.set_cons_succ]
  refine takeR 5 31 (.slice (some ⟨b, off, none⟩) 3 c) (by kernel_rfl) (by kernel_rfl) (by kernel_rfl) (by kernel_rfl) (fun _ _ _ h => h) (by kernel_rfl) (fun w o hSw ho => ?_) hHeld ?_
  · obtain rfl := Option.some.inj ho; obtain ⟨q2, q3, q4, h0, h1, h2⟩ := HP.out _ hSw; go_simp
  simp only [Act.put, List.setIfInBounds_toArray, List.set_cons_zero, List.set_cons_succ]
  refine takeR 6 32 (.pointer (some ⟨b, off + 1, none⟩)) (by kernel_rfl) (by kernel_rfl) (by kernel_rfl) (by kernel_rfl) (fun _ _ _ h => h) (by kernel_rfl) (fun w o hSw ho => ?_) hHeld ?_
  · obtain rfl := Option.some.inj ho; go_simp
  simp only [Act.put, List.setIfInBounds_toArray, List.set_cons_zero, List.set_cons_succ]
  refine takeR 7 33 (.int .i64 x) (by kernel_rfl) (by kernel_rfl) (by kernel_rfl) (by kernel_rfl) (fun _ _ _ h => h) (by kernel_rfl) (fun w o hSw ho => ?_) hHeld ?_
  · obtain rfl := Option.some.inj ho; obtain ⟨q2, q3, q4, h0, h1, h2⟩ := HP.out _ hSw; go_simp
  simp only [Act.put, List.setIfInBounds_toArray, List.set_cons_zero, List.set_cons_succ]
  refine takeR 8 34 (.pointer (some ⟨w.heap.size, 2, none⟩)) (by kernel_rfl) (by kernel_rfl) (by kernel_rfl) (by kernel_rfl) (fun _ _ _ h => h) (by kernel_rfl) (fun w o hSw ho => ?_) hHeld ?_
  · obtain rfl := Option.some.inj ho; go_simp
  simp only [Act.put, List.setIfInBounds_toArray, List.set_cons_zero, List.set_cons_succ]
  refine takeR 9 35 (.slice (some ⟨b, off, none⟩) 3 c) (by kernel_rfl) (by kernel_rfl) (by kernel_rfl) (by kernel_rfl) (fun _ _ _ h => h) (by kernel_rfl) (fun w o hSw ho => ?_) hHeld ?_
  · obtain rfl := Option.some.inj ho; obtain ⟨q2, q3, q4, h0, h1, h2⟩ := HP.out _ hSw; go_simp
  simp only [Act.put, List.setIfInBounds_toArray, List.set_cons_zero, List.set_cons_succ]
  refine takeR 10 36 (.pointer (some ⟨b, off + 2, none⟩)) (by kernel_rfl) (by kernel_rfl) (by kernel_rfl) (by kernel_rfl) (fun _ _ _ h => h) (by kernel_rfl) (fun w o hSw ho => ?_) hHeld ?_
  · obtain rfl := Option.some.inj ho; go_simp
  simp only [Act.put, List.setIfInBounds_toArray, List.set_cons_zero, List.set_cons_succ]
  refine takeR 11 37 (.int .i64 y) (by kernel_rfl) (by kernel_rfl) (by kernel_rfl) (by kernel_rfl) (fun _ _ _ h => h) (by kernel_rfl) (fun w o hSw ho => ?_) hHeld ?_
  · obtain rfl := Option.some.inj ho; obtain ⟨q2, q3, q4, h0, h1, h2⟩ := HP.out _ hSw; go_simp
  simp only [Act.put, List.setIfInBounds_toArray, List.set_cons_zero, List.set_cons_succ]
  refine takeR 12 38 (.pointer (some ⟨w.heap.size, 3, none⟩)) (by kernel_rfl) (by kernel_rfl) (by kernel_rfl) (by kernel_rfl) (fun _ _ _ h => h) (by kernel_rfl) (fun w o hSw ho => ?_) hHeld ?_
  · obtain rfl := Option.some.inj ho; go_simp
  simp only [Act.put, List.setIfInBounds_toArray, List.set_cons_zero, List.set_cons_succ]
  refine takeR 13 39 (.int .u8 77) (by kernel_rfl) (by kernel_rfl) (by kernel_rfl) (by kernel_rfl) (fun _ _ _ h => h) (by kernel_rfl) (fun w o hSw ho => ?_) hHeld ?_
  · obtain rfl := Option.some.inj ho; obtain ⟨q2, q3, q4, h0, h1, h2⟩ := HP.out _ hSw; go_simp
  simp only [Act.put, List.setIfInBounds_toArray, List.set_cons_zero, List.set_cons_succ]
  refine takeR 14 40 (.bool false) (by kernel_rfl) (by kernel_rfl) (by kernel_rfl) (by kernel_rfl) (fun _ _ _ h => h) (by kernel_rfl) (fun w o hSw ho => ?_) hHeld ?_
  · obtain rfl := Option.some.inj ho; go_simp
  simp only [Act.put, List.setIfInBounds_toArray, List.set_cons_zero, List.set_cons_succ]
  refine twoR 15 19 (by kernel_rfl) (by kernel_rfl) (by kernel_rfl) (fun o ho K' hK => ?_) (fun o ho K' hK => ?_)
  · obtain rfl := Option.some.inj ho
    clear ho
    go_simp
    refine (HA.out _).mono ?_
    rintro e w1 ⟨rfl, hb1⟩
    have hb2 := below_on hHeld hb1
    clear hb1 hHeld
    go_wp2_with fail
    refine hK.out _ _ (hb2) (fun hHeld => ?_)
    clear hK K'
    try simp only [Act.put, List.setIfInBounds_toArray, List.set_cons_zero, List.set_cons_succ]
    refine takeR 16 25 (.tuple #[.agg #[.int .i64 2, .int .i64 0, .int .i64 ((n.tdiv 4).tmod 8), .int .i64 (n.tmod 4), .int .i64 a, .int .i64 (x - 1), .int .i64 (y - 1), .slice none 0 0], .bool false]) (by kernel_rfl) (by kernel_rfl) (by kernel_rfl) (by kernel_rfl) (fun _ _ _ h => h) (by kernel_rfl) (fun w o hSw ho => ?_) hHeld ?_
    · obtain rfl := Option.some.inj ho; go_simp
    simp only [Act.put, List.setIfInBounds_toArray, List.set_cons_zero, List.set_cons_succ]
    refine takeR 17 42 (.agg #[.int .i64 2, .int .i64 0, .int .i64 ((n.tdiv 4).tmod 8), .int .i64 (n.tmod 4), .int .i64 a, .int .i64 (x - 1), .int .i64 (y - 1), .slice none 0 0]) (by kernel_rfl) (by kernel_rfl) (by kernel_rfl) (by kernel_rfl) (fun _ _ _ h => h) (by kernel_rfl) (fun w o hSw ho => ?_) hHeld ?_
    · obtain rfl := Option.some.inj ho; go_simp
    simp only [Act.put, List.setIfInBounds_toArray, List.set_cons_zero, List.set_cons_succ]
    refine takeR 18 43 (.bool false) (by kernel_rfl) (by kernel_rfl) (by kernel_rfl) (by kernel_rfl) (fun _ _ _ h => h) (by kernel_rfl) (fun w o hSw ho => ?_) hHeld ?_
    · obtain rfl := Option.some.inj ho; go_simp
    simp only [Act.put, List.setIfInBounds_toArray, List.set_cons_zero, List.set_cons_succ]
    refine oneR 19 (by kernel_rfl) (by kernel_rfl) (fun o ho K' hK => ?_)
    obtain rfl := Option.some.inj ho
    clear ho
    go_simp
    refine hK.out _ _ (below_on hb2 (below_mk _ _)) (fun hHeld => ?_)
    clear hK K'
    try simp only [Act.put, List.setIfInBounds_toArray, List.set_cons_zero, List.set_cons_succ]
    refine oneR 20 (by kernel_rfl) (by kernel_rfl) (fun o ho K' hK => ?_)
    obtain rfl := Option.some.inj ho
    clear ho
    go_simp
    refine hK.out _ _ (below_on hb2 (below_mk _ _)) (fun hHeld => ?_)
    clear hK K'
    try simp only [Act.put, List.setIfInBounds_toArray, List.set_cons_zero, List.set_cons_succ]
    refine takeR 21 4 (.bool false) (by kernel_rfl) (by kernel_rfl) (by kernel_rfl) (by kernel_rfl) (fun _ _ _ h => h) (by kernel_rfl) (fun w o hSw ho => ?_) hHeld ?_
    · obtain rfl := Option.some.inj ho; go_simp
    simp only [Act.put, List.setIfInBounds_toArray, List.set_cons_zero, List.set_cons_succ]
    have HB := Lib.hid hHeld
    have HC := Lib.hid (bcell hHeld).1
    clear hHeld hb2
    refine wpAnyH_done (by kernel_rfl) ?_ _
    refine NoPanic.normal ?_
    go_wp2_with fail
    refine (l3Bad_any _ _).mono ?_
    rintro e w5 ⟨rfl, hb5⟩
    have hb := HB.out.trans (hb5.mono HB.out.size)
    obtain ⟨hcc, hf⟩ := bcell hb
    have HE : Hid (PlainTk w (badTk 5) (.returned (tkV (badTk 5) (.slice none 0 0))) (sets w5 (w.heap.size + 1) 0 (tkL (badTk 5) (.slice none 0 0)))) := tk_end_plain2 (t := badTk 5) (tkL (badTk 5) (.slice none 0 0)) hb
    clear hb hb5
    unfold tkV badTk noEv
    go_wp2_with fail
    refine bodyPost_ret (v := tkV (badTk 5) (.slice none 0 0)) ?_ rfl HE.out
    simp [results, Tryz.results131, tkV, badTk, noEv, go_sem, hcc]
  · obtain rfl := Option.some.inj ho
    clear ho
    go_simp
    refine hK.out _ _ (below_on hHeld (below_mk _ _)) (fun hHeld => ?_)
    clear hK K'
    try simp only [Act.put, List.setIfInBounds_toArray, List.set_cons_zero, List.set_cons_succ]
    refine oneR 15 (by kernel_rfl) (by kernel_rfl) (fun o ho K' hK => ?_)
    obtain rfl := Option.some.inj ho
    clear ho
    go_simp
    refine (HA.out _).mono ?_
    rintro e w1 ⟨rfl, hb1⟩
    have hb2 := below_on hHeld hb1
    obtain ⟨z0, z1, z2, z3, z4, z5, z6, z7⟩ := (at_mouse w _ _ [.int .i64 0, .int .i64 0, .int .i64 0, .int .i64 0, .int .i64 0, .int .i64 0, .int .i64 0, .slice none 0 0] 31 hb1).eight
    have hz : ∀ o, w1.frozen? ⟨w.heap.size + 1 + 1, o, none⟩ = false := fun o => froz_mouse w _ _ _ _ hb1 o
    have HZ := Lib.hid (at_mouse w _ _ [.int .i64 0, .int .i64 0, .int .i64 0, .int .i64 0, .int .i64 0, .int .i64 0, .int .i64 0, .slice none 0 0] 31 hb1)
    clear hb1 hHeld
    go_wp2_with fail
    refine hK.out _ _ (hb2) (fun hHeld => ?_)
    clear hK K'
    try simp only [Act.put, List.setIfInBounds_toArray, List.set_cons_zero, List.set_cons_succ]
    refine takeR 16 25 (.tuple #[.agg #[.int .i64 2, .int .i64 0, .int .i64 ((n.tdiv 4).tmod 8), .int .i64 (n.tmod 4), .int .i64 a, .int .i64 (x - 1), .int .i64 (y - 1), .slice none 0 0], .bool false]) (by kernel_rfl) (by kernel_rfl) (by kernel_rfl) (by kernel_rfl) (fun _ _ _ h => h) (by kernel_rfl) (fun w o hSw ho => ?_) hHeld ?_
    · obtain rfl := Option.some.inj ho; go_simp
    simp only [Act.put, List.setIfInBounds_toArray, List.set_cons_zero, List.set_cons_succ]
    refine takeR 17 42 (.agg #[.int .i64 2, .int .i64 0, .int .i64 ((n.tdiv 4).tmod 8), .int .i64 (n.tmod 4), .int .i64 a, .int .i64 (x - 1), .int .i64 (y - 1), .slice none 0 0]) (by kernel_rfl) (by kernel_rfl) (by kernel_rfl) (by kernel_rfl) (fun _ _ _ h => h) (by kernel_rfl) (fun w o hSw ho => ?_) hHeld ?_
    · obtain rfl := Option.some.inj ho; go_simp
    simp only [Act.put, List.setIfInBounds_toArray, List.set_cons_zero, List.set_cons_succ]
    refine takeR 18 43 (.bool false) (by kernel_rfl) (by kernel_rfl) (by kernel_rfl) (by kernel_rfl) (fun _ _ _ h => h) (by kernel_rfl) (fun w o hSw ho => ?_) hHeld ?_
    · obtain rfl := Option.some.inj ho; go_simp
    simp only [Act.put, List.setIfInBounds_toArray, List.set_cons_zero, List.set_cons_succ]
    refine oneR 20 (by kernel_rfl) (by kernel_rfl) (fun o ho K' hK => ?_)
    obtain rfl := Option.some.inj ho
    clear ho
    go_simp
    refine hK.out _ (sets w1 (w.heap.size + 1 + 1) 0 [.int .i64 2, .int .i64 0, .int .i64 ((n.tdiv 4).tmod 8), .int .i64 (n.tmod 4), .int .i64 a, .int .i64 (x - 1), .int .i64 (y - 1), .slice none 0 0]) (sets_below (by simp) [.int .i64 2, .int .i64 0, .int .i64 ((n.tdiv 4).tmod 8), .int .i64 (n.tmod 4), .int .i64 a, .int .i64 (x - 1), .int .i64 (y - 1), .slice none 0 0] 0 _ _ hb2) (fun hHeld => ?_)
    clear hK K'
    try simp only [Act.put, List.setIfInBounds_toArray, List.set_cons_zero, List.set_cons_succ]
    obtain ⟨e0, e1, e2, e3, e4, e5, e6, e7⟩ := (sets_at [.int .i64 2, .int .i64 0, .int .i64 ((n.tdiv 4).tmod 8), .int .i64 (n.tmod 4), .int .i64 a, .int .i64 (x - 1), .int .i64 (y - 1), .slice none 0 0] HZ.out rfl).eight
    clear HZ z0 z1 z2 z3 z4 z5 z6 z7 hz
    generalize sets w1 (w.heap.size + 1 + 1) 0 [.int .i64 2, .int .i64 0, .int .i64 ((n.tdiv 4).tmod 8), .int .i64 (n.tmod 4), .int .i64 a, .int .i64 (x - 1), .int .i64 (y - 1), .slice none 0 0] = w4 at *
    refine takeR 21 4 (.bool false) (by kernel_rfl) (by kernel_rfl) (by kernel_rfl) (by kernel_rfl) (fun _ _ _ h => h) (by kernel_rfl) (fun w o hSw ho => ?_) hHeld ?_
    · obtain rfl := Option.some.inj ho; go_simp
    simp only [Act.put, List.setIfInBounds_toArray, List.set_cons_zero, List.set_cons_succ]
    have HB := Lib.hid hHeld
    clear hHeld hb2
    refine wpAnyH_done (by kernel_rfl) ?_ _
    refine NoPanic.normal ?_
    go_wp2_with fail
    refine (l3Bad_any _ _).mono ?_
    rintro e w5 ⟨rfl, hb5⟩
    have hb := HB.out.trans (hb5.mono HB.out.size)
    obtain ⟨hcc, hf⟩ := bcell hb
    have HE : Hid (PlainTk w (badTk 5) (.returned (tkV (badTk 5) (.slice none 0 0))) (sets w5 (w.heap.size + 1) 0 (tkL (badTk 5) (.slice none 0 0)))) := tk_end_plain2 (t := badTk 5) (tkL (badTk 5) (.slice none 0 0)) hb
    clear hb hb5
    unfold tkV badTk noEv
    go_wp2_with fail
    refine bodyPost_ret (v := tkV (badTk 5) (.slice none 0 0)) ?_ rfl HE.out
    simp [results, Tryz.results131, tkV, badTk, noEv, go_sem, hcc]

set_option maxRecDepth 100000 in
set_option maxHeartbeats 4000000 in
theorem specMouseOfParts_b (b off c : Nat) (n x y a : Int) (code size : Int) (w : World) (hb : b < w.heap.size) (hc0 : w.cell? ⟨b, off, none⟩ = some (.int .i64 n)) (hc1 : w.cell? ⟨b, off + 1, none⟩ = some (.int .i64 x)) (hc2 : w.cell? ⟨b, off + 2, none⟩ = some (.int .i64 y))
    (HA : Hid (∀ w, Calls Tryz.prog 145 #[.int .i64 n, .int .i64 x, .int .i64 y, .bool false] w fun e w' => e = .returned (.tuple #[.agg #[.int .i64 2, .int .i64 0, .int .i64 ((n.tdiv 4).tmod 8), .int .i64 (n.tmod 4), .int .i64 a, .int .i64 (x - 1), .int .i64 (y - 1), .slice none 0 0], .bool true]) ∧ Below w.heap.size w w')) :
    Calls Tryz.prog 131 #[.agg #[.int .i64 code, .bool true, .slice (some ⟨b, off, none⟩) 3 c, .int .u8 77, .int .i64 size]] w (PlainTk w (mouseTk n a x y size)) := by
  have HP : Hid (∀ W', Below ((w.alloc (.cells #[.int .i64 code, .bool true, .slice (some ⟨b, off, none⟩) 3 c, .int .u8 77, .int .i64 size] 133)).alloc (.cells #[.int .i64 0, .int .i64 0, .int .i64 0, .int .i64 0, .int .i64 0, .int .i64 0, .int .i64 0, .int .i64 0, .slice none 0 0, .int .i64 0, .bool false, .bool false] 58)).heap.size ((w.alloc (.cells #[.int .i64 code, .bool true, .slice (some ⟨b, off, none⟩) 3 c, .int .u8 77, .int .i64 size] 133)).alloc (.cells #[.int .i64 0, .int .i64 0, .int .i64 0, .int .i64 0, .int .i64 0, .int .i64 0, .int .i64 0, .int .i64 0, .slice none 0 0, .int .i64 0, .bool false, .bool false] 58)) W' → _) := fun W' h => mouse_cells hb hc0 hc1 hc2 h
  go_enter Tryz.func131, Tryz.ntmps131
  go_wp2_with fail
  clear hb hc0 hc1 hc2
  refine wp_region_noPanic ?_
  refine wp_region_held_drew (S := fun W' => Below ((w.alloc (.cells #[.int .i64 code, .bool true, .slice (some ⟨b, off, none⟩) 3 c, .int .u8 77, .int .i64 size] 133)).alloc (.cells #[.int .i64 0, .int .i64 0, .int .i64 0, .int .i64 0, .int .i64 0, .int .i64 0, .int .i64 0, .int .i64 0, .slice none 0 0, .int .i64 0, .bool false, .bool false] 58)).heap.size ((w.alloc (.cells #[.int .i64 code, .bool true, .slice (some ⟨b, off, none⟩) 3 c, .int .u8 77, .int .i64 size] 133)).alloc (.cells #[.int .i64 0, .int .i64 0, .int .i64 0, .int .i64 0, .int .i64 0, .int .i64 0, .int .i64 0, .int .i64 0, .slice none 0 0, .int .i64 0, .bool false, .bool false] 58)) W') (by kernel_rfl) (below_drewN (Below.refl _ _) 1) (fun hHeld => ?_)
  refine takeR 0 26 (.pointer (some ⟨w.heap.size, 2, none⟩)) (by kernel_rfl) (by kernel_rfl) (by kernel_rfl) (by kernel_rfl) (fun _ _ _ h => h) (by kernel_rfl) (fun w o hSw ho => ?_) hHeld ?_
  · obtain rfl := Option.some.inj ho; go_simp
  simp only [Act.put, List.setIfInBounds_toArray, List.set_cons_zero, List.set_cons_succ]
  refine takeR 1 27 (.slice (some ⟨b, off, none⟩) 3 c) (by kernel_rfl) (by kernel_rfl) (by kernel_rfl) (by kernel_rfl) (fun _ _ _ h => h) (by kernel_rfl) (fun w o hSw ho => ?_) hHeld ?_
  · obtain rfl := Option.some.inj ho; obtain ⟨q2, q3, q4, h0, h1, h2⟩ := HP.out _ hSw; go_simp
  simp only [Act.put, List.setIfInBounds_toArray, List.set_cons_zero, List.set_cons_succ]
  refine takeR 2 28 (.pointer (some ⟨b, off, none⟩)) (by kernel_rfl) (by kernel_rfl) (by kernel_rfl) (by kernel_rfl) (fun _ _ _ h => h) (by kernel_rfl) (fun w o hSw ho => ?_) hHeld ?_
  · obtain rfl := Option.some.inj ho; go_simp
  simp only [Act.put, List.setIfInBounds_toArray, List.set_cons_zero, List.set_cons_succ]
  refine takeR 3 29 (.int .i64 n) (by kernel_rfl) (by kernel_rfl) (by kernel_rfl) (by kernel_rfl) (fun _ _ _ h => h) (by kernel_rfl) (fun w o hSw ho => ?_) hHeld ?_
  · obtain rfl := Option.some.inj ho; obtain ⟨q2, q3, q4, h0, h1, h2⟩ := HP.out _ hSw; go_simp
  simp only [Act.put, List.setIfInBounds_toArray, List.set_cons_zero, List.set_cons_succ]
  refine takeR 4 30 (.pointer (some ⟨w.heap.size, 2, none⟩)) (by kernel_rfl) (by kernel_rfl) (by kernel_rfl) (by kernel_rfl) (fun _ _ _ h => h) (by kernel_rfl) (fun w o hSw ho => ?_) hHeld ?_
  · obtain rfl := Option.some.inj ho; go_simp
  simp only [Act.put, List.setIfInBounds_toArray, List.set_cons_zero, List.set_cons_succ]
  refine takeR 5 31 (.slice (some ⟨b, off, none⟩) 3 c) (by kernel_rfl) (by kernel_rfl) (by kernel_rfl) (by kernel_rfl) (fun _ _ _ h => h) (by kernel_rfl) (fun w o hSw ho => ?_) hHeld ?_
  · obtain rfl := Option.some.inj ho; obtain ⟨q2, q3, q4, h0, h1, h2⟩ := HP.out _ hSw; go_simp
  simp only [Act.put, List.setIfInBounds_toArray, List.set_cons_zero, List.set_cons_succ]
  refine takeR 6 32 (.pointer (some ⟨b, off + 1, none⟩)) (by kernel_rfl) (by kernel_rfl) (by kernel_rfl) (by kernel_rfl) (fun _ _ _ h => h) (by kernel_rfl) (fun w o hSw ho => ?_) hHeld ?_
  · obtain rfl := Option.some.inj ho; go_simp
  simp only [Act.put, List.setIfInBounds_toArray, List.set_cons_zero, List.set_cons_succ]
  refine takeR 7 33 (.int .i64 x) (by kernel_rfl) (by kernel_rfl) (by kernel_rfl) (by kernel_rfl) (fun _ _ _ h => h) (by kernel_rfl) (fun w o hSw ho => ?_) hHeld ?_
  · obtain rfl := Option.some.inj ho; obtain ⟨q2, q3, q4, h0, h1, h2⟩ := HP.out _ hSw; go_simp
  simp only [Act.put, List.setIfInBounds_toArray, List.set_cons_zero, List.set_cons_succ]
  refine takeR 8 34 (.pointer (some ⟨w.heap.size, 2, none⟩)) (by kernel_rfl) (by kernel_rfl) (by kernel_rfl) (by kernel_rfl) (fun _ _ _ h => h) (by kernel_rfl) (fun w o hSw ho => ?_) hHeld ?_
  · obtain rfl := Option.some.inj ho; go_simp
  simp only [Act.put, List.setIfInBounds_toArray, List.set_cons_zero, List.set_cons_succ]
  refine takeR 9 35 (.slice (some ⟨b, off, none⟩) 3 c) (by kernel_rfl) (by kernel_rfl) (by kernel_rfl) (by kernel_rfl) (fun _ _ _ h => h) (by kernel_rfl) (fun w o hSw ho => ?_) hHeld ?_
  · obtain rfl := Option.some.inj ho; obtain ⟨q2, q3, q4, h0, h1, h2⟩ := HP.out _ hSw; go_simp
  simp only [Act.put, List.setIfInBounds_toArray, List.set_cons_zero, List.set_cons_succ]
  refine takeR 10 36 (.pointer (some ⟨b, off + 2, none⟩)) (by kernel_rfl) (by kernel_rfl) (by kernel_rfl) (by kernel_rfl) (fun _ _ _ h => h) (by kernel_rfl) (fun w o hSw ho => ?_) hHeld ?_
  · obtain rfl := Option.some.inj ho; go_simp
  simp only [Act.put, List.setIfInBounds_toArray, List.set_cons_zero, List.set_cons_succ]
  refine takeR 11 37 (.int .i64 y) (by kernel_rfl) (by kernel_rfl) (by kernel_rfl) (by kernel_rfl) (fun _ _ _ h => h) (by kernel_rfl) (fun w o hSw ho => ?_) hHeld ?_
  · obtain rfl := Option.some.inj ho; obtain ⟨q2, q3, q4, h0, h1, h2⟩ := HP.out _ hSw; go_simp
  simp only [Act.put, List.setIfInBounds_toArray, List.set_cons_zero, List.set_cons_succ]
  refine takeR 12 38 (.pointer (some ⟨w.heap.size, 3, none⟩)) (by kernel_rfl) (by kernel_rfl) (by kernel_rfl) (by kernel_rfl) (fun _ _ _ h => h) (by kernel_rfl) (fun w o hSw ho => ?_) hHeld ?_
  · obtain rfl := Option.some.inj ho; go_simp
  simp only [Act.put, List.setIfInBounds_toArray, List.set_cons_zero, List.set_cons_succ]
  refine takeR 13 39 (.int .u8 77) (by kernel_rfl) (by kernel_rfl) (by kernel_rfl) (by kernel_rfl) (fun _ _ _ h => h) (by kernel_rfl) (fun w o hSw ho => ?_) hHeld ?_
  · obtain rfl := Option.some.inj ho; obtain ⟨q2, q3, q4, h0, h1, h2⟩ := HP.out _ hSw; go_simp
  simp only [Act.put, List.setIfInBounds_toArray, List.set_cons_zero, List.set_cons_succ]
  refine takeR 14 40 (.bool false) (by kernel_rfl) (by kernel_rfl) (by kernel_rfl) (by kernel_rfl) (fun _ _ _ h => h) (by kernel_rfl) (fun w o hSw ho => ?_) hHeld ?_
  · obtain rfl := Option.some.inj ho; go_simp
  simp only [Act.put, List.setIfInBounds_toArray, List.set_cons_zero, List.set_cons_succ]
  refine twoR 15 19 (by kernel_rfl) (by kernel_rfl) (by kernel_rfl) (fun o ho K' hK => ?_) (fun o ho K' hK => ?_)
  · obtain rfl := Option.some.inj ho
    clear ho
    go_simp
    refine (HA.out _).mono ?_
    rintro e w1 ⟨rfl, hb1⟩
    have hb2 := below_on hHeld hb1
    clear hb1 hHeld
    go_wp2_with fail
    refine hK.out _ _ (hb2) (fun hHeld => ?_)
    clear hK K'
    try simp only [Act.put, List.setIfInBounds_toArray, List.set_cons_zero, List.set_cons_succ]
    refine takeR 16 25 (.tuple #[.agg #[.int .i64 2, .int .i64 0, .int .i64 ((n.tdiv 4).tmod 8), .int .i64 (n.tmod 4), .int .i64 a, .int .i64 (x - 1), .int .i64 (y - 1), .slice none 0 0], .bool true]) (by kernel_rfl) (by kernel_rfl) (by kernel_rfl) (by kernel_rfl) (fun _ _ _ h => h) (by kernel_rfl) (fun w o hSw ho => ?_) hHeld ?_
    · obtain rfl := Option.some.inj ho; go_simp
    simp only [Act.put, List.setIfInBounds_toArray, List.set_cons_zero, List.set_cons_succ]
    refine takeR 17 42 (.agg #[.int .i64 2, .int .i64 0, .int .i64 ((n.tdiv 4).tmod 8), .int .i64 (n.tmod 4), .int .i64 a, .int .i64 (x - 1), .int .i64 (y - 1), .slice none 0 0]) (by kernel_rfl) (by kernel_rfl) (by kernel_rfl) (by kernel_rfl) (fun _ _ _ h => h) (by kernel_rfl) (fun w o hSw ho => ?_) hHeld ?_
    · obtain rfl := Option.some.inj ho; go_simp
    simp only [Act.put, List.setIfInBounds_toArray, List.set_cons_zero, List.set_cons_succ]
    refine takeR 18 43 (.bool true) (by kernel_rfl) (by kernel_rfl) (by kernel_rfl) (by kernel_rfl) (fun _ _ _ h => h) (by kernel_rfl) (fun w o hSw ho => ?_) hHeld ?_
    · obtain rfl := Option.some.inj ho; go_simp
    simp only [Act.put, List.setIfInBounds_toArray, List.set_cons_zero, List.set_cons_succ]
    refine oneR 19 (by kernel_rfl) (by kernel_rfl) (fun o ho K' hK => ?_)
    obtain rfl := Option.some.inj ho
    clear ho
    go_simp
    refine hK.out _ _ (below_on hb2 (below_mk _ _)) (fun hHeld => ?_)
    clear hK K'
    try simp only [Act.put, List.setIfInBounds_toArray, List.set_cons_zero, List.set_cons_succ]
    refine oneR 20 (by kernel_rfl) (by kernel_rfl) (fun o ho K' hK => ?_)
    obtain rfl := Option.some.inj ho
    clear ho
    go_simp
    refine hK.out _ _ (below_on hb2 (below_mk _ _)) (fun hHeld => ?_)
    clear hK K'
    try simp only [Act.put, List.setIfInBounds_toArray, List.set_cons_zero, List.set_cons_succ]
    refine takeR 21 4 (.bool true) (by kernel_rfl) (by kernel_rfl) (by kernel_rfl) (by kernel_rfl) (fun _ _ _ h => h) (by kernel_rfl) (fun w o hSw ho => ?_) hHeld ?_
    · obtain rfl := Option.some.inj ho; go_simp
    simp only [Act.put, List.setIfInBounds_toArray, List.set_cons_zero, List.set_cons_succ]
    have HB := Lib.hid hHeld
    have HC := Lib.hid (bcell hHeld).1
    clear hHeld hb2
    refine wpAnyH_done (by kernel_rfl) ?_ _
    refine NoPanic.normal ?_
    obtain ⟨_, _, q4, _, _, _⟩ := HP.out _ HB.out
    obtain ⟨e0, e1, e2, e3, e4, e5, e6, e7⟩ := (AtL.new w1 [.int .i64 2, .int .i64 0, .int .i64 ((n.tdiv 4).tmod 8), .int .i64 (n.tmod 4), .int .i64 a, .int .i64 (x - 1), .int .i64 (y - 1), .slice none 0 0] 31).eight
    generalize w1.alloc (.cells #[.int .i64 2, .int .i64 0, .int .i64 ((n.tdiv 4).tmod 8), .int .i64 (n.tmod 4), .int .i64 a, .int .i64 (x - 1), .int .i64 (y - 1), .slice none 0 0] 31) = w4 at *
    go_wp2_with fail
    refine (l3Token_m n a x y size _).mono ?_
    rintro e w5 ⟨rfl, hb5⟩
    have hb := HB.out.trans (hb5.mono HB.out.size)
    obtain ⟨hcc, hf⟩ := bcell hb
    have HE : Hid (PlainTk w (mouseTk n a x y size) (.returned (tkV (mouseTk n a x y size) (.slice none 0 0))) (sets w5 (w.heap.size + 1) 0 (tkL (mouseTk n a x y size) (.slice none 0 0)))) := tk_end_plain2 (t := mouseTk n a x y size) (tkL (mouseTk n a x y size) (.slice none 0 0)) hb
    clear hb hb5
    unfold tkV mouseTk mouseEv
    go_wp2_with fail
    refine bodyPost_ret (v := tkV (mouseTk n a x y size) (.slice none 0 0)) ?_ rfl HE.out
    simp [results, Tryz.results131, tkV, mouseTk, mouseEv, go_sem, hcc]
  · obtain rfl := Option.some.inj ho
    clear ho
    go_simp
    refine hK.out _ _ (below_on hHeld (below_mk _ _)) (fun hHeld => ?_)
    clear hK K'
    try simp only [Act.put, List.setIfInBounds_toArray, List.set_cons_zero, List.set_cons_succ]
    refine oneR 15 (by kernel_rfl) (by kernel_rfl) (fun o ho K' hK => ?_)
    obtain rfl := Option.some.inj ho
    clear ho
    go_simp
    refine (HA.out _).mono ?_
    rintro e w1 ⟨rfl, hb1⟩
    have hb2 := below_on hHeld hb1
    obtain ⟨z0, z1, z2, z3, z4, z5, z6, z7⟩ := (at_mouse w _ _ [.int .i64 0, .int .i64 0, .int .i64 0, .int .i64 0, .int .i64 0, .int .i64 0, .int .i64 0, .slice none 0 0] 31 hb1).eight
    have hz : ∀ o, w1.frozen? ⟨w.heap.size + 1 + 1, o, none⟩ = false := fun o => froz_mouse w _ _ _ _ hb1 o
    have HZ := Lib.hid (at_mouse w _ _ [.int .i64 0, .int .i64 0, .int .i64 0, .int .i64 0, .int .i64 0, .int .i64 0, .int .i64 0, .slice none 0 0] 31 hb1)
    clear hb1 hHeld
    go_wp2_with fail
    refine hK.out _ _ (hb2) (fun hHeld => ?_)
    clear hK K'
    try simp only [Act.put, List.setIfInBounds_toArray, List.set_cons_zero, List.set_cons_succ]
    refine takeR 16 25 (.tuple #[.agg #[.int .i64 2, .int .i64 0, .int .i64 ((n.tdiv 4).tmod 8), .int .i64 (n.tmod 4), .int .i64 a, .int .i64 (x - 1), .int .i64 (y - 1), .slice none 0 0], .bool true]) (by kernel_rfl) (by kernel_rfl) (by kernel_rfl) (by kernel_rfl) (fun _ _ _ h => h) (by kernel_rfl) (fun w o hSw ho => ?_) hHeld ?_
    · obtain rfl := Option.some.inj ho; go_simp
    simp only [Act.put, List.setIfInBounds_toArray, List.set_cons_zero, List.set_cons_succ]
    refine takeR 17 42 (.agg #[.int .i64 2, .int .i64 0, .int .i64 ((n.tdiv 4).tmod 8), .int .i64 (n.tmod 4), .int .i64 a, .int .i64 (x - 1), .int .i64 (y - 1), .slice none 0 0]) (by kernel_rfl) (by kernel_rfl) (by kernel_rfl) (by kernel_rfl) (fun _ _ _ h => h) (by kernel_rfl) (fun w o hSw ho => ?_) hHeld ?_
    · obtain rfl := Option.some.inj ho; go_simp
    simp only [Act.put, List.setIfInBounds_toArray, List.set_cons_zero, List.set_cons_succ]
    refine takeR 18 43 (.bool true) (by kernel_rfl) (by kernel_rfl) (by kernel_rfl) (by kernel_rfl) (fun _ _ _ h => h) (by kernel_rfl) (fun w o hSw ho => ?_) hHeld ?_
    · obtain rfl := Option.some.inj ho; go_simp
    simp only [Act.put, List.setIfInBounds_toArray, List.set_cons_zero, List.set_cons_succ]
    refine oneR 20 (by kernel_rfl) (by kernel_rfl) (fun o ho K' hK => ?_)
    obtain rfl := Option.some.inj ho
    clear ho
    go_simp
    refine hK.out _ (sets w1 (w.heap.size + 1 + 1) 0 [.int .i64 2, .int .i64 0, .int .i64 ((n.tdiv 4).tmod 8), .int .i64 (n.tmod 4), .int .i64 a, .int .i64 (x - 1), .int .i64 (y - 1), .slice none 0 0]) (sets_below (by simp) [.int .i64 2, .int .i64 0, .int .i64 ((n.tdiv 4).tmod 8), .int .i64 (n.tmod 4), .int .i64 a, .int .i64 (x - 1), .int .i64 (y - 1), .slice none 0 0] 0 _ _ hb2) (fun hHeld => ?_)
    clear hK K'
    try simp only [Act.put, List.setIfInBounds_toArray, List.set_cons_zero, List.set_cons_succ]
    obtain ⟨e0, e1, e2, e3, e4, e5, e6, e7⟩ := (sets_at [.int .i64 2, .int .i64 0, .int .i64 ((n.tdiv 4).tmod 8), .int .i64 (n.tmod 4), .int .i64 a, .int .i64 (x - 1), .int .i64 (y - 1), .slice none 0 0] HZ.out rfl).eight
    clear HZ z0 z1 z2 z3 z4 z5 z6 z7 hz
    generalize sets w1 (w.heap.size + 1 + 1) 0 [.int .i64 2, .int .i64 0, .int .i64 ((n.tdiv 4).tmod 8), .int .i64 (n.tmod 4), .int .i64 a, .int .i64 (x - 1), .int .i64 (y - 1), .slice none 0 0] = w4 at *
    refine takeR 21 4 (.bool true) (by kernel_rfl) (by kernel_rfl) (by kernel_rfl) (by kernel_rfl) (fun _ _ _ h => h) (by kernel_rfl) (fun w o hSw ho => ?_) hHeld ?_
    · obtain rfl := Option.some.inj ho; go_simp
    simp only [Act.put, List.setIfInBounds_toArray, List.set_cons_zero, List.set_cons_succ]
    have HB := Lib.hid hHeld
    obtain ⟨_, _, q4, _, _, _⟩ := HP.out _ hHeld
    clear hHeld hb2
    refine wpAnyH_done (by kernel_rfl) ?_ _
    refine NoPanic.normal ?_
    go_wp2_with fail
    refine (l3Token_m n a x y size _).mono ?_
    rintro e w5 ⟨rfl, hb5⟩
    have hb := HB.out.trans (hb5.mono HB.out.size)
    obtain ⟨hcc, hf⟩ := bcell hb
    have HE : Hid (PlainTk w (mouseTk n a x y size) (.returned (tkV (mouseTk n a x y size) (.slice none 0 0))) (sets w5 (w.heap.size + 1) 0 (tkL (mouseTk n a x y size) (.slice none 0 0)))) := tk_end_plain2 (t := mouseTk n a x y size) (tkL (mouseTk n a x y size) (.slice none 0 0)) hb
    clear hb hb5
    unfold tkV mouseTk mouseEv
    go_wp2_with fail
    refine bodyPost_ret (v := tkV (mouseTk n a x y size) (.slice none 0 0)) ?_ rfl HE.out
    simp [results, Tryz.results131, tkV, mouseTk, mouseEv, go_sem, hcc]

set_option maxRecDepth 100000 in
set_option maxHeartbeats 4000000 in
theorem specMouseOfParts_c (b off c : Nat) (n x y a : Int) (code size : Int) (w : World) (hb : b < w.heap.size) (hc0 : w.cell? ⟨b, off, none⟩ = some (.int .i64 n)) (hc1 : w.cell? ⟨b, off + 1, none⟩ = some (.int .i64 x)) (hc2 : w.cell? ⟨b, off + 2, none⟩ = some (.int .i64 y))
    (HA : Hid (∀ w, Calls Tryz.prog 145 #[.int .i64 n, .int .i64 x, .int .i64 y, .bool true] w fun e w' => e = .returned (.tuple #[.agg #[.int .i64 2, .int .i64 0, .int .i64 ((n.tdiv 4).tmod 8), .int .i64 (n.tmod 4), .int .i64 a, .int .i64 (x - 1), .int .i64 (y - 1), .slice none 0 0], .bool false]) ∧ Below w.heap.size w w')) :
    Calls Tryz.prog 131 #[.agg #[.int .i64 code, .bool true, .slice (some ⟨b, off, none⟩) 3 c, .int .u8 109, .int .i64 size]] w (PlainTk w (badTk 5)) := by
  have HP : Hid (∀ W', Below ((w.alloc (.cells #[.int .i64 code, .bool true, .slice (some ⟨b, off, none⟩) 3 c, .int .u8 109, .int .i64 size] 133)).alloc (.cells #[.int .i64 0, .int .i64 0, .int .i64 0, .int .i64 0, .int .i64 0, .int .i64 0, .int .i64 0, .int .i64 0, .slice none 0 0, .int .i64 0, .bool false, .bool false] 58)).heap.size ((w.alloc (.cells #[.int .i64 code, .bool true, .slice (some ⟨b, off, none⟩) 3 c, .int .u8 109, .int .i64 size] 133)).alloc (.cells #[.int .i64 0, .int .i64 0, .int .i64 0, .int .i64 0, .int .i64 0, .int .i64 0, .int .i64 0, .int .i64 0, .slice none 0 0, .int .i64 0, .bool false, .bool false] 58)) W' → _) := fun W' h => mouse_cells hb hc0 hc1 hc2 h
  go_enter Tryz.func131, Tryz.ntmps131
  go_wp2_with fail
  clear hb hc0 hc1 hc2
  refine wp_region_noPanic ?_
  refine wp_region_held_drew (S := fun W' => Below ((w.alloc (.cells #[.int .i64 code, .bool true, .slice (some ⟨b, off, none⟩) 3 c, .int .u8 109, .int .i64 size] 133)).alloc (.cells #[.int .i64 0, .int .i64 0, .int .i64 0, .int .i64 0, .int .i64 0, .int .i64 0, .int .i64 0, .int .i64 0, .slice none 0 0, .int .i64 0, .bool false, .bool false] 58)).heap.size ((w.alloc (.cells #[.int .i64 code, .bool true, .slice (some ⟨b, off, none⟩) 3 c, .int .u8 109, .int .i64 size] 133)).alloc (.cells #[.int .i64 0, .int .i64 0, .int .i64 0, .int .i64 0, .int .i64 0, .int .i64 0, .int .i64 0, .int .i64 0, .slice none 0 0, .int .i64 0, .bool false, .bool false] 58)) W') (by kernel_rfl) (below_drewN (Below.refl _ _) 1) (fun hHeld => ?_)
  refine takeR 0 26 (.pointer (some ⟨w.heap.size, 2, none⟩)) (by kernel_rfl) (by kernel_rfl) (by kernel_rfl) (by kernel_rfl) (fun _ _ _ h => h) (by kernel_rfl) (fun w o hSw ho => ?_) hHeld ?_
  · obtain rfl := Option.some.inj ho; go_simp
  simp only [Act.put, List.setIfInBounds_toArray, List.set_cons_zero, List.set_cons_succ]
  refine takeR 1 27 (.slice (some ⟨b, off, none⟩) 3 c) (by kernel_rfl) (by kernel_rfl) (by kernel_rfl) (by kernel_rfl) (fun _ _ _ h => h) (by kernel_rfl) (fun w o hSw ho => ?_) hHeld ?_
  · obtain rfl := Option.some.inj ho; obtain ⟨q2, q3, q4, h0, h1, h2⟩ := HP.out _ hSw; go_simp
  simp only [Act.put, List.setIfInBounds_toArray, List.set_cons_zero, List.set_cons_succ]
  refine takeR 2 28 (.pointer (some ⟨b, off, none⟩)) (by kernel_rfl) (by kernel_rfl) (by kernel_rfl) (by kernel_rfl) (fun _ _ _ h => h) (by kernel_rfl) (fun w o hSw ho => ?_) hHeld ?_
  · obtain rfl := Option.some.inj ho; go_simp
  simp only [Act.put, List.setIfInBounds_toArray, List.set_cons_zero, List.set_cons_succ]
  refine takeR 3 29 (.int .i64 n) (by kernel_rfl) (by kernel_rfl) (by kernel_rfl) (by kernel_rfl) (fun _ _ _ h => h) (by kernel_rfl) (fun w o hSw ho => ?_) hHeld ?_
  · obtain rfl := Option.some.inj ho; obtain ⟨q2, q3, q4, h0, h1, h2⟩ := HP.out _ hSw; go_simp
  simp only [Act.put, List.setIfInBounds_toArray, List.set_cons_zero, List.set_cons_succ]
  refine takeR 4 30 (.pointer (some ⟨w.heap.size, 2, none⟩)) (by kernel_rfl) (by kernel_rfl) (by kernel_rfl) (by kernel_rfl) (fun _ _ _ h => h) (by kernel_rfl) (fun w o hSw ho => ?_) hHeld ?_
  · obtain rfl := Option.some.inj ho; go_simp
  simp only [Act.put, List.setIfInBounds_toArray, List.set_cons_zero, List.set_cons_succ]
  refine takeR 5 31 (.slice (some ⟨b, off, none⟩) 3 c) (by kernel_rfl) (by kernel_rfl) (by kernel_rfl) (by kernel_rfl) (fun _ _ _ h => h) (by kernel_rfl) (fun w o hSw ho => ?_) hHeld ?_
  · obtain rfl := Option.some.inj ho; obtain ⟨q2, q3, q4, h0, h1, h2⟩ := HP.out _ hSw; go_simp
  simp only [Act.put, List.setIfInBounds_toArray, List.set_cons_zero, List.set_cons_succ]
  refine takeR 6 32 (.pointer (some ⟨b, off + 1, none⟩)) (by kernel_rfl) (by kernel_rfl) (by kernel_rfl) (by kernel_rfl) (fun _ _ _ h => h) (by kernel_rfl) (fun w o hSw ho => ?_) hHeld ?_
  · obtain rfl := Option.some.inj ho; go_simp
  simp only [Act.put, List.setIfInBounds_toArray, List.set_cons_zero, List.set_cons_succ]
  refine takeR 7 33 (.int .i64 x) (by kernel_rfl) (by kernel_rfl) (by kernel_rfl) (by kernel_rfl) (fun _ _ _ h => h) (by kernel_rfl) (fun w o hSw ho => ?_) hHeld ?_
  · obtain rfl := Option.some.inj ho; obtain ⟨q2, q3, q4, h0, h1, h2⟩ := HP.out _ hSw; go_simp
  simp only [Act.put, List.setIfInBounds_toArray, List.set_cons_zero, List.set_cons_succ]
  refine takeR 8 34 (.pointer (some ⟨w.heap.size, 2, none⟩)) (by kernel_rfl) (by kernel_rfl) (by kernel_rfl) (by kernel_rfl) (fun _ _ _ h => h) (by kernel_rfl) (fun w o hSw ho => ?_) hHeld ?_
  · obtain rfl := Option.some.inj ho; go_simp
  simp only [Act.put, List.setIfInBounds_toArray, List.set_cons_zero, List.set_cons_succ]
  refine takeR 9 35 (.slice (some ⟨b, off, none⟩) 3 c) (by kernel_rfl) (by kernel_rfl) (by kernel_rfl) (by kernel_rfl) (fun _ _ _ h => h) (by kernel_rfl) (fun w o hSw ho => ?_) hHeld ?_
  · obtain rfl := Option.some.inj ho; obtain ⟨q2, q3, q4, h0, h1, h2⟩ := HP.out _ hSw; go_simp
  simp only [Act.put, List.setIfInBounds_toArray, List.set_cons_zero, List.set_cons_succ]
  refine takeR 10 36 (.pointer (some ⟨b, off + 2, none⟩)) (by kernel_rfl) (by kernel_rfl) (by kernel_rfl) (by kernel_rfl) (fun _ _ _ h => h) (by kernel_rfl) (fun w o hSw ho => ?_) hHeld ?_
  · obtain rfl := Option.some.inj ho; go_simp
  simp only [Act.put, List.setIfInBounds_toArray, List.set_cons_zero, List.set_cons_succ]
  refine takeR 11 37 (.int .i64 y) (by kernel_rfl) (by kernel_rfl) (by kernel_rfl) (by kernel_rfl) (fun _ _ _ h => h) (by kernel_rfl) (fun w o hSw ho => ?_) hHeld ?_
  · obtain rfl := Option.some.inj ho; obtain ⟨q2, q3, q4, h0, h1, h2⟩ := HP.out _ hSw; go_simp
  simp only [Act.put, List.setIfInBounds_toArray, List.set_cons_zero, List.set_cons_succ]
  refine takeR 12 38 (.pointer (some ⟨w.heap.size, 3, none⟩)) (by kernel_rfl) (by kernel_rfl) (by kernel_rfl) (by kernel_rfl) (fun _ _ _ h => h) (by kernel_rfl) (fun w o hSw ho => ?_) hHeld ?_
  · obtain rfl := Option.some.inj ho; go_simp
  simp only [Act.put, List.setIfInBounds_toArray, List.set_cons_zero, List.set_cons_succ]
  refine takeR 13 39 (.int .u8 109) (by kernel_rfl) (by kernel_rfl) (by kernel_rfl) (by kernel_rfl) (fun _ _ _ h => h) (by kernel_rfl) (fun w o hSw ho => ?_) hHeld ?_
  · obtain rfl := Option.some.inj ho; obtain ⟨q2, q3, q4, h0, h1, h2⟩ := HP.out _ hSw; go_simp
  simp only [Act.put, List.setIfInBounds_toArray, List.set_cons_zero, List.set_cons_succ]
  refine takeR 14 40 (.bool true) (by kernel_rfl) (by kernel_rfl) (by kernel_rfl) (by kernel_rfl) (fun _ _ _ h => h) (by kernel_rfl) (fun w o hSw ho => ?_) hHeld ?_
  · obtain rfl := Option.some.inj ho; go_simp
  simp only [Act.put, List.setIfInBounds_toArray, List.set_cons_zero, List.set_cons_succ]
  refine twoR 15 19 (by kernel_rfl) (by kernel_rfl) (by kernel_rfl) (fun o ho K' hK => ?_) (fun o ho K' hK => ?_)
  · obtain rfl := Option.some.inj ho
    clear ho
    go_simp
    refine (HA.out _).mono ?_
    rintro e w1 ⟨rfl, hb1⟩
    have hb2 := below_on hHeld hb1
    clear hb1 hHeld
    go_wp2_with fail
    refine hK.out _ _ (hb2) (fun hHeld => ?_)
    clear hK K'
    try simp only [Act.put, List.setIfInBounds_toArray, List.set_cons_zero, List.set_cons_succ]
    refine takeR 16 25 (.tuple #[.agg #[.int .i64 2, .int .i64 0, .int .i64 ((n.tdiv 4).tmod 8), .int .i64 (n.tmod 4), .int .i64 a, .int .i64 (x - 1), .int .i64 (y - 1), .slice none 0 0], .bool false]) (by kernel_rfl) (by kernel_rfl) (by kernel_rfl) (by kernel_rfl) (fun _ _ _ h => h) (by kernel_rfl) (fun w o hSw ho => ?_) hHeld ?_
    · obtain rfl := Option.some.inj ho; go_simp
    simp only [Act.put, List.setIfInBounds_toArray, List.set_cons_zero, List.set_cons_succ]
    refine takeR 17 42 (.agg #[.int .i64 2, .int .i64 0, .int .i64 ((n.tdiv 4).tmod 8), .int .i64 (n.tmod 4), .int .i64 a, .int .i64 (x - 1), .int .i64 (y - 1), .slice none 0 0]) (by kernel_rfl) (by kernel_rfl) (by kernel_rfl) (by kernel_rfl) (fun _ _ _ h => h) (by kernel_rfl) (fun w o hSw ho => ?_) hHeld ?_
    · obtain rfl := Option.some.inj ho; go_simp
    simp only [Act.put, List.setIfInBounds_toArray, List.set_cons_zero, List.set_cons_succ]
    refine takeR 18 43 (.bool false) (by kernel_rfl) (by kernel_rfl) (by kernel_rfl) (by kernel_rfl) (fun _ _ _ h => h) (by kernel_rfl) (fun w o hSw ho => ?_) hHeld ?_
    · obtain rfl := Option.some.inj ho; go_simp
    simp only [Act.put, List.setIfInBounds_toArray, List.set_cons_zero, List.set_cons_succ]
    refine oneR 19 (by kernel_rfl) (by kernel_rfl) (fun o ho K' hK => ?_)
    obtain rfl := Option.some.inj ho
    clear ho
    go_simp
    refine hK.out _ _ (below_on hb2 (below_mk _ _)) (fun hHeld => ?_)
    clear hK K'
    try simp only [Act.put, List.setIfInBounds_toArray, List.set_cons_zero, List.set_cons_succ]
    refine oneR 20 (by kernel_rfl) (by kernel_rfl) (fun o ho K' hK => ?_)
    obtain rfl := Option.some.inj ho
    clear ho
    go_simp
    refine hK.out _ _ (below_on hb2 (below_mk _ _)) (fun hHeld => ?_)
    clear hK K'
    try simp only [Act.put, List.setIfInBounds_toArray, List.set_cons_zero, List.set_cons_succ]
    refine takeR 21 4 (.bool false) (by kernel_rfl) (by kernel_rfl) (by kernel_rfl) (by kernel_rfl) (fun _ _ _ h => h) (by kernel_rfl) (fun w o hSw ho => ?_) hHeld ?_
    · obtain rfl := Option.some.inj ho; go_simp
    simp only [Act.put, List.setIfInBounds_toArray, List.set_cons_zero, List.set_cons_succ]
    have HB := Lib.hid hHeld
    have HC := Lib.hid (bcell hHeld).1
    clear hHeld hb2
    refine wpAnyH_done (by kernel_rfl) ?_ _
    refine NoPanic.normal ?_
    go_wp2_with fail
    refine (l3Bad_any _ _).mono ?_
    rintro e w5 ⟨rfl, hb5⟩
    have hb := HB.out.trans (hb5.mono HB.out.size)
    obtain ⟨hcc, hf⟩ := bcell hb
    have HE : Hid (PlainTk w (badTk 5) (.returned (tkV (badTk 5) (.slice none 0 0))) (sets w5 (w.heap.size + 1) 0 (tkL (badTk 5) (.slice none 0 0)))) := tk_end_plain2 (t := badTk 5) (tkL (badTk 5) (.slice none 0 0)) hb
    clear hb hb5
    unfold tkV badTk noEv
    go_wp2_with fail
    refine bodyPost_ret (v := tkV (badTk 5) (.slice none 0 0)) ?_ rfl HE.out
    simp [results, Tryz.results131, tkV, badTk, noEv, go_sem, hcc]
  · obtain rfl := Option.some.inj ho
    clear ho
    go_simp
    refine hK.out _ _ (below_on hHeld (below_mk _ _)) (fun hHeld => ?_)
    clear hK K'
    try simp only [Act.put, List.setIfInBounds_toArray, List.set_cons_zero, List.set_cons_succ]
    refine oneR 15 (by kernel_rfl) (by kernel_rfl) (fun o ho K' hK => ?_)
    obtain rfl := Option.some.inj ho
    clear ho
    go_simp
    refine (HA.out _).mono ?_
    rintro e w1 ⟨rfl, hb1⟩
    have hb2 := below_on hHeld hb1
    obtain ⟨z0, z1, z2, z3, z4, z5, z6, z7⟩ := (at_mouse w _ _ [.int .i64 0, .int .i64 0, .int .i64 0, .int .i64 0, .int .i64 0, .int .i64 0, .int .i64 0, .slice none 0 0] 31 hb1).eight
    have hz : ∀ o, w1.frozen? ⟨w.heap.size + 1 + 1, o, none⟩ = false := fun o => froz_mouse w _ _ _ _ hb1 o
    have HZ := Lib.hid (at_mouse w _ _ [.int .i64 0, .int .i64 0, .int .i64 0, .int .i64 0, .int .i64 0, .int .i64 0, .int .i64 0, .slice none 0 0] 31 hb1)
    clear hb1 hHeld
    go_wp2_with fail
    refine hK.out _ _ (hb2) (fun hHeld => ?_)
    clear hK K'
    try simp only [Act.put, List.setIfInBounds_toArray, List.set_cons_zero, List.set_cons_succ]
    refine takeR 16 25 (.tuple #[.agg #[.int .i64 2, .int .i64 0, .int .i64 ((n.tdiv 4).tmod 8), .int .i64 (n.tmod 4), .int .i64 a, .int .i64 (x - 1), .int .i64 (y - 1), .slice none 0 0], .bool false]) (by kernel_rfl) (by kernel_rfl) (by kernel_rfl) (by kernel_rfl) (fun _ _ _ h => h) (by kernel_rfl) (fun w o hSw ho => ?_) hHeld ?_
    · obtain rfl := Option.some.inj ho; go_simp
    simp only [Act.put, List.setIfInBounds_toArray, List.set_cons_zero, List.set_cons_succ]
    refine takeR 17 42 (.agg #[.int .i64 2, .int .i64 0, .int .i64 ((n.tdiv 4).tmod 8), .int .i64 (n.tmod 4), .int .i64 a, .int .i64 (x - 1), .int .i64 (y - 1), .slice none 0 0]) (by kernel_rfl) (by kernel_rfl) (by kernel_rfl) (by kernel_rfl) (fun _ _ _ h => h) (by kernel_rfl) (fun w o hSw ho => ?_) hHeld ?_
    · obtain rfl := Option.some.inj ho; go_simp
    simp only [Act.put, List.setIfInBounds_toArray, List.set_cons_zero, List.set_cons_succ]
    refine takeR 18 43 (.bool false) (by kernel_rfl) (by kernel_rfl) (by kernel_rfl) (by kernel_rfl) (fun _ _ _ h => h) (by kernel_rfl) (fun w o hSw ho => ?_) hHeld ?_
    · obtain rfl := Option.some.inj ho; go_simp
    simp only [Act.put, List.setIfInBounds_toArray, List.set_cons_zero, List.set_cons_succ]
    refine oneR 20 (by kernel_rfl) (by kernel_rfl) (fun o ho K' hK => ?_)
    obtain rfl := Option.some.inj ho
    clear ho
    go_simp
    refine hK.out _ (sets w1 (w.heap.size + 1 + 1) 0 [.int .i64 2, .int .i64 0, .int .i64 ((n.tdiv 4).tmod 8), .int .i64 (n.tmod 4), .int .i64 a, .int .i64 (x - 1), .int .i64 (y - 1), .slice none 0 0]) (sets_below (by simp) [.int .i64 2, .int .i64 0, .int .i64 ((n.tdiv 4).tmod 8), .int .i64 (n.tmod 4), .int .i64 a, .int .i64 (x - 1), .int .i64 (y - 1), .slice none 0 0] 0 _ _ hb2) (fun hHeld => ?_)
    clear hK K'
    try simp only [Act.put, List.setIfInBounds_toArray, List.set_cons_zero, List.set_cons_succ]
    obtain ⟨e0, e1, e2, e3, e4, e5, e6, e7⟩ := (sets_at [.int .i64 2, .int .i64 0, .int .i64 ((n.tdiv 4).tmod 8), .int .i64 (n.tmod 4), .int .i64 a, .int .i64 (x - 1), .int .i64 (y - 1), .slice none 0 0] HZ.out rfl).eight
    clear HZ z0 z1 z2 z3 z4 z5 z6 z7 hz
    generalize sets w1 (w.heap.size + 1 + 1) 0 [.int .i64 2, .int .i64 0, .int .i64 ((n.tdiv 4).tmod 8), .int .i64 (n.tmod 4), .int .i64 a, .int .i64 (x - 1), .int .i64 (y - 1), .slice none 0 0] = w4 at *
    refine takeR 21 4 (.bool false) (by kernel_rfl) (by kernel_rfl) (by kernel_rfl) (by kernel_rfl) (fun _ _ _ h => h) (by kernel_rfl) (fun w o hSw ho => ?_) hHeld ?_
    · obtain rfl := Option.some.inj ho; go_simp
    simp only [Act.put, List.setIfInBounds_toArray, List.set_cons_zero, List.set_cons_succ]
    have HB := Lib.hid hHeld
    clear hHeld hb2
    refine wpAnyH_done (by kernel_rfl) ?_ _
    refine NoPanic.normal ?_
    go_wp2_with fail
    refine (l3Bad_any _ _).mono ?_
    rintro e w5 ⟨rfl, hb5⟩
    have hb := HB.out.trans (hb5.mono HB.out.size)
    obtain ⟨hcc, hf⟩ := bcell hb
    have HE : Hid (PlainTk w (badTk 5) (.returned (tkV (badTk 5) (.slice none 0 0))) (sets w5 (w.heap.size + 1) 0 (tkL (badTk 5) (.slice none 0 0)))) := tk_end_plain2 (t := badTk 5) (tkL (badTk 5) (.slice none 0 0)) hb
    clear hb hb5
    unfold tkV badTk noEv
    go_wp2_with fail
    refine bodyPost_ret (v := tkV (badTk 5) (.slice none 0 0)) ?_ rfl HE.out
    simp [results, Tryz.results131, tkV, badTk, noEv, go_sem, hcc]

set_option maxRecDepth 100000 in
set_option maxHeartbeats 4000000 in
theorem specMouseOfParts_d (b off c : Nat) (n x y a : Int) (code size : Int) (w : World) (hb : b < w.heap.size) (hc0 : w.cell? ⟨b, off, none⟩ = some (.int .i64 n)) (hc1 : w.cell? ⟨b, off + 1, none⟩ = some (.int .i64 x)) (hc2 : w.cell? ⟨b, off + 2, none⟩ = some (.int .i64 y))
    (HA : Hid (∀ w, Calls Tryz.prog 145 #[.int .i64 n, .int .i64 x, .int .i64 y, .bool true] w fun e w' => e = .returned (.tuple #[.agg #[.int .i64 2, .int .i64 0, .int .i64 ((n.tdiv 4).tmod 8), .int .i64 (n.tmod 4), .int .i64 a, .int .i64 (x - 1), .int .i64 (y - 1), .slice none 0 0], .bool true]) ∧ Below w.heap.size w w')) :
    Calls Tryz.prog 131 #[.agg #[.int .i64 code, .bool true, .slice (some ⟨b, off, none⟩) 3 c, .int .u8 109, .int .i64 size]] w (PlainTk w (mouseTk n a x y size)) := by
  have HP : Hid (∀ W', Below ((w.alloc (.cells #[.int .i64 code, .bool true, .slice (some ⟨b, off, none⟩) 3 c, .int .u8 109, .int .i64 size] 133)).alloc (.cells #[.int .i64 0, .int .i64 0, .int .i64 0, .int .i64 0, .int .i64 0, .int .i64 0, .int .i64 0, .int .i64 0, .slice none 0 0, .int .i64 0, .bool false, .bool false] 58)).heap.size ((w.alloc (.cells #[.int .i64 code, .bool true, .slice (some ⟨b, off, none⟩) 3 c, .int .u8 109, .int .i64 size] 133)).alloc (.cells #[.int .i64 0, .int .i64 0, .int .i64 0, .int .i64 0, .int .i64 0, .int .i64 0, .int .i64 0, .int .i64 0, .slice none 0 0, .int .i64 0, .bool false, .bool false] 58)) W' → _) := fun W' h => mouse_cells hb hc0 hc1 hc2 h
  go_enter Tryz.func131, Tryz.ntmps131
  go_wp2_with fail
  clear hb hc0 hc1 hc2
  refine wp_region_noPanic ?_
  refine wp_region_held_drew (S := fun W' => Below ((w.alloc (.cells #[.int .i64 code, .bool true, .slice (some ⟨b, off, none⟩) 3 c, .int .u8 109, .int .i64 size] 133)).alloc (.cells #[.int .i64 0, .int .i64 0, .int .i64 0, .int .i64 0, .int .i64 0, .int .i64 0, .int .i64 0, .int .i64 0, .slice none 0 0, .int .i64 0, .bool false, .bool false] 58)).heap.size ((w.alloc (.cells #[.int .i64 code, .bool true, .slice (some ⟨b, off, none⟩) 3 c, .int .u8 109, .int .i64 size] 133)).alloc (.cells #[.int .i64 0, .int .i64 0, .int .i64 0, .int .i64 0, .int .i64 0, .int .i64 0, .int .i64 0, .int .i64 0, .slice none 0 0, .int .i64 0, .bool false, .bool false] 58)) W') (by kernel_rfl) (below_drewN (Below.refl _ _) 1) (fun hHeld => ?_)
  refine takeR 0 26 (.pointer (some ⟨w.heap.size, 2, none⟩)) (by kernel_rfl) (by kernel_rfl) (by kernel_rfl) (by kernel_rfl) (fun _ _ _ h => h) (by kernel_rfl) (fun w o hSw ho => ?_) hHeld ?_
  · obtain rfl := Option.some.inj ho; go_simp
  simp only [Act.put, List.setIfInBounds_toArray, List.set_cons_zero, List.set_cons_succ]
  refine takeR 1 27 (.slice (some ⟨b, off, none⟩) 3 c) (by kernel_rfl) (by kernel_rfl) (by kernel_rfl) (by kernel_rfl) (fun _ _ _ h => h) (by kernel_rfl) (fun w o hSw ho => ?_) hHeld ?_
  · obtain rfl := Option.some.inj ho; obtain ⟨q2, q3, q4, h0, h1, h2⟩ := HP.out _ hSw; go_simp
  simp only [Act.put, List.setIfInBounds_toArray, List.set_cons_zero, List.set_cons_succ]
  refine takeR 2 28 (.pointer (some ⟨b, off, none⟩)) (by kernel_rfl) (by kernel_rfl) (by kernel_rfl) (by kernel_rfl) (fun _ _ _ h => h) (by kernel_rfl) (fun w o hSw ho => ?_) hHeld ?_
  · obtain rfl := Option.some.inj ho; go_simp
  simp only [Act.put, List.setIfInBounds_toArray, List.set_cons_zero, List.set_cons_succ]
  refine takeR 3 29 (.int .i64 n) (by kernel_rfl) (by kernel_rfl) (by kernel_rfl) (by kernel_rfl) (fun _ _ _ h => h) (by kernel_rfl) (fun w o hSw ho => ?_) hHeld ?_
  · obtain rfl := Option.some.inj ho; obtain ⟨q2, q3, q4, h0, h1, h2⟩ := HP.out _ hSw; go_simp
  simp only [Act.put, List.setIfInBounds_toArray, List.set_cons_zero, List.set_cons_succ]
  refine takeR 4 30 (.pointer (some ⟨w.heap.size, 2, none⟩)) (by kernel_rfl) (by kernel_rfl) (by kernel_rfl) (by kernel_rfl) (fun _ _ _ h => h) (by kernel_rfl) (fun w o hSw ho => ?_) hHeld ?_
  · obtain rfl := Option.some.inj ho; go_simp
  simp only [Act.put, List.setIfInBounds_toArray, List.set_cons_zero, List.set_cons_succ]
  refine takeR 5 31 (.slice (some ⟨b, off, none⟩) 3 c) (by kernel_rfl) (by kernel_rfl) (by kernel_rfl) (by kernel_rfl) (fun _ _ _ h => h) (by kernel_rfl) (fun w o hSw ho => ?_) hHeld ?_
  · obtain rfl := Option.some.inj ho; obtain ⟨q2, q3, q4, h0, h1, h2⟩ := HP.out _ hSw; go_simp
  simp only [Act.put, List.setIfInBounds_toArray, List.set_cons_zero, List.set_cons_succ]
  refine takeR 6 32 (.pointer (some ⟨b, off + 1, none⟩)) (by kernel_rfl) (by kernel_rfl) (by kernel_rfl) (by kernel_rfl) (fun _ _ _ h => h) (by kernel_rfl) (fun w o hSw ho => ?_) hHeld ?_
  · obtain rfl := Option.some.inj ho; go_simp
  simp only [Act.put, List.setIfInBounds_toArray, List.set_cons_zero, List.set_cons_succ]
  refine takeR 7 33 (.int .i64 x) (by kernel_rfl) (by kernel_rfl) (by kernel_rfl) (by kernel_rfl) (fun _ _ _ h => h) (by kernel_rfl) (fun w o hSw ho => ?_) hHeld ?_
  · obtain rfl := Option.some.inj ho; obtain ⟨q2, q3, q4, h0, h1, h2⟩ := HP.out _ hSw; go_simp
  simp only [Act.put, List.setIfInBounds_toArray, List.set_cons_zero, List.set_cons_succ]
  refine takeR 8 34 (.pointer (some ⟨w.heap.size, 2, none⟩)) (by kernel_rfl) (by kernel_rfl) (by kernel_rfl) (by kernel_rfl) (fun _ _ _ h => h) (by kernel_rfl) (fun w o hSw ho => ?_) hHeld ?_
  · obtain rfl := Option.some.inj ho; go_simp
  simp only [Act.put, List.setIfInBounds_toArray, List.set_cons_zero, List.set_cons_succ]
  refine takeR 9 35 (.slice (some ⟨b, off, none⟩) 3 c) (by kernel_rfl) (by kernel_rfl) (by kernel_rfl) (by kernel_rfl) (fun _ _ _ h => h) (by kernel_rfl) (fun w o hSw ho => ?_) hHeld ?_
  · obtain rfl := Option.some.inj ho; obtain ⟨q2, q3, q4, h0, h1, h2⟩ := HP.out _ hSw; go_simp
  simp only [Act.put, List.setIfInBounds_toArray, List.set_cons_zero, List.set_cons_succ]
  refine takeR 10 36 (.pointer (some ⟨b, off + 2, none⟩)) (by kernel_rfl) (by kernel_rfl) (by kernel_rfl) (by kernel_rfl) (fun _ _ _ h => h) (by kernel_rfl) (fun w o hSw ho => ?_) hHeld ?_
  · obtain rfl := Option.some.inj ho; go_simp
  simp only [Act.put, List.setIfInBounds_toArray, List.set_cons_zero, List.set_cons_succ]
  refine takeR 11 37 (.int .i64 y) (by kernel_rfl) (by kernel_rfl) (by kernel_rfl) (by kernel_rfl) (fun _ _ _ h => h) (by kernel_rfl) (fun w o hSw ho => ?_) hHeld ?_
  · obtain rfl := Option.some.inj ho; obtain ⟨q2, q3, q4, h0, h1, h2⟩ := HP.out _ hSw; go_simp
  simp only [Act.put, List.setIfInBounds_toArray, List.set_cons_zero, List.set_cons_succ]
  refine takeR 12 38 (.pointer (some ⟨w.heap.size, 3, none⟩)) (by kernel_rfl) (by kernel_rfl) (by kernel_rfl) (by kernel_rfl) (fun _ _ _ h => h) (by kernel_rfl) (fun w o hSw ho => ?_) hHeld ?_
  · obtain rfl := Option.some.inj ho; go_simp
  simp only [Act.put, List.setIfInBounds_toArray, List.set_cons_zero, List.set_cons_succ]
  refine takeR 13 39 (.int .u8 109) (by kernel_rfl) (by kernel_rfl) (by kernel_rfl) (by kernel_rfl) (fun _ _ _ h => h) (by kernel_rfl) (fun w o hSw ho => ?_) hHeld ?_
  · obtain rfl := Option.some.inj ho; obtain ⟨q2, q3, q4, h0, h1, h2⟩ := HP.out _ hSw; go_simp
  simp only [Act.put, List.setIfInBounds_toArray, List.set_cons_zero, List.set_cons_succ]
  refine takeR 14 40 (.bool true) (by kernel_rfl) (by kernel_rfl) (by kernel_rfl) (by kernel_rfl) (fun _ _ _ h => h) (by kernel_rfl) (fun w o hSw ho => ?_) hHeld ?_
  · obtain rfl := Option.some.inj ho; go_simp
  simp only [Act.put, List.setIfInBounds_toArray, List.set_cons_zero, List.set_cons_succ]
  refine twoR 15 19 (by kernel_rfl) (by kernel_rfl) (by kernel_rfl) (fun o ho K' hK => ?_) (fun o ho K' hK => ?_)
  · obtain rfl := Option.some.inj ho
    clear ho
    go_simp
    refine (HA.out _).mono ?_
    rintro e w1 ⟨rfl, hb1⟩
    have hb2 := below_on hHeld hb1
    clear hb1 hHeld
    go_wp2_with fail
    refine hK.out _ _ (hb2) (fun hHeld => ?_)
    clear hK K'
    try simp only [Act.put, List.setIfInBounds_toArray, List.set_cons_zero, List.set_cons_succ]
    refine takeR 16 25 (.tuple #[.agg #[.int .i64 2, .int .i64 0, .int .i64 ((n.tdiv 4).tmod 8), .int .i64 (n.tmod 4), .int .i64 a, .int .i64 (x - 1), .int .i64 (y - 1), .slice none 0 0], .bool true]) (by kernel_rfl) (by kernel_rfl) (by kernel_rfl) (by kernel_rfl) (fun _ _ _ h => h) (by kernel_rfl) (fun w o hSw ho => ?_) hHeld ?_
    · obtain rfl := Option.some.inj ho; go_simp
    simp only [Act.put, List.setIfInBounds_toArray, List.set_cons_zero, List.set_cons_succ]
    refine takeR 17 42 (.agg #[.int .i64 2, .int .i64 0, .int .i64 ((n.tdiv 4).tmod 8), .int .i64 (n.tmod 4), .int .i64 a, .int .i64 (x - 1), .int .i64 (y - 1), .slice none 0 0]) (by kernel_rfl) (by kernel_rfl) (by kernel_rfl) (by kernel_rfl) (fun _ _ _ h => h) (by kernel_rfl) (fun w o hSw ho => ?_) hHeld ?_
    · obtain rfl := Option.some.inj ho; go_simp
    simp only [Act.put, List.setIfInBounds_toArray, List.set_cons_zero, List.set_cons_succ]
    refine takeR 18 43 (.bool true) (by kernel_rfl) (by kernel_rfl) (by kernel_rfl) (by kernel_rfl) (fun _ _ _ h => h) (by kernel_rfl) (fun w o hSw ho => ?_) hHeld ?_
    · obtain rfl := Option.some.inj ho; go_simp
    simp only [Act.put, List.setIfInBounds_toArray, List.set_cons_zero, List.set_cons_succ]
    refine oneR 19 (by kernel_rfl) (by kernel_rfl) (fun o ho K' hK => ?_)
    obtain rfl := Option.some.inj ho
    clear ho
    go_simp
    refine hK.out _ _ (below_on hb2 (below_mk _ _)) (fun hHeld => ?_)
    clear hK K'
    try simp only [Act.put, List.setIfInBounds_toArray, List.set_cons_zero, List.set_cons_succ]
    refine oneR 20 (by kernel_rfl) (by kernel_rfl) (fun o ho K' hK => ?_)
    obtain rfl := Option.some.inj ho
    clear ho
    go_simp
    refine hK.out _ _ (below_on hb2 (below_mk _ _)) (fun hHeld => ?_)
    clear hK K'
    try simp only [Act.put, List.setIfInBounds_toArray, List.set_cons_zero, List.set_cons_succ]
    refine takeR 21 4 (.bool true) (by kernel_rfl) (by kernel_rfl) (by kernel_rfl) (by kernel_rfl) (fun _ _ _ h => h) (by kernel_rfl) (fun w o hSw ho => ?_) hHeld ?_
    · obtain rfl := Option.some.inj ho; go_simp
    simp only [Act.put, List.setIfInBounds_toArray, List.set_cons_zero, List.set_cons_succ]
    have HB := Lib.hid hHeld
    have HC := Lib.hid (bcell hHeld).1
    clear hHeld hb2
    refine wpAnyH_done (by kernel_rfl) ?_ _
    refine NoPanic.normal ?_
    obtain ⟨_, _, q4, _, _, _⟩ := HP.out _ HB.out
    obtain ⟨e0, e1, e2, e3, e4, e5, e6, e7⟩ := (AtL.new w1 [.int .i64 2, .int .i64 0, .int .i64 ((n.tdiv 4).tmod 8), .int .i64 (n.tmod 4), .int .i64 a, .int .i64 (x - 1), .int .i64 (y - 1), .slice none 0 0] 31).eight
    generalize w1.alloc (.cells #[.int .i64 2, .int .i64 0, .int .i64 ((n.tdiv 4).tmod 8), .int .i64 (n.tmod 4), .int .i64 a, .int .i64 (x - 1), .int .i64 (y - 1), .slice none 0 0] 31) = w4 at *
    go_wp2_with fail
    refine (l3Token_m n a x y size _).mono ?_
    rintro e w5 ⟨rfl, hb5⟩
    have hb := HB.out.trans (hb5.mono HB.out.size)
    obtain ⟨hcc, hf⟩ := bcell hb
    have HE : Hid (PlainTk w (mouseTk n a x y size) (.returned (tkV (mouseTk n a x y size) (.slice none 0 0))) (sets w5 (w.heap.size + 1) 0 (tkL (mouseTk n a x y size) (.slice none 0 0)))) := tk_end_plain2 (t := mouseTk n a x y size) (tkL (mouseTk n a x y size) (.slice none 0 0)) hb
    clear hb hb5
    unfold tkV mouseTk mouseEv
    go_wp2_with fail
    refine bodyPost_ret (v := tkV (mouseTk n a x y size) (.slice none 0 0)) ?_ rfl HE.out
    simp [results, Tryz.results131, tkV, mouseTk, mouseEv, go_sem, hcc]
  · obtain rfl := Option.some.inj ho
    clear ho
    go_simp
    refine hK.out _ _ (below_on hHeld (below_mk _ _)) (fun hHeld => ?_)
    clear hK K'
    try simp only [Act.put, List.setIfInBounds_toArray, List.set_cons_zero, List.set_cons_succ]
    refine oneR 15 (by kernel_rfl) (by kernel_rfl) (fun o ho K' hK => ?_)
    obtain rfl := Option.some.inj ho
    clear ho
    go_simp
    refine (HA.out _).mono ?_
    rintro e w1 ⟨rfl, hb1⟩
    have hb2 := below_on hHeld hb1
    obtain ⟨z0, z1, z2, z3, z4, z5, z6, z7⟩ := (at_mouse w _ _ [.int .i64 0, .int .i64 0, .int .i64 0, .int .i64 0, .int .i64 0, .int .i64 0, .int .i64 0, .slice none 0 0] 31 hb1).eight
    have hz : ∀ o, w1.frozen? ⟨w.heap.size + 1 + 1, o, none⟩ = false := fun o => froz_mouse w _ _ _ _ hb1 o
    have HZ := Lib.hid (at_mouse w _ _ [.int .i64 0, .int .i64 0, .int .i64 0, .int .i64 0, .int .i64 0, .int .i64 0, .int .i64 0, .slice none 0 0] 31 hb1)
    clear hb1 hHeld
    go_wp2_with fail
    refine hK.out _ _ (hb2) (fun hHeld => ?_)
    clear hK K'
    try simp only [Act.put, List.setIfInBounds_toArray, List.set_cons_zero, List.set_cons_succ]
    refine takeR 16 25 (.tuple #[.agg #[.int .i64 2, .int .i64 0, .int .i64 ((n.tdiv 4).tmod 8), .int .i64 (n.tmod 4), .int .i64 a, .int .i64 (x - 1), .int .i64 (y - 1), .slice none 0 0], .bool true]) (by kernel_rfl) (by kernel_rfl) (by kernel_rfl) (by kernel_rfl) (fun _ _ _ h => h) (by kernel_rfl) (fun w o hSw ho => ?_) hHeld ?_
    · obtain rfl := Option.some.inj ho; go_simp
    simp only [Act.put, List.setIfInBounds_toArray, List.set_cons_zero, List.set_cons_succ]
    refine takeR 17 42 (.agg #[.int .i64 2, .int .i64 0, .int .i64 ((n.tdiv 4).tmod 8), .int .i64 (n.tmod 4), .int .i64 a, .int .i64 (x - 1), .int .i64 (y - 1), .slice none 0 0]) (by kernel_rfl) (by kernel_rfl) (by kernel_rfl) (by kernel_rfl) (fun _ _ _ h => h) (by kernel_rfl) (fun w o hSw ho => ?_) hHeld ?_
    · obtain rfl := Option.some.inj ho; go_simp
    simp only [Act.put, List.setIfInBounds_toArray, List.set_cons_zero, List.set_cons_succ]
    refine takeR 18 43 (.bool true) (by kernel_rfl) (by kernel_rfl) (by kernel_rfl) (by kernel_rfl) (fun _ _ _ h => h) (by kernel_rfl) (fun w o hSw ho => ?_) hHeld ?_
    · obtain rfl := Option.some.inj ho; go_simp
    simp only [Act.put, List.setIfInBounds_toArray, List.set_cons_zero, List.set_cons_succ]
    refine oneR 20 (by kernel_rfl) (by kernel_rfl) (fun o ho K' hK => ?_)
    obtain rfl := Option.some.inj ho
    clear ho
    go_simp
    refine hK.out _ (sets w1 (w.heap.size + 1 + 1) 0 [.int .i64 2, .int .i64 0, .int .i64 ((n.tdiv 4).tmod 8), .int .i64 (n.tmod 4), .int .i64 a, .int .i64 (x - 1), .int .i64 (y - 1), .slice none 0 0]) (sets_below (by simp) [.int .i64 2, .int .i64 0, .int .i64 ((n.tdiv 4).tmod 8), .int .i64 (n.tmod 4), .int .i64 a, .int .i64 (x - 1), .int .i64 (y - 1), .slice none 0 0] 0 _ _ hb2) (fun hHeld => ?_)
    clear hK K'
    try simp only [Act.put, List.setIfInBounds_toArray, List.set_cons_zero, List.set_cons_succ]
    obtain ⟨e0, e1, e2, e3, e4, e5, e6, e7⟩ := (sets_at [.int .i64 2, .int .i64 0, .int .i64 ((n.tdiv 4).tmod 8), .int .i64 (n.tmod 4), .int .i64 a, .int .i64 (x - 1), .int .i64 (y - 1), .slice none 0 0] HZ.out rfl).eight
    clear HZ z0 z1 z2 z3 z4 z5 z6 z7 hz
    generalize sets w1 (w.heap.size + 1 + 1) 0 [.int .i64 2, .int .i64 0, .int .i64 ((n.tdiv 4).tmod 8), .int .i64 (n.tmod 4), .int .i64 a, .int .i64 (x - 1), .int .i64 (y - 1), .slice none 0 0] = w4 at *
    refine takeR 21 4 (.bool true) (by kernel_rfl) (by kernel_rfl) (by kernel_rfl) (by kernel_rfl) (fun _ _ _ h => h) (by kernel_rfl) (fun w o hSw ho => ?_) hHeld ?_
    · obtain rfl := Option.some.inj ho; go_simp
    simp only [Act.put, List.setIfInBounds_toArray, List.set_cons_zero, List.set_cons_succ]
    have HB := Lib.hid hHeld
    obtain ⟨_, _, q4, _, _, _⟩ := HP.out _ hHeld
    clear hHeld hb2
    refine wpAnyH_done (by kernel_rfl) ?_ _
    refine NoPanic.normal ?_
    go_wp2_with fail
    refine (l3Token_m n a x y size _).mono ?_
    rintro e w5 ⟨rfl, hb5⟩
    have hb := HB.out.trans (hb5.mono HB.out.size)
    obtain ⟨hcc, hf⟩ := bcell hb
    have HE : Hid (PlainTk w (mouseTk n a x y size) (.returned (tkV (mouseTk n a x y size) (.slice none 0 0))) (sets w5 (w.heap.size + 1) 0 (tkL (mouseTk n a x y size) (.slice none 0 0)))) := tk_end_plain2 (t := mouseTk n a x y size) (tkL (mouseTk n a x y size) (.slice none 0 0)) hb
    clear hb hb5
    unfold tkV mouseTk mouseEv
    go_wp2_with fail
    refine bodyPost_ret (v := tkV (mouseTk n a x y size) (.slice none 0 0)) ?_ rfl HE.out
    simp [results, Tryz.results131, tkV, mouseTk, mouseEv, go_sem, hcc]

end Go.Proofs.YtjopjddhgaiddabGreatDoor

/- MouseOfParts of the model is the program's. -/
namespace Go.Proofs.YtjopjddhgaiddabGreatDoor
open Go.RowKit
set_option linter.unusedVariables false

theorem mouse_fault (n a x y : Int) (hn : 0 ≤ n) (ha : 1 ≤ a ∧ a ≤ 3) : ((mouseEv n a x y).fault == 0) = true ↔ (¬ n.tmod 4 = 3 ∧ inR x 1 200 = true ∧ inR y 1 200 = true) := by
  have h4 : n.tmod 4 = n % 4 := Int.tmod_eq_emod_of_nonneg hn
  have h8 : (n.tdiv 4).tmod 8 = (n / 4) % 8 := by
    rw [Int.tdiv_eq_ediv_of_nonneg hn]
    exact Int.tmod_eq_emod_of_nonneg (by omega)
  have hf : (mouseEv n a x y).form = true := rfl
  have ht : (mouseEv n a x y).fits = true := rfl
  have hm : (mouseEv n a x y).nums = (inR (n.tmod 4) 0 2 && (inR a 1 3 && (inR ((n.tdiv 4).tmod 8) 0 7 && (inR (x - 1) 0 199 && inR (y - 1) 0 199)))) := rfl
  unfold Ev.fault
  rw [hf, ht, hm, h4, h8]
  simp only [Bool.true_eq_false, if_false]
  by_cases hc : ¬ n % 4 = 3 ∧ inR x 1 200 = true ∧ inR y 1 200 = true
  · have : (inR (n % 4) 0 2 && (inR a 1 3 && (inR ((n / 4) % 8) 0 7 && (inR (x - 1) 0 199 && inR (y - 1) 0 199)))) = true := by
      simp only [inR, Bool.and_eq_true, decide_eq_true_eq] at *
      omega
    rw [this]
    simp [hc]
  · have : (inR (n % 4) 0 2 && (inR a 1 3 && (inR ((n / 4) % 8) 0 7 && (inR (x - 1) 0 199 && inR (y - 1) 0 199)))) = false := by
      rw [← Bool.not_eq_true]
      intro hh
      apply hc
      simp only [inR, Bool.and_eq_true, decide_eq_true_eq] at *
      omega
    rw [this]
    simp only [if_true]
    constructor
    · intro h; simp at h
    · intro h; exact absurd h hc

theorem actS_range (n : Int) (rel : Bool) : 1 ≤ actS n rel ∧ actS n rel ≤ 3 := by
  unfold actS
  split
  · omega
  · split <;> omega

theorem mouse3_same (n x y fin s : Int) (rel : Bool) (hn : 0 ≤ n) (hf : (fin = 77 ∧ rel = false) ∨ (fin = 109 ∧ rel = true)) :
    mouse3 n x y fin s = if mouseOK n x y rel = true then mouseTk n (actS n rel) x y s else badTk 5 := by
  have hF := mouse_fault n (actS n rel) x y hn (actS_range n rel)
  have h32 : (n.tdiv 32).tmod 2 = (n / 32) % 2 := by
    rw [Int.tdiv_eq_ediv_of_nonneg hn]
    exact Int.tmod_eq_emod_of_nonneg (by omega)
  unfold mouse3 mouseOK
  rcases hf with ⟨rfl, rfl⟩ | ⟨rfl, rfl⟩
  · simp only [Bool.false_and, Bool.not_false, Bool.true_and]
    by_cases h64 : n < 64
    · have hA : (actT n 77) = (actS n false, true) := by
        unfold actT actS
        rw [if_neg (by omega), h32]
        by_cases h : n ≤ 31
        · rw [if_pos (by omega), if_neg (by simp), if_neg (by omega)]
        · rw [if_neg (by omega), if_pos (by omega), if_neg (by simp), if_pos (by omega)]
      rw [hA]
      simp only [h64, decide_true, Bool.true_and, true_and]
      by_cases hc : ¬ n.tmod 4 = 3 ∧ inR x 1 200 = true ∧ inR y 1 200 = true
      · rw [if_pos hc, if_pos (hF.2 hc)]
      · rw [if_neg hc, if_neg (fun h => hc (hF.1 h))]
    · have hA : (actT n 77).2 = false := by
        unfold actT
        rw [if_neg (by omega), if_neg (by omega), if_neg (by omega)]
      rw [if_neg (by simp [hA]), if_neg (by simp [h64])]
  · simp only [Bool.true_and]
    by_cases h3 : n ≤ 31
    · have hA : (actT n 109) = (actS n true, true) := by
        unfold actT actS
        rw [if_pos (by omega), if_pos rfl]
      have e1 : decide (n < 64) = true := by simp; omega
      have e2 : decide (32 ≤ n) = false := by simp; omega
      rw [hA, e1, e2]
      simp only [Bool.not_false, Bool.true_and, true_and]
      by_cases hc : ¬ n.tmod 4 = 3 ∧ inR x 1 200 = true ∧ inR y 1 200 = true
      · rw [if_pos hc, if_pos (hF.2 hc)]
      · rw [if_neg hc, if_neg (fun h => hc (hF.1 h))]
    · have hA : (actT n 109).2 = false := by
        unfold actT
        rw [if_neg (by omega), if_neg (by omega), if_neg (by omega)]
      have e2 : decide (32 ≤ n) = true := by simp; omega
      rw [if_neg (by simp [hA]), if_neg (by simp [e2])]

theorem mouse3_off (n x y fin s : Int) (h1 : ¬ fin = 77) (h2 : ¬ fin = 109) : mouse3 n x y fin s = badTk 5 := by
  have hA : (actT n fin).2 = false := by
    unfold actT
    rw [if_neg (by omega), if_neg (by omega), if_neg (by omega)]
  unfold mouse3
  rw [if_neg (by simp [hA])]

theorem mouseP_off (code fin size : Int) (nums : List Int) (h1 : ¬ fin = 77) (h2 : ¬ fin = 109) : mouseP ⟨code, true, nums, fin, size⟩ = badTk 5 := by
  unfold mouseP
  dsimp only
  by_cases hc : code = 0
  · rw [if_pos ⟨hc, rfl⟩]
    match nums with
    | [] => rfl
    | [_] => rfl
    | [_, _] => rfl
    | [n, c, w] => exact mouse3_off n c w fin size h1 h2
    | _ :: _ :: _ :: _ :: _ => rfl
  · rw [if_neg (fun h => hc h.1)]

set_option maxRecDepth 100000 in
theorem specMouseOfParts_any (r : Pt) (p : Option Addr) (c : Nat) (w : World) (h : Is w w.heap.size p r.nums) (hl : r.nums.length ≤ 4) (hN : ∀ x ∈ r.nums, 0 ≤ x ∧ x ≤ 9999999) (hr : r.code = 0 ∨ (r.nums = [] ∧ r.fin = 0)) :
    Calls Tryz.prog 131 #[ptV r (.slice p r.nums.length c)] w (PlainTk w (mouseP r)) := by
  obtain ⟨code, priv, nums, fin, size⟩ := r
  dsimp only at *
  unfold ptV mouseP
  dsimp only
  cases priv
  · rw [if_neg (by simp)]
    exact specMouseOfParts_bad p c nums.length code size fin false w hl (.inl rfl)
  by_cases h77 : fin = 77 ∨ fin = 109
  · have hc : code = 0 := by
      rcases hr with hr | hr
      · exact hr
      · omega
    rw [if_pos ⟨hc, rfl⟩]
    match nums, h, hl, hN with
    | [], _, _, _ => exact specMouseOfParts_bad p c 0 code size fin true w (by omega) (.inr (.inr ⟨rfl, h77, by omega⟩))
    | [_], _, _, _ => exact specMouseOfParts_bad p c 1 code size fin true w (by omega) (.inr (.inr ⟨rfl, h77, by omega⟩))
    | [_, _], _, _, _ => exact specMouseOfParts_bad p c 2 code size fin true w (by omega) (.inr (.inr ⟨rfl, h77, by omega⟩))
    | [n, x, y], h, _, hN =>
      obtain ⟨g, off, rfl, hg, hc⟩ := h.cons
      have hc0 := hc 0 (by simp)
      have hc1 := hc 1 (by simp)
      have hc2 := hc 2 (by simp)
      have hn := hN n (by simp)
      have hx := hN x (by simp)
      have hy := hN y (by simp)
      show Calls _ _ _ _ (PlainTk w (mouse3 n x y fin size))
      rcases h77 with rfl | rfl
      · rw [mouse3_same n x y 77 size false hn.1 (.inl ⟨rfl, rfl⟩)]
        have HA := fun w => l3Mouse_any n x y false w hn hx hy
        cases hk : mouseOK n x y false
        · rw [hk] at HA
          exact specMouseOfParts_a g off c n x y _ code size w hg hc0 hc1 hc2 (Lib.hid HA)
        · rw [hk] at HA
          exact specMouseOfParts_b g off c n x y _ code size w hg hc0 hc1 hc2 (Lib.hid HA)
      · rw [mouse3_same n x y 109 size true hn.1 (.inr ⟨rfl, rfl⟩)]
        have HA := fun w => l3Mouse_any n x y true w hn hx hy
        cases hk : mouseOK n x y true
        · rw [hk] at HA
          exact specMouseOfParts_c g off c n x y _ code size w hg hc0 hc1 hc2 (Lib.hid HA)
        · rw [hk] at HA
          exact specMouseOfParts_d g off c n x y _ code size w hg hc0 hc1 hc2 (Lib.hid HA)
    | [_, _, _, _], _, _, _ => exact specMouseOfParts_bad p c 4 code size fin true w (by omega) (.inr (.inr ⟨rfl, h77, by omega⟩))
    | _ :: _ :: _ :: _ :: _ :: _, _, hl, _ => exact absurd hl (by simp)
  · have e := specMouseOfParts_bad p c nums.length code size fin true w hl (.inr (.inl ⟨rfl, by simp; omega, by simp; omega⟩))
    have hq := mouseP_off code fin size nums (by omega) (by omega)
    show Calls _ _ _ _ (PlainTk w (mouseP ⟨code, true, nums, fin, size⟩))
    rw [hq]
    exact e

end Go.Proofs.YtjopjddhgaiddabGreatDoor
