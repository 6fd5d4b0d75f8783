/- MouseOfParts of the model, and that it is the program's. -/
import Derived.Test.YtjopjddhgaiddabGreatDoorQMouseToMouse2
import Derived.Test.YtjopjddhgaiddabGreatDoorQFaultToFirstFull
import Derived.Test.YtjopjddhgaiddabGreatDoorQForm
import Derived.Test.YtjopjddhgaiddabGreatDoorQTokToTokRes
namespace Go.Proofs.YtjopjddhgaiddabGreatDoor
open Go.RowKit

def actS (n : Int) (rel : Bool) : Int := if rel = true then 2 else if (n.tdiv 32).tmod 2 = 1 then 3 else 1
def mouseOK (n x y : Int) (rel : Bool) : Bool := decide (n < 64) && (!(rel && decide (32 ≤ n)) && ((mouseEv n (actS n rel) x y).fault == 0))

theorem specFault_m (e : Ev) (he : e.data = []) (w : World) : Calls Tryz.prog 42 #[.agg #[.int .i64 e.kind, .int .i64 e.code, .int .i64 e.mods, .int .i64 e.button, .int .i64 e.act, .int .i64 e.col, .int .i64 e.row, .slice none 0 0]] w fun en w' => en = .returned (.int .i64 e.fault) ∧ Below w.heap.size w w' := by
  have := specEventFault_any l1Form_any e none 0 w
  unfold evV at this
  rw [he] at this
  exact this

theorem AtL.eight {w : World} {b : Nat} {v0 v1 v2 v3 v4 v5 v6 v7 : Value} (h : AtL w b [v0, v1, v2, v3, v4, v5, v6, v7]) : w.cell? ⟨b, 0, none⟩ = some v0 ∧ w.cell? ⟨b, 1, none⟩ = some v1 ∧ w.cell? ⟨b, 2, none⟩ = some v2 ∧ w.cell? ⟨b, 3, none⟩ = some v3 ∧ w.cell? ⟨b, 4, none⟩ = some v4 ∧ w.cell? ⟨b, 5, none⟩ = some v5 ∧ w.cell? ⟨b, 6, none⟩ = some v6 ∧ w.cell? ⟨b, 7, none⟩ = some v7 :=
  ⟨h.get 0 rfl, h.get 1 rfl, h.get 2 rfl, h.get 3 rfl, h.get 4 rfl, h.get 5 rfl, h.get 6 rfl, h.get 7 rfl⟩

set_option maxRecDepth 100000 in
set_option maxHeartbeats 4000000 in
theorem l3Mouse_a (n x y : Int) (w : World) (hn : 0 ≤ n ∧ n ≤ 9999999) (hx : 0 ≤ x ∧ x ≤ 9999999) (hy : 0 ≤ y ∧ y ≤ 9999999) (h64 : n < 64) (hq : ((n.tdiv 32).tmod 2 == 1) = false) :
    Calls Tryz.prog 145 #[.int .i64 n, .int .i64 x, .int .i64 y, .bool false] w fun e w' => e = .returned (.tuple #[.agg #[.int .i64 2, .int .i64 0, .int .i64 ((n.tdiv 4).tmod 8), .int .i64 (n.tmod 4), .int .i64 1, .int .i64 (x - 1), .int .i64 (y - 1), .slice none 0 0], .bool ((mouseEv n 1 x y).fault == 0)]) ∧ Below w.heap.size w w' := by
  have hwr : IntKind.i64.wrap (n.tdiv 4) = n.tdiv 4 := by
    rw [Int.tdiv_eq_ediv_of_nonneg hn.1]
    exact IntWalk.i64_in _ ⟨by omega, by omega⟩
  have hwr2 : IntKind.i64.wrap (n.tdiv 32) = n.tdiv 32 := by
    rw [Int.tdiv_eq_ediv_of_nonneg hn.1]
    exact IntWalk.i64_in _ ⟨by omega, by omega⟩
  have HF := Lib.hid (fun w => specFault_m (mouseEv n 1 x y) rfl w)
  generalize (mouseEv n 1 x y).fault = ft at *
  unfold mouseEv at HF
  dsimp only at HF
  clear hn
  go_enter Tryz.func145, Tryz.ntmps145
  go_wp2_with fail
  refine wp_region_noPanic ?_
  refine wp_region_held_drew (S := fun W' => Below w.heap.size w W' ∧ AtL W' (w.heap.size + 1) [.int .i64 2, .int .i64 0, .int .i64 ((n.tdiv 4).tmod 8), .int .i64 (n.tmod 4), .int .i64 1, .int .i64 (x - 1), .int .i64 (y - 1), .slice none 0 0]) (by kernel_rfl) ⟨below_drewN (below_on (below_mk _ _) (below_mk _ _)) 1, at_two _ _ _ _⟩ (fun hHeld => ?_)
  refine takeR 0 30 (.agg #[.int .i64 2, .int .i64 0, .int .i64 ((n.tdiv 4).tmod 8), .int .i64 (n.tmod 4), .int .i64 1, .int .i64 (x - 1), .int .i64 (y - 1), .slice none 0 0]) (by kernel_rfl) (by kernel_rfl) (by kernel_rfl) (by kernel_rfl) (fun _ _ _ h => h) (by kernel_rfl) (fun w o hSw ho => ?_) hHeld ?_
  · obtain rfl := Option.some.inj ho; obtain ⟨hc0, hc1, hc2, hc3, hc4, hc5, hc6, hc7⟩ := hSw.2.eight; go_simp
  simp only [Act.put, List.setIfInBounds_toArray, List.set_cons_zero, List.set_cons_succ]
  refine takeR 1 31 (.int .i64 n) (by kernel_rfl) (by kernel_rfl) (by kernel_rfl) (by kernel_rfl) (fun _ _ _ h => h) (by kernel_rfl) (fun w o hSw ho => ?_) hHeld ?_
  · obtain rfl := Option.some.inj ho; go_simp
  simp only [Act.put, List.setIfInBounds_toArray, List.set_cons_zero, List.set_cons_succ]
  refine takeR 2 32 (.bool true) (by kernel_rfl) (by kernel_rfl) (by kernel_rfl) (by kernel_rfl) (fun _ _ _ h => h) (by kernel_rfl) (fun w o hSw ho => ?_) hHeld ?_
  · obtain rfl := Option.some.inj ho; go_simp
  simp only [Act.put, List.setIfInBounds_toArray, List.set_cons_zero, List.set_cons_succ]
  refine takeR 3 33 (.bool true) (by kernel_rfl) (by kernel_rfl) (by kernel_rfl) (by kernel_rfl) (fun _ _ _ h => h) (by kernel_rfl) (fun w o hSw ho => ?_) hHeld ?_
  · obtain rfl := Option.some.inj ho; go_simp
  simp only [Act.put, List.setIfInBounds_toArray, List.set_cons_zero, List.set_cons_succ]
  refine takeR 4 34 (.bool false) (by kernel_rfl) (by kernel_rfl) (by kernel_rfl) (by kernel_rfl) (fun _ _ _ h => h) (by kernel_rfl) (fun w o hSw ho => ?_) hHeld ?_
  · obtain rfl := Option.some.inj ho; go_simp
  simp only [Act.put, List.setIfInBounds_toArray, List.set_cons_zero, List.set_cons_succ]
  refine takeR 5 35 (.bool false) (by kernel_rfl) (by kernel_rfl) (by kernel_rfl) (by kernel_rfl) (fun _ _ _ h => h) (by kernel_rfl) (fun w o hSw ho => ?_) hHeld ?_
  · obtain rfl := Option.some.inj ho; go_simp
  simp only [Act.put, List.setIfInBounds_toArray, List.set_cons_zero, List.set_cons_succ]
  refine skipR 6 36 (by kernel_rfl) (by kernel_rfl) (by kernel_rfl) (by kernel_rfl) (fun _ _ _ h => h) (by kernel_rfl) hHeld ?_
  simp only [Act.put, List.setIfInBounds_toArray, List.set_cons_zero, List.set_cons_succ]
  refine skipR 7 37 (by kernel_rfl) (by kernel_rfl) (by kernel_rfl) (by kernel_rfl) (fun _ _ _ h => h) (by kernel_rfl) hHeld ?_
  simp only [Act.put, List.setIfInBounds_toArray, List.set_cons_zero, List.set_cons_succ]
  refine takeR 8 38 (.bool false) (by kernel_rfl) (by kernel_rfl) (by kernel_rfl) (by kernel_rfl) (fun _ _ _ h => h) (by kernel_rfl) (fun w o hSw ho => ?_) hHeld ?_
  · obtain rfl := Option.some.inj ho; go_simp
  simp only [Act.put, List.setIfInBounds_toArray, List.set_cons_zero, List.set_cons_succ]
  refine takeR 9 39 (.bool true) (by kernel_rfl) (by kernel_rfl) (by kernel_rfl) (by kernel_rfl) (fun _ _ _ h => h) (by kernel_rfl) (fun w o hSw ho => ?_) hHeld ?_
  · obtain rfl := Option.some.inj ho; go_simp
  simp only [Act.put, List.setIfInBounds_toArray, List.set_cons_zero, List.set_cons_succ]
  refine takeR 10 40 (.bool true) (by kernel_rfl) (by kernel_rfl) (by kernel_rfl) (by kernel_rfl) (fun _ _ _ h => h) (by kernel_rfl) (fun w o hSw ho => ?_) hHeld ?_
  · obtain rfl := Option.some.inj ho; go_simp
  simp only [Act.put, List.setIfInBounds_toArray, List.set_cons_zero, List.set_cons_succ]
  refine takeR 11 41 (.bool true) (by kernel_rfl) (by kernel_rfl) (by kernel_rfl) (by kernel_rfl) (fun _ _ _ h => h) (by kernel_rfl) (fun w o hSw ho => ?_) hHeld ?_
  · obtain rfl := Option.some.inj ho; go_simp
  simp only [Act.put, List.setIfInBounds_toArray, List.set_cons_zero, List.set_cons_succ]
  refine takeR 12 42 (.agg #[.int .i64 2, .int .i64 0, .int .i64 ((n.tdiv 4).tmod 8), .int .i64 (n.tmod 4), .int .i64 1, .int .i64 (x - 1), .int .i64 (y - 1), .slice none 0 0]) (by kernel_rfl) (by kernel_rfl) (by kernel_rfl) (by kernel_rfl) (fun _ _ _ h => h) (by kernel_rfl) (fun w o hSw ho => ?_) hHeld ?_
  · obtain rfl := Option.some.inj ho; obtain ⟨hc0, hc1, hc2, hc3, hc4, hc5, hc6, hc7⟩ := hSw.2.eight; go_simp
  simp only [Act.put, List.setIfInBounds_toArray, List.set_cons_zero, List.set_cons_succ]
  refine oneR 13 (by kernel_rfl) (by kernel_rfl) (fun o ho K' hK => ?_)
  obtain rfl := Option.some.inj ho
  clear ho
  go_simp
  refine (HF.out _).mono ?_
  rintro e w1 ⟨rfl, hb1⟩
  have HS := Lib.hid (And.intro (below_on hHeld.1 hb1) (hHeld.2.on hb1))
  obtain ⟨k0, k1, k2, k3, k4, k5, k6, k7⟩ := ((at_one w [.int .i64 0, .int .i64 0, .int .i64 0, .int .i64 0, .int .i64 0, .int .i64 0, .int .i64 0, .slice none 0 0] 31 _).on hb1).eight
  have hf : ∀ o, w1.frozen? ⟨w.heap.size, o, none⟩ = false := fun o => (hb1.frozen (p := ⟨w.heap.size, o, none⟩) (by simp; omega)).trans (by simp)
  clear hb1 hHeld
  go_wp2_with fail
  refine hK.out _ _ (HS.out) (fun hHeld => ?_)
  clear hK K'
  try simp only [Act.put, List.setIfInBounds_toArray, List.set_cons_zero, List.set_cons_succ]
  refine takeR 14 44 (.bool (ft == 0)) (by kernel_rfl) (by kernel_rfl) (by kernel_rfl) (by kernel_rfl) (fun _ _ _ h => h) (by kernel_rfl) (fun w o hSw ho => ?_) hHeld ?_
  · obtain rfl := Option.some.inj ho; go_simp
  simp only [Act.put, List.setIfInBounds_toArray, List.set_cons_zero, List.set_cons_succ]
  refine takeR 15 45 (.bool (ft == 0)) (by kernel_rfl) (by kernel_rfl) (by kernel_rfl) (by kernel_rfl) (fun _ _ _ h => h) (by kernel_rfl) (fun w o hSw ho => ?_) hHeld ?_
  · obtain rfl := Option.some.inj ho; go_simp
  simp only [Act.put, List.setIfInBounds_toArray, List.set_cons_zero, List.set_cons_succ]
  refine oneR 16 (by kernel_rfl) (by kernel_rfl) (fun o ho K' hK => ?_)
  obtain rfl := Option.some.inj ho
  clear ho
  go_simp
  refine hK.out _ _ (And.intro (sets_below (Nat.le_refl _) [.int .i64 2, .int .i64 0, .int .i64 ((n.tdiv 4).tmod 8), .int .i64 (n.tmod 4), .int .i64 1, .int .i64 (x - 1), .int .i64 (y - 1), .slice none 0 0] 0 _ _ HS.out.1) (sets_atl (by omega) [.int .i64 2, .int .i64 0, .int .i64 ((n.tdiv 4).tmod 8), .int .i64 (n.tmod 4), .int .i64 1, .int .i64 (x - 1), .int .i64 (y - 1), .slice none 0 0] 0 _ HS.out.2)) (fun hHeld => ?_)
  clear hK K'
  try simp only [Act.put, List.setIfInBounds_toArray, List.set_cons_zero, List.set_cons_succ]
  refine takeR 17 9 (.bool (ft == 0)) (by kernel_rfl) (by kernel_rfl) (by kernel_rfl) (by kernel_rfl) (fun _ _ _ h => h) (by kernel_rfl) (fun w o hSw ho => ?_) hHeld ?_
  · obtain rfl := Option.some.inj ho; go_simp
  simp only [Act.put, List.setIfInBounds_toArray, List.set_cons_zero, List.set_cons_succ]
  have HE := Lib.hid hHeld.1
  clear hHeld
  refine wpAnyH_done (by kernel_rfl) ?_ _
  refine NoPanic.normal ?_
  go_wp2_with fail
  refine bodyPost_ret (v := .tuple #[.agg #[.int .i64 2, .int .i64 0, .int .i64 ((n.tdiv 4).tmod 8), .int .i64 (n.tmod 4), .int .i64 1, .int .i64 (x - 1), .int .i64 (y - 1), .slice none 0 0], .bool (ft == 0)]) ?_ rfl ⟨rfl, HE.out⟩
  simp [results, Tryz.results145, go_sem, k0, k1, k2, k3, k4, k5, k6, k7]

set_option maxRecDepth 100000 in
set_option maxHeartbeats 4000000 in
theorem l3Mouse_b (n x y : Int) (w : World) (hn : 0 ≤ n ∧ n ≤ 9999999) (hx : 0 ≤ x ∧ x ≤ 9999999) (hy : 0 ≤ y ∧ y ≤ 9999999) (h64 : n < 64) (hq : ((n.tdiv 32).tmod 2 == 1) = true) :
    Calls Tryz.prog 145 #[.int .i64 n, .int .i64 x, .int .i64 y, .bool false] w fun e w' => e = .returned (.tuple #[.agg #[.int .i64 2, .int .i64 0, .int .i64 ((n.tdiv 4).tmod 8), .int .i64 (n.tmod 4), .int .i64 3, .int .i64 (x - 1), .int .i64 (y - 1), .slice none 0 0], .bool ((mouseEv n 3 x y).fault == 0)]) ∧ Below w.heap.size w w' := by
  have hwr : IntKind.i64.wrap (n.tdiv 4) = n.tdiv 4 := by
    rw [Int.tdiv_eq_ediv_of_nonneg hn.1]
    exact IntWalk.i64_in _ ⟨by omega, by omega⟩
  have hwr2 : IntKind.i64.wrap (n.tdiv 32) = n.tdiv 32 := by
    rw [Int.tdiv_eq_ediv_of_nonneg hn.1]
    exact IntWalk.i64_in _ ⟨by omega, by omega⟩
  have HF := Lib.hid (fun w => specFault_m (mouseEv n 3 x y) rfl w)
  generalize (mouseEv n 3 x y).fault = ft at *
  unfold mouseEv at HF
  dsimp only at HF
  clear hn
  go_enter Tryz.func145, Tryz.ntmps145
  go_wp2_with fail
  refine wp_region_noPanic ?_
  refine wp_region_held_drew (S := fun W' => Below w.heap.size w W' ∧ AtL W' (w.heap.size + 1) [.int .i64 2, .int .i64 0, .int .i64 ((n.tdiv 4).tmod 8), .int .i64 (n.tmod 4), .int .i64 3, .int .i64 (x - 1), .int .i64 (y - 1), .slice none 0 0]) (by kernel_rfl) ⟨below_drewN (below_on (below_mk _ _) (below_mk _ _)) 1, at_two _ _ _ _⟩ (fun hHeld => ?_)
  refine takeR 0 30 (.agg #[.int .i64 2, .int .i64 0, .int .i64 ((n.tdiv 4).tmod 8), .int .i64 (n.tmod 4), .int .i64 3, .int .i64 (x - 1), .int .i64 (y - 1), .slice none 0 0]) (by kernel_rfl) (by kernel_rfl) (by kernel_rfl) (by kernel_rfl) (fun _ _ _ h => h) (by kernel_rfl) (fun w o hSw ho => ?_) hHeld ?_
  · obtain rfl := Option.some.inj ho; obtain ⟨hc0, hc1, hc2, hc3, hc4, hc5, hc6, hc7⟩ := hSw.2.eight; go_simp
  simp only [Act.put, List.setIfInBounds_toArray, List.set_cons_zero, List.set_cons_succ]
  refine takeR 1 31 (.int .i64 n) (by kernel_rfl) (by kernel_rfl) (by kernel_rfl) (by kernel_rfl) (fun _ _ _ h => h) (by kernel_rfl) (fun w o hSw ho => ?_) hHeld ?_
  · obtain rfl := Option.some.inj ho; go_simp
  simp only [Act.put, List.setIfInBounds_toArray, List.set_cons_zero, List.set_cons_succ]
  refine takeR 2 32 (.bool true) (by kernel_rfl) (by kernel_rfl) (by kernel_rfl) (by kernel_rfl) (fun _ _ _ h => h) (by kernel_rfl) (fun w o hSw ho => ?_) hHeld ?_
  · obtain rfl := Option.some.inj ho; go_simp
  simp only [Act.put, List.setIfInBounds_toArray, List.set_cons_zero, List.set_cons_succ]
  refine takeR 3 33 (.bool true) (by kernel_rfl) (by kernel_rfl) (by kernel_rfl) (by kernel_rfl) (fun _ _ _ h => h) (by kernel_rfl) (fun w o hSw ho => ?_) hHeld ?_
  · obtain rfl := Option.some.inj ho; go_simp
  simp only [Act.put, List.setIfInBounds_toArray, List.set_cons_zero, List.set_cons_succ]
  refine takeR 4 34 (.bool false) (by kernel_rfl) (by kernel_rfl) (by kernel_rfl) (by kernel_rfl) (fun _ _ _ h => h) (by kernel_rfl) (fun w o hSw ho => ?_) hHeld ?_
  · obtain rfl := Option.some.inj ho; go_simp
  simp only [Act.put, List.setIfInBounds_toArray, List.set_cons_zero, List.set_cons_succ]
  refine takeR 5 35 (.bool false) (by kernel_rfl) (by kernel_rfl) (by kernel_rfl) (by kernel_rfl) (fun _ _ _ h => h) (by kernel_rfl) (fun w o hSw ho => ?_) hHeld ?_
  · obtain rfl := Option.some.inj ho; go_simp
  simp only [Act.put, List.setIfInBounds_toArray, List.set_cons_zero, List.set_cons_succ]
  refine skipR 6 36 (by kernel_rfl) (by kernel_rfl) (by kernel_rfl) (by kernel_rfl) (fun _ _ _ h => h) (by kernel_rfl) hHeld ?_
  simp only [Act.put, List.setIfInBounds_toArray, List.set_cons_zero, List.set_cons_succ]
  refine skipR 7 37 (by kernel_rfl) (by kernel_rfl) (by kernel_rfl) (by kernel_rfl) (fun _ _ _ h => h) (by kernel_rfl) hHeld ?_
  simp only [Act.put, List.setIfInBounds_toArray, List.set_cons_zero, List.set_cons_succ]
  refine takeR 8 38 (.bool false) (by kernel_rfl) (by kernel_rfl) (by kernel_rfl) (by kernel_rfl) (fun _ _ _ h => h) (by kernel_rfl) (fun w o hSw ho => ?_) hHeld ?_
  · obtain rfl := Option.some.inj ho; go_simp
  simp only [Act.put, List.setIfInBounds_toArray, List.set_cons_zero, List.set_cons_succ]
  refine takeR 9 39 (.bool true) (by kernel_rfl) (by kernel_rfl) (by kernel_rfl) (by kernel_rfl) (fun _ _ _ h => h) (by kernel_rfl) (fun w o hSw ho => ?_) hHeld ?_
  · obtain rfl := Option.some.inj ho; go_simp
  simp only [Act.put, List.setIfInBounds_toArray, List.set_cons_zero, List.set_cons_succ]
  refine takeR 10 40 (.bool true) (by kernel_rfl) (by kernel_rfl) (by kernel_rfl) (by kernel_rfl) (fun _ _ _ h => h) (by kernel_rfl) (fun w o hSw ho => ?_) hHeld ?_
  · obtain rfl := Option.some.inj ho; go_simp
  simp only [Act.put, List.setIfInBounds_toArray, List.set_cons_zero, List.set_cons_succ]
  refine takeR 11 41 (.bool true) (by kernel_rfl) (by kernel_rfl) (by kernel_rfl) (by kernel_rfl) (fun _ _ _ h => h) (by kernel_rfl) (fun w o hSw ho => ?_) hHeld ?_
  · obtain rfl := Option.some.inj ho; go_simp
  simp only [Act.put, List.setIfInBounds_toArray, List.set_cons_zero, List.set_cons_succ]
  refine takeR 12 42 (.agg #[.int .i64 2, .int .i64 0, .int .i64 ((n.tdiv 4).tmod 8), .int .i64 (n.tmod 4), .int .i64 3, .int .i64 (x - 1), .int .i64 (y - 1), .slice none 0 0]) (by kernel_rfl) (by kernel_rfl) (by kernel_rfl) (by kernel_rfl) (fun _ _ _ h => h) (by kernel_rfl) (fun w o hSw ho => ?_) hHeld ?_
  · obtain rfl := Option.some.inj ho; obtain ⟨hc0, hc1, hc2, hc3, hc4, hc5, hc6, hc7⟩ := hSw.2.eight; go_simp
  simp only [Act.put, List.setIfInBounds_toArray, List.set_cons_zero, List.set_cons_succ]
  refine oneR 13 (by kernel_rfl) (by kernel_rfl) (fun o ho K' hK => ?_)
  obtain rfl := Option.some.inj ho
  clear ho
  go_simp
  refine (HF.out _).mono ?_
  rintro e w1 ⟨rfl, hb1⟩
  have HS := Lib.hid (And.intro (below_on hHeld.1 hb1) (hHeld.2.on hb1))
  obtain ⟨k0, k1, k2, k3, k4, k5, k6, k7⟩ := ((at_one w [.int .i64 0, .int .i64 0, .int .i64 0, .int .i64 0, .int .i64 0, .int .i64 0, .int .i64 0, .slice none 0 0] 31 _).on hb1).eight
  have hf : ∀ o, w1.frozen? ⟨w.heap.size, o, none⟩ = false := fun o => (hb1.frozen (p := ⟨w.heap.size, o, none⟩) (by simp; omega)).trans (by simp)
  clear hb1 hHeld
  go_wp2_with fail
  refine hK.out _ _ (HS.out) (fun hHeld => ?_)
  clear hK K'
  try simp only [Act.put, List.setIfInBounds_toArray, List.set_cons_zero, List.set_cons_succ]
  refine takeR 14 44 (.bool (ft == 0)) (by kernel_rfl) (by kernel_rfl) (by kernel_rfl) (by kernel_rfl) (fun _ _ _ h => h) (by kernel_rfl) (fun w o hSw ho => ?_) hHeld ?_
  · obtain rfl := Option.some.inj ho; go_simp
  simp only [Act.put, List.setIfInBounds_toArray, List.set_cons_zero, List.set_cons_succ]
  refine takeR 15 45 (.bool (ft == 0)) (by kernel_rfl) (by kernel_rfl) (by kernel_rfl) (by kernel_rfl) (fun _ _ _ h => h) (by kernel_rfl) (fun w o hSw ho => ?_) hHeld ?_
  · obtain rfl := Option.some.inj ho; go_simp
  simp only [Act.put, List.setIfInBounds_toArray, List.set_cons_zero, List.set_cons_succ]
  refine oneR 16 (by kernel_rfl) (by kernel_rfl) (fun o ho K' hK => ?_)
  obtain rfl := Option.some.inj ho
  clear ho
  go_simp
  refine hK.out _ _ (And.intro (sets_below (Nat.le_refl _) [.int .i64 2, .int .i64 0, .int .i64 ((n.tdiv 4).tmod 8), .int .i64 (n.tmod 4), .int .i64 3, .int .i64 (x - 1), .int .i64 (y - 1), .slice none 0 0] 0 _ _ HS.out.1) (sets_atl (by omega) [.int .i64 2, .int .i64 0, .int .i64 ((n.tdiv 4).tmod 8), .int .i64 (n.tmod 4), .int .i64 3, .int .i64 (x - 1), .int .i64 (y - 1), .slice none 0 0] 0 _ HS.out.2)) (fun hHeld => ?_)
  clear hK K'
  try simp only [Act.put, List.setIfInBounds_toArray, List.set_cons_zero, List.set_cons_succ]
  refine takeR 17 9 (.bool (ft == 0)) (by kernel_rfl) (by kernel_rfl) (by kernel_rfl) (by kernel_rfl) (fun _ _ _ h => h) (by kernel_rfl) (fun w o hSw ho => ?_) hHeld ?_
  · obtain rfl := Option.some.inj ho; go_simp
  simp only [Act.put, List.setIfInBounds_toArray, List.set_cons_zero, List.set_cons_succ]
  have HE := Lib.hid hHeld.1
  clear hHeld
  refine wpAnyH_done (by kernel_rfl) ?_ _
  refine NoPanic.normal ?_
  go_wp2_with fail
  refine bodyPost_ret (v := .tuple #[.agg #[.int .i64 2, .int .i64 0, .int .i64 ((n.tdiv 4).tmod 8), .int .i64 (n.tmod 4), .int .i64 3, .int .i64 (x - 1), .int .i64 (y - 1), .slice none 0 0], .bool (ft == 0)]) ?_ rfl ⟨rfl, HE.out⟩
  simp [results, Tryz.results145, go_sem, k0, k1, k2, k3, k4, k5, k6, k7]

set_option maxRecDepth 100000 in
set_option maxHeartbeats 4000000 in
theorem l3Mouse_c (n x y : Int) (w : World) (hn : 0 ≤ n ∧ n ≤ 9999999) (hx : 0 ≤ x ∧ x ≤ 9999999) (hy : 0 ≤ y ∧ y ≤ 9999999) (h64 : n < 64) (h32 : n < 32) :
    Calls Tryz.prog 145 #[.int .i64 n, .int .i64 x, .int .i64 y, .bool true] w fun e w' => e = .returned (.tuple #[.agg #[.int .i64 2, .int .i64 0, .int .i64 ((n.tdiv 4).tmod 8), .int .i64 (n.tmod 4), .int .i64 2, .int .i64 (x - 1), .int .i64 (y - 1), .slice none 0 0], .bool ((mouseEv n 2 x y).fault == 0)]) ∧ Below w.heap.size w w' := by
  have hwr : IntKind.i64.wrap (n.tdiv 4) = n.tdiv 4 := by
    rw [Int.tdiv_eq_ediv_of_nonneg hn.1]
    exact IntWalk.i64_in _ ⟨by omega, by omega⟩
  have HF := Lib.hid (fun w => specFault_m (mouseEv n 2 x y) rfl w)
  generalize (mouseEv n 2 x y).fault = ft at *
  unfold mouseEv at HF
  dsimp only at HF
  clear hn
  go_enter Tryz.func145, Tryz.ntmps145
  go_wp2_with fail
  refine wp_region_noPanic ?_
  refine wp_region_held_drew (S := fun W' => Below w.heap.size w W' ∧ AtL W' (w.heap.size + 1) [.int .i64 2, .int .i64 0, .int .i64 ((n.tdiv 4).tmod 8), .int .i64 (n.tmod 4), .int .i64 2, .int .i64 (x - 1), .int .i64 (y - 1), .slice none 0 0]) (by kernel_rfl) ⟨below_drewN (below_on (below_mk _ _) (below_mk _ _)) 1, at_two _ _ _ _⟩ (fun hHeld => ?_)
  refine takeR 0 30 (.agg #[.int .i64 2, .int .i64 0, .int .i64 ((n.tdiv 4).tmod 8), .int .i64 (n.tmod 4), .int .i64 2, .int .i64 (x - 1), .int .i64 (y - 1), .slice none 0 0]) (by kernel_rfl) (by kernel_rfl) (by kernel_rfl) (by kernel_rfl) (fun _ _ _ h => h) (by kernel_rfl) (fun w o hSw ho => ?_) hHeld ?_
  · obtain rfl := Option.some.inj ho; obtain ⟨hc0, hc1, hc2, hc3, hc4, hc5, hc6, hc7⟩ := hSw.2.eight; go_simp
  simp only [Act.put, List.setIfInBounds_toArray, List.set_cons_zero, List.set_cons_succ]
  refine takeR 1 31 (.int .i64 n) (by kernel_rfl) (by kernel_rfl) (by kernel_rfl) (by kernel_rfl) (fun _ _ _ h => h) (by kernel_rfl) (fun w o hSw ho => ?_) hHeld ?_
  · obtain rfl := Option.some.inj ho; go_simp
  simp only [Act.put, List.setIfInBounds_toArray, List.set_cons_zero, List.set_cons_succ]
  refine takeR 2 32 (.bool true) (by kernel_rfl) (by kernel_rfl) (by kernel_rfl) (by kernel_rfl) (fun _ _ _ h => h) (by kernel_rfl) (fun w o hSw ho => ?_) hHeld ?_
  · obtain rfl := Option.some.inj ho; go_simp
  simp only [Act.put, List.setIfInBounds_toArray, List.set_cons_zero, List.set_cons_succ]
  refine takeR 3 33 (.bool true) (by kernel_rfl) (by kernel_rfl) (by kernel_rfl) (by kernel_rfl) (fun _ _ _ h => h) (by kernel_rfl) (fun w o hSw ho => ?_) hHeld ?_
  · obtain rfl := Option.some.inj ho; go_simp
  simp only [Act.put, List.setIfInBounds_toArray, List.set_cons_zero, List.set_cons_succ]
  refine takeR 4 34 (.bool true) (by kernel_rfl) (by kernel_rfl) (by kernel_rfl) (by kernel_rfl) (fun _ _ _ h => h) (by kernel_rfl) (fun w o hSw ho => ?_) hHeld ?_
  · obtain rfl := Option.some.inj ho; go_simp
  simp only [Act.put, List.setIfInBounds_toArray, List.set_cons_zero, List.set_cons_succ]
  refine takeR 5 35 (.bool true) (by kernel_rfl) (by kernel_rfl) (by kernel_rfl) (by kernel_rfl) (fun _ _ _ h => h) (by kernel_rfl) (fun w o hSw ho => ?_) hHeld ?_
  · obtain rfl := Option.some.inj ho; go_simp
  simp only [Act.put, List.setIfInBounds_toArray, List.set_cons_zero, List.set_cons_succ]
  refine takeR 6 36 (.int .i64 n) (by kernel_rfl) (by kernel_rfl) (by kernel_rfl) (by kernel_rfl) (fun _ _ _ h => h) (by kernel_rfl) (fun w o hSw ho => ?_) hHeld ?_
  · obtain rfl := Option.some.inj ho; go_simp
  simp only [Act.put, List.setIfInBounds_toArray, List.set_cons_zero, List.set_cons_succ]
  refine takeR 7 37 (.bool false) (by kernel_rfl) (by kernel_rfl) (by kernel_rfl) (by kernel_rfl) (fun _ _ _ h => h) (by kernel_rfl) (fun w o hSw ho => ?_) hHeld ?_
  · obtain rfl := Option.some.inj ho; go_simp
  simp only [Act.put, List.setIfInBounds_toArray, List.set_cons_zero, List.set_cons_succ]
  refine takeR 8 38 (.bool false) (by kernel_rfl) (by kernel_rfl) (by kernel_rfl) (by kernel_rfl) (fun _ _ _ h => h) (by kernel_rfl) (fun w o hSw ho => ?_) hHeld ?_
  · obtain rfl := Option.some.inj ho; go_simp
  simp only [Act.put, List.setIfInBounds_toArray, List.set_cons_zero, List.set_cons_succ]
  refine takeR 9 39 (.bool true) (by kernel_rfl) (by kernel_rfl) (by kernel_rfl) (by kernel_rfl) (fun _ _ _ h => h) (by kernel_rfl) (fun w o hSw ho => ?_) hHeld ?_
  · obtain rfl := Option.some.inj ho; go_simp
  simp only [Act.put, List.setIfInBounds_toArray, List.set_cons_zero, List.set_cons_succ]
  refine takeR 10 40 (.bool true) (by kernel_rfl) (by kernel_rfl) (by kernel_rfl) (by kernel_rfl) (fun _ _ _ h => h) (by kernel_rfl) (fun w o hSw ho => ?_) hHeld ?_
  · obtain rfl := Option.some.inj ho; go_simp
  simp only [Act.put, List.setIfInBounds_toArray, List.set_cons_zero, List.set_cons_succ]
  refine takeR 11 41 (.bool true) (by kernel_rfl) (by kernel_rfl) (by kernel_rfl) (by kernel_rfl) (fun _ _ _ h => h) (by kernel_rfl) (fun w o hSw ho => ?_) hHeld ?_
  · obtain rfl := Option.some.inj ho; go_simp
  simp only [Act.put, List.setIfInBounds_toArray, List.set_cons_zero, List.set_cons_succ]
  refine takeR 12 42 (.agg #[.int .i64 2, .int .i64 0, .int .i64 ((n.tdiv 4).tmod 8), .int .i64 (n.tmod 4), .int .i64 2, .int .i64 (x - 1), .int .i64 (y - 1), .slice none 0 0]) (by kernel_rfl) (by kernel_rfl) (by kernel_rfl) (by kernel_rfl) (fun _ _ _ h => h) (by kernel_rfl) (fun w o hSw ho => ?_) hHeld ?_
  · obtain rfl := Option.some.inj ho; obtain ⟨hc0, hc1, hc2, hc3, hc4, hc5, hc6, hc7⟩ := hSw.2.eight; go_simp
  simp only [Act.put, List.setIfInBounds_toArray, List.set_cons_zero, List.set_cons_succ]
  refine oneR 13 (by kernel_rfl) (by kernel_rfl) (fun o ho K' hK => ?_)
  obtain rfl := Option.some.inj ho
  clear ho
  go_simp
  refine (HF.out _).mono ?_
  rintro e w1 ⟨rfl, hb1⟩
  have HS := Lib.hid (And.intro (below_on hHeld.1 hb1) (hHeld.2.on hb1))
  obtain ⟨k0, k1, k2, k3, k4, k5, k6, k7⟩ := ((at_one w [.int .i64 0, .int .i64 0, .int .i64 0, .int .i64 0, .int .i64 0, .int .i64 0, .int .i64 0, .slice none 0 0] 31 _).on hb1).eight
  have hf : ∀ o, w1.frozen? ⟨w.heap.size, o, none⟩ = false := fun o => (hb1.frozen (p := ⟨w.heap.size, o, none⟩) (by simp; omega)).trans (by simp)
  clear hb1 hHeld
  go_wp2_with fail
  refine hK.out _ _ (HS.out) (fun hHeld => ?_)
  clear hK K'
  try simp only [Act.put, List.setIfInBounds_toArray, List.set_cons_zero, List.set_cons_succ]
  refine takeR 14 44 (.bool (ft == 0)) (by kernel_rfl) (by kernel_rfl) (by kernel_rfl) (by kernel_rfl) (fun _ _ _ h => h) (by kernel_rfl) (fun w o hSw ho => ?_) hHeld ?_
  · obtain rfl := Option.some.inj ho; go_simp
  simp only [Act.put, List.setIfInBounds_toArray, List.set_cons_zero, List.set_cons_succ]
  refine takeR 15 45 (.bool (ft == 0)) (by kernel_rfl) (by kernel_rfl) (by kernel_rfl) (by kernel_rfl) (fun _ _ _ h => h) (by kernel_rfl) (fun w o hSw ho => ?_) hHeld ?_
  · obtain rfl := Option.some.inj ho; go_simp
  simp only [Act.put, List.setIfInBounds_toArray, List.set_cons_zero, List.set_cons_succ]
  refine oneR 16 (by kernel_rfl) (by kernel_rfl) (fun o ho K' hK => ?_)
  obtain rfl := Option.some.inj ho
  clear ho
  go_simp
  refine hK.out _ _ (And.intro (sets_below (Nat.le_refl _) [.int .i64 2, .int .i64 0, .int .i64 ((n.tdiv 4).tmod 8), .int .i64 (n.tmod 4), .int .i64 2, .int .i64 (x - 1), .int .i64 (y - 1), .slice none 0 0] 0 _ _ HS.out.1) (sets_atl (by omega) [.int .i64 2, .int .i64 0, .int .i64 ((n.tdiv 4).tmod 8), .int .i64 (n.tmod 4), .int .i64 2, .int .i64 (x - 1), .int .i64 (y - 1), .slice none 0 0] 0 _ HS.out.2)) (fun hHeld => ?_)
  clear hK K'
  try simp only [Act.put, List.setIfInBounds_toArray, List.set_cons_zero, List.set_cons_succ]
  refine takeR 17 9 (.bool (ft == 0)) (by kernel_rfl) (by kernel_rfl) (by kernel_rfl) (by kernel_rfl) (fun _ _ _ h => h) (by kernel_rfl) (fun w o hSw ho => ?_) hHeld ?_
  · obtain rfl := Option.some.inj ho; go_simp
  simp only [Act.put, List.setIfInBounds_toArray, List.set_cons_zero, List.set_cons_succ]
  have HE := Lib.hid hHeld.1
  clear hHeld
  refine wpAnyH_done (by kernel_rfl) ?_ _
  refine NoPanic.normal ?_
  go_wp2_with fail
  refine bodyPost_ret (v := .tuple #[.agg #[.int .i64 2, .int .i64 0, .int .i64 ((n.tdiv 4).tmod 8), .int .i64 (n.tmod 4), .int .i64 2, .int .i64 (x - 1), .int .i64 (y - 1), .slice none 0 0], .bool (ft == 0)]) ?_ rfl ⟨rfl, HE.out⟩
  simp [results, Tryz.results145, go_sem, k0, k1, k2, k3, k4, k5, k6, k7]

set_option maxRecDepth 100000 in
set_option maxHeartbeats 4000000 in
theorem l3Mouse_d (n x y : Int) (w : World) (hn : 0 ≤ n ∧ n ≤ 9999999) (hx : 0 ≤ x ∧ x ≤ 9999999) (hy : 0 ≤ y ∧ y ≤ 9999999) (h64 : n < 64) (h32 : 32 ≤ n) :
    Calls Tryz.prog 145 #[.int .i64 n, .int .i64 x, .int .i64 y, .bool true] w fun e w' => e = .returned (.tuple #[.agg #[.int .i64 2, .int .i64 0, .int .i64 ((n.tdiv 4).tmod 8), .int .i64 (n % 4), .int .i64 2, .int .i64 (x - 1), .int .i64 (y - 1), .slice none 0 0], .bool false]) ∧ Below w.heap.size w w' := by
  have hwr : IntKind.i64.wrap (n.tdiv 4) = n.tdiv 4 := by
    rw [Int.tdiv_eq_ediv_of_nonneg hn.1]
    exact IntWalk.i64_in _ ⟨by omega, by omega⟩
  clear hn
  go_enter Tryz.func145, Tryz.ntmps145
  go_wp2_with fail
  refine wp_region_noPanic ?_
  refine wp_region_held_drew (S := fun W' => Below w.heap.size w W' ∧ AtL W' (w.heap.size + 1) [.int .i64 2, .int .i64 0, .int .i64 ((n.tdiv 4).tmod 8), .int .i64 (n % 4), .int .i64 2, .int .i64 (x - 1), .int .i64 (y - 1), .slice none 0 0]) (by kernel_rfl) ⟨below_drewN (below_on (below_mk _ _) (below_mk _ _)) 1, at_two _ _ _ _⟩ (fun hHeld => ?_)
  refine takeR 0 30 (.agg #[.int .i64 2, .int .i64 0, .int .i64 ((n.tdiv 4).tmod 8), .int .i64 (n % 4), .int .i64 2, .int .i64 (x - 1), .int .i64 (y - 1), .slice none 0 0]) (by kernel_rfl) (by kernel_rfl) (by kernel_rfl) (by kernel_rfl) (fun _ _ _ h => h) (by kernel_rfl) (fun w o hSw ho => ?_) hHeld ?_
  · obtain rfl := Option.some.inj ho; obtain ⟨hc0, hc1, hc2, hc3, hc4, hc5, hc6, hc7⟩ := hSw.2.eight; go_simp
  simp only [Act.put, List.setIfInBounds_toArray, List.set_cons_zero, List.set_cons_succ]
  refine takeR 1 31 (.int .i64 n) (by kernel_rfl) (by kernel_rfl) (by kernel_rfl) (by kernel_rfl) (fun _ _ _ h => h) (by kernel_rfl) (fun w o hSw ho => ?_) hHeld ?_
  · obtain rfl := Option.some.inj ho; go_simp
  simp only [Act.put, List.setIfInBounds_toArray, List.set_cons_zero, List.set_cons_succ]
  refine takeR 2 32 (.bool true) (by kernel_rfl) (by kernel_rfl) (by kernel_rfl) (by kernel_rfl) (fun _ _ _ h => h) (by kernel_rfl) (fun w o hSw ho => ?_) hHeld ?_
  · obtain rfl := Option.some.inj ho; go_simp
  simp only [Act.put, List.setIfInBounds_toArray, List.set_cons_zero, List.set_cons_succ]
  refine takeR 3 33 (.bool true) (by kernel_rfl) (by kernel_rfl) (by kernel_rfl) (by kernel_rfl) (fun _ _ _ h => h) (by kernel_rfl) (fun w o hSw ho => ?_) hHeld ?_
  · obtain rfl := Option.some.inj ho; go_simp
  simp only [Act.put, List.setIfInBounds_toArray, List.set_cons_zero, List.set_cons_succ]
  refine takeR 4 34 (.bool true) (by kernel_rfl) (by kernel_rfl) (by kernel_rfl) (by kernel_rfl) (fun _ _ _ h => h) (by kernel_rfl) (fun w o hSw ho => ?_) hHeld ?_
  · obtain rfl := Option.some.inj ho; go_simp
  simp only [Act.put, List.setIfInBounds_toArray, List.set_cons_zero, List.set_cons_succ]
  refine takeR 5 35 (.bool true) (by kernel_rfl) (by kernel_rfl) (by kernel_rfl) (by kernel_rfl) (fun _ _ _ h => h) (by kernel_rfl) (fun w o hSw ho => ?_) hHeld ?_
  · obtain rfl := Option.some.inj ho; go_simp
  simp only [Act.put, List.setIfInBounds_toArray, List.set_cons_zero, List.set_cons_succ]
  refine takeR 6 36 (.int .i64 n) (by kernel_rfl) (by kernel_rfl) (by kernel_rfl) (by kernel_rfl) (fun _ _ _ h => h) (by kernel_rfl) (fun w o hSw ho => ?_) hHeld ?_
  · obtain rfl := Option.some.inj ho; go_simp
  simp only [Act.put, List.setIfInBounds_toArray, List.set_cons_zero, List.set_cons_succ]
  refine takeR 7 37 (.bool true) (by kernel_rfl) (by kernel_rfl) (by kernel_rfl) (by kernel_rfl) (fun _ _ _ h => h) (by kernel_rfl) (fun w o hSw ho => ?_) hHeld ?_
  · obtain rfl := Option.some.inj ho; go_simp
  simp only [Act.put, List.setIfInBounds_toArray, List.set_cons_zero, List.set_cons_succ]
  refine takeR 8 38 (.bool true) (by kernel_rfl) (by kernel_rfl) (by kernel_rfl) (by kernel_rfl) (fun _ _ _ h => h) (by kernel_rfl) (fun w o hSw ho => ?_) hHeld ?_
  · obtain rfl := Option.some.inj ho; go_simp
  simp only [Act.put, List.setIfInBounds_toArray, List.set_cons_zero, List.set_cons_succ]
  refine takeR 9 39 (.bool false) (by kernel_rfl) (by kernel_rfl) (by kernel_rfl) (by kernel_rfl) (fun _ _ _ h => h) (by kernel_rfl) (fun w o hSw ho => ?_) hHeld ?_
  · obtain rfl := Option.some.inj ho; go_simp
  simp only [Act.put, List.setIfInBounds_toArray, List.set_cons_zero, List.set_cons_succ]
  refine takeR 10 40 (.bool false) (by kernel_rfl) (by kernel_rfl) (by kernel_rfl) (by kernel_rfl) (fun _ _ _ h => h) (by kernel_rfl) (fun w o hSw ho => ?_) hHeld ?_
  · obtain rfl := Option.some.inj ho; go_simp
  simp only [Act.put, List.setIfInBounds_toArray, List.set_cons_zero, List.set_cons_succ]
  refine takeR 11 41 (.bool false) (by kernel_rfl) (by kernel_rfl) (by kernel_rfl) (by kernel_rfl) (fun _ _ _ h => h) (by kernel_rfl) (fun w o hSw ho => ?_) hHeld ?_
  · obtain rfl := Option.some.inj ho; go_simp
  simp only [Act.put, List.setIfInBounds_toArray, List.set_cons_zero, List.set_cons_succ]
  refine skipR 12 42 (by kernel_rfl) (by kernel_rfl) (by kernel_rfl) (by kernel_rfl) (fun _ _ _ h => h) (by kernel_rfl) hHeld ?_
  simp only [Act.put, List.setIfInBounds_toArray, List.set_cons_zero, List.set_cons_succ]
  refine skipR 13 43 (by kernel_rfl) (by kernel_rfl) (by kernel_rfl) (by kernel_rfl) (fun _ _ _ h => h) (by kernel_rfl) hHeld ?_
  simp only [Act.put, List.setIfInBounds_toArray, List.set_cons_zero, List.set_cons_succ]
  refine skipR 14 44 (by kernel_rfl) (by kernel_rfl) (by kernel_rfl) (by kernel_rfl) (fun _ _ _ h => h) (by kernel_rfl) hHeld ?_
  simp only [Act.put, List.setIfInBounds_toArray, List.set_cons_zero, List.set_cons_succ]
  refine takeR 15 45 (.bool false) (by kernel_rfl) (by kernel_rfl) (by kernel_rfl) (by kernel_rfl) (fun _ _ _ h => h) (by kernel_rfl) (fun w o hSw ho => ?_) hHeld ?_
  · obtain rfl := Option.some.inj ho; go_simp
  simp only [Act.put, List.setIfInBounds_toArray, List.set_cons_zero, List.set_cons_succ]
  have HS := Lib.hid hHeld
  obtain ⟨k0, k1, k2, k3, k4, k5, k6, k7⟩ := (at_one w [.int .i64 0, .int .i64 0, .int .i64 0, .int .i64 0, .int .i64 0, .int .i64 0, .int .i64 0, .slice none 0 0] 31 (.cells #[.int .i64 2, .int .i64 0, .int .i64 ((n.tdiv 4).tmod 8), .int .i64 (n % 4), .int .i64 2, .int .i64 (x - 1), .int .i64 (y - 1), .slice none 0 0] 31)).eight
  have hf : ∀ o, (((w.alloc (.cells #[.int .i64 0, .int .i64 0, .int .i64 0, .int .i64 0, .int .i64 0, .int .i64 0, .int .i64 0, .slice none 0 0] 31)).alloc (.cells #[.int .i64 2, .int .i64 0, .int .i64 ((n.tdiv 4).tmod 8), .int .i64 (n % 4), .int .i64 2, .int .i64 (x - 1), .int .i64 (y - 1), .slice none 0 0] 31)).drew).frozen? ⟨w.heap.size, o, none⟩ = false := fun o => by simp
  generalize ((w.alloc (.cells #[.int .i64 0, .int .i64 0, .int .i64 0, .int .i64 0, .int .i64 0, .int .i64 0, .int .i64 0, .slice none 0 0] 31)).alloc (.cells #[.int .i64 2, .int .i64 0, .int .i64 ((n.tdiv 4).tmod 8), .int .i64 (n % 4), .int .i64 2, .int .i64 (x - 1), .int .i64 (y - 1), .slice none 0 0] 31)).drew = w1 at *
  refine oneR 16 (by kernel_rfl) (by kernel_rfl) (fun o ho K' hK => ?_)
  obtain rfl := Option.some.inj ho
  clear ho
  go_simp
  refine hK.out _ _ (And.intro (sets_below (Nat.le_refl _) [.int .i64 2, .int .i64 0, .int .i64 ((n.tdiv 4).tmod 8), .int .i64 (n % 4), .int .i64 2, .int .i64 (x - 1), .int .i64 (y - 1), .slice none 0 0] 0 _ _ HS.out.1) (sets_atl (by omega) [.int .i64 2, .int .i64 0, .int .i64 ((n.tdiv 4).tmod 8), .int .i64 (n % 4), .int .i64 2, .int .i64 (x - 1), .int .i64 (y - 1), .slice none 0 0] 0 _ HS.out.2)) (fun hHeld => ?_)
  clear hK K'
  try simp only [Act.put, List.setIfInBounds_toArray, List.set_cons_zero, List.set_cons_succ]
  refine takeR 17 9 (.bool false) (by kernel_rfl) (by kernel_rfl) (by kernel_rfl) (by kernel_rfl) (fun _ _ _ h => h) (by kernel_rfl) (fun w o hSw ho => ?_) hHeld ?_
  · obtain rfl := Option.some.inj ho; go_simp
  simp only [Act.put, List.setIfInBounds_toArray, List.set_cons_zero, List.set_cons_succ]
  have HE := Lib.hid hHeld.1
  clear hHeld
  refine wpAnyH_done (by kernel_rfl) ?_ _
  refine NoPanic.normal ?_
  go_wp2_with fail
  refine bodyPost_ret (v := .tuple #[.agg #[.int .i64 2, .int .i64 0, .int .i64 ((n.tdiv 4).tmod 8), .int .i64 (n % 4), .int .i64 2, .int .i64 (x - 1), .int .i64 (y - 1), .slice none 0 0], .bool false]) ?_ rfl ⟨rfl, HE.out⟩
  simp [results, Tryz.results145, go_sem, k0, k1, k2, k3, k4, k5, k6, k7]

set_option maxRecDepth 100000 in
set_option maxHeartbeats 4000000 in
theorem l3Mouse_e (n x y : Int) (w : World) (hn : 0 ≤ n ∧ n ≤ 9999999) (hx : 0 ≤ x ∧ x ≤ 9999999) (hy : 0 ≤ y ∧ y ≤ 9999999) (h64 : ¬ n < 64) (hq : ((n.tdiv 32).tmod 2 == 1) = false) :
    Calls Tryz.prog 145 #[.int .i64 n, .int .i64 x, .int .i64 y, .bool false] w fun e w' => e = .returned (.tuple #[.agg #[.int .i64 2, .int .i64 0, .int .i64 ((n.tdiv 4).tmod 8), .int .i64 (n % 4), .int .i64 1, .int .i64 (x - 1), .int .i64 (y - 1), .slice none 0 0], .bool false]) ∧ Below w.heap.size w w' := by
  have hwr : IntKind.i64.wrap (n.tdiv 4) = n.tdiv 4 := by
    rw [Int.tdiv_eq_ediv_of_nonneg hn.1]
    exact IntWalk.i64_in _ ⟨by omega, by omega⟩
  have hwr2 : IntKind.i64.wrap (n.tdiv 32) = n.tdiv 32 := by
    rw [Int.tdiv_eq_ediv_of_nonneg hn.1]
    exact IntWalk.i64_in _ ⟨by omega, by omega⟩
  clear hn
  go_enter Tryz.func145, Tryz.ntmps145
  go_wp2_with fail
  refine wp_region_noPanic ?_
  refine wp_region_held_drew (S := fun W' => Below w.heap.size w W' ∧ AtL W' (w.heap.size + 1) [.int .i64 2, .int .i64 0, .int .i64 ((n.tdiv 4).tmod 8), .int .i64 (n % 4), .int .i64 1, .int .i64 (x - 1), .int .i64 (y - 1), .slice none 0 0]) (by kernel_rfl) ⟨below_drewN (below_on (below_mk _ _) (below_mk _ _)) 1, at_two _ _ _ _⟩ (fun hHeld => ?_)
  refine takeR 0 30 (.agg #[.int .i64 2, .int .i64 0, .int .i64 ((n.tdiv 4).tmod 8), .int .i64 (n % 4), .int .i64 1, .int .i64 (x - 1), .int .i64 (y - 1), .slice none 0 0]) (by kernel_rfl) (by kernel_rfl) (by kernel_rfl) (by kernel_rfl) (fun _ _ _ h => h) (by kernel_rfl) (fun w o hSw ho => ?_) hHeld ?_
  · obtain rfl := Option.some.inj ho; obtain ⟨hc0, hc1, hc2, hc3, hc4, hc5, hc6, hc7⟩ := hSw.2.eight; go_simp
  simp only [Act.put, List.setIfInBounds_toArray, List.set_cons_zero, List.set_cons_succ]
  refine takeR 1 31 (.int .i64 n) (by kernel_rfl) (by kernel_rfl) (by kernel_rfl) (by kernel_rfl) (fun _ _ _ h => h) (by kernel_rfl) (fun w o hSw ho => ?_) hHeld ?_
  · obtain rfl := Option.some.inj ho; go_simp
  simp only [Act.put, List.setIfInBounds_toArray, List.set_cons_zero, List.set_cons_succ]
  refine takeR 2 32 (.bool false) (by kernel_rfl) (by kernel_rfl) (by kernel_rfl) (by kernel_rfl) (fun _ _ _ h => h) (by kernel_rfl) (fun w o hSw ho => ?_) hHeld ?_
  · obtain rfl := Option.some.inj ho; go_simp
  simp only [Act.put, List.setIfInBounds_toArray, List.set_cons_zero, List.set_cons_succ]
  refine takeR 3 33 (.bool false) (by kernel_rfl) (by kernel_rfl) (by kernel_rfl) (by kernel_rfl) (fun _ _ _ h => h) (by kernel_rfl) (fun w o hSw ho => ?_) hHeld ?_
  · obtain rfl := Option.some.inj ho; go_simp
  simp only [Act.put, List.setIfInBounds_toArray, List.set_cons_zero, List.set_cons_succ]
  refine skipR 4 34 (by kernel_rfl) (by kernel_rfl) (by kernel_rfl) (by kernel_rfl) (fun _ _ _ h => h) (by kernel_rfl) hHeld ?_
  simp only [Act.put, List.setIfInBounds_toArray, List.set_cons_zero, List.set_cons_succ]
  refine skipR 5 35 (by kernel_rfl) (by kernel_rfl) (by kernel_rfl) (by kernel_rfl) (fun _ _ _ h => h) (by kernel_rfl) hHeld ?_
  simp only [Act.put, List.setIfInBounds_toArray, List.set_cons_zero, List.set_cons_succ]
  refine skipR 6 36 (by kernel_rfl) (by kernel_rfl) (by kernel_rfl) (by kernel_rfl) (fun _ _ _ h => h) (by kernel_rfl) hHeld ?_
  simp only [Act.put, List.setIfInBounds_toArray, List.set_cons_zero, List.set_cons_succ]
  refine skipR 7 37 (by kernel_rfl) (by kernel_rfl) (by kernel_rfl) (by kernel_rfl) (fun _ _ _ h => h) (by kernel_rfl) hHeld ?_
  simp only [Act.put, List.setIfInBounds_toArray, List.set_cons_zero, List.set_cons_succ]
  refine skipR 8 38 (by kernel_rfl) (by kernel_rfl) (by kernel_rfl) (by kernel_rfl) (fun _ _ _ h => h) (by kernel_rfl) hHeld ?_
  simp only [Act.put, List.setIfInBounds_toArray, List.set_cons_zero, List.set_cons_succ]
  refine skipR 9 39 (by kernel_rfl) (by kernel_rfl) (by kernel_rfl) (by kernel_rfl) (fun _ _ _ h => h) (by kernel_rfl) hHeld ?_
  simp only [Act.put, List.setIfInBounds_toArray, List.set_cons_zero, List.set_cons_succ]
  refine takeR 10 40 (.bool false) (by kernel_rfl) (by kernel_rfl) (by kernel_rfl) (by kernel_rfl) (fun _ _ _ h => h) (by kernel_rfl) (fun w o hSw ho => ?_) hHeld ?_
  · obtain rfl := Option.some.inj ho; go_simp
  simp only [Act.put, List.setIfInBounds_toArray, List.set_cons_zero, List.set_cons_succ]
  refine takeR 11 41 (.bool false) (by kernel_rfl) (by kernel_rfl) (by kernel_rfl) (by kernel_rfl) (fun _ _ _ h => h) (by kernel_rfl) (fun w o hSw ho => ?_) hHeld ?_
  · obtain rfl := Option.some.inj ho; go_simp
  simp only [Act.put, List.setIfInBounds_toArray, List.set_cons_zero, List.set_cons_succ]
  refine skipR 12 42 (by kernel_rfl) (by kernel_rfl) (by kernel_rfl) (by kernel_rfl) (fun _ _ _ h => h) (by kernel_rfl) hHeld ?_
  simp only [Act.put, List.setIfInBounds_toArray, List.set_cons_zero, List.set_cons_succ]
  refine skipR 13 43 (by kernel_rfl) (by kernel_rfl) (by kernel_rfl) (by kernel_rfl) (fun _ _ _ h => h) (by kernel_rfl) hHeld ?_
  simp only [Act.put, List.setIfInBounds_toArray, List.set_cons_zero, List.set_cons_succ]
  refine skipR 14 44 (by kernel_rfl) (by kernel_rfl) (by kernel_rfl) (by kernel_rfl) (fun _ _ _ h => h) (by kernel_rfl) hHeld ?_
  simp only [Act.put, List.setIfInBounds_toArray, List.set_cons_zero, List.set_cons_succ]
  refine takeR 15 45 (.bool false) (by kernel_rfl) (by kernel_rfl) (by kernel_rfl) (by kernel_rfl) (fun _ _ _ h => h) (by kernel_rfl) (fun w o hSw ho => ?_) hHeld ?_
  · obtain rfl := Option.some.inj ho; go_simp
  simp only [Act.put, List.setIfInBounds_toArray, List.set_cons_zero, List.set_cons_succ]
  have HS := Lib.hid hHeld
  obtain ⟨k0, k1, k2, k3, k4, k5, k6, k7⟩ := (at_one w [.int .i64 0, .int .i64 0, .int .i64 0, .int .i64 0, .int .i64 0, .int .i64 0, .int .i64 0, .slice none 0 0] 31 (.cells #[.int .i64 2, .int .i64 0, .int .i64 ((n.tdiv 4).tmod 8), .int .i64 (n % 4), .int .i64 1, .int .i64 (x - 1), .int .i64 (y - 1), .slice none 0 0] 31)).eight
  have hf : ∀ o, (((w.alloc (.cells #[.int .i64 0, .int .i64 0, .int .i64 0, .int .i64 0, .int .i64 0, .int .i64 0, .int .i64 0, .slice none 0 0] 31)).alloc (.cells #[.int .i64 2, .int .i64 0, .int .i64 ((n.tdiv 4).tmod 8), .int .i64 (n % 4), .int .i64 1, .int .i64 (x - 1), .int .i64 (y - 1), .slice none 0 0] 31)).drew).frozen? ⟨w.heap.size, o, none⟩ = false := fun o => by simp
  generalize ((w.alloc (.cells #[.int .i64 0, .int .i64 0, .int .i64 0, .int .i64 0, .int .i64 0, .int .i64 0, .int .i64 0, .slice none 0 0] 31)).alloc (.cells #[.int .i64 2, .int .i64 0, .int .i64 ((n.tdiv 4).tmod 8), .int .i64 (n % 4), .int .i64 1, .int .i64 (x - 1), .int .i64 (y - 1), .slice none 0 0] 31)).drew = w1 at *
  refine oneR 16 (by kernel_rfl) (by kernel_rfl) (fun o ho K' hK => ?_)
  obtain rfl := Option.some.inj ho
  clear ho
  go_simp
  refine hK.out _ _ (And.intro (sets_below (Nat.le_refl _) [.int .i64 2, .int .i64 0, .int .i64 ((n.tdiv 4).tmod 8), .int .i64 (n % 4), .int .i64 1, .int .i64 (x - 1), .int .i64 (y - 1), .slice none 0 0] 0 _ _ HS.out.1) (sets_atl (by omega) [.int .i64 2, .int .i64 0, .int .i64 ((n.tdiv 4).tmod 8), .int .i64 (n % 4), .int .i64 1, .int .i64 (x - 1), .int .i64 (y - 1), .slice none 0 0] 0 _ HS.out.2)) (fun hHeld => ?_)
  clear hK K'
  try simp only [Act.put, List.setIfInBounds_toArray, List.set_cons_zero, List.set_cons_succ]
  refine takeR 17 9 (.bool false) (by kernel_rfl) (by kernel_rfl) (by kernel_rfl) (by kernel_rfl) (fun _ _ _ h => h) (by kernel_rfl) (fun w o hSw ho => ?_) hHeld ?_
  · obtain rfl := Option.some.inj ho; go_simp
  simp only [Act.put, List.setIfInBounds_toArray, List.set_cons_zero, List.set_cons_succ]
  have HE := Lib.hid hHeld.1
  clear hHeld
  refine wpAnyH_done (by kernel_rfl) ?_ _
  refine NoPanic.normal ?_
  go_wp2_with fail
  refine bodyPost_ret (v := .tuple #[.agg #[.int .i64 2, .int .i64 0, .int .i64 ((n.tdiv 4).tmod 8), .int .i64 (n % 4), .int .i64 1, .int .i64 (x - 1), .int .i64 (y - 1), .slice none 0 0], .bool false]) ?_ rfl ⟨rfl, HE.out⟩
  simp [results, Tryz.results145, go_sem, k0, k1, k2, k3, k4, k5, k6, k7]

set_option maxRecDepth 100000 in
set_option maxHeartbeats 4000000 in
theorem l3Mouse_f (n x y : Int) (w : World) (hn : 0 ≤ n ∧ n ≤ 9999999) (hx : 0 ≤ x ∧ x ≤ 9999999) (hy : 0 ≤ y ∧ y ≤ 9999999) (h64 : ¬ n < 64) (hq : ((n.tdiv 32).tmod 2 == 1) = true) :
    Calls Tryz.prog 145 #[.int .i64 n, .int .i64 x, .int .i64 y, .bool false] w fun e w' => e = .returned (.tuple #[.agg #[.int .i64 2, .int .i64 0, .int .i64 ((n.tdiv 4).tmod 8), .int .i64 (n % 4), .int .i64 3, .int .i64 (x - 1), .int .i64 (y - 1), .slice none 0 0], .bool false]) ∧ Below w.heap.size w w' := by
  have hwr : IntKind.i64.wrap (n.tdiv 4) = n.tdiv 4 := by
    rw [Int.tdiv_eq_ediv_of_nonneg hn.1]
    exact IntWalk.i64_in _ ⟨by omega, by omega⟩
  have hwr2 : IntKind.i64.wrap (n.tdiv 32) = n.tdiv 32 := by
    rw [Int.tdiv_eq_ediv_of_nonneg hn.1]
    exact IntWalk.i64_in _ ⟨by omega, by omega⟩
  clear hn
  go_enter Tryz.func145, Tryz.ntmps145
  go_wp2_with fail
  refine wp_region_noPanic ?_
  refine wp_region_held_drew (S := fun W' => Below w.heap.size w W' ∧ AtL W' (w.heap.size + 1) [.int .i64 2, .int .i64 0, .int .i64 ((n.tdiv 4).tmod 8), .int .i64 (n % 4), .int .i64 3, .int .i64 (x - 1), .int .i64 (y - 1), .slice none 0 0]) (by kernel_rfl) ⟨below_drewN (below_on (below_mk _ _) (below_mk _ _)) 1, at_two _ _ _ _⟩ (fun hHeld => ?_)
  refine takeR 0 30 (.agg #[.int .i64 2, .int .i64 0, .int .i64 ((n.tdiv 4).tmod 8), .int .i64 (n % 4), .int .i64 3, .int .i64 (x - 1), .int .i64 (y - 1), .slice none 0 0]) (by kernel_rfl) (by kernel_rfl) (by kernel_rfl) (by kernel_rfl) (fun _ _ _ h => h) (by kernel_rfl) (fun w o hSw ho => ?_) hHeld ?_
  · obtain rfl := Option.some.inj ho; obtain ⟨hc0, hc1, hc2, hc3, hc4, hc5, hc6, hc7⟩ := hSw.2.eight; go_simp
  simp only [Act.put, List.setIfInBounds_toArray, List.set_cons_zero, List.set_cons_succ]
  refine takeR 1 31 (.int .i64 n) (by kernel_rfl) (by kernel_rfl) (by kernel_rfl) (by kernel_rfl) (fun _ _ _ h => h) (by kernel_rfl) (fun w o hSw ho => ?_) hHeld ?_
  · obtain rfl := Option.some.inj ho; go_simp
  simp only [Act.put, List.setIfInBounds_toArray, List.set_cons_zero, List.set_cons_succ]
  refine takeR 2 32 (.bool false) (by kernel_rfl) (by kernel_rfl) (by kernel_rfl) (by kernel_rfl) (fun _ _ _ h => h) (by kernel_rfl) (fun w o hSw ho => ?_) hHeld ?_
  · obtain rfl := Option.some.inj ho; go_simp
  simp only [Act.put, List.setIfInBounds_toArray, List.set_cons_zero, List.set_cons_succ]
  refine takeR 3 33 (.bool false) (by kernel_rfl) (by kernel_rfl) (by kernel_rfl) (by kernel_rfl) (fun _ _ _ h => h) (by kernel_rfl) (fun w o hSw ho => ?_) hHeld ?_
  · obtain rfl := Option.some.inj ho; go_simp
  simp only [Act.put, List.setIfInBounds_toArray, List.set_cons_zero, List.set_cons_succ]
  refine skipR 4 34 (by kernel_rfl) (by kernel_rfl) (by kernel_rfl) (by kernel_rfl) (fun _ _ _ h => h) (by kernel_rfl) hHeld ?_
  simp only [Act.put, List.setIfInBounds_toArray, List.set_cons_zero, List.set_cons_succ]
  refine skipR 5 35 (by kernel_rfl) (by kernel_rfl) (by kernel_rfl) (by kernel_rfl) (fun _ _ _ h => h) (by kernel_rfl) hHeld ?_
  simp only [Act.put, List.setIfInBounds_toArray, List.set_cons_zero, List.set_cons_succ]
  refine skipR 6 36 (by kernel_rfl) (by kernel_rfl) (by kernel_rfl) (by kernel_rfl) (fun _ _ _ h => h) (by kernel_rfl) hHeld ?_
  simp only [Act.put, List.setIfInBounds_toArray, List.set_cons_zero, List.set_cons_succ]
  refine skipR 7 37 (by kernel_rfl) (by kernel_rfl) (by kernel_rfl) (by kernel_rfl) (fun _ _ _ h => h) (by kernel_rfl) hHeld ?_
  simp only [Act.put, List.setIfInBounds_toArray, List.set_cons_zero, List.set_cons_succ]
  refine skipR 8 38 (by kernel_rfl) (by kernel_rfl) (by kernel_rfl) (by kernel_rfl) (fun _ _ _ h => h) (by kernel_rfl) hHeld ?_
  simp only [Act.put, List.setIfInBounds_toArray, List.set_cons_zero, List.set_cons_succ]
  refine skipR 9 39 (by kernel_rfl) (by kernel_rfl) (by kernel_rfl) (by kernel_rfl) (fun _ _ _ h => h) (by kernel_rfl) hHeld ?_
  simp only [Act.put, List.setIfInBounds_toArray, List.set_cons_zero, List.set_cons_succ]
  refine takeR 10 40 (.bool false) (by kernel_rfl) (by kernel_rfl) (by kernel_rfl) (by kernel_rfl) (fun _ _ _ h => h) (by kernel_rfl) (fun w o hSw ho => ?_) hHeld ?_
  · obtain rfl := Option.some.inj ho; go_simp
  simp only [Act.put, List.setIfInBounds_toArray, List.set_cons_zero, List.set_cons_succ]
  refine takeR 11 41 (.bool false) (by kernel_rfl) (by kernel_rfl) (by kernel_rfl) (by kernel_rfl) (fun _ _ _ h => h) (by kernel_rfl) (fun w o hSw ho => ?_) hHeld ?_
  · obtain rfl := Option.some.inj ho; go_simp
  simp only [Act.put, List.setIfInBounds_toArray, List.set_cons_zero, List.set_cons_succ]
  refine skipR 12 42 (by kernel_rfl) (by kernel_rfl) (by kernel_rfl) (by kernel_rfl) (fun _ _ _ h => h) (by kernel_rfl) hHeld ?_
  simp only [Act.put, List.setIfInBounds_toArray, List.set_cons_zero, List.set_cons_succ]
  refine skipR 13 43 (by kernel_rfl) (by kernel_rfl) (by kernel_rfl) (by kernel_rfl) (fun _ _ _ h => h) (by kernel_rfl) hHeld ?_
  simp only [Act.put, List.setIfInBounds_toArray, List.set_cons_zero, List.set_cons_succ]
  refine skipR 14 44 (by kernel_rfl) (by kernel_rfl) (by kernel_rfl) (by kernel_rfl) (fun _ _ _ h => h) (by kernel_rfl) hHeld ?_
  simp only [Act.put, List.setIfInBounds_toArray, List.set_cons_zero, List.set_cons_succ]
  refine takeR 15 45 (.bool false) (by kernel_rfl) (by kernel_rfl) (by kernel_rfl) (by kernel_rfl) (fun _ _ _ h => h) (by kernel_rfl) (fun w o hSw ho => ?_) hHeld ?_
  · obtain rfl := Option.some.inj ho; go_simp
  simp only [Act.put, List.setIfInBounds_toArray, List.set_cons_zero, List.set_cons_succ]
  have HS := Lib.hid hHeld
  obtain ⟨k0, k1, k2, k3, k4, k5, k6, k7⟩ := (at_one w [.int .i64 0, .int .i64 0, .int .i64 0, .int .i64 0, .int .i64 0, .int .i64 0, .int .i64 0, .slice none 0 0] 31 (.cells #[.int .i64 2, .int .i64 0, .int .i64 ((n.tdiv 4).tmod 8), .int .i64 (n % 4), .int .i64 3, .int .i64 (x - 1), .int .i64 (y - 1), .slice none 0 0] 31)).eight
  have hf : ∀ o, (((w.alloc (.cells #[.int .i64 0, .int .i64 0, .int .i64 0, .int .i64 0, .int .i64 0, .int .i64 0, .int .i64 0, .slice none 0 0] 31)).alloc (.cells #[.int .i64 2, .int .i64 0, .int .i64 ((n.tdiv 4).tmod 8), .int .i64 (n % 4), .int .i64 3, .int .i64 (x - 1), .int .i64 (y - 1), .slice none 0 0] 31)).drew).frozen? ⟨w.heap.size, o, none⟩ = false := fun o => by simp
  generalize ((w.alloc (.cells #[.int .i64 0, .int .i64 0, .int .i64 0, .int .i64 0, .int .i64 0, .int .i64 0, .int .i64 0, .slice none 0 0] 31)).alloc (.cells #[.int .i64 2, .int .i64 0, .int .i64 ((n.tdiv 4).tmod 8), .int .i64 (n % 4), .int .i64 3, .int .i64 (x - 1), .int .i64 (y - 1), .slice none 0 0] 31)).drew = w1 at *
  refine oneR 16 (by kernel_rfl) (by kernel_rfl) (fun o ho K' hK => ?_)
  obtain rfl := Option.some.inj ho
  clear ho
  go_simp
  refine hK.out _ _ (And.intro (sets_below (Nat.le_refl _) [.int .i64 2, .int .i64 0, .int .i64 ((n.tdiv 4).tmod 8), .int .i64 (n % 4), .int .i64 3, .int .i64 (x - 1), .int .i64 (y - 1), .slice none 0 0] 0 _ _ HS.out.1) (sets_atl (by omega) [.int .i64 2, .int .i64 0, .int .i64 ((n.tdiv 4).tmod 8), .int .i64 (n % 4), .int .i64 3, .int .i64 (x - 1), .int .i64 (y - 1), .slice none 0 0] 0 _ HS.out.2)) (fun hHeld => ?_)
  clear hK K'
  try simp only [Act.put, List.setIfInBounds_toArray, List.set_cons_zero, List.set_cons_succ]
  refine takeR 17 9 (.bool false) (by kernel_rfl) (by kernel_rfl) (by kernel_rfl) (by kernel_rfl) (fun _ _ _ h => h) (by kernel_rfl) (fun w o hSw ho => ?_) hHeld ?_
  · obtain rfl := Option.some.inj ho; go_simp
  simp only [Act.put, List.setIfInBounds_toArray, List.set_cons_zero, List.set_cons_succ]
  have HE := Lib.hid hHeld.1
  clear hHeld
  refine wpAnyH_done (by kernel_rfl) ?_ _
  refine NoPanic.normal ?_
  go_wp2_with fail
  refine bodyPost_ret (v := .tuple #[.agg #[.int .i64 2, .int .i64 0, .int .i64 ((n.tdiv 4).tmod 8), .int .i64 (n % 4), .int .i64 3, .int .i64 (x - 1), .int .i64 (y - 1), .slice none 0 0], .bool false]) ?_ rfl ⟨rfl, HE.out⟩
  simp [results, Tryz.results145, go_sem, k0, k1, k2, k3, k4, k5, k6, k7]

set_option maxRecDepth 100000 in
set_option maxHeartbeats 4000000 in
theorem l3Mouse_g (n x y : Int) (w : World) (hn : 0 ≤ n ∧ n ≤ 9999999) (hx : 0 ≤ x ∧ x ≤ 9999999) (hy : 0 ≤ y ∧ y ≤ 9999999) (h64 : ¬ n < 64) :
    Calls Tryz.prog 145 #[.int .i64 n, .int .i64 x, .int .i64 y, .bool true] w fun e w' => e = .returned (.tuple #[.agg #[.int .i64 2, .int .i64 0, .int .i64 ((n.tdiv 4).tmod 8), .int .i64 (n % 4), .int .i64 2, .int .i64 (x - 1), .int .i64 (y - 1), .slice none 0 0], .bool false]) ∧ Below w.heap.size w w' := by
  have hwr : IntKind.i64.wrap (n.tdiv 4) = n.tdiv 4 := by
    rw [Int.tdiv_eq_ediv_of_nonneg hn.1]
    exact IntWalk.i64_in _ ⟨by omega, by omega⟩
  clear hn
  go_enter Tryz.func145, Tryz.ntmps145
  go_wp2_with fail
  refine wp_region_noPanic ?_
  refine wp_region_held_drew (S := fun W' => Below w.heap.size w W' ∧ AtL W' (w.heap.size + 1) [.int .i64 2, .int .i64 0, .int .i64 ((n.tdiv 4).tmod 8), .int .i64 (n % 4), .int .i64 2, .int .i64 (x - 1), .int .i64 (y - 1), .slice none 0 0]) (by kernel_rfl) ⟨below_drewN (below_on (below_mk _ _) (below_mk _ _)) 1, at_two _ _ _ _⟩ (fun hHeld => ?_)
  refine takeR 0 30 (.agg #[.int .i64 2, .int .i64 0, .int .i64 ((n.tdiv 4).tmod 8), .int .i64 (n % 4), .int .i64 2, .int .i64 (x - 1), .int .i64 (y - 1), .slice none 0 0]) (by kernel_rfl) (by kernel_rfl) (by kernel_rfl) (by kernel_rfl) (fun _ _ _ h => h) (by kernel_rfl) (fun w o hSw ho => ?_) hHeld ?_
  · obtain rfl := Option.some.inj ho; obtain ⟨hc0, hc1, hc2, hc3, hc4, hc5, hc6, hc7⟩ := hSw.2.eight; go_simp
  simp only [Act.put, List.setIfInBounds_toArray, List.set_cons_zero, List.set_cons_succ]
  refine takeR 1 31 (.int .i64 n) (by kernel_rfl) (by kernel_rfl) (by kernel_rfl) (by kernel_rfl) (fun _ _ _ h => h) (by kernel_rfl) (fun w o hSw ho => ?_) hHeld ?_
  · obtain rfl := Option.some.inj ho; go_simp
  simp only [Act.put, List.setIfInBounds_toArray, List.set_cons_zero, List.set_cons_succ]
  refine takeR 2 32 (.bool false) (by kernel_rfl) (by kernel_rfl) (by kernel_rfl) (by kernel_rfl) (fun _ _ _ h => h) (by kernel_rfl) (fun w o hSw ho => ?_) hHeld ?_
  · obtain rfl := Option.some.inj ho; go_simp
  simp only [Act.put, List.setIfInBounds_toArray, List.set_cons_zero, List.set_cons_succ]
  refine takeR 3 33 (.bool false) (by kernel_rfl) (by kernel_rfl) (by kernel_rfl) (by kernel_rfl) (fun _ _ _ h => h) (by kernel_rfl) (fun w o hSw ho => ?_) hHeld ?_
  · obtain rfl := Option.some.inj ho; go_simp
  simp only [Act.put, List.setIfInBounds_toArray, List.set_cons_zero, List.set_cons_succ]
  refine skipR 4 34 (by kernel_rfl) (by kernel_rfl) (by kernel_rfl) (by kernel_rfl) (fun _ _ _ h => h) (by kernel_rfl) hHeld ?_
  simp only [Act.put, List.setIfInBounds_toArray, List.set_cons_zero, List.set_cons_succ]
  refine skipR 5 35 (by kernel_rfl) (by kernel_rfl) (by kernel_rfl) (by kernel_rfl) (fun _ _ _ h => h) (by kernel_rfl) hHeld ?_
  simp only [Act.put, List.setIfInBounds_toArray, List.set_cons_zero, List.set_cons_succ]
  refine skipR 6 36 (by kernel_rfl) (by kernel_rfl) (by kernel_rfl) (by kernel_rfl) (fun _ _ _ h => h) (by kernel_rfl) hHeld ?_
  simp only [Act.put, List.setIfInBounds_toArray, List.set_cons_zero, List.set_cons_succ]
  refine skipR 7 37 (by kernel_rfl) (by kernel_rfl) (by kernel_rfl) (by kernel_rfl) (fun _ _ _ h => h) (by kernel_rfl) hHeld ?_
  simp only [Act.put, List.setIfInBounds_toArray, List.set_cons_zero, List.set_cons_succ]
  refine skipR 8 38 (by kernel_rfl) (by kernel_rfl) (by kernel_rfl) (by kernel_rfl) (fun _ _ _ h => h) (by kernel_rfl) hHeld ?_
  simp only [Act.put, List.setIfInBounds_toArray, List.set_cons_zero, List.set_cons_succ]
  refine skipR 9 39 (by kernel_rfl) (by kernel_rfl) (by kernel_rfl) (by kernel_rfl) (fun _ _ _ h => h) (by kernel_rfl) hHeld ?_
  simp only [Act.put, List.setIfInBounds_toArray, List.set_cons_zero, List.set_cons_succ]
  refine takeR 10 40 (.bool false) (by kernel_rfl) (by kernel_rfl) (by kernel_rfl) (by kernel_rfl) (fun _ _ _ h => h) (by kernel_rfl) (fun w o hSw ho => ?_) hHeld ?_
  · obtain rfl := Option.some.inj ho; go_simp
  simp only [Act.put, List.setIfInBounds_toArray, List.set_cons_zero, List.set_cons_succ]
  refine takeR 11 41 (.bool false) (by kernel_rfl) (by kernel_rfl) (by kernel_rfl) (by kernel_rfl) (fun _ _ _ h => h) (by kernel_rfl) (fun w o hSw ho => ?_) hHeld ?_
  · obtain rfl := Option.some.inj ho; go_simp
  simp only [Act.put, List.setIfInBounds_toArray, List.set_cons_zero, List.set_cons_succ]
  refine skipR 12 42 (by kernel_rfl) (by kernel_rfl) (by kernel_rfl) (by kernel_rfl) (fun _ _ _ h => h) (by kernel_rfl) hHeld ?_
  simp only [Act.put, List.setIfInBounds_toArray, List.set_cons_zero, List.set_cons_succ]
  refine skipR 13 43 (by kernel_rfl) (by kernel_rfl) (by kernel_rfl) (by kernel_rfl) (fun _ _ _ h => h) (by kernel_rfl) hHeld ?_
  simp only [Act.put, List.setIfInBounds_toArray, List.set_cons_zero, List.set_cons_succ]
  refine skipR 14 44 (by kernel_rfl) (by kernel_rfl) (by kernel_rfl) (by kernel_rfl) (fun _ _ _ h => h) (by kernel_rfl) hHeld ?_
  simp only [Act.put, List.setIfInBounds_toArray, List.set_cons_zero, List.set_cons_succ]
  refine takeR 15 45 (.bool false) (by kernel_rfl) (by kernel_rfl) (by kernel_rfl) (by kernel_rfl) (fun _ _ _ h => h) (by kernel_rfl) (fun w o hSw ho => ?_) hHeld ?_
  · obtain rfl := Option.some.inj ho; go_simp
  simp only [Act.put, List.setIfInBounds_toArray, List.set_cons_zero, List.set_cons_succ]
  have HS := Lib.hid hHeld
  obtain ⟨k0, k1, k2, k3, k4, k5, k6, k7⟩ := (at_one w [.int .i64 0, .int .i64 0, .int .i64 0, .int .i64 0, .int .i64 0, .int .i64 0, .int .i64 0, .slice none 0 0] 31 (.cells #[.int .i64 2, .int .i64 0, .int .i64 ((n.tdiv 4).tmod 8), .int .i64 (n % 4), .int .i64 2, .int .i64 (x - 1), .int .i64 (y - 1), .slice none 0 0] 31)).eight
  have hf : ∀ o, (((w.alloc (.cells #[.int .i64 0, .int .i64 0, .int .i64 0, .int .i64 0, .int .i64 0, .int .i64 0, .int .i64 0, .slice none 0 0] 31)).alloc (.cells #[.int .i64 2, .int .i64 0, .int .i64 ((n.tdiv 4).tmod 8), .int .i64 (n % 4), .int .i64 2, .int .i64 (x - 1), .int .i64 (y - 1), .slice none 0 0] 31)).drew).frozen? ⟨w.heap.size, o, none⟩ = false := fun o => by simp
  generalize ((w.alloc (.cells #[.int .i64 0, .int .i64 0, .int .i64 0, .int .i64 0, .int .i64 0, .int .i64 0, .int .i64 0, .slice none 0 0] 31)).alloc (.cells #[.int .i64 2, .int .i64 0, .int .i64 ((n.tdiv 4).tmod 8), .int .i64 (n % 4), .int .i64 2, .int .i64 (x - 1), .int .i64 (y - 1), .slice none 0 0] 31)).drew = w1 at *
  refine oneR 16 (by kernel_rfl) (by kernel_rfl) (fun o ho K' hK => ?_)
  obtain rfl := Option.some.inj ho
  clear ho
  go_simp
  refine hK.out _ _ (And.intro (sets_below (Nat.le_refl _) [.int .i64 2, .int .i64 0, .int .i64 ((n.tdiv 4).tmod 8), .int .i64 (n % 4), .int .i64 2, .int .i64 (x - 1), .int .i64 (y - 1), .slice none 0 0] 0 _ _ HS.out.1) (sets_atl (by omega) [.int .i64 2, .int .i64 0, .int .i64 ((n.tdiv 4).tmod 8), .int .i64 (n % 4), .int .i64 2, .int .i64 (x - 1), .int .i64 (y - 1), .slice none 0 0] 0 _ HS.out.2)) (fun hHeld => ?_)
  clear hK K'
  try simp only [Act.put, List.setIfInBounds_toArray, List.set_cons_zero, List.set_cons_succ]
  refine takeR 17 9 (.bool false) (by kernel_rfl) (by kernel_rfl) (by kernel_rfl) (by kernel_rfl) (fun _ _ _ h => h) (by kernel_rfl) (fun w o hSw ho => ?_) hHeld ?_
  · obtain rfl := Option.some.inj ho; go_simp
  simp only [Act.put, List.setIfInBounds_toArray, List.set_cons_zero, List.set_cons_succ]
  have HE := Lib.hid hHeld.1
  clear hHeld
  refine wpAnyH_done (by kernel_rfl) ?_ _
  refine NoPanic.normal ?_
  go_wp2_with fail
  refine bodyPost_ret (v := .tuple #[.agg #[.int .i64 2, .int .i64 0, .int .i64 ((n.tdiv 4).tmod 8), .int .i64 (n % 4), .int .i64 2, .int .i64 (x - 1), .int .i64 (y - 1), .slice none 0 0], .bool false]) ?_ rfl ⟨rfl, HE.out⟩
  simp [results, Tryz.results145, go_sem, k0, k1, k2, k3, k4, k5, k6, k7]

end Go.Proofs.YtjopjddhgaiddabGreatDoor
