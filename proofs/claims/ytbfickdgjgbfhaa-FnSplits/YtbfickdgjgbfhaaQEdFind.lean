/- The searches of the program's layout edits: slices.Index of a node, slices.IndexFunc with the two closures, nodeOfPane, splitOver. -/
import Derived.Test.YtbfickdgjgbfhaaQLyImpl1
import Derived.Test.YtbfickdgjgbfhaaQNumsToLyTree3
import Derived.Test.YtbfickdgjgbfhaaQQOpsToLwLy
namespace Go.Proofs.Ytbfickdgjgbfhaa
open Go.RowKit
set_option linter.unusedVariables false
set_option linter.unusedSimpArgs false

/-- the number of the first row for which f holds, counted from k on; -1: there is none -/
def idxQ (f : Q → Bool) : Nat → List Q → Int
  | _, [] => -1
  | k, q :: t => if f q = true then (k : Int) else idxQ f (k + 1) t
theorem idxQ_drop (f : Q → Bool) (l : List Q) (j : Nat) (h : j < l.length) : idxQ f j (l.drop j) = if f (nth l j) = true then (j : Int) else idxQ f (j + 1) (l.drop (j + 1)) := by
  rw [List.drop_eq_getElem_cons h, idxQ, nth_eq h]
theorem idxQ_end (f : Q → Bool) (l : List Q) : idxQ f l.length (l.drop l.length) = -1 := by rw [List.drop_length, idxQ]
theorem idxQ_at (f : Q → Bool) (q : Q) (v : List Q) (hq : f q = true) : ∀ (u : List Q) (k : Nat), (∀ x ∈ u, f x = false) → idxQ f k (u ++ q :: v) = ((k + u.length : Nat) : Int)
  | [], k, _ => by simp [idxQ, hq]
  | x :: u, k, h => by
    rw [List.cons_append, idxQ, if_neg (by rw [h x (List.mem_cons_self ..)]; simp), idxQ_at f q v hq u (k + 1) fun y hy => h y (List.mem_cons_of_mem _ hy)]
    simp only [List.length_cons]; omega
theorem qEq_iff (a b : Q) : qEq a b = true ↔ a = b := by
  cases a; cases b
  simp [qEq]
  constructor
  · rintro ⟨⟨⟨⟨rfl, rfl⟩, rfl⟩, rfl⟩, rfl⟩; simp
  · rintro ⟨rfl, rfl, rfl, rfl, rfl⟩; simp

theorem run_eql_node (a b : Q) (w : World) : (binOp .eql 76 (.agg #[.int .i64 a.x0, .int .i64 a.x1, .int .i64 a.x2, .int .i64 a.x3, .int .i64 a.x4]) (.agg #[.int .i64 b.x0, .int .i64 b.x1, .int .i64 b.x2, .int .i64 b.x3, .int .i64 b.x4])).run Try.prog w = .ok (.bool (qEq a b)) w := by
  have hS : Try.prog.underlying 76 = some (.struct (Try.prog.fieldsOf 76)) := by kernel_rfl
  have hp : Try.prog.stoodInHeld 76 = false := by kernel_rfl
  have u3 := Try.underlying2
  have a3 := Try.isAgg2
  have z3 := Try.sizeOf2
  rw [run_eql_struct, show (10000 : Nat) = 9999 + 1 from rfl, run_equalIn_agg w 9999 76 _ _ hS hp]
  simp only [Program.fieldsOf, Try.underlying76]
  go_simp
  simp only [qEq]
  by_cases h0 : a.x0 = b.x0 <;> by_cases h1 : a.x1 = b.x1 <;> by_cases h2 : a.x2 = b.x2 <;> by_cases h3 : a.x3 = b.x3 <;> by_cases h4 : a.x4 = b.x4 <;> simp [h0, h1, h2, h3, h4]

set_option maxRecDepth 100000 in
set_option maxHeartbeats 4000000 in
theorem nodeIndex_any (p : Option Addr) (c : Nat) (x : List Q) (z : Q) (w : World) (h : Qs w w.heap.size p x) (hx : x.length ≤ 1048576) :
    Calls Try.prog 100 #[.slice p x.length c, .agg #[.int .i64 z.x0, .int .i64 z.x1, .int .i64 z.x2, .int .i64 z.x3, .int .i64 z.x4]] w fun e w' => e = .returned (.int .i64 (idxQ (qEq z) 0 x)) ∧ Below w.heap.size w w' := by
  have Z := AtL.new w [.int .i64 z.x0, .int .i64 z.x1, .int .i64 z.x2, .int .i64 z.x3, .int .i64 z.x4] 76
  have HZ := Lib.hid Z
  have HB0 := Lib.hid (below_mk w (.cells #[.int .i64 z.x0, .int .i64 z.x1, .int .i64 z.x2, .int .i64 z.x3, .int .i64 z.x4] 76))
  have H := Lib.hid (h.on HB0.out)
  clear h Z
  go_enter Try.func100, Try.ntmps100
  go_wp2
  go_loopw [5, 8] (fun _ i wr => ∃ j : Nat, j ≤ x.length ∧ i = .int .i64 j ∧ idxQ (qEq z) 0 x = idxQ (qEq z) j (x.drop j) ∧ Below (w.heap.size + 1) (w.alloc (.cells #[.int .i64 z.x0, .int .i64 z.x1, .int .i64 z.x2, .int .i64 z.x3, .int .i64 z.x4] 76)) wr) (fun _ i _ => x.length - (intOf i).toNat)
  case atStart => exact ⟨0, by omega, rfl, rfl, Below.refl _ _⟩
  case round =>
    obtain ⟨j, hj, rfl, hs, hb⟩ := hrel
    have HB2 := Lib.hid hb
    rw [← World.size_alloc w (.cells #[.int .i64 z.x0, .int .i64 z.x1, .int .i64 z.x2, .int .i64 z.x3, .int .i64 z.x4] 76)] at hb
    have HS := Lib.hid hs
    clear hs
    have HBD := Lib.hid (below_on HB0.out hb)
    by_cases hlt : j < x.length
    · obtain ⟨b, off, rfl, _, _, hc⟩ := (H.out.on hb) (by intro e; simp [e] at hlt)
      obtain ⟨c0, c1, c2, c3, c4⟩ := hc j hlt
      obtain ⟨e0, e1, e2, e3, e4⟩ := (HZ.out.on hb).five
      have HD := Lib.hid (idxQ_drop (qEq z) x j hlt)
      have i1 : (j : Int) < (x.length : Int) := by omega
      have i0 : (0 : Int) ≤ (j : Int) := by omega
      have hb' := Lib.hid hb
      clear hc hb
      have hg := nodeGuard
      have HN : ∀ w, (binOp .eql 76 (.agg #[.int .i64 z.x0, .int .i64 z.x1, .int .i64 z.x2, .int .i64 z.x3, .int .i64 z.x4]) (.agg #[.int .i64 (nth x j).x0, .int .i64 (nth x j).x1, .int .i64 (nth x j).x2, .int .i64 (nth x j).x3, .int .i64 (nth x j).x4])).run Try.prog w = .ok (.bool (qEq z (nth x j))) w := run_eql_node _ _
      cases hq : qEq z (nth x j)
      all_goals rw [hq] at HN
      · go_wp2
        go_quiet (fail)
        clear HN hg
        go_wp2
        exact ⟨⟨j + 1, by omega, by go_num, by rw [HS.out, HD.out, hq]; rfl, below_drewN HB2.out _⟩, by simp [intOf]; omega⟩
      · go_wp2
        go_quiet (fail)
        clear HN hg
        go_wp2
        go_ret
        exact ⟨by rw [HS.out, HD.out, hq]; rfl, below_drewN HBD.out _⟩
    · obtain rfl : j = x.length := by omega
      have HE := Lib.hid (idxQ_end (qEq z) x)
      go_wp2
      go_ret
      exact ⟨by rw [HS.out, HE.out]; rfl, HBD.out⟩

set_option maxRecDepth 100000 in
set_option maxHeartbeats 1000000 in
theorem nodeOfPane_any (p : Option Addr) (c : Nat) (x : List Q) (pn : Int) (w : World) (h : Qs w w.heap.size p x) (hx : x.length ≤ 1048576) :
    Calls Try.prog 61 #[.slice p x.length c, .int .i64 pn] w fun e w' => e = .returned (.int .i64 (idxQ (qEq (lfQ pn)) 0 x)) ∧ Below w.heap.size w w' := by
  have HC := Lib.hid (nodeIndex_any p c x (lfQ pn) w h hx)
  unfold lfQ at HC
  clear h
  go_enter Try.func61, Try.ntmps61
  go_wp2_with fail
  refine HC.out.mono ?_
  rintro e w1 ⟨rfl, b1⟩
  have HB := Lib.hid b1
  clear b1
  go_wp2
  go_ret
  exact ⟨rfl, HB.out⟩

set_option maxRecDepth 100000 in
set_option maxHeartbeats 1000000 in
theorem overFn_any (q : Q) (b : Nat) (a : Int) (w : World) (hb : w.cell? ⟨b, 0, none⟩ = some (.int .i64 a)) :
    Calls Try.prog 107 #[.agg #[.int .i64 q.x0, .int .i64 q.x1, .int .i64 q.x2, .int .i64 q.x3, .int .i64 q.x4], .pointer (some ⟨b, 0, none⟩)] w fun e w' => e = .returned (.bool (over a q)) ∧ Below w.heap.size w w' := by
  have hlt := World.block_lt_of_cell? _ _ hb
  dsimp only at hlt
  have HB0 := Lib.hid (below_mk w (.cells #[.int .i64 q.x0, .int .i64 q.x1, .int .i64 q.x2, .int .i64 q.x3, .int .i64 q.x4] 76))
  have HZ := Lib.hid (AtL.new w [.int .i64 q.x0, .int .i64 q.x1, .int .i64 q.x2, .int .i64 q.x3, .int .i64 q.x4] 76)
  have HIS := Lib.hid (isSplit_any q (w.alloc (.cells #[.int .i64 q.x0, .int .i64 q.x1, .int .i64 q.x2, .int .i64 q.x3, .int .i64 q.x4] 76)))
  have HA := Lib.hid ((HB0.out.cell (p := ⟨b, 0, none⟩) hlt).trans hb)
  have HO : Hid (over a q = (isSplitB q && (q.x3 == a || q.x4 == a))) := Lib.hid rfl
  clear hb
  cases hs : isSplitB q
  all_goals rw [hs] at HIS HO
  · go_enter Try.func107, Try.ntmps107
    go_wp2_with fail
    refine HIS.out.mono ?_
    rintro e w1 ⟨rfl, b1⟩
    have HB := Lib.hid (below_on HB0.out b1)
    clear b1
    go_wp2
    go_ret
    exact ⟨ret_bool (by rw [HO.out]; rfl), HB.out⟩
  · cases h3 : (q.x3 == a)
    all_goals cases h4 : (q.x4 == a)
    all_goals
      go_enter Try.func107, Try.ntmps107
      go_wp2_with fail
      refine HIS.out.mono ?_
      rintro e w1 ⟨rfl, b1⟩
      have HB := Lib.hid (below_on HB0.out b1)
      obtain ⟨e0, e1, e2, e3, e4⟩ := (HZ.out.on b1).five
      have ca := (b1.cell (p := ⟨b, 0, none⟩) (by show b < _; simp; omega)).trans HA.out
      clear b1
      go_wp2
      go_ret
      exact ⟨ret_bool (by rw [HO.out, h3, h4]; rfl), HB.out⟩

set_option maxRecDepth 100000 in
set_option maxHeartbeats 4000000 in
theorem nodeIndexFunc_any (p : Option Addr) (c b : Nat) (a : Int) (x : List Q) (w : World) (h : Qs w w.heap.size p x) (hx : x.length ≤ 1048576) (ha : w.cell? ⟨b, 0, none⟩ = some (.int .i64 a)) :
    Calls Try.prog 106 #[.slice p x.length c, .func (.func 107) #[] #[.pointer (some ⟨b, 0, none⟩)]] w fun e w' => e = .returned (.int .i64 (idxQ (over a) 0 x)) ∧ Below w.heap.size w w' := by
  have hlt := World.block_lt_of_cell? _ _ ha
  dsimp only at hlt
  have H := Lib.hid h
  have HA := Lib.hid (fun W' (hb : Below w.heap.size w W') => (hb.cell (p := ⟨b, 0, none⟩) hlt).trans ha)
  clear h ha
  go_enter Try.func106, Try.ntmps106
  go_wp2
  go_loopw [5, 8] (fun _ i wr => ∃ j : Nat, j ≤ x.length ∧ i = .int .i64 j ∧ idxQ (over a) 0 x = idxQ (over a) j (x.drop j) ∧ Below w.heap.size w wr) (fun _ i _ => x.length - (intOf i).toNat)
  case atStart => exact ⟨0, by omega, rfl, rfl, Below.refl _ _⟩
  case round =>
    obtain ⟨j, hj, rfl, hs, hb⟩ := hrel
    have HS := Lib.hid hs
    have HB := Lib.hid hb
    clear hs hb
    by_cases hlt : j < x.length
    · obtain ⟨bb, off, rfl, _, _, hc⟩ := (H.out.on HB.out) (by intro e; simp [e] at hlt)
      obtain ⟨c0, c1, c2, c3, c4⟩ := hc j hlt
      have HD := Lib.hid (idxQ_drop (over a) x j hlt)
      have HF := Lib.hid (fun W' (hb : Below w.heap.size w W') => overFn_any (nth x j) b a W' (HA.out _ hb))
      have i1 : (j : Int) < (x.length : Int) := by omega
      have i0 : (0 : Int) ≤ (j : Int) := by omega
      clear hc
      cases hq : over a (nth x j)
      all_goals rw [hq] at HF
      · go_wp2_with fail
        refine (HF.out _ HB.out).mono ?_
        rintro e w1 ⟨rfl, b1⟩
        have HB1 := Lib.hid (below_on HB.out b1)
        clear b1
        go_wp2
        exact ⟨⟨j + 1, by omega, by go_num, by rw [HS.out, HD.out, hq]; rfl, HB1.out⟩, by simp [intOf]; omega⟩
      · go_wp2_with fail
        refine (HF.out _ HB.out).mono ?_
        rintro e w1 ⟨rfl, b1⟩
        have HB1 := Lib.hid (below_on HB.out b1)
        clear b1
        go_wp2
        go_ret
        exact ⟨by rw [HS.out, HD.out, hq]; rfl, HB1.out⟩
    · obtain rfl : j = x.length := by omega
      have HE := Lib.hid (idxQ_end (over a) x)
      go_wp2
      go_ret
      exact ⟨by rw [HS.out, HE.out]; rfl, HB.out⟩

set_option maxRecDepth 100000 in
set_option maxHeartbeats 1000000 in
theorem splitOver_any (p : Option Addr) (c : Nat) (x : List Q) (a : Int) (w : World) (h : Qs w w.heap.size p x) (hx : x.length ≤ 1048576) :
    Calls Try.prog 72 #[.slice p x.length c, .int .i64 a] w fun e w' => e = .returned (.int .i64 (idxQ (over a) 0 x)) ∧ Below w.heap.size w w' := by
  have HB0 := Lib.hid (below_mk w (.cells #[.int .i64 a] 2))
  have HC := Lib.hid (nodeIndexFunc_any p c w.heap.size a x (w.alloc (.cells #[.int .i64 a] 2)) (h.on HB0.out) hx ((AtL.new w [.int .i64 a] 2).get 0 rfl))
  clear h
  go_enter Try.func72, Try.ntmps72
  go_wp2_with fail
  refine HC.out.mono ?_
  rintro e w1 ⟨rfl, b1⟩
  have HB := Lib.hid (below_on HB0.out b1)
  clear b1
  go_wp2
  go_ret
  exact ⟨rfl, HB.out⟩

end Go.Proofs.Ytbfickdgjgbfhaa
