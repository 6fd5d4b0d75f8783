/- Lists of nodes in the program's layout edits: slices.Clone, slices.Grow of nil, slices.Concat, layoutResult. -/
import Derived.Test.YtbfickdgjgbfhaaQLySpec4ToLyDr1
import Derived.Lib.AppendZerosOnto
import Derived.Lib.SliceRun
namespace Go.Proofs.Ytbfickdgjgbfhaa
open Go.RowKit
set_option linter.unusedVariables false
set_option linter.unusedSimpArgs false

/-- rows in memory of the call's own -/
def NewL (W : World) (l : List Q) (e : Ending) (W' : World) : Prop := ∃ v, e = .returned v ∧ OwnQ 76 W' W.heap.size v l ∧ Below W.heap.size W W'

theorem nth_take (l : List Q) (k i : Nat) (h : i < k) : nth (l.take k) i = nth l i := by simp [nth, List.getD_eq_getElem?_getD, List.getElem?_take, h]
theorem Qx.take {w : World} {lo hi : Nat} {p : Option Addr} {l : List Q} (h : Qx w lo hi p l) (k : Nat) : Qx w lo hi p (l.take k) := fun hne => by
  obtain ⟨b, off, e, h1, h2, hc⟩ := h (by rintro rfl; simp at hne)
  refine ⟨b, off, e, h1, h2, fun i hi => ?_⟩
  have hi2 : i < k ∧ i < l.length := by simp [List.length_take] at hi; omega
  rw [nth_take l k i hi2.1]; exact hc i hi2.2
theorem Qx.drop {w : World} {lo hi b off : Nat} {l : List Q} (h : Qx w lo hi (some ⟨b, off, none⟩) l) (k : Nat) : Qx w lo hi (some ⟨b, off + k * 5, none⟩) (l.drop k) := fun hne => by
  obtain ⟨b', off', e, h1, h2, hc⟩ := h (by rintro rfl; simp at hne)
  simp only [Option.some.injEq, Addr.mk.injEq] at e
  obtain ⟨rfl, rfl, -⟩ := e
  refine ⟨b, off + k * 5, rfl, h1, h2, fun i hi => ?_⟩
  rw [nth_drop, show off + k * 5 + i * 5 = off + (k + i) * 5 by omega]
  simp only [List.length_drop] at hi
  exact hc (k + i) (by omega)

set_option maxRecDepth 100000 in
set_option maxHeartbeats 4000000 in
theorem cloneNodes_any (l : List Q) (ad : Addr) (c : Nat) (w : World) (hq : Qs w w.heap.size (some ad) l) (hl : l.length ≤ 1000) :
    Calls Try.prog 102 #[.slice (some ad) l.length c] w (NewL w l) := by
  obtain ⟨i0, hi, hz0, hz1, hz2⟩ := info_parts Try.info_nodeD
  have HI := Lib.hid (And.intro hi (And.intro hz0 (And.intro hz1 hz2)))
  clear hi hz0 hz1 hz2
  have HB := Lib.hid (below_mk w (.cells #[] 76))
  have HQ := Lib.hid (qs_cells (hq.on HB.out))
  have O2 := World.ownsRow_made (e := 76) (size := 5) (base := w.heap.size) w #[] 0 (Nat.le_refl _) (by simp [maxLen]) (by simp)
  have HO := Lib.hid O2
  have q22 : ∀ (w : World), (binOp .eql 26 (.slice (some ad) l.length c) (.slice none 0 0)).run Try.prog w = .ok (.bool false) w := fun w => Lib.run_eql_slice_nil w _ _ _ _ _ _ _ Try.underlying26
  clear O2 hq
  go_enter Try.func102, Try.ntmps102
  go_wp2_with (at_builtin; refine wpList_append_own _ rfl _ _ 26 rfl w.heap.size 76 i0 _ 5 40 Try.underlying26 HI.out.1 HI.out.2.1 HI.out.2.2.1 HI.out.2.2.2 rfl (by decide) _ _ _ rfl HO.out ad l.length c (l.flatMap qC) rfl (flatQ_len _) HQ.out (flatQ_one _) (by unfold maxLen; omega) (by omega) (by simp) ?_; intro v' w3 hown hgrow _)
  have ho : OwnQ 76 w3 w.heap.size v' l := by unfold OwnQ; simpa using hown
  have hb : Below w.heap.size w w3 := HB.out.trans (below_of_grown hgrow HB.out.size (fun g hg => (World.ownsRow.lt HO.out g hg).1))
  go_ret
  exact ⟨_, rfl, ho, hb⟩

set_option maxRecDepth 100000 in
set_option maxHeartbeats 4000000 in
theorem growNodes_nil (n : Nat) (w : World) (h0 : 0 < n) (hn : n ≤ 1000) :
    Calls Try.prog 114 #[.slice none 0 0, .int .i64 n] w (NewL w []) := by
  obtain ⟨i0, hi, hz0, hz1, hz2⟩ := info_parts Try.info_nodeD
  have hgrow := Lib.run_append_grow_zeros (P := Try.prog) w 26 3 26 76 i0 _ .i64 .i64 Try.underlying26 Try.underlying3 hi hz0 none 0 0 [] (run_firstCells_none w.drew i0.size 0 0 0) n h0 (by omega) (by omega) (by omega) (by rw [hz2]; omega)
    (growslice_fits (by omega) (by rw [hz2]; omega))
  simp only [Nat.zero_add] at hgrow
  have hge : n ≤ grownCap w n 0 76 := grownCap_ge w _ _ _
  have hmx := grownCap_le_maxLen w n 0 76 (by unfold maxLen; omega)
  generalize grownCap w n 0 76 = G at *
  have hO := World.ownsRow_made (e := 76) (size := 5) (base := w.heap.size) w.drew ((#[] : Array Value) ++ Builtin.zeroCells (Value.agg #[.int .i64 0, .int .i64 0, .int .i64 0, .int .i64 0, .int .i64 0]).cells n ++ Builtin.zeroCells (Value.agg #[.int .i64 0, .int .i64 0, .int .i64 0, .int .i64 0, .int .i64 0]).cells (G - n)) G (by simp) hmx (by
      have : (Value.agg #[.int .i64 0, .int .i64 0, .int .i64 0, .int .i64 0, .int .i64 0]).cells.size = 5 := rfl
      simp only [Array.size_append, size_zeroCells, this]
      simp; omega)
  have HO := Lib.hid hO
  have HB : Hid (Below w.heap.size w (w.drew.alloc (.cells ((#[] : Array Value) ++ Builtin.zeroCells (Value.agg #[.int .i64 0, .int .i64 0, .int .i64 0, .int .i64 0, .int .i64 0]).cells n ++ Builtin.zeroCells (Value.agg #[.int .i64 0, .int .i64 0, .int .i64 0, .int .i64 0, .int .i64 0]).cells (G - n)) 76))) := Lib.hid (below_on (below_drewN (Below.refl _ _) 1) (below_mk _ _))
  have hG0 : ¬ G = 0 := by omega
  have hG1 : ¬ 0 = G := by omega
  have hmx2 : G ≤ 9223372036854775807 := by unfold maxLen at hmx; omega
  generalize hcur : ((#[] : Array Value) ++ Builtin.zeroCells (Value.agg #[.int .i64 0, .int .i64 0, .int .i64 0, .int .i64 0, .int .i64 0]).cells n ++ Builtin.zeroCells (Value.agg #[.int .i64 0, .int .i64 0, .int .i64 0, .int .i64 0, .int .i64 0]).cells (G - n)) = cur at *
  have hgrow' := hgrow
  simp only [List.toArray, hcur] at hgrow
  have h1 : ¬ ((n : Int) < 0) := by omega
  have h2 : (n : Int) > 0 := by omega
  clear hcur hO hgrow' hi hz0 hz1 hz2
  go_enter Try.func114, Try.ntmps114
  go_wp2_with (at_builtin; refine Lib.wpList_append_run _ rfl _ _ _ _ rfl _ _ rfl rfl _ _ hgrow ?_)
  all_goals go_ret
  all_goals exact ⟨_, rfl, HO.out, HB.out⟩

/-- lists that lie side by side -/
structure Seg where
  ad : Addr
  cap : Nat
  rows : List Q
def rowsOf (L : List Seg) : List Q := L.flatMap Seg.rows
theorem rowsOf_take (L : List Seg) (j : Nat) (h : j < L.length) : rowsOf (L.take (j + 1)) = rowsOf (L.take j) ++ L[j].rows := by
  unfold rowsOf
  rw [List.take_succ_eq_append_getElem h, List.flatMap_append]
  simp
theorem rowsOf_le (L : List Seg) (j : Nat) : (rowsOf (L.take j)).length ≤ (rowsOf L).length := by
  conv => rhs; rw [← List.take_append_drop j L]
  unfold rowsOf
  rw [List.flatMap_append, List.length_append]; omega

set_option maxRecDepth 100000 in
set_option maxHeartbeats 4000000 in
theorem concatNodes_any (gs c : Nat) (L : List Seg) (w : World) (hg : gs < w.heap.size) (hL : L.length ≤ 10) (hcell : ∀ j (h : j < L.length), w.cell? ⟨gs, j, none⟩ = some (.slice (some L[j].ad) L[j].rows.length L[j].cap))
    (hq : ∀ j (h : j < L.length), Qs w w.heap.size (some L[j].ad) L[j].rows) (h0 : 0 < (rowsOf L).length) (hn : (rowsOf L).length ≤ 100) :
    Calls Try.prog 101 #[.slice (some ⟨gs, 0, none⟩) L.length c] w (NewL w (rowsOf L)) := by
  have HCELL := Lib.hid (fun W' (hb : Below w.heap.size w W') j (h : j < L.length) => (hb.cell (p := ⟨gs, j, none⟩) hg).trans (hcell j h))
  have HQ := Lib.hid (fun W' (hb : Below w.heap.size w W') j (h : j < L.length) => qs_cells ((hq j h).on hb))
  have HG := Lib.hid (fun W => growNodes_nil (rowsOf L).length W h0 (by omega))
  obtain ⟨i0, hi, hz0, hz1, hz2⟩ := info_parts Try.info_nodeD
  have HI := Lib.hid (And.intro hi (And.intro hz0 (And.intro hz1 hz2)))
  clear hcell hq hi hz0 hz1 hz2
  go_enter Try.func101, Try.ntmps101
  go_wp2
  go_loop [3, 5, 11] (fun s _ i => ∃ j : Nat, j ≤ L.length ∧ i = .int .i64 j ∧ s = .int .i64 ((rowsOf (L.take j)).length : Int)) (fun _ _ i => L.length - (intOf i).toNat)
  case atStart => exact ⟨0, by omega, rfl, rfl⟩
  case round =>
    obtain ⟨j, hj, rfl, rfl⟩ := hrel
    by_cases hlt : j < L.length
    · have hc := HCELL.out w (Below.refl _ _) j hlt
      have HS := Lib.hid (rowsOf_take L j hlt)
      have hle := rowsOf_le L (j + 1)
      have i1 : (j : Int) < (L.length : Int) := by omega
      have i0 : (0 : Int) ≤ (j : Int) := by omega
      rw [HS.out, List.length_append] at hle
      generalize L[j] = sg at *
      have hnn : ¬ ((((rowsOf (L.take j)).length : Nat) : Int) + ((sg.rows.length : Nat) : Int) < 0) := by omega
      generalize hr : rowsOf (L.take j) = r at *
      go_wp2
      exact ⟨⟨j + 1, by omega, by go_num, by rw [HS.out, List.length_append]; go_num⟩, by simp [intOf]; omega⟩
    · obtain rfl : j = L.length := by omega
      rw [List.take_length]
      go_wp2_with fail
      refine (HG.out w).mono ?_
      rintro e w1 ⟨v, rfl, ov, b1⟩
      have HV := Lib.hid ov
      have HB := Lib.hid b1
      obtain ⟨p1, c1, rfl⟩ := ov.slice
      clear ov b1
      go_wp2
      go_loopw [6, 8, 27] (fun v _ i wr => ∃ j : Nat, j ≤ L.length ∧ i = .int .i64 j ∧ OwnQ 76 wr w.heap.size v (rowsOf (L.take j)) ∧ Below w.heap.size w wr) (fun _ _ i _ => L.length - (intOf i).toNat)
      case atStart => exact ⟨0, by omega, rfl, HV.out, HB.out⟩
      case round =>
        obtain ⟨k, hk, rfl, ho, hb⟩ := hrel
        have HO := Lib.hid ho
        have HB2 := Lib.hid hb
        clear ho hb
        by_cases hlt2 : k < L.length
        · have hc := HCELL.out wr HB2.out k hlt2
          have hqc := Lib.hid (HQ.out wr HB2.out k hlt2)
          have HS := Lib.hid (rowsOf_take L k hlt2)
          have hle := rowsOf_le L (k + 1)
          have i1 : (k : Int) < (L.length : Int) := by omega
          have i0 : (0 : Int) ≤ (k : Int) := by omega
          have hsz := HB2.out.size
          rw [HS.out, List.length_append] at hle
          generalize L[k] = sg at *
          go_wp2_with (at_builtin; refine wpList_append_own _ rfl _ _ 26 rfl w.heap.size 76 _ _ 5 40 Try.underlying26 HI.out.1 HI.out.2.1 HI.out.2.2.1 HI.out.2.2.2 rfl (by decide) _ _ _ rfl HO.out sg.ad sg.rows.length sg.cap (sg.rows.flatMap qC) rfl (flatQ_len _) hqc.out (flatQ_one _) (by unfold maxLen; omega) (by omega) hsz ?_; intro v' w3 hown hgrow _)
          have ho : OwnQ 76 w3 w.heap.size v' (rowsOf (L.take (k + 1))) := by rw [HS.out]; unfold OwnQ; rw [List.length_append, List.flatMap_append]; exact hown
          have hb : Below w.heap.size w w3 := HB2.out.trans (below_of_grown hgrow HB2.out.size (fun g hg => (World.ownsRow.lt HO.out g hg).1))
          exact ⟨⟨k + 1, by omega, by go_num, ho, hb⟩, by simp [intOf]; omega⟩
        · obtain rfl : k = L.length := by omega
          rw [List.take_length] at HO
          go_wp2
          go_ret
          exact ⟨_, rfl, HO.out, HB2.out⟩

def lrV (k : Int) (x : Ly) (v : Value) : Value := .agg #[.int .i64 k, .int .i64 x.wide, .int .i64 x.high, v]
end Go.Proofs.Ytbfickdgjgbfhaa
