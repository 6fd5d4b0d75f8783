/- The model's l6Once. -/
import Derived.Test.YtbfickdgjgbfhaaQLySpec1
import Derived.Test.YtbfickdgjgbfhaaQTakesToMem
namespace Go.Proofs.Ytbfickdgjgbfhaa
open Go.RowKit
set_option linter.unusedVariables false

set_option maxRecDepth 100000 in
set_option maxHeartbeats 4000000 in
theorem l6Once_any (x : Ly) (p : Option Addr) (c b : Nat) (w : World) (hx : AtL w b (lyL x p c)) (h : Qs w w.heap.size p x.nodes) (h0 : 0 < x.nodes.length) (h1 : x.nodes.length ≤ 11) (ho : Okay x.nodes) :
    Calls Try.prog 96 #[.pointer (some ⟨b, 0, none⟩)] w fun e w' => e = .returned (.bool (treeB x.nodes)) ∧ Below w.heap.size w w' := by
  obtain ⟨wide, high, ns⟩ := x
  unfold lyL at hx
  dsimp only at *
  have HX := Lib.hid hx
  have H := Lib.hid h
  have HO := Lib.hid ho
  have hm1 := run_make_nums ns.length (by omega) w
  have HST : Hid (∀ W', W' = (w.alloc (.cells ((madeCells #[.int .i64 0] ns.length).setIfInBounds 0 (.int .i64 1)) 2)).alloc (.cells (madeCells #[.int .i64 0] 6) 2) → OnceRel w ns 0 W') := Lib.hid (by
    rintro W' rfl
    have u : OwnN (w.alloc (.cells ((madeCells #[.int .i64 0] ns.length).setIfInBounds 0 (.int .i64 1)) 2)) w.heap.size (.slice (some ⟨w.heap.size, 0, none⟩) ns.length ns.length) (tal ns.length rootOne []) := by
      rw [← tal_root _ h0]
      have hl : ((List.replicate ns.length (0 : Int)).set 0 1).length = ns.length := by simp
      unfold OwnN
      rw [hl, List.map_set, List.map_replicate, ← toList_madeCells_one, ← Array.toList_setIfInBounds]
      exact World.ownsRow_lit w _ ns.length (Nat.le_refl _) (by unfold maxLen; omega) (by rw [Array.size_setIfInBounds, size_madeCells, Nat.mul_one])
    have v := ownN_made (w.alloc (.cells ((madeCells #[.int .i64 0] ns.length).setIfInBounds 0 (.int .i64 1)) 2)) 6 (by omega) (base := w.heap.size) (by simp)
    rw [World.size_alloc] at v
    exact ⟨u.on (below_mk _ _), by simpa [panes, tal_zero] using v, by simp [panes], below_on (below_mk _ _) (below_mk _ _)⟩)
  have hm2 : ∀ W' : World, (Instr.makeSlice 114 (.int .i64 6) (.int .i64 6)).run Try.prog W' = .ok (.slice (some ⟨W'.heap.size, 0, none⟩) 6 6) (W'.alloc (.cells (madeCells #[.int .i64 0] 6) 2)) := fun W' => run_make_nums 6 (by omega) W'
  have hU0 : ∀ o : Obj, (((w.alloc (.cells (madeCells #[.int .i64 0] ns.length) 2)).alloc o).cell? ⟨w.heap.size, 0, none⟩ = some (.int .i64 0)) ∧ (((w.alloc (.cells (madeCells #[.int .i64 0] ns.length) 2)).alloc o).frozen? ⟨w.heap.size, 0, none⟩ = false) := fun o => by
    have := ((ownN_made w ns.length (by omega) (Nat.le_refl _)).on (below_mk _ o)).at 0 (by simpa using h0)
    simpa [List.getD_eq_getElem?_getD, List.getElem?_replicate, h0] using this
  have HU0 := Lib.hid (hU0 (.cells (madeCells #[.int .i64 0] 6) 2))
  obtain ⟨x0, x1, x2⟩ := hx.tri
  have hbl := hx.1
  clear hx h ho hU0
  go_enter Try.func96, Try.ntmps96
  go_upto_region 3 with (fail)
  obtain ⟨hu0, hu1⟩ := HU0.out
  go_upto_region 4 with (fail)
  refine wp_genQ (OnceRel w ns 0) (HST.out _ rfl) (fun W hW => ?_)
  have hWb := hW.below
  obtain ⟨y0, y1, y2⟩ := (HX.out.on hWb).tri
  have HW := Lib.hid hW
  clear hu0 hu1 hm1 hm2 HST HU0 x0 x1 x2 hW hWb
  go_wp2
  go_loopw [5, 6, 22] (fun _ _ i wr => ∃ k : Nat, k ≤ ns.length ∧ i = .int .i64 k ∧ OnceRel w ns k wr) (fun _ _ i _ => ns.length - (intOf i).toNat)
  case atStart => exact ⟨0, by omega, rfl, HW.out⟩
  case round =>
    obtain ⟨k, hk, rfl, hr⟩ := hrel
    clear HW y0 y1 y2
    have HR := Lib.hid hr
    have hrb := hr.below
    obtain ⟨x0, x1, x2⟩ := (HX.out.on hrb).tri
    have hblk : b < wr.heap.size := Nat.lt_of_lt_of_le hbl hrb.size
    by_cases hlt : k < ns.length
    · obtain ⟨bn, off, rfl, _, hbn, hc⟩ := H.out (by intro e; simp [e] at hlt)
      have hqk := hc k hlt
      have HQ := Lib.hid hqk
      obtain ⟨c0, c1, c2, c3, c4⟩ := hqk.below hrb hbn
      have i1 : (k : Int) < (ns.length : Int) := by omega
      have i0 : (0 : Int) ≤ (k : Int) := by omega
      have hok := HO.out k hlt
      have HRB := Lib.hid hrb
      clear hc hr hrb hqk
      cases hs : isSplitB (nth ns k)
      · obtain ⟨g0, -, -, -, g5, g6⟩ := hok.leaf hs
        obtain ⟨pn, hp⟩ := Int.eq_ofNat_of_zero_le g5
        have hp5 : pn ≤ 5 := by omega
        obtain ⟨hsc, hsf⟩ := HR.out.seen.at pn (by rw [tal_len]; omega)
        rw [tal_at 6 _ _ pn (by omega)] at hsc
        have hbd := count_bd (panes (ns.take k)) pn
        have hbd2 := panes_len (ns.take k)
        have hbd3 : (ns.take k).length ≤ k := List.length_take_le _ _
        have hsz := HR.out.seen.lt (w.heap.size + 1) rfl
        have HL := Lib.hid (HR.out.leaf hlt hs pn hp hp5)
        have HD : Hid (¬ (panes (ns.take k)).count (pn : Int) = 0 → treeB ns = false) := Lib.hid (fun hn => twice_not (nodup_take (k := k + 1) (by rw [panes_succ ns k hlt, hs, hp]; exact nodup_less hn)))
        rw [g0] at c0
        rw [hp] at c1
        generalize (panes (ns.take k)).count (pn : Int) = n at *
        have nb : n ≤ 100 := by omega
        clear hok hs g0 g5 g6 hp hbd hbd2 hbd3
        by_cases hn : n = 0
        · subst hn
          have HL2 := Lib.hid (HL.out rfl)
          simp only [Int.zero_add, Int.ofNat_zero] at hsc HL2
          clear HL HD
          go_wp2
          exact ⟨⟨k + 1, by omega, by go_num, HL2.out⟩, by simp [intOf]; omega⟩
        · have n0 : 0 < n := by omega
          have n1 : (0 : Int) < (n : Int) := by omega
          have n2 : (1 : Int) < (n : Int) + 1 := by omega
          simp only [Int.zero_add] at hsc
          have HF := Lib.hid (HD.out hn)
          clear HL HD
          go_wp2
          go_ret
          exact ⟨ret_bool HF.out.symm, HRB.out.setCell (by simp) _⟩
      · obtain ⟨g0, -, g3, g4, g5, g6⟩ := hok.split hs
        obtain ⟨an, ha⟩ := Int.eq_ofNat_of_zero_le (show 0 ≤ (nth ns k).x3 by omega)
        obtain ⟨bb, hb⟩ := Int.eq_ofNat_of_zero_le (show 0 ≤ (nth ns k).x4 by omega)
        have hal : an < ns.length := by omega
        have hbl2 : bb < ns.length := by omega
        obtain ⟨hsc, hsf⟩ := HR.out.used.at an (by rw [tal_len]; omega)
        rw [tal_at _ _ _ an hal] at hsc
        have hbd := count_bd (kids (ns.take k)) an
        have hbd2 := kids_len (ns.take k)
        have hbd3 : (ns.take k).length ≤ k := List.length_take_le _ _
        have hbd4 : rootOne an = 0 ∨ rootOne an = 1 := by unfold rootOne; split <;> simp
        have HL := Lib.hid (HR.out.split hlt hs an bb ha hb hal hbl2)
        have s1 := HR.out.used.stored an (rootOne an + ((kids (ns.take k)).count (an : Int) : Nat) + 1)
        rw [tal_set _ _ _ an hal] at s1
        have s2 := s1.1.at bb (by rw [tal_len]; exact hbl2)
        rw [tal_at _ _ _ bb hbl2] at s2
        have HS2 := Lib.hid s2
        have hbe := count_bd (kids (ns.take k) ++ [(an : Int)]) bb
        have hbe4 : rootOne bb = 0 ∨ rootOne bb = 1 := by unfold rootOne; split <;> simp
        rw [List.length_append, List.length_singleton] at hbe
        have i5 : (an : Int) < (ns.length : Int) := by omega
        have i6 : (bb : Int) < (ns.length : Int) := by omega
        have hk1 : (nth ns k).x0 ≠ 1 := by omega
        have hk2 : ((nth ns k).x0 == 1) = false := by simpa using hk1
        rw [ha] at c3
        rw [hb] at c4
        generalize hu : rootOne an + (((kids (ns.take k)).count (an : Int) : Nat) : Int) = u at *
        generalize hv : rootOne bb + (((kids (ns.take k) ++ [(an : Int)]).count (bb : Int) : Nat) : Int) = v at *
        have u0 : 0 ≤ u := by omega
        have u1 : u ≤ 100 := by omega
        have v0 : 0 ≤ v := by omega
        have v1 : v ≤ 100 := by omega
        clear hok hs g0 g3 g4 g5 g6 hbd hbd2 hbd3 hbd4 hbe hbe4 hu hv s1 s2 hk1
        go_upto_region 13 with (fail)
        refine wp_genQ (fun W => W = wr.setCell ⟨w.heap.size, an, none⟩ (.int .i64 (u + 1))) rfl (fun W hWe => ?_)
        have hWb : Below w.heap.size w W := by rw [hWe]; exact HRB.out.setCell (Nat.le_refl _) _
        obtain ⟨y0, y1, y2⟩ := (HX.out.on hWb).tri
        obtain ⟨d0, d1, d2, d3, d4⟩ := HQ.out.below hWb hbn
        have hs2 := HS2.out
        rw [← hWe] at hs2
        obtain ⟨hsc2, hsf2⟩ := hs2
        have HL2 := Lib.hid HL.out
        rw [← hWe] at HL2
        rw [ha] at d3
        rw [hb] at d4
        have hW0 : b < W.heap.size := Nat.lt_of_lt_of_le hbl hWb.size
        clear HL HS2 hWe hsc hsf c0 c1 c2 c3 c4 x0 x1 x2 ha hb hWb
        go_wp2
        exact ⟨⟨k + 1, by omega, by go_num, HL2.out⟩, by simp [intOf]; omega⟩
    · obtain rfl : k = ns.length := by omega
      have HB := Lib.hid hr.below
      have hu := hr.used
      have HN := Lib.hid hr.once
      rw [List.take_length] at hu HN
      have HU := Lib.hid hu
      clear hr hu HR
      go_wp2
      go_loop [7, 74] (fun _ i => ∃ j : Nat, j ≤ ns.length ∧ i = .int .i64 j ∧ ∀ t, t < j → rootOne t + (((kids ns).count (t : Int) : Nat) : Int) = 1) (fun _ i => ns.length - (intOf i).toNat)
      case atStart => exact ⟨0, by omega, rfl, fun t ht => by omega⟩
      case round =>
        obtain ⟨j, hj, rfl, ht⟩ := hrel
        have HT := Lib.hid ht
        clear ht
        by_cases hlt2 : j < ns.length
        · have hcell := (HU.out.at j (by rw [tal_len]; exact hlt2)).1
          rw [tal_at _ _ _ _ hlt2] at hcell
          have HE := Lib.hid (fun h => once_not HO.out hlt2 h)
          have i1 : (j : Int) < (ns.length : Int) := by omega
          have i0 : (0 : Int) ≤ (j : Int) := by omega
          generalize hv : rootOne j + (((kids ns).count (j : Int) : Nat) : Int) = v at *
          have HV := Lib.hid hv
          clear hv
          cases hv1 : (v != 1)
          · go_wp2
            exact ⟨⟨j + 1, by omega, by go_num, fun t ht => by
              by_cases e : t = j
              · subst e; rw [HV.out]; simpa using hv1
              · exact HT.out t (by omega)⟩, by simp [intOf]; omega⟩
          · go_wp2
            go_ret
            exact ⟨ret_bool (HE.out (by simpa using hv1)).symm, HB.out⟩
        · obtain rfl : j = ns.length := by omega
          go_wp2
          go_ret
          exact ⟨ret_bool (once_end HO.out HN.out HT.out).symm, HB.out⟩

end Go.Proofs.Ytbfickdgjgbfhaa
