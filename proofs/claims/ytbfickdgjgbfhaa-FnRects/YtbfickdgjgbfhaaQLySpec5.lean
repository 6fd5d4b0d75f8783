/- The model's l6All and LayoutFault. -/
import Derived.Test.YtbfickdgjgbfhaaQLySpec4ToLyDr1
import Derived.Test.YtbfickdgjgbfhaaQLySpec2
namespace Go.Proofs.Ytbfickdgjgbfhaa
open Go.RowKit
set_option linter.unusedVariables false


set_option maxRecDepth 100000 in
set_option maxHeartbeats 4000000 in
theorem l6All_any (x : Ly) (p : Option Addr) (c b : Nat) (w : World) (h : LyAt w b x p c) (h0 : 0 < x.nodes.length) (h1 : x.nodes.length ≤ 11) (ho : Okay x.nodes) (hw : inR x.wide 1 200 = true) (hh : inR x.high 1 200 = true) :
    Calls Try.prog 75 #[.pointer (some ⟨b, 0, none⟩)] w (RcPost w (lyRects x) (lyFits x)) := by
  have hbl := h.cells.1
  obtain ⟨hw0, hw1⟩ := inR_iff.1 hw
  obtain ⟨hh0, hh1⟩ := inR_iff.1 hh
  have HR := Lib.hid (fun W h => l6Rects_any x p c h1 ho x.nodes.length 0 (whole x.wide x.high) b W (by omega) (by omega) h0 h (by unfold RcBd whole; simp only; omega))
  have HM := Lib.hid (fun W' (hb' : Below w.heap.size w W') => h.on hb')
  unfold whole at HR
  dsimp only at HR
  clear h
  go_enter Try.func75, Try.ntmps75
  go_wp2
  refine wp_region_noPanic ?_
  refine wp_region_held_drew (S := fun W' => Below (w).heap.size (w) W') (by kernel_rfl) (below_drewN (Below.refl _ _) 1) (fun hHeld => ?_)
  refine takeA 0 4 (.pointer (some ⟨b, 0, none⟩)) hHeld ?_
  simp only [Act.put, sa, s0, ss]
  refine takeA 1 5 (.pointer (some ⟨b, 0, none⟩)) hHeld ?_
  simp only [Act.put, sa, s0, ss]
  refine takeB 2 6 (.pointer (some ⟨b, 0, none⟩)) (fun w o hSw ho => ?_) hHeld ?_
  · obtain rfl := Option.some.inj ho; (have hb2 := (HM.out _ hSw).cells.1; go_simp)
  simp only [Act.put, sa, s0, ss]
  refine takeA 3 7 (.pointer (some ⟨b, 0, none⟩)) hHeld ?_
  simp only [Act.put, sa, s0, ss]
  refine takeB 4 8 (.int .i64 x.wide) (fun w o hSw ho => ?_) hHeld ?_
  · obtain rfl := Option.some.inj ho; (obtain ⟨d0, d1, d2⟩ := (HM.out _ hSw).cells.tri; go_simp)
  simp only [Act.put, sa, s0, ss]
  refine takeA 5 9 (.pointer (some ⟨b, 0, none⟩)) hHeld ?_
  simp only [Act.put, sa, s0, ss]
  refine takeB 6 10 (.pointer (some ⟨b, 0, none⟩)) (fun w o hSw ho => ?_) hHeld ?_
  · obtain rfl := Option.some.inj ho; (have hb2 := (HM.out _ hSw).cells.1; go_simp)
  simp only [Act.put, sa, s0, ss]
  refine takeA 7 11 (.pointer (some ⟨b, 1, none⟩)) hHeld ?_
  simp only [Act.put, sa, s0, ss]
  refine takeB 8 12 (.int .i64 x.high) (fun w o hSw ho => ?_) hHeld ?_
  · obtain rfl := Option.some.inj ho; (obtain ⟨d0, d1, d2⟩ := (HM.out _ hSw).cells.tri; go_simp)
  simp only [Act.put, sa, s0, ss]
  refine takeA 9 13 (.agg #[.int .i64 0, .int .i64 0, .int .i64 0, .int .i64 x.wide, .int .i64 x.high]) hHeld ?_
  simp only [Act.put, sa, s0, ss]
  refine oneR 10 (by kernel_rfl) (by kernel_rfl) (fun o ho K' hK => ?_)
  obtain rfl := Option.some.inj ho
  clear ho
  go_simp
  refine (HR.out _ (HM.out _ hHeld)).mono ?_
  rintro e w3 ⟨va, rfl, oa, b3⟩
  have hc3 := below_on hHeld b3
  have HO := Lib.hid (oa.lower (base' := w.heap.size) hHeld.size)
  clear oa b3 HM HR hHeld
  go_wp2_with fail
  refine hK.out _ _ (hc3) (fun hHeld => ?_)
  clear hK K'
  try simp only [Act.put, sa, s0, ss]
  refine takeA 11 15 (va) hHeld ?_
  simp only [Act.put, sa, s0, ss]
  refine takeA 12 16 (.bool (rcOf x.nodes x.nodes.length 0 ⟨0, 0, 0, x.wide, x.high⟩).2) hHeld ?_
  simp only [Act.put, sa, s0, ss]
  refine takeA 13 2 (va) hHeld ?_
  simp only [Act.put, sa, s0, ss]
  refine takeA 14 3 (.bool (rcOf x.nodes x.nodes.length 0 ⟨0, 0, 0, x.wide, x.high⟩).2) hHeld ?_
  simp only [Act.put, sa, s0, ss]
  refine wpAnyH_done (by kernel_rfl) ?_ _
  refine NoPanic.normal ?_
  clear hHeld
  go_wp2
  go_ret2
  exact ⟨_, rfl, HO.out, hc3⟩

theorem ndsFault_drop (m : Int) (ns : List Q) (k : Nat) (h : k < ns.length) : ndsFault m k (ns.drop k) = if ndFault (nth ns k) k m = 0 then ndsFault m (k + 1) (ns.drop (k + 1)) else ndFault (nth ns k) k m := by
  conv => lhs; rw [List.drop_eq_getElem_cons h, ndsFault]
  rw [nth_eq h]

theorem lyFault_many {x : Ly} (h : inR x.nodes.length 1 11 = false) : lyFault x = 2 := by unfold lyFault; rw [h]; simp
theorem lyFault_size {x : Ly} (h : inR x.nodes.length 1 11 = true) (h2 : ¬ (inR x.wide 1 200 = true ∧ inR x.high 1 200 = true)) : lyFault x = 3 := by unfold lyFault; rw [if_pos h, if_neg h2]
theorem lyFault_node {x : Ly} (h : inR x.nodes.length 1 11 = true) (h2 : inR x.wide 1 200 = true ∧ inR x.high 1 200 = true) (h3 : ¬ ndsFault x.nodes.length 0 x.nodes = 0) : lyFault x = ndsFault x.nodes.length 0 x.nodes := by unfold lyFault; rw [if_pos h, if_pos h2, if_neg h3]
theorem lyFault_tree {x : Ly} (h : inR x.nodes.length 1 11 = true) (h2 : inR x.wide 1 200 = true ∧ inR x.high 1 200 = true) (h3 : ndsFault x.nodes.length 0 x.nodes = 0) (h4 : treeB x.nodes = false) : lyFault x = 7 := by unfold lyFault; rw [if_pos h, if_pos h2, if_pos h3, h4]; simp
theorem lyFault_fits {x : Ly} (h : inR x.nodes.length 1 11 = true) (h2 : inR x.wide 1 200 = true ∧ inR x.high 1 200 = true) (h3 : ndsFault x.nodes.length 0 x.nodes = 0) (h4 : treeB x.nodes = true) : lyFault x = if lyFits x = true then 0 else 3 := by unfold lyFault; rw [if_pos h, if_pos h2, if_pos h3, if_pos h4]

set_option maxRecDepth 100000 in
set_option maxHeartbeats 4000000 in
theorem specLayoutFault_any (x : Ly) (p : Option Addr) (c : Nat) (w : World) (h : Qs w w.heap.size p x.nodes) (hl : x.nodes.length ≤ 1048576) :
    Calls Try.prog 51 #[.agg #[.int .i64 x.wide, .int .i64 x.high, .slice p x.nodes.length c]] w fun e w' => e = .returned (.int .i64 (lyFault x)) ∧ Below w.heap.size w w' := by
  have hX := LyAt.new w x p c 28 h
  unfold lyL at hX
  have HX := Lib.hid hX
  clear h hX
  cases hm : inR x.nodes.length 1 11
  · rw [lyFault_many hm]
    have hm' : ¬ (1 ≤ (x.nodes.length : Int) ∧ (x.nodes.length : Int) ≤ 11) := fun h' => by rw [inR_iff.2 h'] at hm; cases hm
    by_cases h0 : x.nodes.length < 1
    · obtain ⟨wide, high, ns⟩ := x
      obtain rfl : ns = [] := List.eq_nil_of_length_eq_zero (by simpa using h0)
      clear hm hm' h0 hl
      go_enter Try.func51, Try.ntmps51
      go_wp2
      go_ret
      exact ⟨rfl, below_mk _ _⟩
    · have h1 : 11 < x.nodes.length := by omega
      have h2 : (1 : Int) ≤ (x.nodes.length : Int) := by omega
      have h3 : ¬ (x.nodes.length : Int) < 1 := by omega
      clear hm hm'
      go_enter Try.func51, Try.ntmps51
      go_wp2
      go_ret
      exact ⟨rfl, below_mk _ _⟩
  obtain ⟨m0, m1⟩ := inR_iff.1 hm
  have n0 : ¬ x.nodes.length < 1 := by omega
  have n1 : ¬ 11 < x.nodes.length := by omega
  have n2 : 0 < x.nodes.length := by omega
  have n3 : ¬ (x.nodes.length : Int) < 1 := by omega
  cases hw : inR x.wide 1 200
  · rw [lyFault_size hm (by rw [hw]; simp)]
    go_enter Try.func51, Try.ntmps51
    go_wp2_with (go_at_call 52; refine (l1In_any _ _ _ _).mono ?_; rw [hw]; rintro e w' ⟨rfl, rfl⟩)
    go_ret
    exact ⟨rfl, below_mk _ _⟩
  cases hh : inR x.high 1 200
  · rw [lyFault_size hm (by rw [hh]; simp)]
    go_enter Try.func51, Try.ntmps51
    go_wp2_with (go_at_call 52; refine (l1In_any _ _ _ _).mono ?_; (first | rw [hw] | rw [hh]); rintro e w' ⟨rfl, rfl⟩)
    go_ret
    exact ⟨rfl, below_mk _ _⟩
  go_enter Try.func51, Try.ntmps51
  go_wp2_with (go_at_call 52; refine (l1In_any _ _ _ _).mono ?_; (first | rw [hw] | rw [hh]); rintro e w' ⟨rfl, rfl⟩)
  have HL := HX
  have HBL := Lib.hid (below_mk w (.cells #[.int .i64 x.wide, .int .i64 x.high, .slice p x.nodes.length c] 28))
  refine wp_genQ (fun W => LyAt W w.heap.size x p c ∧ Below w.heap.size w W) ⟨HL.out, HBL.out⟩ (fun W0 hW0 => ?_)
  have HW0 := Lib.hid hW0
  clear hW0 HX HL HBL
  go_loopw [3, 4, 30] (fun _ _ i wr => ∃ k : Nat, k ≤ x.nodes.length ∧ i = .int .i64 k ∧ ndsFault x.nodes.length 0 x.nodes = ndsFault x.nodes.length k (x.nodes.drop k) ∧ LyAt wr w.heap.size x p c ∧ Below w.heap.size w wr) (fun _ _ i _ => x.nodes.length - (intOf i).toNat)
  case atStart => exact ⟨0, by omega, rfl, by simp, HW0.out.1, HW0.out.2⟩
  case round =>
    obtain ⟨k, hk, rfl, hn, hX, hB⟩ := hrel
    have HN := Lib.hid hn
    have HX := Lib.hid hX
    have HB := Lib.hid hB
    clear hn hX hB HW0
    by_cases hlt : k < x.nodes.length
    · obtain ⟨bn, off, rfl, hbn, hq⟩ := HX.out.node k hlt
      obtain ⟨-, -, x2⟩ := HX.out.cells.tri
      have HS := Lib.hid (ndsFault_drop x.nodes.length x.nodes k hlt)
      have HC := Lib.hid (fun n => l6Node_any (nth x.nodes k) bn (off + k * 5) k x.nodes.length (wr.drewN n) (hq.keep fun _ => rfl) (by omega) (by omega) |>.mono fun _ _ h => And.intro h.1 h.2.symm)
      have i1 : (k : Int) < (x.nodes.length : Int) := by omega
      have i0 : (0 : Int) ≤ (k : Int) := by omega
      have i3 : ((k : Nat) : Int).toNat = k := by simp
      clear hq
      by_cases hf : ndFault (nth x.nodes k) k x.nodes.length = 0
      · rw [hf] at HC
        go_wp2
        go_quiet ((go_at_call 95; exact Calls.quiet_of_same (HC.out _)))
        clear x2 i3
        go_wp2
        exact ⟨⟨k + 1, by omega, by go_num, by rw [HN.out, HS.out, if_pos hf], HX.out.on (below_drewN (Below.refl _ _) _), below_drewN HB.out _⟩, by simp [intOf]; omega⟩
      · have HR : Hid (lyFault x = ndFault (nth x.nodes k) k x.nodes.length) := Lib.hid (by
          have e : ndsFault x.nodes.length 0 x.nodes = ndFault (nth x.nodes k) k x.nodes.length := by rw [HN.out, HS.out, if_neg hf]
          rw [lyFault_node hm ⟨hw, hh⟩ (by rw [e]; exact hf), e])
        have hf2 : (ndFault (nth x.nodes k) k x.nodes.length != 0) = true := by simpa using hf
        clear hf HS
        generalize ndFault (nth x.nodes k) k x.nodes.length = q at *
        go_wp2
        go_quiet ((go_at_call 95; exact Calls.quiet_of_same (HC.out _)))
        clear x2 i3
        go_wp2
        go_ret
        exact ⟨ret_int HR.out.symm, below_drewN HB.out _⟩
    · obtain rfl : k = x.nodes.length := by omega
      have hz : ndsFault x.nodes.length 0 x.nodes = 0 := by rw [HN.out, List.drop_length]; rfl
      have hok := okay_of hz
      have HT := Lib.hid (fun h => lyFault_tree hm ⟨hw, hh⟩ hz h)
      have HF := Lib.hid (fun h => lyFault_fits hm ⟨hw, hh⟩ hz h)
      have HO := Lib.hid hok
      clear HN hz hok hlt
      go_wp2_with fail
      refine (l6Once_any x p c w.heap.size wr HX.out.cells HX.out.nodes n2 (by omega) HO.out).mono ?_
      rintro e w1 ⟨rfl, b1⟩
      have HX1 := Lib.hid (HX.out.on b1)
      have HB1 := Lib.hid (below_on HB.out b1)
      clear b1 HX HB
      cases ht : treeB x.nodes
      · go_wp2
        go_ret
        exact ⟨ret_int (HT.out ht).symm, HB1.out⟩
      · have hres := HF.out ht
        have HRS := Lib.hid hres
        clear hres
        go_wp2_with fail
        refine (l6All_any x p c w.heap.size w1 HX1.out n2 (by omega) HO.out hw hh).mono ?_
        rintro e w2 ⟨va, rfl, oa, b2⟩
        have HB2 := Lib.hid (below_on HB1.out b2)
        clear b2 oa
        cases hfit : lyFits x
        all_goals
          go_wp2
          go_ret
          exact ⟨ret_int (by rw [HRS.out, hfit]; simp), HB2.out⟩

end Go.Proofs.Ytbfickdgjgbfhaa
