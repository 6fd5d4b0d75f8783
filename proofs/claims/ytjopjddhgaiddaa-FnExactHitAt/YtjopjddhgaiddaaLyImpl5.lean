/- The program's LayoutFault. -/
import Derived.Test.YtjopjddhgaiddaaLyImpl4
import Derived.Test.YtjopjddhgaiddaaLyImpl2
import Derived.Test.YtjopjddhgaiddaaLySpec5
namespace Go.Proofs.Ytjopjddhgaiddaa
open Go.RowKit
set_option linter.unusedVariables false

set_option maxRecDepth 100000 in
set_option maxHeartbeats 4000000 in
theorem implLayoutFault_any (x : Ly) (p : Option Addr) (c : Nat) (w : World) (h : Qs w w.heap.size p x.nodes) (hl : x.nodes.length ≤ 1048576) :
    Calls Try.prog 16 #[.agg #[.int .i64 x.wide, .int .i64 x.high, .slice p x.nodes.length c]] w fun e w' => e = .returned (.int .i64 (lyFault x)) ∧ Below w.heap.size w w' := by
  have hX := LyAt.new w x p c 29 h
  unfold lyL at hX
  have HX := Lib.hid hX
  have B1 := Lib.hid (fun o => below_mk w o)
  have B2 := Lib.hid (fun o1 o2 => below_on (below_mk w o1) (below_mk (w.alloc o1) o2))
  have B3 := Lib.hid (fun o1 o2 o3 => below_on (below_on (below_mk w o1) (below_mk (w.alloc o1) o2)) (below_mk ((w.alloc o1).alloc o2) o3))
  have B4 := Lib.hid (fun o1 o2 o3 o4 => below_on (below_on (below_on (below_mk w o1) (below_mk (w.alloc o1) o2)) (below_mk ((w.alloc o1).alloc o2) o3)) (below_mk (((w.alloc o1).alloc o2).alloc o3) o4))
  clear h hX
  cases hm : inR x.nodes.length 1 11
  · rw [lyFault_many hm]
    go_enter Try.func16, Try.ntmps16
    go_wp2_with (go_at_call 44; refine (isWithin_two _ _ _ _ _ _ (by simp)).mono ?_; rw [hm]; rintro e w' ⟨rfl, rfl⟩)
    go_ret
    exact ⟨rfl, B2.out _ _⟩
  obtain ⟨m0, m1⟩ := inR_iff.1 hm
  have n2 : 0 < x.nodes.length := by omega
  cases hw : inR x.wide 1 200
  · rw [lyFault_size hm (by rw [hw]; simp)]
    go_enter Try.func16, Try.ntmps16
    go_wp2_with (go_at_call 44; refine (isWithin_two _ _ _ _ _ _ (by simp)).mono ?_; (first | rw [hm] | rw [hw]); rintro e w' ⟨rfl, rfl⟩)
    go_ret
    exact ⟨rfl, B3.out _ _ _⟩
  cases hh : inR x.high 1 200
  · rw [lyFault_size hm (by rw [hh]; simp)]
    go_enter Try.func16, Try.ntmps16
    go_wp2_with (go_at_call 44; refine (isWithin_two _ _ _ _ _ _ (by simp)).mono ?_; (first | rw [hm] | rw [hw] | rw [hh]); rintro e w' ⟨rfl, rfl⟩)
    go_ret
    exact ⟨rfl, B4.out _ _ _ _⟩
  have HBX := Lib.hid (fun o2 o3 o4 => And.intro (HX.out.on (below_on (below_on (below_mk _ o2) (below_mk _ o3)) (below_mk _ o4))) (B4.out (.cells #[.int .i64 x.wide, .int .i64 x.high, .slice p x.nodes.length c] 29) o2 o3 o4))
  go_enter Try.func16, Try.ntmps16
  go_wp2_with (go_at_call 44; refine (isWithin_two _ _ _ _ _ _ (by simp)).mono ?_; (first | rw [hm] | rw [hw] | rw [hh]); rintro e w' ⟨rfl, rfl⟩)
  refine wp_genQ (fun W => LyAt W w.heap.size x p c ∧ Below w.heap.size w W) (HBX.out _ _ _) (fun W0 hW0 => ?_)
  have HW0 := Lib.hid hW0
  clear hW0 HX B1 B2 B3 B4 HBX
  go_loopw [4, 5, 6, 31] (fun _ _ _ i wr => ∃ k : Nat, k ≤ x.nodes.length ∧ i = .int .i64 k ∧ ndsFault x.nodes.length 0 x.nodes = ndsFault x.nodes.length k (x.nodes.drop k) ∧ LyAt wr w.heap.size x p c ∧ Below w.heap.size w wr) (fun _ _ _ i _ => x.nodes.length - (intOf i).toNat)
  case atStart => exact ⟨0, by omega, rfl, by simp, HW0.out.1, HW0.out.2⟩
  case round =>
    obtain ⟨k, hk, rfl, hn, hX, hB⟩ := hrel
    have HN := Lib.hid hn
    have HX := Lib.hid hX
    have HB := Lib.hid hB
    clear hn hX hB HW0
    by_cases hlt : k < x.nodes.length
    · obtain ⟨bn, off, rfl, hbn, hq⟩ := HX.out.node k hlt
      obtain ⟨c0, c1, c2, c3, c4⟩ := hq
      have HS := Lib.hid (ndsFault_drop x.nodes.length x.nodes k hlt)
      have i1 : (k : Int) < (x.nodes.length : Int) := by omega
      have i0 : (0 : Int) ≤ (k : Int) := by omega
      have HC := Lib.hid (fun W => nodeFault_any (nth x.nodes k) k x.nodes.length W (by omega) (by omega))
      go_wp2_with fail
      refine (HC.out _).mono ?_
      rintro e w1 ⟨rfl, b1⟩
      have hb1 := below_on (below_mk wr _) b1
      have HX1 := Lib.hid (HX.out.on hb1)
      have HB1 := Lib.hid (below_on HB.out hb1)
      clear b1 hb1 c0 c1 c2 c3 c4 HX HB HC
      by_cases hf : ndFault (nth x.nodes k) k x.nodes.length = 0
      · rw [hf]
        go_wp2
        exact ⟨⟨k + 1, by omega, by go_num, by rw [HN.out, HS.out, if_pos hf], HX1.out, HB1.out⟩, by simp [intOf]; omega⟩
      · have HR : Hid (lyFault x = ndFault (nth x.nodes k) k x.nodes.length) := Lib.hid (by
          have e : ndsFault x.nodes.length 0 x.nodes = ndFault (nth x.nodes k) k x.nodes.length := by rw [HN.out, HS.out, if_neg hf]
          rw [lyFault_node hm ⟨hw, hh⟩ (by rw [e]; exact hf), e])
        have hf2 : (ndFault (nth x.nodes k) k x.nodes.length != 0) = true := by simpa using hf
        clear hf HS
        generalize ndFault (nth x.nodes k) k x.nodes.length = q at *
        go_wp2
        go_ret
        exact ⟨ret_int HR.out.symm, HB1.out⟩
    · obtain rfl : k = x.nodes.length := by omega
      have hz : ndsFault x.nodes.length 0 x.nodes = 0 := by rw [HN.out, List.drop_length]; rfl
      have hok := okay_of hz
      have HT := Lib.hid (fun h => lyFault_tree hm ⟨hw, hh⟩ hz h)
      have HF := Lib.hid (fun h => lyFault_fits hm ⟨hw, hh⟩ hz h)
      have HTR := Lib.hid (fun h => tree_of hm ⟨hw, hh⟩ hz h)
      have HO := Lib.hid hok
      clear HN hz hok hlt
      obtain ⟨x0, x1, x2⟩ := HX.out.cells.tri
      have hlt := HX.out.cells.1
      go_wp2_with fail
      refine (isTree_any x.nodes p c wr HX.out.nodes n2 (by omega) HO.out).mono ?_
      rintro e w1 ⟨rfl, b1⟩
      have HX1 := Lib.hid (HX.out.on b1)
      have HB1 := Lib.hid (below_on HB.out b1)
      clear b1 HX HB x0 x1 x2
      obtain ⟨x0, x1, x2⟩ := HX1.out.cells.tri
      cases hu : usesB x.nodes
      · have HRS := Lib.hid (HT.out (by unfold treeB; rw [hu]; rfl))
        go_wp2
        go_ret
        exact ⟨ret_int HRS.out.symm, HB1.out⟩
      · go_wp2_with fail
        refine (hasPaneTwice_any x.nodes p c w1 HX1.out.nodes n2 (by omega) HO.out).mono ?_
        rintro e w2 ⟨rfl, b2⟩
        have HX2 := Lib.hid (HX1.out.on b2)
        have HB2 := Lib.hid (below_on HB1.out b2)
        clear b2 HX1 HB1 x0 x1 x2
        obtain ⟨x0, x1, x2⟩ := HX2.out.cells.tri
        cases hd : decide (panes x.nodes).Nodup
        · have HRS := Lib.hid (HT.out (by unfold treeB; rw [hu, hd]; rfl))
          go_wp2
          go_ret
          exact ⟨ret_int HRS.out.symm, HB2.out⟩
        · have htb : treeB x.nodes = true := by unfold treeB; rw [hu, hd]; rfl
          have htr := HTR.out htb
          have HRS := Lib.hid (HF.out htb)
          have HRUN := Lib.hid htr.run
          have HTT := Lib.hid htr
          clear htr htb HTR HF HT
          go_wp2_with fail
          refine (nodeRects_any x p c w2 HX2.out.nodes HTT.out).mono ?_
          rintro e w3 ⟨hsome, hnone, b3⟩
          have HB3 := Lib.hid (below_on HB2.out b3)
          have HRUN2 := HRUN.out
          cases hr : lyRun x with
          | none =>
            obtain rfl := hnone hr
            rw [hr] at HRUN2
            have HE := Lib.hid (show lyFault x = 3 by rw [HRS.out, ← HRUN2]; simp)
            clear hsome hnone hr HRUN2 b3 x0 x1 x2
            go_wp2
            go_ret
            exact ⟨ret_int HE.out.symm, HB3.out⟩
          | some R =>
            obtain ⟨g, rfl, _⟩ := hsome R hr
            rw [hr] at HRUN2
            have HE := Lib.hid (show lyFault x = 0 by rw [HRS.out, ← HRUN2]; simp)
            clear hsome hnone hr HRUN2 b3 x0 x1 x2
            go_wp2
            go_ret
            exact ⟨ret_int HE.out.symm, HB3.out⟩

end Go.Proofs.Ytjopjddhgaiddaa
