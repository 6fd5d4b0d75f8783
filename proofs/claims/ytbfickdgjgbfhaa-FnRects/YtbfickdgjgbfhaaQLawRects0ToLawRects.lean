/- What FnRects' walk wants besides. -/
import Derived.Test.YtbfickdgjgbfhaaQLyDr3ToLyDr5
import Derived.Test.YtbfickdgjgbfhaaQLyHitToLyHit2
import Derived.Test.YtbfickdgjgbfhaaQQOpsToLwLy
import Derived.Test.YtbfickdgjgbfhaaQFaultToLws
import Derived.Test.YtbfickdgjgbfhaaQQMarksToRSt
namespace Go.Proofs.Ytbfickdgjgbfhaa
open Go.RowKit
set_option linter.unusedVariables false
set_option linter.unusedSimpArgs false

theorem rrOf_code (x : Ly) : (rrOf x).1 = lyFault x := by
  unfold rrOf
  split
  · rename_i h; rw [h]
  · rfl
theorem qEq_self (a : Q) : qEq a a = true := by simp [qEq]
theorem sameQ_self : ∀ l : List Q, sameQ l l = true
  | [] => rfl
  | a :: t => by simp [sameQ, qEq_self, sameQ_self t]
theorem lwRects_same (p q : Option Addr) (c d : Nat) (x : List Q) (w : World) (h : Qs w w.heap.size p x) (k : Qs w w.heap.size q x) (hx : x.length ≤ 1048576) :
    Calls Try.prog 35 #[.slice p x.length c, .slice q x.length d] w fun e w' => e = .returned (.bool true) ∧ Below w.heap.size w w' := by
  have := lwRects_any p q c d x x w h k hx
  rwa [sameQ_self] at this
/-- what is hit, where the code is 0 -/
theorem hit_law (x : Ly) (c d : Int) (h : (lyHit x c d).1 = 0) : rrOf x = (0, lyRects x) ∧ (∀ r ∈ lyRects x, inQ r c d = true → (lyHit x c d).2 = r.x0) ∧ hitN (lyRects x) c d ≤ 1 ∧ (hitN (lyRects x) c d = 0 → (lyHit x c d).2 = -1) ∧ ∀ r ∈ lyRects x, Good r := by
  by_cases hf : lyFault x = 0
  · have hr : rrOf x = (0, lyRects x) := by unfold rrOf; rw [if_pos hf]
    by_cases hi : inR c 0 (x.wide - 1) = true ∧ inR d 0 (x.high - 1) = true
    · have e := hit_in hf hi.1 hi.2
      rw [e]
      have ha := rects_apart hf c d
      exact ⟨hr, fun r hm hc => hit_one c d _ ha r hm hc, hitN_le c d _ ha, fun h0 => hitN_zero c d _ h0, rects_good hf⟩
    · rw [hit_out hf hi] at h; simp at h
  · rw [hit_fault hf] at h
    exact absurd h hf

theorem fld_rrS (x : Int) (p : Option Addr) (n c : Nat) (w : World) : (Instr.field 60 (.agg #[.int .i64 x, .slice p n c]) 1).run Try.prog w = .ok (.slice p n c) w := by kernel_rfl
theorem irGuard : Try.prog.eqGuardType Try.prog.depth 43 = false := by kernel_rfl
theorem run_neq_ir (a b : Int) (w : World) : (binOp .neq 43 (.agg #[.int .i64 a, .int .i64 b]) (.agg #[.int .i64 a, .int .i64 b])).run Try.prog w = .ok (.bool false) w := by
  have hS : Try.prog.underlying 43 = some (.struct (Try.prog.fieldsOf 43)) := by kernel_rfl
  have hp : Try.prog.stoodInHeld 43 = false := by kernel_rfl
  have u3 := Try.underlying2
  have a3 := Try.isAgg2
  have z3 := Try.sizeOf2
  rw [run_neq_struct, show (10000 : Nat) = 9999 + 1 from rfl, run_equalIn_agg w 9999 43 _ _ hS hp]
  simp only [Program.fieldsOf, Try.underlying43]
  go_simp
theorem run_eql_ir (a b : Int) (w : World) : (binOp .eql 43 (.agg #[.int .i64 a, .int .i64 b]) (.agg #[.int .i64 a, .int .i64 b])).run Try.prog w = .ok (.bool true) w := by
  have hS : Try.prog.underlying 43 = some (.struct (Try.prog.fieldsOf 43)) := by kernel_rfl
  have hp : Try.prog.stoodInHeld 43 = false := by kernel_rfl
  have u3 := Try.underlying2
  have a3 := Try.isAgg2
  have z3 := Try.sizeOf2
  rw [run_eql_struct, show (10000 : Nat) = 9999 + 1 from rfl, run_equalIn_agg w 9999 43 _ _ hS hp]
  simp only [Program.fieldsOf, Try.underlying43]
  go_simp

end Go.Proofs.Ytbfickdgjgbfhaa

/- FnRects: the law's walk. (Written by wip/gen_rects.py.) -/
namespace Go.Proofs.Ytbfickdgjgbfhaa
open Go.RowKit
set_option linter.unusedVariables false
set_option linter.unusedSimpArgs false

set_option maxRecDepth 100000 in
set_option maxHeartbeats 8000000 in
theorem lawRects_any (q : Option Addr) (c : Nat) (l : List UInt8) (w : World) (h : Bs w w.heap.size q l) :
    Calls Try.prog 9 #[.slice q l.length c] w fun e w' => e = .returned (.bool true) ∧ Below w.heap.size w w' := by
  by_cases hbig : (1048576 : Int) < (l.length : Int)
  · go_enter Try.func9, Try.ntmps9
    go_wp2_with fail
    refine (lwBig_any _ _ _ _).mono ?_
    rw [decide_eq_true hbig]
    rintro e w1 ⟨rfl, rfl⟩
    go_wp2_with fail
    go_ret
    exact ⟨rfl, Below.refl _ _⟩
  have hl : l.length ≤ 1048576 := by omega
  have HF := Lib.hid (decide_eq_false hbig)
  clear hbig
  have HQ := Lib.hid h
  clear h
  go_enter Try.func9, Try.ntmps9
  go_wp2_with fail
  refine (lwBig_any _ _ _ _).mono ?_
  rw [HF.out]
  rintro e w1 ⟨rfl, rfl⟩
  clear HF
  have E0 : Hid (Below w.heap.size w w) := Below.refl _ _
  go_wp2_with fail
  refine (drawRectOf_any q c l _ (HQ.out.on E0.out) hl).mono ?_
  rintro e u1 ⟨a1, v, pn, rfl, hlen1, ho, hb⟩
  obtain ⟨p1, c1, rfl⟩ := ho.slice
  have B := below_mk u1 (.cells #[.int .i64 a1.wide, .int .i64 a1.high, .slice p1 a1.nodes.length c1] 28)
  have M1 : Hid (AtL (u1.alloc (.cells #[.int .i64 a1.wide, .int .i64 a1.high, .slice p1 a1.nodes.length c1] 28)) u1.heap.size [.int .i64 a1.wide, .int .i64 a1.high, .slice p1 a1.nodes.length c1]) := AtL.new u1 [.int .i64 a1.wide, .int .i64 a1.high, .slice p1 a1.nodes.length c1] 28
  have Q1 : Hid (Qs (u1.alloc (.cells #[.int .i64 a1.wide, .int .i64 a1.high, .slice p1 a1.nodes.length c1] 28)) (u1.alloc (.cells #[.int .i64 a1.wide, .int .i64 a1.high, .slice p1 a1.nodes.length c1] 28)).heap.size p1 a1.nodes) := ho.bs.2.on B
  have E1 := Lib.hid (below_on (below_on E0.out hb) B)
  have n1 : a1.nodes.length ≤ 1048576 := by omega
  clear hb B ho E0 hlen1
  unfold lyA
  go_wp2_with fail
  generalize u1.alloc (.cells #[.int .i64 a1.wide, .int .i64 a1.high, .slice p1 a1.nodes.length c1] 28) = W1 at *
  have HLF : Hid (∀ W', Qs W' W'.heap.size p1 a1.nodes → Calls Try.prog 37 #[.agg #[.int .i64 a1.wide, .int .i64 a1.high, .slice p1 a1.nodes.length c1]] W' fun e W2 => e = .returned (.int .i64 (rrOf a1).1) ∧ Below W'.heap.size W' W2) := fun W' h => by
    rw [rrOf_code]; exact implLayoutFault_any a1 p1 c1 W' h n1
  have SR := Lib.hid (fun W' h => specRectsOf_any a1 p1 c1 W' h n1)
  have IR := Lib.hid (implRectsOf_any a1 p1 c1 W1 Q1.out n1)
  have SO := Lib.hid (fun W' h => specRectOf_any a1 pn p1 c1 W' h n1)
  have IO := Lib.hid (fun W' h => implRectOf_any a1 pn p1 c1 W' h n1)
  have HRO := Lib.hid (ro_hit (x := a1) (p := pn))
  have hs1 := rrOf_small a1
  have hs2 := roOf_len a1 pn
  generalize rrOf a1 = rr at *
  generalize roOf a1 pn = ro at *
  refine (IR.out).mono ?_
  rintro e u2 ⟨v, rfl, ho, hb⟩
  obtain ⟨q2, d2, rfl⟩ := ho.slice
  unfold rrV
  have B := below_mk u2 (.cells #[.int .i64 rr.1, .slice q2 rr.2.length d2] 60)
  replace M1 := Lib.hid ((M1.out.on hb).on B)
  replace Q1 := Lib.hid ((Q1.out.on hb).on B)
  have M2 : Hid (AtL (u2.alloc (.cells #[.int .i64 rr.1, .slice q2 rr.2.length d2] 60)) u2.heap.size [.int .i64 rr.1, .slice q2 rr.2.length d2]) := AtL.new u2 [.int .i64 rr.1, .slice q2 rr.2.length d2] 60
  have E2 := Lib.hid (below_on (below_on E1.out hb) B)
  have O2 := Lib.hid (ho.bs.2.on B)
  clear ho IR
  obtain ⟨z0, z1, z2⟩ := M1.out.tri
  clear hb B E1
  go_wp2_with fail
  generalize u2.alloc (.cells #[.int .i64 rr.1, .slice q2 rr.2.length d2] 60) = W2 at *
  clear z0 z1 z2
  refine (IO.out _ Q1.out).mono ?_
  rintro e u3 ⟨v, rfl, ho, hb⟩
  obtain ⟨q3, d3, rfl⟩ := ho.slice
  unfold rrV
  have B := below_mk u3 (.cells #[.int .i64 ro.1, .slice q3 ro.2.length d3] 60)
  replace M1 := Lib.hid ((M1.out.on hb).on B)
  replace Q1 := Lib.hid ((Q1.out.on hb).on B)
  replace M2 := Lib.hid ((M2.out.on hb).on B)
  replace O2 := Lib.hid ((O2.out.on hb).on B)
  have M3 : Hid (AtL (u3.alloc (.cells #[.int .i64 ro.1, .slice q3 ro.2.length d3] 60)) u3.heap.size [.int .i64 ro.1, .slice q3 ro.2.length d3]) := AtL.new u3 [.int .i64 ro.1, .slice q3 ro.2.length d3] 60
  have E3 := Lib.hid (below_on (below_on E2.out hb) B)
  have O3 := Lib.hid (ho.bs.2.on B)
  clear ho IO
  clear hb B E2
  go_wp2_with fail
  generalize u3.alloc (.cells #[.int .i64 ro.1, .slice q3 ro.2.length d3] 60) = W3 at *
  refine (drawHitAt_any q c l _ (HQ.out.on E3.out) hl).mono ?_
  rintro e u4 ⟨a4, v, cc, dd, rfl, hlen4, ho, hb⟩
  obtain ⟨p4, c4, rfl⟩ := ho.slice
  have B := below_mk u4 (.cells #[.int .i64 a4.wide, .int .i64 a4.high, .slice p4 a4.nodes.length c4] 28)
  replace M1 := Lib.hid ((M1.out.on hb).on B)
  replace Q1 := Lib.hid ((Q1.out.on hb).on B)
  replace M2 := Lib.hid ((M2.out.on hb).on B)
  replace O2 := Lib.hid ((O2.out.on hb).on B)
  replace M3 := Lib.hid ((M3.out.on hb).on B)
  replace O3 := Lib.hid ((O3.out.on hb).on B)
  have M4 : Hid (AtL (u4.alloc (.cells #[.int .i64 a4.wide, .int .i64 a4.high, .slice p4 a4.nodes.length c4] 28)) u4.heap.size [.int .i64 a4.wide, .int .i64 a4.high, .slice p4 a4.nodes.length c4]) := AtL.new u4 [.int .i64 a4.wide, .int .i64 a4.high, .slice p4 a4.nodes.length c4] 28
  have Q4 : Hid (Qs (u4.alloc (.cells #[.int .i64 a4.wide, .int .i64 a4.high, .slice p4 a4.nodes.length c4] 28)) (u4.alloc (.cells #[.int .i64 a4.wide, .int .i64 a4.high, .slice p4 a4.nodes.length c4] 28)).heap.size p4 a4.nodes) := ho.bs.2.on B
  have E4 := Lib.hid (below_on (below_on E3.out hb) B)
  have n4 : a4.nodes.length ≤ 1048576 := by omega
  clear hb B ho E3 hlen4
  unfold lyA
  go_wp2_with fail
  generalize u4.alloc (.cells #[.int .i64 a4.wide, .int .i64 a4.high, .slice p4 a4.nodes.length c4] 28) = W4 at *
  have SH := Lib.hid (fun W' h => specHitAt_any a4 cc dd p4 c4 W' h n4)
  have IH := Lib.hid (implHitAt_any a4 cc dd p4 c4 W4 Q4.out n4)
  have HH := Lib.hid (hit_law a4 cc dd)
  generalize lyHit a4 cc dd = ht at *
  refine (IH.out).mono ?_
  rintro e u5 ⟨rfl, hb⟩
  have B := below_mk u5 (.cells #[.int .i64 ht.1, .int .i64 ht.2] 43)
  replace M1 := Lib.hid ((M1.out.on hb).on B)
  replace Q1 := Lib.hid ((Q1.out.on hb).on B)
  replace M2 := Lib.hid ((M2.out.on hb).on B)
  replace O2 := Lib.hid ((O2.out.on hb).on B)
  replace M3 := Lib.hid ((M3.out.on hb).on B)
  replace O3 := Lib.hid ((O3.out.on hb).on B)
  replace M4 := Lib.hid ((M4.out.on hb).on B)
  replace Q4 := Lib.hid ((Q4.out.on hb).on B)
  have M5 : Hid (AtL (u5.alloc (.cells #[.int .i64 ht.1, .int .i64 ht.2] 43)) u5.heap.size [.int .i64 ht.1, .int .i64 ht.2]) := AtL.new u5 [.int .i64 ht.1, .int .i64 ht.2] 43
  have E5 := Lib.hid (below_on (below_on E4.out hb) B)
  clear IH
  clear hb B E4
  go_wp2_with fail
  generalize u5.alloc (.cells #[.int .i64 ht.1, .int .i64 ht.2] 43) = W5 at *
  refine (drawHasPane_any q c l _ (HQ.out.on E5.out) hl).mono ?_
  rintro e u6 ⟨a6, v, ph, rfl, hlen6, ho, hb⟩
  obtain ⟨p6, c6, rfl⟩ := ho.slice
  have B := below_mk u6 (.cells #[.int .i64 a6.wide, .int .i64 a6.high, .slice p6 a6.nodes.length c6] 28)
  replace M1 := Lib.hid ((M1.out.on hb).on B)
  replace Q1 := Lib.hid ((Q1.out.on hb).on B)
  replace M2 := Lib.hid ((M2.out.on hb).on B)
  replace O2 := Lib.hid ((O2.out.on hb).on B)
  replace M3 := Lib.hid ((M3.out.on hb).on B)
  replace O3 := Lib.hid ((O3.out.on hb).on B)
  replace M4 := Lib.hid ((M4.out.on hb).on B)
  replace Q4 := Lib.hid ((Q4.out.on hb).on B)
  replace M5 := Lib.hid ((M5.out.on hb).on B)
  have M6 : Hid (AtL (u6.alloc (.cells #[.int .i64 a6.wide, .int .i64 a6.high, .slice p6 a6.nodes.length c6] 28)) u6.heap.size [.int .i64 a6.wide, .int .i64 a6.high, .slice p6 a6.nodes.length c6]) := AtL.new u6 [.int .i64 a6.wide, .int .i64 a6.high, .slice p6 a6.nodes.length c6] 28
  have Q6 : Hid (Qs (u6.alloc (.cells #[.int .i64 a6.wide, .int .i64 a6.high, .slice p6 a6.nodes.length c6] 28)) (u6.alloc (.cells #[.int .i64 a6.wide, .int .i64 a6.high, .slice p6 a6.nodes.length c6] 28)).heap.size p6 a6.nodes) := ho.bs.2.on B
  have E6 := Lib.hid (below_on (below_on E5.out hb) B)
  have n6 : a6.nodes.length ≤ 1048576 := by omega
  clear hb B ho E5 hlen6
  unfold lyA
  go_wp2_with fail
  generalize u6.alloc (.cells #[.int .i64 a6.wide, .int .i64 a6.high, .slice p6 a6.nodes.length c6] 28) = W6 at *
  refine (drawSameLayouts_any q c l _ (HQ.out.on E6.out) hl).mono ?_
  rintro e u7 ⟨a7, v, a8, u, rfl, hlen7, hlen8, ho, ho', hb⟩
  obtain ⟨p7, c7, rfl⟩ := ho.slice
  obtain ⟨p8, c8, rfl⟩ := ho'.slice
  have B7 := below_mk u7 (.cells #[.int .i64 a7.wide, .int .i64 a7.high, .slice p7 a7.nodes.length c7] 28)
  have B8 := below_mk (u7.alloc (.cells #[.int .i64 a7.wide, .int .i64 a7.high, .slice p7 a7.nodes.length c7] 28)) (.cells #[.int .i64 a8.wide, .int .i64 a8.high, .slice p8 a8.nodes.length c8] 28)
  have B := below_on B7 B8
  replace M1 := Lib.hid ((M1.out.on hb).on B)
  replace Q1 := Lib.hid ((Q1.out.on hb).on B)
  replace M2 := Lib.hid ((M2.out.on hb).on B)
  replace O2 := Lib.hid ((O2.out.on hb).on B)
  replace M3 := Lib.hid ((M3.out.on hb).on B)
  replace O3 := Lib.hid ((O3.out.on hb).on B)
  replace M4 := Lib.hid ((M4.out.on hb).on B)
  replace Q4 := Lib.hid ((Q4.out.on hb).on B)
  replace M5 := Lib.hid ((M5.out.on hb).on B)
  replace M6 := Lib.hid ((M6.out.on hb).on B)
  replace Q6 := Lib.hid ((Q6.out.on hb).on B)
  have M7 : Hid (AtL ((u7.alloc (.cells #[.int .i64 a7.wide, .int .i64 a7.high, .slice p7 a7.nodes.length c7] 28)).alloc (.cells #[.int .i64 a8.wide, .int .i64 a8.high, .slice p8 a8.nodes.length c8] 28)) u7.heap.size [.int .i64 a7.wide, .int .i64 a7.high, .slice p7 a7.nodes.length c7]) := (AtL.new u7 [.int .i64 a7.wide, .int .i64 a7.high, .slice p7 a7.nodes.length c7] 28).on B8
  have M8 : Hid (AtL ((u7.alloc (.cells #[.int .i64 a7.wide, .int .i64 a7.high, .slice p7 a7.nodes.length c7] 28)).alloc (.cells #[.int .i64 a8.wide, .int .i64 a8.high, .slice p8 a8.nodes.length c8] 28)) (u7.heap.size + 1) [.int .i64 a8.wide, .int .i64 a8.high, .slice p8 a8.nodes.length c8]) := by
    have h := AtL.new (u7.alloc (.cells #[.int .i64 a7.wide, .int .i64 a7.high, .slice p7 a7.nodes.length c7] 28)) [.int .i64 a8.wide, .int .i64 a8.high, .slice p8 a8.nodes.length c8] 28
    rwa [World.size_alloc] at h
  have Q7 := Lib.hid ((ho.bs.2.on B7).on B8)
  have Q8 := Lib.hid ((ho'.bs.2.on B7).on B8)
  have E7 := Lib.hid (below_on (below_on E6.out hb) B)
  have n7 : a7.nodes.length ≤ 1048576 := by omega
  have n8 : a8.nodes.length ≤ 1048576 := by omega
  clear hb B B7 B8 ho ho' E6 hlen7 hlen8
  unfold lyA
  go_upto_region 10 with (fail)
  generalize (u7.alloc (.cells #[.int .i64 a7.wide, .int .i64 a7.high, .slice p7 a7.nodes.length c7] 28)).alloc (.cells #[.int .i64 a8.wide, .int .i64 a8.high, .slice p8 a8.nodes.length c8] 28) = W at *
  have HM1 := Lib.hid (fun W' (hb : Below W.heap.size W W') => (M1.out.on hb).tri)
  have HM4 := Lib.hid (fun W' (hb : Below W.heap.size W W') => (M4.out.on hb).tri)
  have HM6 := Lib.hid (fun W' (hb : Below W.heap.size W W') => (M6.out.on hb).tri)
  have HM7 := Lib.hid (fun W' (hb : Below W.heap.size W W') => (M7.out.on hb).tri)
  have HM8 := Lib.hid (fun W' (hb : Below W.heap.size W W') => (M8.out.on hb).tri)
  have HM2 := Lib.hid (fun W' (hb : Below W.heap.size W W') => (M2.out.on hb).two)
  have HM3 := Lib.hid (fun W' (hb : Below W.heap.size W W') => (M3.out.on hb).two)
  have HM5 := Lib.hid (fun W' (hb : Below W.heap.size W W') => (M5.out.on hb).two)
  have HS1 : Hid (∀ W', Below W.heap.size W W' → Calls Try.prog 45 #[.agg #[.int .i64 a1.wide, .int .i64 a1.high, .slice p1 a1.nodes.length c1]] W' fun e W2 => ∃ z zc, e = .returned (.agg #[.int .i64 rr.1, .slice z rr.2.length zc]) ∧ Qs W2 W2.heap.size z rr.2 ∧ Below W.heap.size W W2) := fun W' hb =>
    (SR.out W' (Q1.out.on hb)).mono fun _ _ ⟨v, he, ho, hb2⟩ => by
      obtain ⟨z, zc, rfl⟩ := ho.slice
      exact ⟨z, zc, he, ho.bs.2, below_on hb hb2⟩
  have HS2 : Hid (∀ W', Below W.heap.size W W' → Calls Try.prog 46 #[.agg #[.int .i64 a1.wide, .int .i64 a1.high, .slice p1 a1.nodes.length c1], .int .i64 pn] W' fun e W2 => ∃ z zc, e = .returned (.agg #[.int .i64 ro.1, .slice z ro.2.length zc]) ∧ Qs W2 W2.heap.size z ro.2 ∧ Below W.heap.size W W2) := fun W' hb =>
    (SO.out W' (Q1.out.on hb)).mono fun _ _ ⟨z, zc, he, ho, hb2⟩ => ⟨z, zc, he, ho.qs, below_on hb hb2⟩
  have HL1 : Hid (∀ W' z zc, Below W.heap.size W W' → Qs W' W'.heap.size z rr.2 → Calls Try.prog 35 #[.slice q2 rr.2.length d2, .slice z rr.2.length zc] W' fun e W2 => e = .returned (.bool true) ∧ Below W.heap.size W W2) := fun W' z zc hb hz =>
    (lwRects_same q2 z d2 zc rr.2 W' (O2.out.on hb) hz (by omega)).mono fun _ _ ⟨he, hb2⟩ => ⟨he, below_on hb hb2⟩
  have HL2 : Hid (∀ W' z zc, Below W.heap.size W W' → Qs W' W'.heap.size z ro.2 → Calls Try.prog 35 #[.slice q3 ro.2.length d3, .slice z ro.2.length zc] W' fun e W2 => e = .returned (.bool true) ∧ Below W.heap.size W W2) := fun W' z zc hb hz =>
    (lwRects_same q3 z d3 zc ro.2 W' (O3.out.on hb) hz (by omega)).mono fun _ _ ⟨he, hb2⟩ => ⟨he, below_on hb hb2⟩
  have HS3 : Hid (∀ W', Below W.heap.size W W' → Calls Try.prog 47 #[.agg #[.int .i64 a4.wide, .int .i64 a4.high, .slice p4 a4.nodes.length c4], .int .i64 cc, .int .i64 dd] W' fun e W2 => e = .returned (.agg #[.int .i64 ht.1, .int .i64 ht.2]) ∧ Below W.heap.size W W2) := fun W' hb =>
    (SH.out W' (Q4.out.on hb)).mono fun _ _ ⟨he, hb2⟩ => ⟨he, below_on hb hb2⟩
  have HI4 : Hid (∀ W', Below W.heap.size W W' → Calls Try.prog 38 #[.agg #[.int .i64 a6.wide, .int .i64 a6.high, .slice p6 a6.nodes.length c6], .int .i64 ph] W' fun e W2 => e = .returned (.bool (lyHas a6 ph)) ∧ Below W.heap.size W W2) := fun W' hb =>
    (implHasPane_any a6 ph p6 c6 W' (Q6.out.on hb) n6).mono fun _ _ ⟨he, hb2⟩ => ⟨he, below_on hb hb2⟩
  have HS4 : Hid (∀ W', Below W.heap.size W W' → Calls Try.prog 48 #[.agg #[.int .i64 a6.wide, .int .i64 a6.high, .slice p6 a6.nodes.length c6], .int .i64 ph] W' fun e W2 => e = .returned (.bool (lyHas a6 ph)) ∧ Below W.heap.size W W2) := fun W' hb =>
    (specHasPane_any a6 ph p6 c6 W' (Q6.out.on hb) n6).mono fun _ _ ⟨he, hb2⟩ => ⟨he, below_on hb hb2⟩
  have HI5 : Hid (∀ W', Below W.heap.size W W' → Calls Try.prog 34 #[.agg #[.int .i64 a7.wide, .int .i64 a7.high, .slice p7 a7.nodes.length c7], .agg #[.int .i64 a8.wide, .int .i64 a8.high, .slice p8 a8.nodes.length c8]] W' fun e W2 => e = .returned (.bool (lyEq a7 a8)) ∧ Below W.heap.size W W2) := fun W' hb =>
    (implSameLayouts_any a7 a8 p7 p8 c7 c8 W' (Q7.out.on hb) (Q8.out.on hb) n7).mono fun _ _ ⟨he, hb2⟩ => ⟨he, below_on hb hb2⟩
  have HS5 : Hid (∀ W', Below W.heap.size W W' → Calls Try.prog 49 #[.agg #[.int .i64 a7.wide, .int .i64 a7.high, .slice p7 a7.nodes.length c7], .agg #[.int .i64 a8.wide, .int .i64 a8.high, .slice p8 a8.nodes.length c8]] W' fun e W2 => e = .returned (.bool (lyEq a7 a8)) ∧ Below W.heap.size W W2) := fun W' hb =>
    (specSameLayouts_any a7 a8 p7 p8 c7 c8 W' (Q7.out.on hb) (Q8.out.on hb) n7).mono fun _ _ ⟨he, hb2⟩ => ⟨he, below_on hb hb2⟩
  have HI6 : Hid (∀ W', Below W.heap.size W W' → Calls Try.prog 37 #[.agg #[.int .i64 a1.wide, .int .i64 a1.high, .slice p1 a1.nodes.length c1]] W' fun e W2 => e = .returned (.int .i64 rr.1) ∧ Below W.heap.size W W2) := fun W' hb =>
    (HLF.out W' (Q1.out.on hb)).mono fun _ _ ⟨he, hb2⟩ => ⟨he, below_on hb hb2⟩
  clear M1 M2 M3 M4 M5 M6 M7 M8 Q6 Q7 Q8 O2 SR SO SH HLF
  generalize lyHas a6 ph = f6 at *
  generalize lyEq a7 a8 = f7 at *
  have hfd0 := fld_rr
  have hfd1 := fld_rrS
  have hne := run_neq_ir
  simp only [List.append_eq, List.cons_append, List.nil_append]
  go_cut [116] (fun s wx => s = .bool false ∧ Below W.heap.size W wx)
  case first =>
    as_aux_lemma =>
      refine wp_region_noPanic ?_
      refine wp_region_held_drew (S := fun W' => Below (W).heap.size (W) W') (by kernel_rfl) (below_drewN (Below.refl _ _) 1) (fun hHeld => ?_)
      refine takeA 0 50 (.pointer (some ⟨u2.heap.size, 0, none⟩)) hHeld ?_
      simp only [Act.put, sa, s0, ss]
      refine takeB 1 51 (.int .i64 rr.1) (fun w o hSw ho => ?_) hHeld ?_
      · obtain rfl := Option.some.inj ho; obtain ⟨z0, z1⟩ := HM2.out _ hSw; go_simp
      simp only [Act.put, sa, s0, ss]
      refine takeB 2 52 (.agg #[.int .i64 a1.wide, .int .i64 a1.high, .slice p1 a1.nodes.length c1]) (fun w o hSw ho => ?_) hHeld ?_
      · obtain rfl := Option.some.inj ho; obtain ⟨z0, z1, z2⟩ := HM1.out _ hSw; go_simp
      simp only [Act.put, sa, s0, ss]
      refine oneR 3 (by kernel_rfl) (by kernel_rfl) (fun o ho K' hK => ?_)
      obtain rfl := Option.some.inj ho
      clear ho
      go_simp
      refine (HS1.out _ hHeld).mono ?_
      rintro e V53 ⟨za, zca, rfl, hz, hc⟩
      have HZa := Lib.hid hz
      clear hHeld hz
      go_wp2_with fail
      refine hK.out _ _ (hc) (fun hHeld => ?_)
      clear hK K'
      try simp only [Act.put, sa, s0, ss]
      clear hc
      refine takeA 4 54 (.int .i64 rr.1) hHeld ?_
      simp only [Act.put, sa, s0, ss]
      refine takeA 5 55 (.bool false) hHeld ?_
      simp only [Act.put, sa, s0, ss]
      refine takeA 6 56 (.bool false) hHeld ?_
      simp only [Act.put, sa, s0, ss]
      refine takeA 7 57 (.pointer (some ⟨u2.heap.size, 1, none⟩)) hHeld ?_
      simp only [Act.put, sa, s0, ss]
      refine takeB 8 58 (.slice q2 rr.2.length d2) (fun w o hSw ho => ?_) hHeld ?_
      · obtain rfl := Option.some.inj ho; obtain ⟨z0, z1⟩ := HM2.out _ hSw; go_simp
      simp only [Act.put, sa, s0, ss]
      refine takeB 9 59 (.agg #[.int .i64 a1.wide, .int .i64 a1.high, .slice p1 a1.nodes.length c1]) (fun w o hSw ho => ?_) hHeld ?_
      · obtain rfl := Option.some.inj ho; obtain ⟨z0, z1, z2⟩ := HM1.out _ hSw; go_simp
      simp only [Act.put, sa, s0, ss]
      refine oneR 10 (by kernel_rfl) (by kernel_rfl) (fun o ho K' hK => ?_)
      obtain rfl := Option.some.inj ho
      clear ho
      go_simp
      refine (HS1.out _ hHeld).mono ?_
      rintro e V60 ⟨zb, zcb, rfl, hz, hc⟩
      have HZb := Lib.hid hz
      clear hHeld hz
      go_wp2_with fail
      refine hK.out _ _ (hc) (fun hHeld => ?_)
      clear hK K'
      try simp only [Act.put, sa, s0, ss]
      clear hc
      refine takeA 11 61 (.slice zb rr.2.length zcb) hHeld ?_
      simp only [Act.put, sa, s0, ss]
      refine oneR 12 (by kernel_rfl) (by kernel_rfl) (fun o ho K' hK => ?_)
      obtain rfl := Option.some.inj ho
      clear ho
      go_simp
      refine (HL1.out _ zb zcb hHeld HZb.out).mono ?_
      rintro e V62 ⟨rfl, hc⟩
      clear hHeld HZb
      go_wp2_with fail
      refine hK.out _ _ (hc) (fun hHeld => ?_)
      clear hK K'
      try simp only [Act.put, sa, s0, ss]
      clear hc
      refine takeA 13 63 (.bool false) hHeld ?_
      simp only [Act.put, sa, s0, ss]
      refine takeA 14 64 (.bool false) hHeld ?_
      simp only [Act.put, sa, s0, ss]
      refine takeA 15 65 (.bool false) hHeld ?_
      simp only [Act.put, sa, s0, ss]
      refine takeA 16 66 (.pointer (some ⟨u3.heap.size, 0, none⟩)) hHeld ?_
      simp only [Act.put, sa, s0, ss]
      refine takeB 17 67 (.int .i64 ro.1) (fun w o hSw ho => ?_) hHeld ?_
      · obtain rfl := Option.some.inj ho; obtain ⟨z0, z1⟩ := HM3.out _ hSw; go_simp
      simp only [Act.put, sa, s0, ss]
      refine takeB 18 68 (.agg #[.int .i64 a1.wide, .int .i64 a1.high, .slice p1 a1.nodes.length c1]) (fun w o hSw ho => ?_) hHeld ?_
      · obtain rfl := Option.some.inj ho; obtain ⟨z0, z1, z2⟩ := HM1.out _ hSw; go_simp
      simp only [Act.put, sa, s0, ss]
      refine takeA 19 69 (.int .i64 pn) hHeld ?_
      simp only [Act.put, sa, s0, ss]
      refine oneR 20 (by kernel_rfl) (by kernel_rfl) (fun o ho K' hK => ?_)
      obtain rfl := Option.some.inj ho
      clear ho
      go_simp
      refine (HS2.out _ hHeld).mono ?_
      rintro e V70 ⟨zc, zcc, rfl, hz, hc⟩
      have HZc := Lib.hid hz
      clear hHeld hz
      go_wp2_with fail
      refine hK.out _ _ (hc) (fun hHeld => ?_)
      clear hK K'
      try simp only [Act.put, sa, s0, ss]
      clear hc
      refine takeA 21 71 (.int .i64 ro.1) hHeld ?_
      simp only [Act.put, sa, s0, ss]
      refine takeA 22 72 (.bool false) hHeld ?_
      simp only [Act.put, sa, s0, ss]
      refine takeA 23 73 (.bool false) hHeld ?_
      simp only [Act.put, sa, s0, ss]
      refine takeA 24 74 (.bool false) hHeld ?_
      simp only [Act.put, sa, s0, ss]
      refine takeA 25 75 (.pointer (some ⟨u3.heap.size, 1, none⟩)) hHeld ?_
      simp only [Act.put, sa, s0, ss]
      refine takeB 26 76 (.slice q3 ro.2.length d3) (fun w o hSw ho => ?_) hHeld ?_
      · obtain rfl := Option.some.inj ho; obtain ⟨z0, z1⟩ := HM3.out _ hSw; go_simp
      simp only [Act.put, sa, s0, ss]
      refine takeB 27 77 (.agg #[.int .i64 a1.wide, .int .i64 a1.high, .slice p1 a1.nodes.length c1]) (fun w o hSw ho => ?_) hHeld ?_
      · obtain rfl := Option.some.inj ho; obtain ⟨z0, z1, z2⟩ := HM1.out _ hSw; go_simp
      simp only [Act.put, sa, s0, ss]
      refine takeA 28 78 (.int .i64 pn) hHeld ?_
      simp only [Act.put, sa, s0, ss]
      refine oneR 29 (by kernel_rfl) (by kernel_rfl) (fun o ho K' hK => ?_)
      obtain rfl := Option.some.inj ho
      clear ho
      go_simp
      refine (HS2.out _ hHeld).mono ?_
      rintro e V79 ⟨zd, zcd, rfl, hz, hc⟩
      have HZd := Lib.hid hz
      clear hHeld hz
      go_wp2_with fail
      refine hK.out _ _ (hc) (fun hHeld => ?_)
      clear hK K'
      try simp only [Act.put, sa, s0, ss]
      clear hc
      refine takeA 30 80 (.slice zd ro.2.length zcd) hHeld ?_
      simp only [Act.put, sa, s0, ss]
      refine oneR 31 (by kernel_rfl) (by kernel_rfl) (fun o ho K' hK => ?_)
      obtain rfl := Option.some.inj ho
      clear ho
      go_simp
      refine (HL2.out _ zd zcd hHeld HZd.out).mono ?_
      rintro e V81 ⟨rfl, hc⟩
      clear hHeld HZd
      go_wp2_with fail
      refine hK.out _ _ (hc) (fun hHeld => ?_)
      clear hK K'
      try simp only [Act.put, sa, s0, ss]
      clear hc
      refine takeA 32 82 (.bool false) hHeld ?_
      simp only [Act.put, sa, s0, ss]
      refine takeA 33 83 (.bool false) hHeld ?_
      simp only [Act.put, sa, s0, ss]
      refine takeA 34 84 (.bool false) hHeld ?_
      simp only [Act.put, sa, s0, ss]
      refine takeB 35 85 (.agg #[.int .i64 ht.1, .int .i64 ht.2]) (fun w o hSw ho => ?_) hHeld ?_
      · obtain rfl := Option.some.inj ho; obtain ⟨z0, z1⟩ := HM5.out _ hSw; go_simp
      simp only [Act.put, sa, s0, ss]
      refine takeB 36 86 (.agg #[.int .i64 a4.wide, .int .i64 a4.high, .slice p4 a4.nodes.length c4]) (fun w o hSw ho => ?_) hHeld ?_
      · obtain rfl := Option.some.inj ho; obtain ⟨z0, z1, z2⟩ := HM4.out _ hSw; go_simp
      simp only [Act.put, sa, s0, ss]
      refine takeA 37 87 (.int .i64 cc) hHeld ?_
      simp only [Act.put, sa, s0, ss]
      refine takeA 38 88 (.int .i64 dd) hHeld ?_
      simp only [Act.put, sa, s0, ss]
      refine oneR 39 (by kernel_rfl) (by kernel_rfl) (fun o ho K' hK => ?_)
      obtain rfl := Option.some.inj ho
      clear ho
      go_simp
      refine (HS3.out _ hHeld).mono ?_
      rintro e V89 ⟨rfl, hc⟩
      clear hHeld
      go_wp2_with fail
      refine hK.out _ _ (hc) (fun hHeld => ?_)
      clear hK K'
      try simp only [Act.put, sa, s0, ss]
      clear hc
      refine takeA 40 90 (.bool false) hHeld ?_
      simp only [Act.put, sa, s0, ss]
      refine takeA 41 91 (.bool false) hHeld ?_
      simp only [Act.put, sa, s0, ss]
      refine takeA 42 92 (.bool false) hHeld ?_
      simp only [Act.put, sa, s0, ss]
      refine takeB 43 93 (.agg #[.int .i64 a6.wide, .int .i64 a6.high, .slice p6 a6.nodes.length c6]) (fun w o hSw ho => ?_) hHeld ?_
      · obtain rfl := Option.some.inj ho; obtain ⟨z0, z1, z2⟩ := HM6.out _ hSw; go_simp
      simp only [Act.put, sa, s0, ss]
      refine takeA 44 94 (.int .i64 ph) hHeld ?_
      simp only [Act.put, sa, s0, ss]
      refine takeB 46 96 (.agg #[.int .i64 a6.wide, .int .i64 a6.high, .slice p6 a6.nodes.length c6]) (fun w o hSw ho => ?_) hHeld ?_
      · obtain rfl := Option.some.inj ho; obtain ⟨z0, z1, z2⟩ := HM6.out _ hSw; go_simp
      simp only [Act.put, sa, s0, ss]
      refine takeA 47 97 (.int .i64 ph) hHeld ?_
      simp only [Act.put, sa, s0, ss]
      refine oneR 45 (by kernel_rfl) (by kernel_rfl) (fun o ho K' hK => ?_)
      obtain rfl := Option.some.inj ho
      clear ho
      go_simp
      refine (HI4.out _ hHeld).mono ?_
      rintro e V95 ⟨rfl, hc⟩
      clear hHeld
      go_wp2_with fail
      refine hK.out _ _ (hc) (fun hHeld => ?_)
      clear hK K'
      try simp only [Act.put, sa, s0, ss]
      clear hc
      refine oneR 48 (by kernel_rfl) (by kernel_rfl) (fun o ho K' hK => ?_)
      obtain rfl := Option.some.inj ho
      clear ho
      go_simp
      refine (HS4.out _ hHeld).mono ?_
      rintro e V98 ⟨rfl, hc⟩
      clear hHeld
      go_wp2_with fail
      refine hK.out _ _ (hc) (fun hHeld => ?_)
      clear hK K'
      try simp only [Act.put, sa, s0, ss]
      clear hc
      refine takeA 49 99 (.bool false) hHeld ?_
      simp only [Act.put, sa, s0, ss]
      refine takeA 50 100 (.bool false) hHeld ?_
      simp only [Act.put, sa, s0, ss]
      refine takeA 51 101 (.bool false) hHeld ?_
      simp only [Act.put, sa, s0, ss]
      refine takeB 52 102 (.agg #[.int .i64 a7.wide, .int .i64 a7.high, .slice p7 a7.nodes.length c7]) (fun w o hSw ho => ?_) hHeld ?_
      · obtain rfl := Option.some.inj ho; obtain ⟨z0, z1, z2⟩ := HM7.out _ hSw; go_simp
      simp only [Act.put, sa, s0, ss]
      refine takeB 53 103 (.agg #[.int .i64 a8.wide, .int .i64 a8.high, .slice p8 a8.nodes.length c8]) (fun w o hSw ho => ?_) hHeld ?_
      · obtain rfl := Option.some.inj ho; obtain ⟨z0, z1, z2⟩ := HM8.out _ hSw; go_simp
      simp only [Act.put, sa, s0, ss]
      refine takeB 55 105 (.agg #[.int .i64 a7.wide, .int .i64 a7.high, .slice p7 a7.nodes.length c7]) (fun w o hSw ho => ?_) hHeld ?_
      · obtain rfl := Option.some.inj ho; obtain ⟨z0, z1, z2⟩ := HM7.out _ hSw; go_simp
      simp only [Act.put, sa, s0, ss]
      refine takeB 56 106 (.agg #[.int .i64 a8.wide, .int .i64 a8.high, .slice p8 a8.nodes.length c8]) (fun w o hSw ho => ?_) hHeld ?_
      · obtain rfl := Option.some.inj ho; obtain ⟨z0, z1, z2⟩ := HM8.out _ hSw; go_simp
      simp only [Act.put, sa, s0, ss]
      refine oneR 54 (by kernel_rfl) (by kernel_rfl) (fun o ho K' hK => ?_)
      obtain rfl := Option.some.inj ho
      clear ho
      go_simp
      refine (HI5.out _ hHeld).mono ?_
      rintro e V104 ⟨rfl, hc⟩
      clear hHeld
      go_wp2_with fail
      refine hK.out _ _ (hc) (fun hHeld => ?_)
      clear hK K'
      try simp only [Act.put, sa, s0, ss]
      clear hc
      refine oneR 57 (by kernel_rfl) (by kernel_rfl) (fun o ho K' hK => ?_)
      obtain rfl := Option.some.inj ho
      clear ho
      go_simp
      refine (HS5.out _ hHeld).mono ?_
      rintro e V107 ⟨rfl, hc⟩
      clear hHeld
      go_wp2_with fail
      refine hK.out _ _ (hc) (fun hHeld => ?_)
      clear hK K'
      try simp only [Act.put, sa, s0, ss]
      clear hc
      refine takeA 58 108 (.bool false) hHeld ?_
      simp only [Act.put, sa, s0, ss]
      refine takeA 59 109 (.bool false) hHeld ?_
      simp only [Act.put, sa, s0, ss]
      refine takeA 60 110 (.bool false) hHeld ?_
      simp only [Act.put, sa, s0, ss]
      refine takeB 61 111 (.agg #[.int .i64 a1.wide, .int .i64 a1.high, .slice p1 a1.nodes.length c1]) (fun w o hSw ho => ?_) hHeld ?_
      · obtain rfl := Option.some.inj ho; obtain ⟨z0, z1, z2⟩ := HM1.out _ hSw; go_simp
      simp only [Act.put, sa, s0, ss]
      refine takeA 63 113 (.pointer (some ⟨u2.heap.size, 0, none⟩)) hHeld ?_
      simp only [Act.put, sa, s0, ss]
      refine takeB 64 114 (.int .i64 rr.1) (fun w o hSw ho => ?_) hHeld ?_
      · obtain rfl := Option.some.inj ho; obtain ⟨z0, z1⟩ := HM2.out _ hSw; go_simp
      simp only [Act.put, sa, s0, ss]
      refine oneR 62 (by kernel_rfl) (by kernel_rfl) (fun o ho K' hK => ?_)
      obtain rfl := Option.some.inj ho
      clear ho
      go_simp
      refine (HI6.out _ hHeld).mono ?_
      rintro e V112 ⟨rfl, hc⟩
      clear hHeld
      go_wp2_with fail
      refine hK.out _ _ (hc) (fun hHeld => ?_)
      clear hK K'
      try simp only [Act.put, sa, s0, ss]
      clear hc
      refine takeA 65 115 (.bool false) hHeld ?_
      simp only [Act.put, sa, s0, ss]
      refine takeA 66 116 (.bool false) hHeld ?_
      simp only [Act.put, sa, s0, ss]
      refine wpAnyH_done (by kernel_rfl) ?_ _
      refine NoPanic.normal ?_
      go_wp2_with fail
      go_meet
      exact ⟨rfl, hHeld⟩
  case rest =>
    obtain ⟨rfl, hD⟩ := hcut
    clear HS1 HS2 HS3 HI4 HS4 HI5 HS5 HI6 HL1 HL2 hne HM2 HM6 HM7 HM8 hfd0 hs1 hs2 n6 n7 n8
    have HD := Lib.hid hD
    obtain ⟨y0, y1⟩ := HM5.out _ hD
    clear hD
    have HCO : Hid (ro.1 ≠ 0 ∨ ∃ r bq oq, ro = (0, [r]) ∧ r.x0 = pn ∧ q3 = some ⟨bq, oq, none⟩ ∧ (∀ W', Below W.heap.size W W' → QAt W' bq oq r) ∧ ∀ W', Below W.heap.size W W' → Calls Try.prog 42 #[.agg #[.int .i64 a1.wide, .int .i64 a1.high, .slice p1 a1.nodes.length c1], .int .i64 r.x1, .int .i64 r.x2] W' fun e W2 => e = .returned (.agg #[.int .i64 0, .int .i64 pn]) ∧ Below W.heap.size W W2) := by
      by_cases h1 : ro.1 = 0
      · obtain ⟨r, hr, hp, hh⟩ := HRO.out h1
        have ho := O3.out
        rw [hr] at ho
        obtain ⟨bq, oq, rfl, _, hbq, hc⟩ := ho (by simp)
        have hq := hc 0 (by simp)
        simp only [Nat.zero_mul, Nat.add_zero] at hq
        refine .inr ⟨r, bq, oq, Prod.ext h1 hr, hp, rfl, fun W' hb => QAt.below hq hb hbq, fun W' hb => ?_⟩
        have := implHitAt_any a1 r.x1 r.x2 p1 c1 W' (Q1.out.on hb) n1
        rw [hh] at this
        exact this.mono fun _ _ ⟨he, hb2⟩ => ⟨he, below_on hb hb2⟩
      · exact .inl h1
    clear HRO O3 Q1
    by_cases h0 : ht.1 = 0
    · obtain ⟨e4, hhit, hle, hz, hgood⟩ := HH.out h0
      obtain ⟨h5, h6⟩ := ht
      dsimp only at h0 hhit hz HM5 y0 y1
      subst h0
      have HHIT := Lib.hid hhit
      have HLE := Lib.hid hle
      have HZE := Lib.hid hz
      have HG := Lib.hid hgood
      obtain ⟨x0, x1, x2⟩ := HM4.out _ HD.out
      have IR := Lib.hid (implRectsOf_any a4 p4 c4 wc (Q4.out.on HD.out) n4)
      have hs4 := rrOf_small a4
      rw [e4] at IR hs4
      clear HH hhit hle hz hgood e4 Q4 HM4
      generalize lyRects a4 = R at *
      dsimp only at hs4
      go_wp2_with fail
      refine IR.out.mono ?_
      rintro e w20 ⟨v, rfl, ho, hb⟩
      obtain ⟨q9, d9, rfl⟩ := ho.slice
      have HB := Lib.hid (below_on HD.out hb)
      have O9 := Lib.hid ho.bs.2
      clear ho hb IR x0 x1 x2 HD y0 y1
      unfold rrV
      dsimp only
      go_wp2_with fail
      go_loopw [15, 17] (fun h i wr => ∃ (j n : Nat), j ≤ R.length ∧ i = .int .i64 j ∧ h = .int .i64 n ∧ Hid (n = hitN (R.take j) cc dd) ∧ n ≤ j ∧ Below w20.heap.size w20 wr) (fun _ i _ => R.length - (intOf i).toNat)
      case atStart => exact ⟨0, 0, by omega, rfl, rfl, (hitN_nil cc dd R).symm, by omega, Below.refl _ _⟩
      case round =>
        obtain ⟨j, n, hj, rfl, rfl, hn, hnj, hb⟩ := hrel
        have HB2 := Lib.hid hb
        clear hb
        by_cases hlt : j < R.length
        · obtain ⟨bn, off, rfl, _, hbn, hc⟩ := (O9.out.on HB2.out) (by intro e; simp [e] at hlt)
          have hq := hc j hlt
          have HQC := Lib.hid (fun W' (hb : Below wr.heap.size wr W') => hq.below hb hbn)
          have hgood := HG.out (nth R j) (by rw [nth_eq hlt]; exact List.getElem_mem _)
          unfold Good at hgood
          have hw1 : IntKind.i64.wrap ((nth R j).x1 + (nth R j).x3) = (nth R j).x1 + (nth R j).x3 := IntWalk.i64_in _ ⟨by omega, by omega⟩
          have hw2 : IntKind.i64.wrap ((nth R j).x2 + (nth R j).x4) = (nth R j).x2 + (nth R j).x4 := IntWalk.i64_in _ ⟨by omega, by omega⟩
          have HIN := Lib.hid (inQ_iff (nth R j) cc dd)
          have HTK := Lib.hid (hitN_take cc dd R j hlt)
          have i1 : (j : Int) < (R.length : Int) := by omega
          have i0 : (0 : Int) ≤ (j : Int) := by omega
          clear hc hq hgood
          go_wp2_with fail
          by_cases b1 : (nth R j).x1 ≤ cc
          rotate_left
          · go_upto_region 18 with (fail)
            as_aux_lemma =>
              refine wp_region_noPanic ?_
              refine wp_region_held_drew (S := fun W' => Below wr.heap.size wr W') (by kernel_rfl) (below_drewN (Below.refl _ _) 1) (fun hHeld => ?_)
              refine takeA 0 129 (.int .i64 cc) hHeld ?_
              simp only [Act.put, sa, s0, ss]
              refine takeA 1 130 (.slice (some ⟨bn, off, none⟩) R.length d9) hHeld ?_
              simp only [Act.put, sa, s0, ss]
              refine takeA 2 131 (.int .i64 j) hHeld ?_
              simp only [Act.put, sa, s0, ss]
              refine takeA 3 132 (.pointer (some ⟨bn, off + j * 5, none⟩)) hHeld ?_
              simp only [Act.put, sa, s0, ss]
              refine takeA 4 133 (.pointer (some ⟨bn, off + j * 5 + 1, none⟩)) hHeld ?_
              simp only [Act.put, sa, s0, ss]
              refine takeB 5 134 (.int .i64 (nth R j).x1) (fun w o hSw ho => ?_) hHeld ?_
              · obtain rfl := Option.some.inj ho; have z := (HQC.out _ hSw).c1; go_simp
              simp only [Act.put, sa, s0, ss]
              refine takeA 6 135 (.bool false) hHeld ?_
              simp only [Act.put, sa, s0, ss]
              refine takeA 7 136 (.bool false) hHeld ?_
              simp only [Act.put, sa, s0, ss]
              refine skipA 8 137 hHeld ?_
              simp only [Act.put, sa, s0, ss]
              refine skipA 9 138 hHeld ?_
              simp only [Act.put, sa, s0, ss]
              refine skipA 10 139 hHeld ?_
              simp only [Act.put, sa, s0, ss]
              refine skipA 11 140 hHeld ?_
              simp only [Act.put, sa, s0, ss]
              refine skipA 12 141 hHeld ?_
              simp only [Act.put, sa, s0, ss]
              refine skipA 13 142 hHeld ?_
              simp only [Act.put, sa, s0, ss]
              refine skipA 14 143 hHeld ?_
              simp only [Act.put, sa, s0, ss]
              refine skipA 15 144 hHeld ?_
              simp only [Act.put, sa, s0, ss]
              refine skipA 16 145 hHeld ?_
              simp only [Act.put, sa, s0, ss]
              refine skipA 17 146 hHeld ?_
              simp only [Act.put, sa, s0, ss]
              refine skipA 18 147 hHeld ?_
              simp only [Act.put, sa, s0, ss]
              refine skipA 19 148 hHeld ?_
              simp only [Act.put, sa, s0, ss]
              refine skipA 20 149 hHeld ?_
              simp only [Act.put, sa, s0, ss]
              refine takeA 21 150 (.bool false) hHeld ?_
              simp only [Act.put, sa, s0, ss]
              refine takeA 22 151 (.bool false) hHeld ?_
              simp only [Act.put, sa, s0, ss]
              refine skipA 23 152 hHeld ?_
              simp only [Act.put, sa, s0, ss]
              refine skipA 24 153 hHeld ?_
              simp only [Act.put, sa, s0, ss]
              refine skipA 25 154 hHeld ?_
              simp only [Act.put, sa, s0, ss]
              refine skipA 26 155 hHeld ?_
              simp only [Act.put, sa, s0, ss]
              refine skipA 27 156 hHeld ?_
              simp only [Act.put, sa, s0, ss]
              refine skipA 28 157 hHeld ?_
              simp only [Act.put, sa, s0, ss]
              refine skipA 29 158 hHeld ?_
              simp only [Act.put, sa, s0, ss]
              refine takeA 30 159 (.bool false) hHeld ?_
              simp only [Act.put, sa, s0, ss]
              refine takeA 31 160 (.bool false) hHeld ?_
              simp only [Act.put, sa, s0, ss]
              refine skipA 32 161 hHeld ?_
              simp only [Act.put, sa, s0, ss]
              refine skipA 33 162 hHeld ?_
              simp only [Act.put, sa, s0, ss]
              refine skipA 34 163 hHeld ?_
              simp only [Act.put, sa, s0, ss]
              refine skipA 35 164 hHeld ?_
              simp only [Act.put, sa, s0, ss]
              refine skipA 36 165 hHeld ?_
              simp only [Act.put, sa, s0, ss]
              refine skipA 37 166 hHeld ?_
              simp only [Act.put, sa, s0, ss]
              refine skipA 38 167 hHeld ?_
              simp only [Act.put, sa, s0, ss]
              refine skipA 39 168 hHeld ?_
              simp only [Act.put, sa, s0, ss]
              refine skipA 40 169 hHeld ?_
              simp only [Act.put, sa, s0, ss]
              refine skipA 41 170 hHeld ?_
              simp only [Act.put, sa, s0, ss]
              refine skipA 42 171 hHeld ?_
              simp only [Act.put, sa, s0, ss]
              refine skipA 43 172 hHeld ?_
              simp only [Act.put, sa, s0, ss]
              refine skipA 44 173 hHeld ?_
              simp only [Act.put, sa, s0, ss]
              refine takeA 45 174 (.bool false) hHeld ?_
              simp only [Act.put, sa, s0, ss]
              refine wpAnyH_done (by kernel_rfl) ?_ _
              refine NoPanic.normal ?_
              have hnot : ¬ inQ (nth R j) cc dd = true := fun h => by have := HIN.out.1 h; omega
              have HN : Hid (n = hitN (R.take (j + 1)) cc dd) := by have e := HTK.out; rw [if_neg hnot] at e; have := hn.out; show n = _; omega
              have HB3 := Lib.hid (below_on HB2.out hHeld)
              clear hHeld HTK HIN hn HB2 hnot
              go_wp2_with fail
              exact ⟨⟨j + 1, n, by omega, by go_num, rfl, HN, by omega, HB3.out⟩, by simp [intOf]; omega⟩
          by_cases b2 : cc < (nth R j).x1 + (nth R j).x3
          rotate_left
          · go_upto_region 18 with (fail)
            as_aux_lemma =>
              refine wp_region_noPanic ?_
              refine wp_region_held_drew (S := fun W' => Below wr.heap.size wr W') (by kernel_rfl) (below_drewN (Below.refl _ _) 1) (fun hHeld => ?_)
              refine takeA 0 129 (.int .i64 cc) hHeld ?_
              simp only [Act.put, sa, s0, ss]
              refine takeA 1 130 (.slice (some ⟨bn, off, none⟩) R.length d9) hHeld ?_
              simp only [Act.put, sa, s0, ss]
              refine takeA 2 131 (.int .i64 j) hHeld ?_
              simp only [Act.put, sa, s0, ss]
              refine takeA 3 132 (.pointer (some ⟨bn, off + j * 5, none⟩)) hHeld ?_
              simp only [Act.put, sa, s0, ss]
              refine takeA 4 133 (.pointer (some ⟨bn, off + j * 5 + 1, none⟩)) hHeld ?_
              simp only [Act.put, sa, s0, ss]
              refine takeB 5 134 (.int .i64 (nth R j).x1) (fun w o hSw ho => ?_) hHeld ?_
              · obtain rfl := Option.some.inj ho; have z := (HQC.out _ hSw).c1; go_simp
              simp only [Act.put, sa, s0, ss]
              refine takeA 6 135 (.bool true) hHeld ?_
              simp only [Act.put, sa, s0, ss]
              refine takeA 7 136 (.bool true) hHeld ?_
              simp only [Act.put, sa, s0, ss]
              refine takeA 8 137 (.int .i64 cc) hHeld ?_
              simp only [Act.put, sa, s0, ss]
              refine takeA 9 138 (.slice (some ⟨bn, off, none⟩) R.length d9) hHeld ?_
              simp only [Act.put, sa, s0, ss]
              refine takeA 10 139 (.int .i64 j) hHeld ?_
              simp only [Act.put, sa, s0, ss]
              refine takeA 11 140 (.pointer (some ⟨bn, off + j * 5, none⟩)) hHeld ?_
              simp only [Act.put, sa, s0, ss]
              refine takeA 12 141 (.pointer (some ⟨bn, off + j * 5 + 1, none⟩)) hHeld ?_
              simp only [Act.put, sa, s0, ss]
              refine takeB 13 142 (.int .i64 (nth R j).x1) (fun w o hSw ho => ?_) hHeld ?_
              · obtain rfl := Option.some.inj ho; have z := (HQC.out _ hSw).c1; go_simp
              simp only [Act.put, sa, s0, ss]
              refine takeA 14 143 (.slice (some ⟨bn, off, none⟩) R.length d9) hHeld ?_
              simp only [Act.put, sa, s0, ss]
              refine takeA 15 144 (.int .i64 j) hHeld ?_
              simp only [Act.put, sa, s0, ss]
              refine takeA 16 145 (.pointer (some ⟨bn, off + j * 5, none⟩)) hHeld ?_
              simp only [Act.put, sa, s0, ss]
              refine takeA 17 146 (.pointer (some ⟨bn, off + j * 5 + 3, none⟩)) hHeld ?_
              simp only [Act.put, sa, s0, ss]
              refine takeB 18 147 (.int .i64 (nth R j).x3) (fun w o hSw ho => ?_) hHeld ?_
              · obtain rfl := Option.some.inj ho; have z := (HQC.out _ hSw).c3; go_simp
              simp only [Act.put, sa, s0, ss]
              refine takeA 19 148 (.int .i64 ((nth R j).x1 + (nth R j).x3)) hHeld ?_
              simp only [Act.put, sa, s0, ss]
              refine takeA 20 149 (.bool false) hHeld ?_
              simp only [Act.put, sa, s0, ss]
              refine takeA 21 150 (.bool false) hHeld ?_
              simp only [Act.put, sa, s0, ss]
              refine takeA 22 151 (.bool false) hHeld ?_
              simp only [Act.put, sa, s0, ss]
              refine skipA 23 152 hHeld ?_
              simp only [Act.put, sa, s0, ss]
              refine skipA 24 153 hHeld ?_
              simp only [Act.put, sa, s0, ss]
              refine skipA 25 154 hHeld ?_
              simp only [Act.put, sa, s0, ss]
              refine skipA 26 155 hHeld ?_
              simp only [Act.put, sa, s0, ss]
              refine skipA 27 156 hHeld ?_
              simp only [Act.put, sa, s0, ss]
              refine skipA 28 157 hHeld ?_
              simp only [Act.put, sa, s0, ss]
              refine skipA 29 158 hHeld ?_
              simp only [Act.put, sa, s0, ss]
              refine takeA 30 159 (.bool false) hHeld ?_
              simp only [Act.put, sa, s0, ss]
              refine takeA 31 160 (.bool false) hHeld ?_
              simp only [Act.put, sa, s0, ss]
              refine skipA 32 161 hHeld ?_
              simp only [Act.put, sa, s0, ss]
              refine skipA 33 162 hHeld ?_
              simp only [Act.put, sa, s0, ss]
              refine skipA 34 163 hHeld ?_
              simp only [Act.put, sa, s0, ss]
              refine skipA 35 164 hHeld ?_
              simp only [Act.put, sa, s0, ss]
              refine skipA 36 165 hHeld ?_
              simp only [Act.put, sa, s0, ss]
              refine skipA 37 166 hHeld ?_
              simp only [Act.put, sa, s0, ss]
              refine skipA 38 167 hHeld ?_
              simp only [Act.put, sa, s0, ss]
              refine skipA 39 168 hHeld ?_
              simp only [Act.put, sa, s0, ss]
              refine skipA 40 169 hHeld ?_
              simp only [Act.put, sa, s0, ss]
              refine skipA 41 170 hHeld ?_
              simp only [Act.put, sa, s0, ss]
              refine skipA 42 171 hHeld ?_
              simp only [Act.put, sa, s0, ss]
              refine skipA 43 172 hHeld ?_
              simp only [Act.put, sa, s0, ss]
              refine skipA 44 173 hHeld ?_
              simp only [Act.put, sa, s0, ss]
              refine takeA 45 174 (.bool false) hHeld ?_
              simp only [Act.put, sa, s0, ss]
              refine wpAnyH_done (by kernel_rfl) ?_ _
              refine NoPanic.normal ?_
              have hnot : ¬ inQ (nth R j) cc dd = true := fun h => by have := HIN.out.1 h; omega
              have HN : Hid (n = hitN (R.take (j + 1)) cc dd) := by have e := HTK.out; rw [if_neg hnot] at e; have := hn.out; show n = _; omega
              have HB3 := Lib.hid (below_on HB2.out hHeld)
              clear hHeld HTK HIN hn HB2 hnot
              go_wp2_with fail
              exact ⟨⟨j + 1, n, by omega, by go_num, rfl, HN, by omega, HB3.out⟩, by simp [intOf]; omega⟩
          by_cases b3 : (nth R j).x2 ≤ dd
          rotate_left
          · go_upto_region 18 with (fail)
            as_aux_lemma =>
              refine wp_region_noPanic ?_
              refine wp_region_held_drew (S := fun W' => Below wr.heap.size wr W') (by kernel_rfl) (below_drewN (Below.refl _ _) 1) (fun hHeld => ?_)
              refine takeA 0 129 (.int .i64 cc) hHeld ?_
              simp only [Act.put, sa, s0, ss]
              refine takeA 1 130 (.slice (some ⟨bn, off, none⟩) R.length d9) hHeld ?_
              simp only [Act.put, sa, s0, ss]
              refine takeA 2 131 (.int .i64 j) hHeld ?_
              simp only [Act.put, sa, s0, ss]
              refine takeA 3 132 (.pointer (some ⟨bn, off + j * 5, none⟩)) hHeld ?_
              simp only [Act.put, sa, s0, ss]
              refine takeA 4 133 (.pointer (some ⟨bn, off + j * 5 + 1, none⟩)) hHeld ?_
              simp only [Act.put, sa, s0, ss]
              refine takeB 5 134 (.int .i64 (nth R j).x1) (fun w o hSw ho => ?_) hHeld ?_
              · obtain rfl := Option.some.inj ho; have z := (HQC.out _ hSw).c1; go_simp
              simp only [Act.put, sa, s0, ss]
              refine takeA 6 135 (.bool true) hHeld ?_
              simp only [Act.put, sa, s0, ss]
              refine takeA 7 136 (.bool true) hHeld ?_
              simp only [Act.put, sa, s0, ss]
              refine takeA 8 137 (.int .i64 cc) hHeld ?_
              simp only [Act.put, sa, s0, ss]
              refine takeA 9 138 (.slice (some ⟨bn, off, none⟩) R.length d9) hHeld ?_
              simp only [Act.put, sa, s0, ss]
              refine takeA 10 139 (.int .i64 j) hHeld ?_
              simp only [Act.put, sa, s0, ss]
              refine takeA 11 140 (.pointer (some ⟨bn, off + j * 5, none⟩)) hHeld ?_
              simp only [Act.put, sa, s0, ss]
              refine takeA 12 141 (.pointer (some ⟨bn, off + j * 5 + 1, none⟩)) hHeld ?_
              simp only [Act.put, sa, s0, ss]
              refine takeB 13 142 (.int .i64 (nth R j).x1) (fun w o hSw ho => ?_) hHeld ?_
              · obtain rfl := Option.some.inj ho; have z := (HQC.out _ hSw).c1; go_simp
              simp only [Act.put, sa, s0, ss]
              refine takeA 14 143 (.slice (some ⟨bn, off, none⟩) R.length d9) hHeld ?_
              simp only [Act.put, sa, s0, ss]
              refine takeA 15 144 (.int .i64 j) hHeld ?_
              simp only [Act.put, sa, s0, ss]
              refine takeA 16 145 (.pointer (some ⟨bn, off + j * 5, none⟩)) hHeld ?_
              simp only [Act.put, sa, s0, ss]
              refine takeA 17 146 (.pointer (some ⟨bn, off + j * 5 + 3, none⟩)) hHeld ?_
              simp only [Act.put, sa, s0, ss]
              refine takeB 18 147 (.int .i64 (nth R j).x3) (fun w o hSw ho => ?_) hHeld ?_
              · obtain rfl := Option.some.inj ho; have z := (HQC.out _ hSw).c3; go_simp
              simp only [Act.put, sa, s0, ss]
              refine takeA 19 148 (.int .i64 ((nth R j).x1 + (nth R j).x3)) hHeld ?_
              simp only [Act.put, sa, s0, ss]
              refine takeA 20 149 (.bool true) hHeld ?_
              simp only [Act.put, sa, s0, ss]
              refine takeA 21 150 (.bool true) hHeld ?_
              simp only [Act.put, sa, s0, ss]
              refine takeA 22 151 (.bool true) hHeld ?_
              simp only [Act.put, sa, s0, ss]
              refine takeA 23 152 (.int .i64 dd) hHeld ?_
              simp only [Act.put, sa, s0, ss]
              refine takeA 24 153 (.slice (some ⟨bn, off, none⟩) R.length d9) hHeld ?_
              simp only [Act.put, sa, s0, ss]
              refine takeA 25 154 (.int .i64 j) hHeld ?_
              simp only [Act.put, sa, s0, ss]
              refine takeA 26 155 (.pointer (some ⟨bn, off + j * 5, none⟩)) hHeld ?_
              simp only [Act.put, sa, s0, ss]
              refine takeA 27 156 (.pointer (some ⟨bn, off + j * 5 + 2, none⟩)) hHeld ?_
              simp only [Act.put, sa, s0, ss]
              refine takeB 28 157 (.int .i64 (nth R j).x2) (fun w o hSw ho => ?_) hHeld ?_
              · obtain rfl := Option.some.inj ho; have z := (HQC.out _ hSw).c2; go_simp
              simp only [Act.put, sa, s0, ss]
              refine takeA 29 158 (.bool false) hHeld ?_
              simp only [Act.put, sa, s0, ss]
              refine takeA 30 159 (.bool false) hHeld ?_
              simp only [Act.put, sa, s0, ss]
              refine takeA 31 160 (.bool false) hHeld ?_
              simp only [Act.put, sa, s0, ss]
              refine skipA 32 161 hHeld ?_
              simp only [Act.put, sa, s0, ss]
              refine skipA 33 162 hHeld ?_
              simp only [Act.put, sa, s0, ss]
              refine skipA 34 163 hHeld ?_
              simp only [Act.put, sa, s0, ss]
              refine skipA 35 164 hHeld ?_
              simp only [Act.put, sa, s0, ss]
              refine skipA 36 165 hHeld ?_
              simp only [Act.put, sa, s0, ss]
              refine skipA 37 166 hHeld ?_
              simp only [Act.put, sa, s0, ss]
              refine skipA 38 167 hHeld ?_
              simp only [Act.put, sa, s0, ss]
              refine skipA 39 168 hHeld ?_
              simp only [Act.put, sa, s0, ss]
              refine skipA 40 169 hHeld ?_
              simp only [Act.put, sa, s0, ss]
              refine skipA 41 170 hHeld ?_
              simp only [Act.put, sa, s0, ss]
              refine skipA 42 171 hHeld ?_
              simp only [Act.put, sa, s0, ss]
              refine skipA 43 172 hHeld ?_
              simp only [Act.put, sa, s0, ss]
              refine skipA 44 173 hHeld ?_
              simp only [Act.put, sa, s0, ss]
              refine takeA 45 174 (.bool false) hHeld ?_
              simp only [Act.put, sa, s0, ss]
              refine wpAnyH_done (by kernel_rfl) ?_ _
              refine NoPanic.normal ?_
              have hnot : ¬ inQ (nth R j) cc dd = true := fun h => by have := HIN.out.1 h; omega
              have HN : Hid (n = hitN (R.take (j + 1)) cc dd) := by have e := HTK.out; rw [if_neg hnot] at e; have := hn.out; show n = _; omega
              have HB3 := Lib.hid (below_on HB2.out hHeld)
              clear hHeld HTK HIN hn HB2 hnot
              go_wp2_with fail
              exact ⟨⟨j + 1, n, by omega, by go_num, rfl, HN, by omega, HB3.out⟩, by simp [intOf]; omega⟩
          by_cases b4 : dd < (nth R j).x2 + (nth R j).x4
          rotate_left
          · go_upto_region 18 with (fail)
            as_aux_lemma =>
              refine wp_region_noPanic ?_
              refine wp_region_held_drew (S := fun W' => Below wr.heap.size wr W') (by kernel_rfl) (below_drewN (Below.refl _ _) 1) (fun hHeld => ?_)
              refine takeA 0 129 (.int .i64 cc) hHeld ?_
              simp only [Act.put, sa, s0, ss]
              refine takeA 1 130 (.slice (some ⟨bn, off, none⟩) R.length d9) hHeld ?_
              simp only [Act.put, sa, s0, ss]
              refine takeA 2 131 (.int .i64 j) hHeld ?_
              simp only [Act.put, sa, s0, ss]
              refine takeA 3 132 (.pointer (some ⟨bn, off + j * 5, none⟩)) hHeld ?_
              simp only [Act.put, sa, s0, ss]
              refine takeA 4 133 (.pointer (some ⟨bn, off + j * 5 + 1, none⟩)) hHeld ?_
              simp only [Act.put, sa, s0, ss]
              refine takeB 5 134 (.int .i64 (nth R j).x1) (fun w o hSw ho => ?_) hHeld ?_
              · obtain rfl := Option.some.inj ho; have z := (HQC.out _ hSw).c1; go_simp
              simp only [Act.put, sa, s0, ss]
              refine takeA 6 135 (.bool true) hHeld ?_
              simp only [Act.put, sa, s0, ss]
              refine takeA 7 136 (.bool true) hHeld ?_
              simp only [Act.put, sa, s0, ss]
              refine takeA 8 137 (.int .i64 cc) hHeld ?_
              simp only [Act.put, sa, s0, ss]
              refine takeA 9 138 (.slice (some ⟨bn, off, none⟩) R.length d9) hHeld ?_
              simp only [Act.put, sa, s0, ss]
              refine takeA 10 139 (.int .i64 j) hHeld ?_
              simp only [Act.put, sa, s0, ss]
              refine takeA 11 140 (.pointer (some ⟨bn, off + j * 5, none⟩)) hHeld ?_
              simp only [Act.put, sa, s0, ss]
              refine takeA 12 141 (.pointer (some ⟨bn, off + j * 5 + 1, none⟩)) hHeld ?_
              simp only [Act.put, sa, s0, ss]
              refine takeB 13 142 (.int .i64 (nth R j).x1) (fun w o hSw ho => ?_) hHeld ?_
              · obtain rfl := Option.some.inj ho; have z := (HQC.out _ hSw).c1; go_simp
              simp only [Act.put, sa, s0, ss]
              refine takeA 14 143 (.slice (some ⟨bn, off, none⟩) R.length d9) hHeld ?_
              simp only [Act.put, sa, s0, ss]
              refine takeA 15 144 (.int .i64 j) hHeld ?_
              simp only [Act.put, sa, s0, ss]
              refine takeA 16 145 (.pointer (some ⟨bn, off + j * 5, none⟩)) hHeld ?_
              simp only [Act.put, sa, s0, ss]
              refine takeA 17 146 (.pointer (some ⟨bn, off + j * 5 + 3, none⟩)) hHeld ?_
              simp only [Act.put, sa, s0, ss]
              refine takeB 18 147 (.int .i64 (nth R j).x3) (fun w o hSw ho => ?_) hHeld ?_
              · obtain rfl := Option.some.inj ho; have z := (HQC.out _ hSw).c3; go_simp
              simp only [Act.put, sa, s0, ss]
              refine takeA 19 148 (.int .i64 ((nth R j).x1 + (nth R j).x3)) hHeld ?_
              simp only [Act.put, sa, s0, ss]
              refine takeA 20 149 (.bool true) hHeld ?_
              simp only [Act.put, sa, s0, ss]
              refine takeA 21 150 (.bool true) hHeld ?_
              simp only [Act.put, sa, s0, ss]
              refine takeA 22 151 (.bool true) hHeld ?_
              simp only [Act.put, sa, s0, ss]
              refine takeA 23 152 (.int .i64 dd) hHeld ?_
              simp only [Act.put, sa, s0, ss]
              refine takeA 24 153 (.slice (some ⟨bn, off, none⟩) R.length d9) hHeld ?_
              simp only [Act.put, sa, s0, ss]
              refine takeA 25 154 (.int .i64 j) hHeld ?_
              simp only [Act.put, sa, s0, ss]
              refine takeA 26 155 (.pointer (some ⟨bn, off + j * 5, none⟩)) hHeld ?_
              simp only [Act.put, sa, s0, ss]
              refine takeA 27 156 (.pointer (some ⟨bn, off + j * 5 + 2, none⟩)) hHeld ?_
              simp only [Act.put, sa, s0, ss]
              refine takeB 28 157 (.int .i64 (nth R j).x2) (fun w o hSw ho => ?_) hHeld ?_
              · obtain rfl := Option.some.inj ho; have z := (HQC.out _ hSw).c2; go_simp
              simp only [Act.put, sa, s0, ss]
              refine takeA 29 158 (.bool true) hHeld ?_
              simp only [Act.put, sa, s0, ss]
              refine takeA 30 159 (.bool true) hHeld ?_
              simp only [Act.put, sa, s0, ss]
              refine takeA 31 160 (.bool true) hHeld ?_
              simp only [Act.put, sa, s0, ss]
              refine takeA 32 161 (.int .i64 dd) hHeld ?_
              simp only [Act.put, sa, s0, ss]
              refine takeA 33 162 (.slice (some ⟨bn, off, none⟩) R.length d9) hHeld ?_
              simp only [Act.put, sa, s0, ss]
              refine takeA 34 163 (.int .i64 j) hHeld ?_
              simp only [Act.put, sa, s0, ss]
              refine takeA 35 164 (.pointer (some ⟨bn, off + j * 5, none⟩)) hHeld ?_
              simp only [Act.put, sa, s0, ss]
              refine takeA 36 165 (.pointer (some ⟨bn, off + j * 5 + 2, none⟩)) hHeld ?_
              simp only [Act.put, sa, s0, ss]
              refine takeB 37 166 (.int .i64 (nth R j).x2) (fun w o hSw ho => ?_) hHeld ?_
              · obtain rfl := Option.some.inj ho; have z := (HQC.out _ hSw).c2; go_simp
              simp only [Act.put, sa, s0, ss]
              refine takeA 38 167 (.slice (some ⟨bn, off, none⟩) R.length d9) hHeld ?_
              simp only [Act.put, sa, s0, ss]
              refine takeA 39 168 (.int .i64 j) hHeld ?_
              simp only [Act.put, sa, s0, ss]
              refine takeA 40 169 (.pointer (some ⟨bn, off + j * 5, none⟩)) hHeld ?_
              simp only [Act.put, sa, s0, ss]
              refine takeA 41 170 (.pointer (some ⟨bn, off + j * 5 + 4, none⟩)) hHeld ?_
              simp only [Act.put, sa, s0, ss]
              refine takeB 42 171 (.int .i64 (nth R j).x4) (fun w o hSw ho => ?_) hHeld ?_
              · obtain rfl := Option.some.inj ho; have z := (HQC.out _ hSw).c4; go_simp
              simp only [Act.put, sa, s0, ss]
              refine takeA 43 172 (.int .i64 ((nth R j).x2 + (nth R j).x4)) hHeld ?_
              simp only [Act.put, sa, s0, ss]
              refine takeA 44 173 (.bool false) hHeld ?_
              simp only [Act.put, sa, s0, ss]
              refine takeA 45 174 (.bool false) hHeld ?_
              simp only [Act.put, sa, s0, ss]
              refine wpAnyH_done (by kernel_rfl) ?_ _
              refine NoPanic.normal ?_
              have hnot : ¬ inQ (nth R j) cc dd = true := fun h => by have := HIN.out.1 h; omega
              have HN : Hid (n = hitN (R.take (j + 1)) cc dd) := by have e := HTK.out; rw [if_neg hnot] at e; have := hn.out; show n = _; omega
              have HB3 := Lib.hid (below_on HB2.out hHeld)
              clear hHeld HTK HIN hn HB2 hnot
              go_wp2_with fail
              exact ⟨⟨j + 1, n, by omega, by go_num, rfl, HN, by omega, HB3.out⟩, by simp [intOf]; omega⟩
          · go_upto_region 18 with (fail)
            as_aux_lemma =>
              refine wp_region_noPanic ?_
              refine wp_region_held_drew (S := fun W' => Below wr.heap.size wr W') (by kernel_rfl) (below_drewN (Below.refl _ _) 1) (fun hHeld => ?_)
              refine takeA 0 129 (.int .i64 cc) hHeld ?_
              simp only [Act.put, sa, s0, ss]
              refine takeA 1 130 (.slice (some ⟨bn, off, none⟩) R.length d9) hHeld ?_
              simp only [Act.put, sa, s0, ss]
              refine takeA 2 131 (.int .i64 j) hHeld ?_
              simp only [Act.put, sa, s0, ss]
              refine takeA 3 132 (.pointer (some ⟨bn, off + j * 5, none⟩)) hHeld ?_
              simp only [Act.put, sa, s0, ss]
              refine takeA 4 133 (.pointer (some ⟨bn, off + j * 5 + 1, none⟩)) hHeld ?_
              simp only [Act.put, sa, s0, ss]
              refine takeB 5 134 (.int .i64 (nth R j).x1) (fun w o hSw ho => ?_) hHeld ?_
              · obtain rfl := Option.some.inj ho; have z := (HQC.out _ hSw).c1; go_simp
              simp only [Act.put, sa, s0, ss]
              refine takeA 6 135 (.bool true) hHeld ?_
              simp only [Act.put, sa, s0, ss]
              refine takeA 7 136 (.bool true) hHeld ?_
              simp only [Act.put, sa, s0, ss]
              refine takeA 8 137 (.int .i64 cc) hHeld ?_
              simp only [Act.put, sa, s0, ss]
              refine takeA 9 138 (.slice (some ⟨bn, off, none⟩) R.length d9) hHeld ?_
              simp only [Act.put, sa, s0, ss]
              refine takeA 10 139 (.int .i64 j) hHeld ?_
              simp only [Act.put, sa, s0, ss]
              refine takeA 11 140 (.pointer (some ⟨bn, off + j * 5, none⟩)) hHeld ?_
              simp only [Act.put, sa, s0, ss]
              refine takeA 12 141 (.pointer (some ⟨bn, off + j * 5 + 1, none⟩)) hHeld ?_
              simp only [Act.put, sa, s0, ss]
              refine takeB 13 142 (.int .i64 (nth R j).x1) (fun w o hSw ho => ?_) hHeld ?_
              · obtain rfl := Option.some.inj ho; have z := (HQC.out _ hSw).c1; go_simp
              simp only [Act.put, sa, s0, ss]
              refine takeA 14 143 (.slice (some ⟨bn, off, none⟩) R.length d9) hHeld ?_
              simp only [Act.put, sa, s0, ss]
              refine takeA 15 144 (.int .i64 j) hHeld ?_
              simp only [Act.put, sa, s0, ss]
              refine takeA 16 145 (.pointer (some ⟨bn, off + j * 5, none⟩)) hHeld ?_
              simp only [Act.put, sa, s0, ss]
              refine takeA 17 146 (.pointer (some ⟨bn, off + j * 5 + 3, none⟩)) hHeld ?_
              simp only [Act.put, sa, s0, ss]
              refine takeB 18 147 (.int .i64 (nth R j).x3) (fun w o hSw ho => ?_) hHeld ?_
              · obtain rfl := Option.some.inj ho; have z := (HQC.out _ hSw).c3; go_simp
              simp only [Act.put, sa, s0, ss]
              refine takeA 19 148 (.int .i64 ((nth R j).x1 + (nth R j).x3)) hHeld ?_
              simp only [Act.put, sa, s0, ss]
              refine takeA 20 149 (.bool true) hHeld ?_
              simp only [Act.put, sa, s0, ss]
              refine takeA 21 150 (.bool true) hHeld ?_
              simp only [Act.put, sa, s0, ss]
              refine takeA 22 151 (.bool true) hHeld ?_
              simp only [Act.put, sa, s0, ss]
              refine takeA 23 152 (.int .i64 dd) hHeld ?_
              simp only [Act.put, sa, s0, ss]
              refine takeA 24 153 (.slice (some ⟨bn, off, none⟩) R.length d9) hHeld ?_
              simp only [Act.put, sa, s0, ss]
              refine takeA 25 154 (.int .i64 j) hHeld ?_
              simp only [Act.put, sa, s0, ss]
              refine takeA 26 155 (.pointer (some ⟨bn, off + j * 5, none⟩)) hHeld ?_
              simp only [Act.put, sa, s0, ss]
              refine takeA 27 156 (.pointer (some ⟨bn, off + j * 5 + 2, none⟩)) hHeld ?_
              simp only [Act.put, sa, s0, ss]
              refine takeB 28 157 (.int .i64 (nth R j).x2) (fun w o hSw ho => ?_) hHeld ?_
              · obtain rfl := Option.some.inj ho; have z := (HQC.out _ hSw).c2; go_simp
              simp only [Act.put, sa, s0, ss]
              refine takeA 29 158 (.bool true) hHeld ?_
              simp only [Act.put, sa, s0, ss]
              refine takeA 30 159 (.bool true) hHeld ?_
              simp only [Act.put, sa, s0, ss]
              refine takeA 31 160 (.bool true) hHeld ?_
              simp only [Act.put, sa, s0, ss]
              refine takeA 32 161 (.int .i64 dd) hHeld ?_
              simp only [Act.put, sa, s0, ss]
              refine takeA 33 162 (.slice (some ⟨bn, off, none⟩) R.length d9) hHeld ?_
              simp only [Act.put, sa, s0, ss]
              refine takeA 34 163 (.int .i64 j) hHeld ?_
              simp only [Act.put, sa, s0, ss]
              refine takeA 35 164 (.pointer (some ⟨bn, off + j * 5, none⟩)) hHeld ?_
              simp only [Act.put, sa, s0, ss]
              refine takeA 36 165 (.pointer (some ⟨bn, off + j * 5 + 2, none⟩)) hHeld ?_
              simp only [Act.put, sa, s0, ss]
              refine takeB 37 166 (.int .i64 (nth R j).x2) (fun w o hSw ho => ?_) hHeld ?_
              · obtain rfl := Option.some.inj ho; have z := (HQC.out _ hSw).c2; go_simp
              simp only [Act.put, sa, s0, ss]
              refine takeA 38 167 (.slice (some ⟨bn, off, none⟩) R.length d9) hHeld ?_
              simp only [Act.put, sa, s0, ss]
              refine takeA 39 168 (.int .i64 j) hHeld ?_
              simp only [Act.put, sa, s0, ss]
              refine takeA 40 169 (.pointer (some ⟨bn, off + j * 5, none⟩)) hHeld ?_
              simp only [Act.put, sa, s0, ss]
              refine takeA 41 170 (.pointer (some ⟨bn, off + j * 5 + 4, none⟩)) hHeld ?_
              simp only [Act.put, sa, s0, ss]
              refine takeB 42 171 (.int .i64 (nth R j).x4) (fun w o hSw ho => ?_) hHeld ?_
              · obtain rfl := Option.some.inj ho; have z := (HQC.out _ hSw).c4; go_simp
              simp only [Act.put, sa, s0, ss]
              refine takeA 43 172 (.int .i64 ((nth R j).x2 + (nth R j).x4)) hHeld ?_
              simp only [Act.put, sa, s0, ss]
              refine takeA 44 173 (.bool true) hHeld ?_
              simp only [Act.put, sa, s0, ss]
              refine takeA 45 174 (.bool true) hHeld ?_
              simp only [Act.put, sa, s0, ss]
              refine wpAnyH_done (by kernel_rfl) ?_ _
              refine NoPanic.normal ?_
              have hin : inQ (nth R j) cc dd = true := HIN.out.2 (by omega)
              have HN : Hid (n + 1 = hitN (R.take (j + 1)) cc dd) := by have e := HTK.out; rw [if_pos hin] at e; have := hn.out; show n + 1 = _; omega
              have hv : h6 = (nth R j).x0 := HHIT.out (nth R j) (by rw [nth_eq hlt]; exact List.getElem_mem _) hin
              rw [hv] at HM5
              have HB3 := Lib.hid (below_on HB2.out hHeld)
              have HWD := Lib.hid (below_on HB.out HB3.out)
              have HQD := Lib.hid (fun W2 (hb : Below wr.drew.heap.size wr.drew W2) => (HQC.out _ hHeld).below hb hbn)
              clear hHeld HTK HIN hn HB2 HQC hin hv
              go_upto_region 20 with (fail)
              generalize wr.drew = wd at *
              refine wp_region_noPanic ?_
              refine wp_region_held_drew (S := fun W' => Below W.heap.size W W' ∧ Below wd.heap.size wd W') (by kernel_rfl) ⟨below_drewN HWD.out 1, below_drewN (Below.refl _ _) 1⟩ (fun hHeld => ?_)
              refine takeA 0 177 (.pointer (some ⟨u5.heap.size, 1, none⟩)) hHeld ?_
              simp only [Act.put, sa, s0, ss]
              refine takeB 1 178 (.int .i64 (nth R j).x0) (fun w o hSw ho => ?_) hHeld ?_
              · obtain rfl := Option.some.inj ho; obtain ⟨z0, z1⟩ := HM5.out _ hSw.1; go_simp
              simp only [Act.put, sa, s0, ss]
              refine takeA 2 179 (.slice (some ⟨bn, off, none⟩) R.length d9) hHeld ?_
              simp only [Act.put, sa, s0, ss]
              refine takeA 3 180 (.int .i64 j) hHeld ?_
              simp only [Act.put, sa, s0, ss]
              refine takeA 4 181 (.pointer (some ⟨bn, off + j * 5, none⟩)) hHeld ?_
              simp only [Act.put, sa, s0, ss]
              refine takeA 5 182 (.pointer (some ⟨bn, off + j * 5, none⟩)) hHeld ?_
              simp only [Act.put, sa, s0, ss]
              refine takeB 6 183 (.int .i64 (nth R j).x0) (fun w o hSw ho => ?_) hHeld ?_
              · obtain rfl := Option.some.inj ho; have z := (HQD.out _ hSw.2).c0; go_simp
              simp only [Act.put, sa, s0, ss]
              refine takeA 7 184 (.bool false) hHeld ?_
              simp only [Act.put, sa, s0, ss]
              refine wpAnyH_done (by kernel_rfl) ?_ _
              refine NoPanic.normal ?_
              have HB4 := Lib.hid (below_on HB3.out hHeld.2)
              clear hHeld HB3 HWD HQD
              go_wp2_with fail
              exact ⟨⟨j + 1, n + 1, by omega, by go_num, by go_num, HN, by omega, HB4.out⟩, by simp [intOf]; omega⟩
        · obtain rfl : j = R.length := by omega
          rw [List.take_length] at hn
          have hn1 : n ≤ 1 := by have := hn.out; have := HLE.out; omega
          have HZ := Lib.hid (below_on HB.out HB2.out)
          obtain ⟨y0, y1⟩ := HM5.out _ HZ.out
          rcases Nat.eq_zero_or_pos n with rfl | hpos
          · obtain rfl := HZE.out hn.out.symm
            clear hn HLE HZE HHIT HG HB HB2 O9
            rcases HCO.out with h1 | ⟨r, bq, oq, rfl, rfl, rfl, hqb, hhc⟩
            · clear HCO
              go_upto_region 24 with (fail)
              as_aux_lemma =>
                refine wp_region_noPanic ?_
                refine wp_region_held_drew (S := fun W' => Below W.heap.size W W') (by kernel_rfl) (below_drewN HZ.out 1) (fun hHeld => ?_)
                refine takeA 0 196 (.pointer (some ⟨u3.heap.size, 0, none⟩)) hHeld ?_
                simp only [Act.put, sa, s0, ss]
                refine takeB 1 197 (.int .i64 ro.1) (fun w o hSw ho => ?_) hHeld ?_
                · obtain rfl := Option.some.inj ho; obtain ⟨z0, z1⟩ := HM3.out _ hSw; go_simp
                simp only [Act.put, sa, s0, ss]
                refine takeA 2 198 (.bool true) hHeld ?_
                simp only [Act.put, sa, s0, ss]
                refine takeA 3 199 (.bool true) hHeld ?_
                simp only [Act.put, sa, s0, ss]
                refine skipA 4 200 hHeld ?_
                simp only [Act.put, sa, s0, ss]
                refine skipA 5 201 hHeld ?_
                simp only [Act.put, sa, s0, ss]
                refine skipA 6 202 hHeld ?_
                simp only [Act.put, sa, s0, ss]
                refine skipA 7 203 hHeld ?_
                simp only [Act.put, sa, s0, ss]
                refine skipA 8 204 hHeld ?_
                simp only [Act.put, sa, s0, ss]
                refine skipA 9 205 hHeld ?_
                simp only [Act.put, sa, s0, ss]
                refine skipA 10 206 hHeld ?_
                simp only [Act.put, sa, s0, ss]
                refine skipA 11 207 hHeld ?_
                simp only [Act.put, sa, s0, ss]
                refine skipA 12 208 hHeld ?_
                simp only [Act.put, sa, s0, ss]
                refine skipA 13 209 hHeld ?_
                simp only [Act.put, sa, s0, ss]
                refine skipA 14 210 hHeld ?_
                simp only [Act.put, sa, s0, ss]
                refine skipA 15 211 hHeld ?_
                simp only [Act.put, sa, s0, ss]
                refine skipA 16 212 hHeld ?_
                simp only [Act.put, sa, s0, ss]
                refine skipA 17 213 hHeld ?_
                simp only [Act.put, sa, s0, ss]
                refine skipA 18 214 hHeld ?_
                simp only [Act.put, sa, s0, ss]
                refine skipA 19 215 hHeld ?_
                simp only [Act.put, sa, s0, ss]
                refine skipA 20 216 hHeld ?_
                simp only [Act.put, sa, s0, ss]
                refine skipA 21 217 hHeld ?_
                simp only [Act.put, sa, s0, ss]
                refine skipA 22 218 hHeld ?_
                simp only [Act.put, sa, s0, ss]
                refine skipA 23 219 hHeld ?_
                simp only [Act.put, sa, s0, ss]
                refine skipA 24 220 hHeld ?_
                simp only [Act.put, sa, s0, ss]
                refine skipA 25 221 hHeld ?_
                simp only [Act.put, sa, s0, ss]
                refine skipA 26 222 hHeld ?_
                simp only [Act.put, sa, s0, ss]
                refine skipA 27 223 hHeld ?_
                simp only [Act.put, sa, s0, ss]
                refine skipA 28 224 hHeld ?_
                simp only [Act.put, sa, s0, ss]
                refine skipA 29 225 hHeld ?_
                simp only [Act.put, sa, s0, ss]
                refine skipA 30 226 hHeld ?_
                simp only [Act.put, sa, s0, ss]
                refine skipA 31 227 hHeld ?_
                simp only [Act.put, sa, s0, ss]
                refine skipA 32 228 hHeld ?_
                simp only [Act.put, sa, s0, ss]
                refine skipA 33 229 hHeld ?_
                simp only [Act.put, sa, s0, ss]
                refine takeA 34 230 (.bool true) hHeld ?_
                simp only [Act.put, sa, s0, ss]
                refine takeA 35 2 (.bool true) hHeld ?_
                simp only [Act.put, sa, s0, ss]
                refine wpAnyH_done (by kernel_rfl) ?_ _
                refine NoPanic.normal ?_
                have HY := Lib.hid (below_on E7.out hHeld)
                clear hHeld
                go_wp2_with fail
                go_ret
                exact ⟨rfl, HY.out⟩
            · have HQB := Lib.hid hqb
              have HHC := Lib.hid hhc
              have hev := run_eql_ir
              clear HCO hqb hhc
              dsimp only [List.length_cons, List.length_nil] at HM3
              go_upto_region 24 with (fail)
              as_aux_lemma =>
                refine wp_region_noPanic ?_
                refine wp_region_held_drew (S := fun W' => Below W.heap.size W W') (by kernel_rfl) (below_drewN HZ.out 1) (fun hHeld => ?_)
                refine takeA 0 196 (.pointer (some ⟨u3.heap.size, 0, none⟩)) hHeld ?_
                simp only [Act.put, sa, s0, ss]
                refine takeB 1 197 (.int .i64 0) (fun w o hSw ho => ?_) hHeld ?_
                · obtain rfl := Option.some.inj ho; obtain ⟨z0, z1⟩ := HM3.out _ hSw; go_simp
                simp only [Act.put, sa, s0, ss]
                refine takeA 2 198 (.bool false) hHeld ?_
                simp only [Act.put, sa, s0, ss]
                refine takeA 3 199 (.bool false) hHeld ?_
                simp only [Act.put, sa, s0, ss]
                refine takeA 4 200 (.pointer (some ⟨u3.heap.size, 1, none⟩)) hHeld ?_
                simp only [Act.put, sa, s0, ss]
                refine takeB 5 201 (.slice (some ⟨bq, oq, none⟩) 1 d3) (fun w o hSw ho => ?_) hHeld ?_
                · obtain rfl := Option.some.inj ho; obtain ⟨z0, z1⟩ := HM3.out _ hSw; go_simp
                simp only [Act.put, sa, s0, ss]
                refine takeA 6 202 (.int .i64 (1 : Int)) hHeld ?_
                simp only [Act.put, sa, s0, ss]
                refine takeA 7 203 (.bool true) hHeld ?_
                simp only [Act.put, sa, s0, ss]
                refine takeA 8 204 (.bool true) hHeld ?_
                simp only [Act.put, sa, s0, ss]
                refine takeA 9 205 (.pointer (some ⟨u3.heap.size, 1, none⟩)) hHeld ?_
                simp only [Act.put, sa, s0, ss]
                refine takeB 10 206 (.slice (some ⟨bq, oq, none⟩) 1 d3) (fun w o hSw ho => ?_) hHeld ?_
                · obtain rfl := Option.some.inj ho; obtain ⟨z0, z1⟩ := HM3.out _ hSw; go_simp
                simp only [Act.put, sa, s0, ss]
                refine takeA 11 207 (.pointer (some ⟨bq, oq, none⟩)) hHeld ?_
                simp only [Act.put, sa, s0, ss]
                refine takeA 12 208 (.pointer (some ⟨bq, oq, none⟩)) hHeld ?_
                simp only [Act.put, sa, s0, ss]
                refine takeB 13 209 (.int .i64 r.x0) (fun w o hSw ho => ?_) hHeld ?_
                · obtain rfl := Option.some.inj ho; have z := (HQB.out _ hSw).c0; go_simp
                simp only [Act.put, sa, s0, ss]
                refine takeA 14 210 (.int .i64 r.x0) hHeld ?_
                simp only [Act.put, sa, s0, ss]
                refine takeA 15 211 (.bool true) hHeld ?_
                simp only [Act.put, sa, s0, ss]
                refine takeA 16 212 (.bool true) hHeld ?_
                simp only [Act.put, sa, s0, ss]
                refine takeA 17 213 (.bool true) hHeld ?_
                simp only [Act.put, sa, s0, ss]
                refine takeB 18 214 (.agg #[.int .i64 a1.wide, .int .i64 a1.high, .slice p1 a1.nodes.length c1]) (fun w o hSw ho => ?_) hHeld ?_
                · obtain rfl := Option.some.inj ho; obtain ⟨z0, z1, z2⟩ := HM1.out _ hSw; go_simp
                simp only [Act.put, sa, s0, ss]
                refine takeA 19 215 (.pointer (some ⟨u3.heap.size, 1, none⟩)) hHeld ?_
                simp only [Act.put, sa, s0, ss]
                refine takeB 20 216 (.slice (some ⟨bq, oq, none⟩) 1 d3) (fun w o hSw ho => ?_) hHeld ?_
                · obtain rfl := Option.some.inj ho; obtain ⟨z0, z1⟩ := HM3.out _ hSw; go_simp
                simp only [Act.put, sa, s0, ss]
                refine takeA 21 217 (.pointer (some ⟨bq, oq, none⟩)) hHeld ?_
                simp only [Act.put, sa, s0, ss]
                refine takeA 22 218 (.pointer (some ⟨bq, oq + 1, none⟩)) hHeld ?_
                simp only [Act.put, sa, s0, ss]
                refine takeB 23 219 (.int .i64 r.x1) (fun w o hSw ho => ?_) hHeld ?_
                · obtain rfl := Option.some.inj ho; have z := (HQB.out _ hSw).c1; go_simp
                simp only [Act.put, sa, s0, ss]
                refine takeA 24 220 (.pointer (some ⟨u3.heap.size, 1, none⟩)) hHeld ?_
                simp only [Act.put, sa, s0, ss]
                refine takeB 25 221 (.slice (some ⟨bq, oq, none⟩) 1 d3) (fun w o hSw ho => ?_) hHeld ?_
                · obtain rfl := Option.some.inj ho; obtain ⟨z0, z1⟩ := HM3.out _ hSw; go_simp
                simp only [Act.put, sa, s0, ss]
                refine takeA 26 222 (.pointer (some ⟨bq, oq, none⟩)) hHeld ?_
                simp only [Act.put, sa, s0, ss]
                refine takeA 27 223 (.pointer (some ⟨bq, oq + 2, none⟩)) hHeld ?_
                simp only [Act.put, sa, s0, ss]
                refine takeB 28 224 (.int .i64 r.x2) (fun w o hSw ho => ?_) hHeld ?_
                · obtain rfl := Option.some.inj ho; have z := (HQB.out _ hSw).c2; go_simp
                simp only [Act.put, sa, s0, ss]
                refine takeA 30 226 (.int .i64 r.x0) hHeld ?_
                simp only [Act.put, sa, s0, ss]
                refine takeA 31 227 (.agg #[.int .i64 0, .int .i64 r.x0]) hHeld ?_
                simp only [Act.put, sa, s0, ss]
                refine oneR 29 (by kernel_rfl) (by kernel_rfl) (fun o ho K' hK => ?_)
                obtain rfl := Option.some.inj ho
                clear ho
                go_simp
                refine (HHC.out _ hHeld).mono ?_
                rintro e V225 ⟨rfl, hc⟩
                clear hHeld
                go_wp2_with fail
                refine hK.out _ _ (hc) (fun hHeld => ?_)
                clear hK K'
                try simp only [Act.put, sa, s0, ss]
                clear hc
                refine takeA 32 228 (.bool true) hHeld ?_
                simp only [Act.put, sa, s0, ss]
                refine takeA 33 229 (.bool true) hHeld ?_
                simp only [Act.put, sa, s0, ss]
                refine takeA 34 230 (.bool true) hHeld ?_
                simp only [Act.put, sa, s0, ss]
                refine takeA 35 2 (.bool true) hHeld ?_
                simp only [Act.put, sa, s0, ss]
                refine wpAnyH_done (by kernel_rfl) ?_ _
                refine NoPanic.normal ?_
                have HY := Lib.hid (below_on E7.out hHeld)
                clear hHeld
                go_wp2_with fail
                go_ret
                exact ⟨rfl, HY.out⟩
          · obtain rfl : n = 1 := by omega
            clear hn HLE HZE HHIT HG HB HB2 O9 hn1 hpos
            rcases HCO.out with h1 | ⟨r, bq, oq, rfl, rfl, rfl, hqb, hhc⟩
            · clear HCO
              go_upto_region 24 with (fail)
              as_aux_lemma =>
                refine wp_region_noPanic ?_
                refine wp_region_held_drew (S := fun W' => Below W.heap.size W W') (by kernel_rfl) (below_drewN HZ.out 1) (fun hHeld => ?_)
                refine takeA 0 196 (.pointer (some ⟨u3.heap.size, 0, none⟩)) hHeld ?_
                simp only [Act.put, sa, s0, ss]
                refine takeB 1 197 (.int .i64 ro.1) (fun w o hSw ho => ?_) hHeld ?_
                · obtain rfl := Option.some.inj ho; obtain ⟨z0, z1⟩ := HM3.out _ hSw; go_simp
                simp only [Act.put, sa, s0, ss]
                refine takeA 2 198 (.bool true) hHeld ?_
                simp only [Act.put, sa, s0, ss]
                refine takeA 3 199 (.bool true) hHeld ?_
                simp only [Act.put, sa, s0, ss]
                refine skipA 4 200 hHeld ?_
                simp only [Act.put, sa, s0, ss]
                refine skipA 5 201 hHeld ?_
                simp only [Act.put, sa, s0, ss]
                refine skipA 6 202 hHeld ?_
                simp only [Act.put, sa, s0, ss]
                refine skipA 7 203 hHeld ?_
                simp only [Act.put, sa, s0, ss]
                refine skipA 8 204 hHeld ?_
                simp only [Act.put, sa, s0, ss]
                refine skipA 9 205 hHeld ?_
                simp only [Act.put, sa, s0, ss]
                refine skipA 10 206 hHeld ?_
                simp only [Act.put, sa, s0, ss]
                refine skipA 11 207 hHeld ?_
                simp only [Act.put, sa, s0, ss]
                refine skipA 12 208 hHeld ?_
                simp only [Act.put, sa, s0, ss]
                refine skipA 13 209 hHeld ?_
                simp only [Act.put, sa, s0, ss]
                refine skipA 14 210 hHeld ?_
                simp only [Act.put, sa, s0, ss]
                refine skipA 15 211 hHeld ?_
                simp only [Act.put, sa, s0, ss]
                refine skipA 16 212 hHeld ?_
                simp only [Act.put, sa, s0, ss]
                refine skipA 17 213 hHeld ?_
                simp only [Act.put, sa, s0, ss]
                refine skipA 18 214 hHeld ?_
                simp only [Act.put, sa, s0, ss]
                refine skipA 19 215 hHeld ?_
                simp only [Act.put, sa, s0, ss]
                refine skipA 20 216 hHeld ?_
                simp only [Act.put, sa, s0, ss]
                refine skipA 21 217 hHeld ?_
                simp only [Act.put, sa, s0, ss]
                refine skipA 22 218 hHeld ?_
                simp only [Act.put, sa, s0, ss]
                refine skipA 23 219 hHeld ?_
                simp only [Act.put, sa, s0, ss]
                refine skipA 24 220 hHeld ?_
                simp only [Act.put, sa, s0, ss]
                refine skipA 25 221 hHeld ?_
                simp only [Act.put, sa, s0, ss]
                refine skipA 26 222 hHeld ?_
                simp only [Act.put, sa, s0, ss]
                refine skipA 27 223 hHeld ?_
                simp only [Act.put, sa, s0, ss]
                refine skipA 28 224 hHeld ?_
                simp only [Act.put, sa, s0, ss]
                refine skipA 29 225 hHeld ?_
                simp only [Act.put, sa, s0, ss]
                refine skipA 30 226 hHeld ?_
                simp only [Act.put, sa, s0, ss]
                refine skipA 31 227 hHeld ?_
                simp only [Act.put, sa, s0, ss]
                refine skipA 32 228 hHeld ?_
                simp only [Act.put, sa, s0, ss]
                refine skipA 33 229 hHeld ?_
                simp only [Act.put, sa, s0, ss]
                refine takeA 34 230 (.bool true) hHeld ?_
                simp only [Act.put, sa, s0, ss]
                refine takeA 35 2 (.bool true) hHeld ?_
                simp only [Act.put, sa, s0, ss]
                refine wpAnyH_done (by kernel_rfl) ?_ _
                refine NoPanic.normal ?_
                have HY := Lib.hid (below_on E7.out hHeld)
                clear hHeld
                go_wp2_with fail
                go_ret
                exact ⟨rfl, HY.out⟩
            · have HQB := Lib.hid hqb
              have HHC := Lib.hid hhc
              have hev := run_eql_ir
              clear HCO hqb hhc
              dsimp only [List.length_cons, List.length_nil] at HM3
              go_upto_region 24 with (fail)
              as_aux_lemma =>
                refine wp_region_noPanic ?_
                refine wp_region_held_drew (S := fun W' => Below W.heap.size W W') (by kernel_rfl) (below_drewN HZ.out 1) (fun hHeld => ?_)
                refine takeA 0 196 (.pointer (some ⟨u3.heap.size, 0, none⟩)) hHeld ?_
                simp only [Act.put, sa, s0, ss]
                refine takeB 1 197 (.int .i64 0) (fun w o hSw ho => ?_) hHeld ?_
                · obtain rfl := Option.some.inj ho; obtain ⟨z0, z1⟩ := HM3.out _ hSw; go_simp
                simp only [Act.put, sa, s0, ss]
                refine takeA 2 198 (.bool false) hHeld ?_
                simp only [Act.put, sa, s0, ss]
                refine takeA 3 199 (.bool false) hHeld ?_
                simp only [Act.put, sa, s0, ss]
                refine takeA 4 200 (.pointer (some ⟨u3.heap.size, 1, none⟩)) hHeld ?_
                simp only [Act.put, sa, s0, ss]
                refine takeB 5 201 (.slice (some ⟨bq, oq, none⟩) 1 d3) (fun w o hSw ho => ?_) hHeld ?_
                · obtain rfl := Option.some.inj ho; obtain ⟨z0, z1⟩ := HM3.out _ hSw; go_simp
                simp only [Act.put, sa, s0, ss]
                refine takeA 6 202 (.int .i64 (1 : Int)) hHeld ?_
                simp only [Act.put, sa, s0, ss]
                refine takeA 7 203 (.bool true) hHeld ?_
                simp only [Act.put, sa, s0, ss]
                refine takeA 8 204 (.bool true) hHeld ?_
                simp only [Act.put, sa, s0, ss]
                refine takeA 9 205 (.pointer (some ⟨u3.heap.size, 1, none⟩)) hHeld ?_
                simp only [Act.put, sa, s0, ss]
                refine takeB 10 206 (.slice (some ⟨bq, oq, none⟩) 1 d3) (fun w o hSw ho => ?_) hHeld ?_
                · obtain rfl := Option.some.inj ho; obtain ⟨z0, z1⟩ := HM3.out _ hSw; go_simp
                simp only [Act.put, sa, s0, ss]
                refine takeA 11 207 (.pointer (some ⟨bq, oq, none⟩)) hHeld ?_
                simp only [Act.put, sa, s0, ss]
                refine takeA 12 208 (.pointer (some ⟨bq, oq, none⟩)) hHeld ?_
                simp only [Act.put, sa, s0, ss]
                refine takeB 13 209 (.int .i64 r.x0) (fun w o hSw ho => ?_) hHeld ?_
                · obtain rfl := Option.some.inj ho; have z := (HQB.out _ hSw).c0; go_simp
                simp only [Act.put, sa, s0, ss]
                refine takeA 14 210 (.int .i64 r.x0) hHeld ?_
                simp only [Act.put, sa, s0, ss]
                refine takeA 15 211 (.bool true) hHeld ?_
                simp only [Act.put, sa, s0, ss]
                refine takeA 16 212 (.bool true) hHeld ?_
                simp only [Act.put, sa, s0, ss]
                refine takeA 17 213 (.bool true) hHeld ?_
                simp only [Act.put, sa, s0, ss]
                refine takeB 18 214 (.agg #[.int .i64 a1.wide, .int .i64 a1.high, .slice p1 a1.nodes.length c1]) (fun w o hSw ho => ?_) hHeld ?_
                · obtain rfl := Option.some.inj ho; obtain ⟨z0, z1, z2⟩ := HM1.out _ hSw; go_simp
                simp only [Act.put, sa, s0, ss]
                refine takeA 19 215 (.pointer (some ⟨u3.heap.size, 1, none⟩)) hHeld ?_
                simp only [Act.put, sa, s0, ss]
                refine takeB 20 216 (.slice (some ⟨bq, oq, none⟩) 1 d3) (fun w o hSw ho => ?_) hHeld ?_
                · obtain rfl := Option.some.inj ho; obtain ⟨z0, z1⟩ := HM3.out _ hSw; go_simp
                simp only [Act.put, sa, s0, ss]
                refine takeA 21 217 (.pointer (some ⟨bq, oq, none⟩)) hHeld ?_
                simp only [Act.put, sa, s0, ss]
                refine takeA 22 218 (.pointer (some ⟨bq, oq + 1, none⟩)) hHeld ?_
                simp only [Act.put, sa, s0, ss]
                refine takeB 23 219 (.int .i64 r.x1) (fun w o hSw ho => ?_) hHeld ?_
                · obtain rfl := Option.some.inj ho; have z := (HQB.out _ hSw).c1; go_simp
                simp only [Act.put, sa, s0, ss]
                refine takeA 24 220 (.pointer (some ⟨u3.heap.size, 1, none⟩)) hHeld ?_
                simp only [Act.put, sa, s0, ss]
                refine takeB 25 221 (.slice (some ⟨bq, oq, none⟩) 1 d3) (fun w o hSw ho => ?_) hHeld ?_
                · obtain rfl := Option.some.inj ho; obtain ⟨z0, z1⟩ := HM3.out _ hSw; go_simp
                simp only [Act.put, sa, s0, ss]
                refine takeA 26 222 (.pointer (some ⟨bq, oq, none⟩)) hHeld ?_
                simp only [Act.put, sa, s0, ss]
                refine takeA 27 223 (.pointer (some ⟨bq, oq + 2, none⟩)) hHeld ?_
                simp only [Act.put, sa, s0, ss]
                refine takeB 28 224 (.int .i64 r.x2) (fun w o hSw ho => ?_) hHeld ?_
                · obtain rfl := Option.some.inj ho; have z := (HQB.out _ hSw).c2; go_simp
                simp only [Act.put, sa, s0, ss]
                refine takeA 30 226 (.int .i64 r.x0) hHeld ?_
                simp only [Act.put, sa, s0, ss]
                refine takeA 31 227 (.agg #[.int .i64 0, .int .i64 r.x0]) hHeld ?_
                simp only [Act.put, sa, s0, ss]
                refine oneR 29 (by kernel_rfl) (by kernel_rfl) (fun o ho K' hK => ?_)
                obtain rfl := Option.some.inj ho
                clear ho
                go_simp
                refine (HHC.out _ hHeld).mono ?_
                rintro e V225 ⟨rfl, hc⟩
                clear hHeld
                go_wp2_with fail
                refine hK.out _ _ (hc) (fun hHeld => ?_)
                clear hK K'
                try simp only [Act.put, sa, s0, ss]
                clear hc
                refine takeA 32 228 (.bool true) hHeld ?_
                simp only [Act.put, sa, s0, ss]
                refine takeA 33 229 (.bool true) hHeld ?_
                simp only [Act.put, sa, s0, ss]
                refine takeA 34 230 (.bool true) hHeld ?_
                simp only [Act.put, sa, s0, ss]
                refine takeA 35 2 (.bool true) hHeld ?_
                simp only [Act.put, sa, s0, ss]
                refine wpAnyH_done (by kernel_rfl) ?_ _
                refine NoPanic.normal ?_
                have HY := Lib.hid (below_on E7.out hHeld)
                clear hHeld
                go_wp2_with fail
                go_ret
                exact ⟨rfl, HY.out⟩
    · go_wp2_with fail
      have HZ := HD
      clear HD
      rcases HCO.out with h1 | ⟨r, bq, oq, rfl, rfl, rfl, hqb, hhc⟩
      · clear HCO
        go_upto_region 24 with (fail)
        as_aux_lemma =>
          refine wp_region_noPanic ?_
          refine wp_region_held_drew (S := fun W' => Below W.heap.size W W') (by kernel_rfl) (below_drewN HZ.out 1) (fun hHeld => ?_)
          refine takeA 0 196 (.pointer (some ⟨u3.heap.size, 0, none⟩)) hHeld ?_
          simp only [Act.put, sa, s0, ss]
          refine takeB 1 197 (.int .i64 ro.1) (fun w o hSw ho => ?_) hHeld ?_
          · obtain rfl := Option.some.inj ho; obtain ⟨z0, z1⟩ := HM3.out _ hSw; go_simp
          simp only [Act.put, sa, s0, ss]
          refine takeA 2 198 (.bool true) hHeld ?_
          simp only [Act.put, sa, s0, ss]
          refine takeA 3 199 (.bool true) hHeld ?_
          simp only [Act.put, sa, s0, ss]
          refine skipA 4 200 hHeld ?_
          simp only [Act.put, sa, s0, ss]
          refine skipA 5 201 hHeld ?_
          simp only [Act.put, sa, s0, ss]
          refine skipA 6 202 hHeld ?_
          simp only [Act.put, sa, s0, ss]
          refine skipA 7 203 hHeld ?_
          simp only [Act.put, sa, s0, ss]
          refine skipA 8 204 hHeld ?_
          simp only [Act.put, sa, s0, ss]
          refine skipA 9 205 hHeld ?_
          simp only [Act.put, sa, s0, ss]
          refine skipA 10 206 hHeld ?_
          simp only [Act.put, sa, s0, ss]
          refine skipA 11 207 hHeld ?_
          simp only [Act.put, sa, s0, ss]
          refine skipA 12 208 hHeld ?_
          simp only [Act.put, sa, s0, ss]
          refine skipA 13 209 hHeld ?_
          simp only [Act.put, sa, s0, ss]
          refine skipA 14 210 hHeld ?_
          simp only [Act.put, sa, s0, ss]
          refine skipA 15 211 hHeld ?_
          simp only [Act.put, sa, s0, ss]
          refine skipA 16 212 hHeld ?_
          simp only [Act.put, sa, s0, ss]
          refine skipA 17 213 hHeld ?_
          simp only [Act.put, sa, s0, ss]
          refine skipA 18 214 hHeld ?_
          simp only [Act.put, sa, s0, ss]
          refine skipA 19 215 hHeld ?_
          simp only [Act.put, sa, s0, ss]
          refine skipA 20 216 hHeld ?_
          simp only [Act.put, sa, s0, ss]
          refine skipA 21 217 hHeld ?_
          simp only [Act.put, sa, s0, ss]
          refine skipA 22 218 hHeld ?_
          simp only [Act.put, sa, s0, ss]
          refine skipA 23 219 hHeld ?_
          simp only [Act.put, sa, s0, ss]
          refine skipA 24 220 hHeld ?_
          simp only [Act.put, sa, s0, ss]
          refine skipA 25 221 hHeld ?_
          simp only [Act.put, sa, s0, ss]
          refine skipA 26 222 hHeld ?_
          simp only [Act.put, sa, s0, ss]
          refine skipA 27 223 hHeld ?_
          simp only [Act.put, sa, s0, ss]
          refine skipA 28 224 hHeld ?_
          simp only [Act.put, sa, s0, ss]
          refine skipA 29 225 hHeld ?_
          simp only [Act.put, sa, s0, ss]
          refine skipA 30 226 hHeld ?_
          simp only [Act.put, sa, s0, ss]
          refine skipA 31 227 hHeld ?_
          simp only [Act.put, sa, s0, ss]
          refine skipA 32 228 hHeld ?_
          simp only [Act.put, sa, s0, ss]
          refine skipA 33 229 hHeld ?_
          simp only [Act.put, sa, s0, ss]
          refine takeA 34 230 (.bool true) hHeld ?_
          simp only [Act.put, sa, s0, ss]
          refine takeA 35 2 (.bool true) hHeld ?_
          simp only [Act.put, sa, s0, ss]
          refine wpAnyH_done (by kernel_rfl) ?_ _
          refine NoPanic.normal ?_
          have HY := Lib.hid (below_on E7.out hHeld)
          clear hHeld
          go_wp2_with fail
          go_ret
          exact ⟨rfl, HY.out⟩
      · have HQB := Lib.hid hqb
        have HHC := Lib.hid hhc
        have hev := run_eql_ir
        clear HCO hqb hhc
        dsimp only [List.length_cons, List.length_nil] at HM3
        go_upto_region 24 with (fail)
        as_aux_lemma =>
          refine wp_region_noPanic ?_
          refine wp_region_held_drew (S := fun W' => Below W.heap.size W W') (by kernel_rfl) (below_drewN HZ.out 1) (fun hHeld => ?_)
          refine takeA 0 196 (.pointer (some ⟨u3.heap.size, 0, none⟩)) hHeld ?_
          simp only [Act.put, sa, s0, ss]
          refine takeB 1 197 (.int .i64 0) (fun w o hSw ho => ?_) hHeld ?_
          · obtain rfl := Option.some.inj ho; obtain ⟨z0, z1⟩ := HM3.out _ hSw; go_simp
          simp only [Act.put, sa, s0, ss]
          refine takeA 2 198 (.bool false) hHeld ?_
          simp only [Act.put, sa, s0, ss]
          refine takeA 3 199 (.bool false) hHeld ?_
          simp only [Act.put, sa, s0, ss]
          refine takeA 4 200 (.pointer (some ⟨u3.heap.size, 1, none⟩)) hHeld ?_
          simp only [Act.put, sa, s0, ss]
          refine takeB 5 201 (.slice (some ⟨bq, oq, none⟩) 1 d3) (fun w o hSw ho => ?_) hHeld ?_
          · obtain rfl := Option.some.inj ho; obtain ⟨z0, z1⟩ := HM3.out _ hSw; go_simp
          simp only [Act.put, sa, s0, ss]
          refine takeA 6 202 (.int .i64 (1 : Int)) hHeld ?_
          simp only [Act.put, sa, s0, ss]
          refine takeA 7 203 (.bool true) hHeld ?_
          simp only [Act.put, sa, s0, ss]
          refine takeA 8 204 (.bool true) hHeld ?_
          simp only [Act.put, sa, s0, ss]
          refine takeA 9 205 (.pointer (some ⟨u3.heap.size, 1, none⟩)) hHeld ?_
          simp only [Act.put, sa, s0, ss]
          refine takeB 10 206 (.slice (some ⟨bq, oq, none⟩) 1 d3) (fun w o hSw ho => ?_) hHeld ?_
          · obtain rfl := Option.some.inj ho; obtain ⟨z0, z1⟩ := HM3.out _ hSw; go_simp
          simp only [Act.put, sa, s0, ss]
          refine takeA 11 207 (.pointer (some ⟨bq, oq, none⟩)) hHeld ?_
          simp only [Act.put, sa, s0, ss]
          refine takeA 12 208 (.pointer (some ⟨bq, oq, none⟩)) hHeld ?_
          simp only [Act.put, sa, s0, ss]
          refine takeB 13 209 (.int .i64 r.x0) (fun w o hSw ho => ?_) hHeld ?_
          · obtain rfl := Option.some.inj ho; have z := (HQB.out _ hSw).c0; go_simp
          simp only [Act.put, sa, s0, ss]
          refine takeA 14 210 (.int .i64 r.x0) hHeld ?_
          simp only [Act.put, sa, s0, ss]
          refine takeA 15 211 (.bool true) hHeld ?_
          simp only [Act.put, sa, s0, ss]
          refine takeA 16 212 (.bool true) hHeld ?_
          simp only [Act.put, sa, s0, ss]
          refine takeA 17 213 (.bool true) hHeld ?_
          simp only [Act.put, sa, s0, ss]
          refine takeB 18 214 (.agg #[.int .i64 a1.wide, .int .i64 a1.high, .slice p1 a1.nodes.length c1]) (fun w o hSw ho => ?_) hHeld ?_
          · obtain rfl := Option.some.inj ho; obtain ⟨z0, z1, z2⟩ := HM1.out _ hSw; go_simp
          simp only [Act.put, sa, s0, ss]
          refine takeA 19 215 (.pointer (some ⟨u3.heap.size, 1, none⟩)) hHeld ?_
          simp only [Act.put, sa, s0, ss]
          refine takeB 20 216 (.slice (some ⟨bq, oq, none⟩) 1 d3) (fun w o hSw ho => ?_) hHeld ?_
          · obtain rfl := Option.some.inj ho; obtain ⟨z0, z1⟩ := HM3.out _ hSw; go_simp
          simp only [Act.put, sa, s0, ss]
          refine takeA 21 217 (.pointer (some ⟨bq, oq, none⟩)) hHeld ?_
          simp only [Act.put, sa, s0, ss]
          refine takeA 22 218 (.pointer (some ⟨bq, oq + 1, none⟩)) hHeld ?_
          simp only [Act.put, sa, s0, ss]
          refine takeB 23 219 (.int .i64 r.x1) (fun w o hSw ho => ?_) hHeld ?_
          · obtain rfl := Option.some.inj ho; have z := (HQB.out _ hSw).c1; go_simp
          simp only [Act.put, sa, s0, ss]
          refine takeA 24 220 (.pointer (some ⟨u3.heap.size, 1, none⟩)) hHeld ?_
          simp only [Act.put, sa, s0, ss]
          refine takeB 25 221 (.slice (some ⟨bq, oq, none⟩) 1 d3) (fun w o hSw ho => ?_) hHeld ?_
          · obtain rfl := Option.some.inj ho; obtain ⟨z0, z1⟩ := HM3.out _ hSw; go_simp
          simp only [Act.put, sa, s0, ss]
          refine takeA 26 222 (.pointer (some ⟨bq, oq, none⟩)) hHeld ?_
          simp only [Act.put, sa, s0, ss]
          refine takeA 27 223 (.pointer (some ⟨bq, oq + 2, none⟩)) hHeld ?_
          simp only [Act.put, sa, s0, ss]
          refine takeB 28 224 (.int .i64 r.x2) (fun w o hSw ho => ?_) hHeld ?_
          · obtain rfl := Option.some.inj ho; have z := (HQB.out _ hSw).c2; go_simp
          simp only [Act.put, sa, s0, ss]
          refine takeA 30 226 (.int .i64 r.x0) hHeld ?_
          simp only [Act.put, sa, s0, ss]
          refine takeA 31 227 (.agg #[.int .i64 0, .int .i64 r.x0]) hHeld ?_
          simp only [Act.put, sa, s0, ss]
          refine oneR 29 (by kernel_rfl) (by kernel_rfl) (fun o ho K' hK => ?_)
          obtain rfl := Option.some.inj ho
          clear ho
          go_simp
          refine (HHC.out _ hHeld).mono ?_
          rintro e V225 ⟨rfl, hc⟩
          clear hHeld
          go_wp2_with fail
          refine hK.out _ _ (hc) (fun hHeld => ?_)
          clear hK K'
          try simp only [Act.put, sa, s0, ss]
          clear hc
          refine takeA 32 228 (.bool true) hHeld ?_
          simp only [Act.put, sa, s0, ss]
          refine takeA 33 229 (.bool true) hHeld ?_
          simp only [Act.put, sa, s0, ss]
          refine takeA 34 230 (.bool true) hHeld ?_
          simp only [Act.put, sa, s0, ss]
          refine takeA 35 2 (.bool true) hHeld ?_
          simp only [Act.put, sa, s0, ss]
          refine wpAnyH_done (by kernel_rfl) ?_ _
          refine NoPanic.normal ?_
          have HY := Lib.hid (below_on E7.out hHeld)
          clear hHeld
          go_wp2_with fail
          go_ret
          exact ⟨rfl, HY.out⟩

end Go.Proofs.Ytbfickdgjgbfhaa
