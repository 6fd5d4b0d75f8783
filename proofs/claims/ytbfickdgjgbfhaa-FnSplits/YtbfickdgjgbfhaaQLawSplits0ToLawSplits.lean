/- What FnSplits' walk wants besides. -/
import Derived.Test.YtbfickdgjgbfhaaQLawRects0
import Derived.Test.YtbfickdgjgbfhaaQEdFacts
import Derived.Test.YtbfickdgjgbfhaaQEdSpec3ToEdSpec4
import Derived.Test.YtbfickdgjgbfhaaQEdSpec5ToEdSpec6
import Derived.Test.YtbfickdgjgbfhaaQEdDataToEdKill
import Derived.Test.YtbfickdgjgbfhaaQEdSpecToEdSpec2
import Derived.Test.YtbfickdgjgbfhaaQEdNext
namespace Go.Proofs.Ytbfickdgjgbfhaa
open Go.RowKit
set_option linter.unusedVariables false
set_option linter.unusedSimpArgs false

theorem lyEq_self (a : Ly) : lyEq a a = true := by simp [lyEq, sameQ_self]
theorem killR_zero {x : Ly} {p : Int} (h : (killR x p).1 = 0) : partC x p = 0 := by
  unfold killR at h
  split at h
  · assumption
  · exact h
theorem kill_all (x : Ly) (p : Int) (h : (killR x p).1 = 0) : lyFault (killR x p).2 = 0 ∧ lyHas (killR x p).2 p = false ∧ (killR x p).2.nodes.length + 2 = x.nodes.length := kill_law (killR_zero h)
theorem tidy_all (x : Ly) (h : (tidyR x).1 = 0) : rrOf (tidyR x).2 = rrOf x ∧ tidyR (tidyR x).2 = (0, (tidyR x).2) := by
  unfold tidyR at h
  split at h
  · rename_i hf
    obtain ⟨h1, h2, h3⟩ := tidy_law hf
    have e : tidyR x = (0, x.tidy) := by unfold tidyR; rw [if_pos hf]
    rw [e]
    refine ⟨?_, ?_⟩
    · unfold rrOf; rw [if_pos h1, if_pos hf, h2]
    · show tidyR x.tidy = (0, x.tidy)
      unfold tidyR; rw [if_pos h1, h3]
  · rename_i hf; exact absurd h hf
theorem split_all (x : Ly) (p k fr : Int) : ((splitR x p k fr).1 = 0 → lyFault (splitR x p k fr).2 = 0 ∧ lyHas (splitR x p k fr).2 fr = true ∧ killR (splitR x p k fr).2 fr = (0, x.tidy) ∧ tidyR x = (0, x.tidy)) ∧ ((splitR x p k fr).1 ≠ 0 → (splitR x p k fr).2.nodes.length = 0) := ⟨split_law, split_none⟩
theorem resize_all (x : Ly) (p y : Int) (h : (resizeR x p y).1 = 0) : lyFault (resizeR x p y).2 = 0 := resize_law h
theorem fld_lr0 (k a b : Int) (p : Option Addr) (n c : Nat) (w : World) : (Instr.field 30 (.agg #[.int .i64 k, .int .i64 a, .int .i64 b, .slice p n c]) 0).run Try.prog w = .ok (.int .i64 k) w := by kernel_rfl
theorem fld_lr1 (k a b : Int) (p : Option Addr) (n c : Nat) (w : World) : (Instr.field 30 (.agg #[.int .i64 k, .int .i64 a, .int .i64 b, .slice p n c]) 1).run Try.prog w = .ok (.agg #[.int .i64 a, .int .i64 b, .slice p n c]) w := by kernel_rfl
theorem AtL.lr {w : World} {b : Nat} {v0 v1 v2 v3 : Value} (h : AtL w b [v0, v1, v2, v3]) : w.cell? ⟨b, 0, none⟩ = some v0 ∧ w.cell? ⟨b, 1, none⟩ = some v1 ∧ w.cell? ⟨b, 2, none⟩ = some v2 ∧ w.cell? ⟨b, 3, none⟩ = some v3 := ⟨h.get 0 rfl, h.get 1 rfl, h.get 2 rfl, h.get 3 rfl⟩
theorem same_self (a : Ly) (p q : Option Addr) (c d : Nat) (w : World) (h : Qs w w.heap.size p a.nodes) (k : Qs w w.heap.size q a.nodes) (hl : a.nodes.length ≤ 1048576) :
    Calls Try.prog 34 #[.agg #[.int .i64 a.wide, .int .i64 a.high, .slice p a.nodes.length c], .agg #[.int .i64 a.wide, .int .i64 a.high, .slice q a.nodes.length d]] w fun e w' => e = .returned (.bool true) ∧ Below w.heap.size w w' := by
  have := implSameLayouts_any a a p q c d w h k hl
  rwa [lyEq_self] at this

end Go.Proofs.Ytbfickdgjgbfhaa

/- FnSplits: the law's walk. (Written by wip/gen_splits.py.) -/
namespace Go.Proofs.Ytbfickdgjgbfhaa
open Go.RowKit
set_option linter.unusedVariables false
set_option linter.unusedSimpArgs false

set_option maxRecDepth 100000 in
set_option maxHeartbeats 8000000 in
theorem lawSplits_any (q : Option Addr) (c : Nat) (l : List UInt8) (w : World) (h : Bs w w.heap.size q l) :
    Calls Try.prog 8 #[.slice q l.length c] w fun e w' => e = .returned (.bool true) ∧ Below w.heap.size w w' := by
  by_cases hbig : (1048576 : Int) < (l.length : Int)
  · go_enter Try.func8, Try.ntmps8
    go_wp2_with fail
    refine (lwBig_any _ _ _ _).mono ?_
    rw [decide_eq_true hbig]
    rintro e w1 ⟨rfl, rfl⟩
    go_wp2_with fail
    go_ret
    exact ⟨rfl, Below.refl _ _⟩
  have hl : l.length ≤ 1048576 := by omega
  have HF := Lib.hid (decide_eq_false hbig)
  clear hbig
  have HQ := Lib.hid h
  clear h
  go_enter Try.func8, Try.ntmps8
  go_wp2_with fail
  refine (lwBig_any _ _ _ _).mono ?_
  rw [HF.out]
  rintro e w1 ⟨rfl, rfl⟩
  clear HF
  have E0 : Hid (Below w.heap.size w w) := Below.refl _ _
  go_wp2_with fail
  refine (drawSplitPane_any q c l _ (HQ.out.on E0.out) hl).mono ?_
  rintro e u1 ⟨a1, v, pn, kd, fr, rfl, hlen1, ho, hb⟩
  obtain ⟨p1, c1, rfl⟩ := ho.slice
  have B := below_mk u1 (.cells #[.int .i64 a1.wide, .int .i64 a1.high, .slice p1 a1.nodes.length c1] 28)
  have M1 : Hid (AtL (u1.alloc (.cells #[.int .i64 a1.wide, .int .i64 a1.high, .slice p1 a1.nodes.length c1] 28)) u1.heap.size [.int .i64 a1.wide, .int .i64 a1.high, .slice p1 a1.nodes.length c1]) := AtL.new u1 [.int .i64 a1.wide, .int .i64 a1.high, .slice p1 a1.nodes.length c1] 28
  have Q1 : Hid (Qs (u1.alloc (.cells #[.int .i64 a1.wide, .int .i64 a1.high, .slice p1 a1.nodes.length c1] 28)) (u1.alloc (.cells #[.int .i64 a1.wide, .int .i64 a1.high, .slice p1 a1.nodes.length c1] 28)).heap.size p1 a1.nodes) := ho.bs.2.on B
  have E1 := Lib.hid (below_on (below_on E0.out hb) B)
  have n1 : a1.nodes.length ≤ 1048576 := by omega
  clear hb B ho E0 hlen1
  unfold lyA
  go_wp2_with fail
  generalize u1.alloc (.cells #[.int .i64 a1.wide, .int .i64 a1.high, .slice p1 a1.nodes.length c1] 28) = W1 at *
  have SC2 := Lib.hid (fun W' h => specSplit_any a1 pn kd fr p1 c1 W' h n1)
  have IC := Lib.hid (implSplit_any a1 pn kd fr p1 c1 W1 Q1.out n1)
  have HX2 := Lib.hid (split_all a1 pn kd fr)
  have hs2 : (splitR a1 pn kd fr).2.nodes.length ≤ 1048576 := Nat.le_trans (splitR_small a1 pn kd fr) (by omega)
  generalize splitR a1 pn kd fr = sr at *
  refine (IC.out).mono ?_
  rintro e u2 ⟨v, rfl, ho, hb⟩
  obtain ⟨q2, d2, rfl⟩ := ho.slice
  unfold lrV
  have B := below_mk u2 (.cells #[.int .i64 sr.1, .int .i64 sr.2.wide, .int .i64 sr.2.high, .slice q2 sr.2.nodes.length d2] 30)
  replace M1 := Lib.hid ((M1.out.on hb).on B)
  replace Q1 := Lib.hid ((Q1.out.on hb).on B)
  have M2 : Hid (AtL (u2.alloc (.cells #[.int .i64 sr.1, .int .i64 sr.2.wide, .int .i64 sr.2.high, .slice q2 sr.2.nodes.length d2] 30)) u2.heap.size [.int .i64 sr.1, .int .i64 sr.2.wide, .int .i64 sr.2.high, .slice q2 sr.2.nodes.length d2]) := AtL.new u2 [.int .i64 sr.1, .int .i64 sr.2.wide, .int .i64 sr.2.high, .slice q2 sr.2.nodes.length d2] 30
  have E2 := Lib.hid (below_on (below_on E1.out hb) B)
  have O2 := Lib.hid (ho.bs.2.on B)
  clear ho IC
  clear hb B E1
  go_wp2_with fail
  generalize u2.alloc (.cells #[.int .i64 sr.1, .int .i64 sr.2.wide, .int .i64 sr.2.high, .slice q2 sr.2.nodes.length d2] 30) = W2 at *
  refine (drawKillPane_any q c l _ (HQ.out.on E2.out) hl).mono ?_
  rintro e u3 ⟨a3, v, pk, rfl, hlen3, ho, hb⟩
  obtain ⟨p3, c3, rfl⟩ := ho.slice
  have B := below_mk u3 (.cells #[.int .i64 a3.wide, .int .i64 a3.high, .slice p3 a3.nodes.length c3] 28)
  replace M1 := Lib.hid ((M1.out.on hb).on B)
  replace Q1 := Lib.hid ((Q1.out.on hb).on B)
  replace M2 := Lib.hid ((M2.out.on hb).on B)
  replace O2 := Lib.hid ((O2.out.on hb).on B)
  have M3 : Hid (AtL (u3.alloc (.cells #[.int .i64 a3.wide, .int .i64 a3.high, .slice p3 a3.nodes.length c3] 28)) u3.heap.size [.int .i64 a3.wide, .int .i64 a3.high, .slice p3 a3.nodes.length c3]) := AtL.new u3 [.int .i64 a3.wide, .int .i64 a3.high, .slice p3 a3.nodes.length c3] 28
  have Q3 : Hid (Qs (u3.alloc (.cells #[.int .i64 a3.wide, .int .i64 a3.high, .slice p3 a3.nodes.length c3] 28)) (u3.alloc (.cells #[.int .i64 a3.wide, .int .i64 a3.high, .slice p3 a3.nodes.length c3] 28)).heap.size p3 a3.nodes) := ho.bs.2.on B
  have E3 := Lib.hid (below_on (below_on E2.out hb) B)
  have n3 : a3.nodes.length ≤ 1048576 := by omega
  clear hb B ho E2 hlen3
  unfold lyA
  go_wp2_with fail
  generalize u3.alloc (.cells #[.int .i64 a3.wide, .int .i64 a3.high, .slice p3 a3.nodes.length c3] 28) = W3 at *
  have SC4 := Lib.hid (fun W' h => specKill_any a3 pk p3 c3 W' h n3)
  have IC := Lib.hid (implKill_any a3 pk p3 c3 W3 Q3.out n3)
  have HX4 := Lib.hid (kill_all a3 pk)
  have hs4 : (killR a3 pk).2.nodes.length ≤ 1048576 := Nat.le_trans (killR_small a3 pk) (by omega)
  generalize killR a3 pk = kr at *
  refine (IC.out).mono ?_
  rintro e u4 ⟨v, rfl, ho, hb⟩
  obtain ⟨q4, d4, rfl⟩ := ho.slice
  unfold lrV
  have B := below_mk u4 (.cells #[.int .i64 kr.1, .int .i64 kr.2.wide, .int .i64 kr.2.high, .slice q4 kr.2.nodes.length d4] 30)
  replace M1 := Lib.hid ((M1.out.on hb).on B)
  replace Q1 := Lib.hid ((Q1.out.on hb).on B)
  replace M2 := Lib.hid ((M2.out.on hb).on B)
  replace O2 := Lib.hid ((O2.out.on hb).on B)
  replace M3 := Lib.hid ((M3.out.on hb).on B)
  replace Q3 := Lib.hid ((Q3.out.on hb).on B)
  have M4 : Hid (AtL (u4.alloc (.cells #[.int .i64 kr.1, .int .i64 kr.2.wide, .int .i64 kr.2.high, .slice q4 kr.2.nodes.length d4] 30)) u4.heap.size [.int .i64 kr.1, .int .i64 kr.2.wide, .int .i64 kr.2.high, .slice q4 kr.2.nodes.length d4]) := AtL.new u4 [.int .i64 kr.1, .int .i64 kr.2.wide, .int .i64 kr.2.high, .slice q4 kr.2.nodes.length d4] 30
  have E4 := Lib.hid (below_on (below_on E3.out hb) B)
  have O4 := Lib.hid (ho.bs.2.on B)
  clear ho IC
  clear hb B E3
  go_wp2_with fail
  generalize u4.alloc (.cells #[.int .i64 kr.1, .int .i64 kr.2.wide, .int .i64 kr.2.high, .slice q4 kr.2.nodes.length d4] 30) = W4 at *
  refine (drawResizePane_any q c l _ (HQ.out.on E4.out) hl).mono ?_
  rintro e u5 ⟨a5, v, pz, by1, rfl, hlen5, ho, hb⟩
  obtain ⟨p5, c5, rfl⟩ := ho.slice
  have B := below_mk u5 (.cells #[.int .i64 a5.wide, .int .i64 a5.high, .slice p5 a5.nodes.length c5] 28)
  replace M1 := Lib.hid ((M1.out.on hb).on B)
  replace Q1 := Lib.hid ((Q1.out.on hb).on B)
  replace M2 := Lib.hid ((M2.out.on hb).on B)
  replace O2 := Lib.hid ((O2.out.on hb).on B)
  replace M3 := Lib.hid ((M3.out.on hb).on B)
  replace Q3 := Lib.hid ((Q3.out.on hb).on B)
  replace M4 := Lib.hid ((M4.out.on hb).on B)
  replace O4 := Lib.hid ((O4.out.on hb).on B)
  have M5 : Hid (AtL (u5.alloc (.cells #[.int .i64 a5.wide, .int .i64 a5.high, .slice p5 a5.nodes.length c5] 28)) u5.heap.size [.int .i64 a5.wide, .int .i64 a5.high, .slice p5 a5.nodes.length c5]) := AtL.new u5 [.int .i64 a5.wide, .int .i64 a5.high, .slice p5 a5.nodes.length c5] 28
  have Q5 : Hid (Qs (u5.alloc (.cells #[.int .i64 a5.wide, .int .i64 a5.high, .slice p5 a5.nodes.length c5] 28)) (u5.alloc (.cells #[.int .i64 a5.wide, .int .i64 a5.high, .slice p5 a5.nodes.length c5] 28)).heap.size p5 a5.nodes) := ho.bs.2.on B
  have E5 := Lib.hid (below_on (below_on E4.out hb) B)
  have n5 : a5.nodes.length ≤ 1048576 := by omega
  clear hb B ho E4 hlen5
  unfold lyA
  go_wp2_with fail
  generalize u5.alloc (.cells #[.int .i64 a5.wide, .int .i64 a5.high, .slice p5 a5.nodes.length c5] 28) = W5 at *
  have SC6 := Lib.hid (fun W' h => specResize_any a5 pz by1 p5 c5 W' h n5)
  have IC := Lib.hid (implResize_any a5 pz by1 p5 c5 W5 Q5.out n5)
  have HX6 := Lib.hid (resize_all a5 pz by1)
  have hs6 : (resizeR a5 pz by1).2.nodes.length ≤ 1048576 := Nat.le_trans (resizeR_small a5 pz by1) (by omega)
  generalize resizeR a5 pz by1 = zr at *
  refine (IC.out).mono ?_
  rintro e u6 ⟨v, rfl, ho, hb⟩
  obtain ⟨q6, d6, rfl⟩ := ho.slice
  unfold lrV
  have B := below_mk u6 (.cells #[.int .i64 zr.1, .int .i64 zr.2.wide, .int .i64 zr.2.high, .slice q6 zr.2.nodes.length d6] 30)
  replace M1 := Lib.hid ((M1.out.on hb).on B)
  replace Q1 := Lib.hid ((Q1.out.on hb).on B)
  replace M2 := Lib.hid ((M2.out.on hb).on B)
  replace O2 := Lib.hid ((O2.out.on hb).on B)
  replace M3 := Lib.hid ((M3.out.on hb).on B)
  replace Q3 := Lib.hid ((Q3.out.on hb).on B)
  replace M4 := Lib.hid ((M4.out.on hb).on B)
  replace O4 := Lib.hid ((O4.out.on hb).on B)
  replace M5 := Lib.hid ((M5.out.on hb).on B)
  replace Q5 := Lib.hid ((Q5.out.on hb).on B)
  have M6 : Hid (AtL (u6.alloc (.cells #[.int .i64 zr.1, .int .i64 zr.2.wide, .int .i64 zr.2.high, .slice q6 zr.2.nodes.length d6] 30)) u6.heap.size [.int .i64 zr.1, .int .i64 zr.2.wide, .int .i64 zr.2.high, .slice q6 zr.2.nodes.length d6]) := AtL.new u6 [.int .i64 zr.1, .int .i64 zr.2.wide, .int .i64 zr.2.high, .slice q6 zr.2.nodes.length d6] 30
  have E6 := Lib.hid (below_on (below_on E5.out hb) B)
  have O6 := Lib.hid (ho.bs.2.on B)
  clear ho IC
  clear hb B E5
  go_wp2_with fail
  generalize u6.alloc (.cells #[.int .i64 zr.1, .int .i64 zr.2.wide, .int .i64 zr.2.high, .slice q6 zr.2.nodes.length d6] 30) = W6 at *
  refine (drawTidyLayout_any q c l _ (HQ.out.on E6.out) hl).mono ?_
  rintro e u7 ⟨a7, v, rfl, hlen7, ho, hb⟩
  obtain ⟨p7, c7, rfl⟩ := ho.slice
  have B := below_mk u7 (.cells #[.int .i64 a7.wide, .int .i64 a7.high, .slice p7 a7.nodes.length c7] 28)
  replace M1 := Lib.hid ((M1.out.on hb).on B)
  replace Q1 := Lib.hid ((Q1.out.on hb).on B)
  replace M2 := Lib.hid ((M2.out.on hb).on B)
  replace O2 := Lib.hid ((O2.out.on hb).on B)
  replace M3 := Lib.hid ((M3.out.on hb).on B)
  replace Q3 := Lib.hid ((Q3.out.on hb).on B)
  replace M4 := Lib.hid ((M4.out.on hb).on B)
  replace O4 := Lib.hid ((O4.out.on hb).on B)
  replace M5 := Lib.hid ((M5.out.on hb).on B)
  replace Q5 := Lib.hid ((Q5.out.on hb).on B)
  replace M6 := Lib.hid ((M6.out.on hb).on B)
  replace O6 := Lib.hid ((O6.out.on hb).on B)
  have M7 : Hid (AtL (u7.alloc (.cells #[.int .i64 a7.wide, .int .i64 a7.high, .slice p7 a7.nodes.length c7] 28)) u7.heap.size [.int .i64 a7.wide, .int .i64 a7.high, .slice p7 a7.nodes.length c7]) := AtL.new u7 [.int .i64 a7.wide, .int .i64 a7.high, .slice p7 a7.nodes.length c7] 28
  have Q7 : Hid (Qs (u7.alloc (.cells #[.int .i64 a7.wide, .int .i64 a7.high, .slice p7 a7.nodes.length c7] 28)) (u7.alloc (.cells #[.int .i64 a7.wide, .int .i64 a7.high, .slice p7 a7.nodes.length c7] 28)).heap.size p7 a7.nodes) := ho.bs.2.on B
  have E7 := Lib.hid (below_on (below_on E6.out hb) B)
  have n7 : a7.nodes.length ≤ 1048576 := by omega
  clear hb B ho E6 hlen7
  unfold lyA
  go_wp2_with fail
  generalize u7.alloc (.cells #[.int .i64 a7.wide, .int .i64 a7.high, .slice p7 a7.nodes.length c7] 28) = W7 at *
  have SC8 := Lib.hid (fun W' h => specTidy_any a7  p7 c7 W' h n7)
  have IC := Lib.hid (implTidy_any a7  p7 c7 W7 Q7.out n7)
  have HX8 := Lib.hid (tidy_all a7 )
  have hs8 : (tidyR a7 ).2.nodes.length ≤ 1048576 := Nat.le_trans (tidyR_small a7 ) (by omega)
  generalize tidyR a7  = tr at *
  refine (IC.out).mono ?_
  rintro e u8 ⟨v, rfl, ho, hb⟩
  obtain ⟨q8, d8, rfl⟩ := ho.slice
  unfold lrV
  have B := below_mk u8 (.cells #[.int .i64 tr.1, .int .i64 tr.2.wide, .int .i64 tr.2.high, .slice q8 tr.2.nodes.length d8] 30)
  replace M1 := Lib.hid ((M1.out.on hb).on B)
  replace Q1 := Lib.hid ((Q1.out.on hb).on B)
  replace M2 := Lib.hid ((M2.out.on hb).on B)
  replace O2 := Lib.hid ((O2.out.on hb).on B)
  replace M3 := Lib.hid ((M3.out.on hb).on B)
  replace Q3 := Lib.hid ((Q3.out.on hb).on B)
  replace M4 := Lib.hid ((M4.out.on hb).on B)
  replace O4 := Lib.hid ((O4.out.on hb).on B)
  replace M5 := Lib.hid ((M5.out.on hb).on B)
  replace Q5 := Lib.hid ((Q5.out.on hb).on B)
  replace M6 := Lib.hid ((M6.out.on hb).on B)
  replace O6 := Lib.hid ((O6.out.on hb).on B)
  replace M7 := Lib.hid ((M7.out.on hb).on B)
  replace Q7 := Lib.hid ((Q7.out.on hb).on B)
  have M8 : Hid (AtL (u8.alloc (.cells #[.int .i64 tr.1, .int .i64 tr.2.wide, .int .i64 tr.2.high, .slice q8 tr.2.nodes.length d8] 30)) u8.heap.size [.int .i64 tr.1, .int .i64 tr.2.wide, .int .i64 tr.2.high, .slice q8 tr.2.nodes.length d8]) := AtL.new u8 [.int .i64 tr.1, .int .i64 tr.2.wide, .int .i64 tr.2.high, .slice q8 tr.2.nodes.length d8] 30
  have E8 := Lib.hid (below_on (below_on E7.out hb) B)
  have O8 := Lib.hid (ho.bs.2.on B)
  clear ho IC
  clear hb B E7
  go_wp2_with fail
  generalize u8.alloc (.cells #[.int .i64 tr.1, .int .i64 tr.2.wide, .int .i64 tr.2.high, .slice q8 tr.2.nodes.length d8] 30) = W8 at *
  refine (drawNextPane_any q c l _ (HQ.out.on E8.out) hl).mono ?_
  rintro e u9 ⟨a9, v, px, rfl, hlen9, ho, hb⟩
  obtain ⟨p9, c9, rfl⟩ := ho.slice
  have B := below_mk u9 (.cells #[.int .i64 a9.wide, .int .i64 a9.high, .slice p9 a9.nodes.length c9] 28)
  replace M1 := Lib.hid ((M1.out.on hb).on B)
  replace Q1 := Lib.hid ((Q1.out.on hb).on B)
  replace M2 := Lib.hid ((M2.out.on hb).on B)
  replace O2 := Lib.hid ((O2.out.on hb).on B)
  replace M3 := Lib.hid ((M3.out.on hb).on B)
  replace Q3 := Lib.hid ((Q3.out.on hb).on B)
  replace M4 := Lib.hid ((M4.out.on hb).on B)
  replace O4 := Lib.hid ((O4.out.on hb).on B)
  replace M5 := Lib.hid ((M5.out.on hb).on B)
  replace Q5 := Lib.hid ((Q5.out.on hb).on B)
  replace M6 := Lib.hid ((M6.out.on hb).on B)
  replace O6 := Lib.hid ((O6.out.on hb).on B)
  replace M7 := Lib.hid ((M7.out.on hb).on B)
  replace Q7 := Lib.hid ((Q7.out.on hb).on B)
  replace M8 := Lib.hid ((M8.out.on hb).on B)
  replace O8 := Lib.hid ((O8.out.on hb).on B)
  have M9 : Hid (AtL (u9.alloc (.cells #[.int .i64 a9.wide, .int .i64 a9.high, .slice p9 a9.nodes.length c9] 28)) u9.heap.size [.int .i64 a9.wide, .int .i64 a9.high, .slice p9 a9.nodes.length c9]) := AtL.new u9 [.int .i64 a9.wide, .int .i64 a9.high, .slice p9 a9.nodes.length c9] 28
  have Q9 : Hid (Qs (u9.alloc (.cells #[.int .i64 a9.wide, .int .i64 a9.high, .slice p9 a9.nodes.length c9] 28)) (u9.alloc (.cells #[.int .i64 a9.wide, .int .i64 a9.high, .slice p9 a9.nodes.length c9] 28)).heap.size p9 a9.nodes) := ho.bs.2.on B
  have E9 := Lib.hid (below_on (below_on E8.out hb) B)
  have n9 : a9.nodes.length ≤ 1048576 := by omega
  clear hb B ho E8 hlen9
  unfold lyA
  go_wp2_with fail
  generalize u9.alloc (.cells #[.int .i64 a9.wide, .int .i64 a9.high, .slice p9 a9.nodes.length c9] 28) = W9 at *
  have SC10 := Lib.hid (fun W' h => specNext_any a9 px p9 c9 W' h n9)
  have IC := Lib.hid (implNext_any a9 px p9 c9 W9 Q9.out n9)
  generalize nextR a9 px = nr at *
  refine (IC.out).mono ?_
  rintro e u10 ⟨rfl, hb⟩
  have B := below_mk u10 (.cells #[.int .i64 nr.1, .int .i64 nr.2] 43)
  replace M1 := Lib.hid ((M1.out.on hb).on B)
  replace Q1 := Lib.hid ((Q1.out.on hb).on B)
  replace M2 := Lib.hid ((M2.out.on hb).on B)
  replace O2 := Lib.hid ((O2.out.on hb).on B)
  replace M3 := Lib.hid ((M3.out.on hb).on B)
  replace Q3 := Lib.hid ((Q3.out.on hb).on B)
  replace M4 := Lib.hid ((M4.out.on hb).on B)
  replace O4 := Lib.hid ((O4.out.on hb).on B)
  replace M5 := Lib.hid ((M5.out.on hb).on B)
  replace Q5 := Lib.hid ((Q5.out.on hb).on B)
  replace M6 := Lib.hid ((M6.out.on hb).on B)
  replace O6 := Lib.hid ((O6.out.on hb).on B)
  replace M7 := Lib.hid ((M7.out.on hb).on B)
  replace Q7 := Lib.hid ((Q7.out.on hb).on B)
  replace M8 := Lib.hid ((M8.out.on hb).on B)
  replace O8 := Lib.hid ((O8.out.on hb).on B)
  replace M9 := Lib.hid ((M9.out.on hb).on B)
  replace Q9 := Lib.hid ((Q9.out.on hb).on B)
  have M10 : Hid (AtL (u10.alloc (.cells #[.int .i64 nr.1, .int .i64 nr.2] 43)) u10.heap.size [.int .i64 nr.1, .int .i64 nr.2]) := AtL.new u10 [.int .i64 nr.1, .int .i64 nr.2] 43
  have E10 := Lib.hid (below_on (below_on E9.out hb) B)
  clear hb B E9 IC
  go_upto_region 13 with (fail)
  generalize u10.alloc (.cells #[.int .i64 nr.1, .int .i64 nr.2] 43) = W at *
  have HM1 := Lib.hid (fun W' (hb : Below W.heap.size W W') => (M1.out.on hb).tri)
  have HM3 := Lib.hid (fun W' (hb : Below W.heap.size W W') => (M3.out.on hb).tri)
  have HM5 := Lib.hid (fun W' (hb : Below W.heap.size W W') => (M5.out.on hb).tri)
  have HM7 := Lib.hid (fun W' (hb : Below W.heap.size W W') => (M7.out.on hb).tri)
  have HM9 := Lib.hid (fun W' (hb : Below W.heap.size W W') => (M9.out.on hb).tri)
  have HM2 := Lib.hid (fun W' (hb : Below W.heap.size W W') => (M2.out.on hb).lr)
  have HM4 := Lib.hid (fun W' (hb : Below W.heap.size W W') => (M4.out.on hb).lr)
  have HM6 := Lib.hid (fun W' (hb : Below W.heap.size W W') => (M6.out.on hb).lr)
  have HM8 := Lib.hid (fun W' (hb : Below W.heap.size W W') => (M8.out.on hb).lr)
  have HM10 := Lib.hid (fun W' (hb : Below W.heap.size W W') => (M10.out.on hb).two)
  have HS2 : Hid (∀ W', Below W.heap.size W W' → Calls Try.prog 11 #[.agg #[.int .i64 a1.wide, .int .i64 a1.high, .slice p1 a1.nodes.length c1], .int .i64 pn, .int .i64 kd, .int .i64 fr] W' fun e W2 => ∃ z zc, e = .returned (.agg #[.int .i64 sr.1, .int .i64 sr.2.wide, .int .i64 sr.2.high, .slice z sr.2.nodes.length zc]) ∧ Qs W2 W2.heap.size z sr.2.nodes ∧ Below W.heap.size W W2) := fun W' hb =>
    (SC2.out W' (Q1.out.on hb)).mono fun _ _ ⟨v, he, ho, hb2⟩ => by
      obtain ⟨z, zc, rfl⟩ := ho.slice
      exact ⟨z, zc, he, ho.bs.2, below_on hb hb2⟩
  have HL2 : Hid (∀ W' z zc, Below W.heap.size W W' → Qs W' W'.heap.size z sr.2.nodes → Calls Try.prog 34 #[.agg #[.int .i64 sr.2.wide, .int .i64 sr.2.high, .slice q2 sr.2.nodes.length d2], .agg #[.int .i64 sr.2.wide, .int .i64 sr.2.high, .slice z sr.2.nodes.length zc]] W' fun e W2 => e = .returned (.bool true) ∧ Below W.heap.size W W2) := fun W' z zc hb hz =>
    (same_self sr.2 q2 z d2 zc W' (O2.out.on hb) hz hs2).mono fun _ _ ⟨he, hb2⟩ => ⟨he, below_on hb hb2⟩
  have HS4 : Hid (∀ W', Below W.heap.size W W' → Calls Try.prog 19 #[.agg #[.int .i64 a3.wide, .int .i64 a3.high, .slice p3 a3.nodes.length c3], .int .i64 pk] W' fun e W2 => ∃ z zc, e = .returned (.agg #[.int .i64 kr.1, .int .i64 kr.2.wide, .int .i64 kr.2.high, .slice z kr.2.nodes.length zc]) ∧ Qs W2 W2.heap.size z kr.2.nodes ∧ Below W.heap.size W W2) := fun W' hb =>
    (SC4.out W' (Q3.out.on hb)).mono fun _ _ ⟨v, he, ho, hb2⟩ => by
      obtain ⟨z, zc, rfl⟩ := ho.slice
      exact ⟨z, zc, he, ho.bs.2, below_on hb hb2⟩
  have HL4 : Hid (∀ W' z zc, Below W.heap.size W W' → Qs W' W'.heap.size z kr.2.nodes → Calls Try.prog 34 #[.agg #[.int .i64 kr.2.wide, .int .i64 kr.2.high, .slice q4 kr.2.nodes.length d4], .agg #[.int .i64 kr.2.wide, .int .i64 kr.2.high, .slice z kr.2.nodes.length zc]] W' fun e W2 => e = .returned (.bool true) ∧ Below W.heap.size W W2) := fun W' z zc hb hz =>
    (same_self kr.2 q4 z d4 zc W' (O4.out.on hb) hz hs4).mono fun _ _ ⟨he, hb2⟩ => ⟨he, below_on hb hb2⟩
  have HS6 : Hid (∀ W', Below W.heap.size W W' → Calls Try.prog 21 #[.agg #[.int .i64 a5.wide, .int .i64 a5.high, .slice p5 a5.nodes.length c5], .int .i64 pz, .int .i64 by1] W' fun e W2 => ∃ z zc, e = .returned (.agg #[.int .i64 zr.1, .int .i64 zr.2.wide, .int .i64 zr.2.high, .slice z zr.2.nodes.length zc]) ∧ Qs W2 W2.heap.size z zr.2.nodes ∧ Below W.heap.size W W2) := fun W' hb =>
    (SC6.out W' (Q5.out.on hb)).mono fun _ _ ⟨v, he, ho, hb2⟩ => by
      obtain ⟨z, zc, rfl⟩ := ho.slice
      exact ⟨z, zc, he, ho.bs.2, below_on hb hb2⟩
  have HL6 : Hid (∀ W' z zc, Below W.heap.size W W' → Qs W' W'.heap.size z zr.2.nodes → Calls Try.prog 34 #[.agg #[.int .i64 zr.2.wide, .int .i64 zr.2.high, .slice q6 zr.2.nodes.length d6], .agg #[.int .i64 zr.2.wide, .int .i64 zr.2.high, .slice z zr.2.nodes.length zc]] W' fun e W2 => e = .returned (.bool true) ∧ Below W.heap.size W W2) := fun W' z zc hb hz =>
    (same_self zr.2 q6 z d6 zc W' (O6.out.on hb) hz hs6).mono fun _ _ ⟨he, hb2⟩ => ⟨he, below_on hb hb2⟩
  have HS8 : Hid (∀ W', Below W.heap.size W W' → Calls Try.prog 26 #[.agg #[.int .i64 a7.wide, .int .i64 a7.high, .slice p7 a7.nodes.length c7]] W' fun e W2 => ∃ z zc, e = .returned (.agg #[.int .i64 tr.1, .int .i64 tr.2.wide, .int .i64 tr.2.high, .slice z tr.2.nodes.length zc]) ∧ Qs W2 W2.heap.size z tr.2.nodes ∧ Below W.heap.size W W2) := fun W' hb =>
    (SC8.out W' (Q7.out.on hb)).mono fun _ _ ⟨v, he, ho, hb2⟩ => by
      obtain ⟨z, zc, rfl⟩ := ho.slice
      exact ⟨z, zc, he, ho.bs.2, below_on hb hb2⟩
  have HL8 : Hid (∀ W' z zc, Below W.heap.size W W' → Qs W' W'.heap.size z tr.2.nodes → Calls Try.prog 34 #[.agg #[.int .i64 tr.2.wide, .int .i64 tr.2.high, .slice q8 tr.2.nodes.length d8], .agg #[.int .i64 tr.2.wide, .int .i64 tr.2.high, .slice z tr.2.nodes.length zc]] W' fun e W2 => e = .returned (.bool true) ∧ Below W.heap.size W W2) := fun W' z zc hb hz =>
    (same_self tr.2 q8 z d8 zc W' (O8.out.on hb) hz hs8).mono fun _ _ ⟨he, hb2⟩ => ⟨he, below_on hb hb2⟩
  have HS10 : Hid (∀ W', Below W.heap.size W W' → Calls Try.prog 23 #[.agg #[.int .i64 a9.wide, .int .i64 a9.high, .slice p9 a9.nodes.length c9], .int .i64 px] W' fun e W2 => e = .returned (.agg #[.int .i64 nr.1, .int .i64 nr.2]) ∧ Below W.heap.size W W2) := fun W' hb =>
    (SC10.out W' (Q9.out.on hb)).mono fun _ _ ⟨he, hb2⟩ => ⟨he, below_on hb hb2⟩
  clear M1 M2 M3 M4 M5 M6 M7 M8 M9 M10 Q3 Q5 Q9 SC2 SC4 SC6 SC8 SC10
  have hfd0 := fld_lr0
  have hfd1 := fld_lr1
  have hne := run_neq_ir
  simp only [List.append_eq, List.cons_append, List.nil_append]
  go_cut [149] (fun s wx => s = .bool false ∧ Below W.heap.size W wx)
  case first =>
    as_aux_lemma =>
      refine wp_region_noPanic ?_
      refine wp_region_held_drew (S := fun W' => Below (W).heap.size (W) W') (by kernel_rfl) (below_drewN (Below.refl _ _) 1) (fun hHeld => ?_)
      refine takeA 0 65 (.pointer (some ⟨u2.heap.size, 0, none⟩)) hHeld ?_
      simp only [Act.put, sa, s0, ss]
      refine takeB 1 66 (.int .i64 sr.1) (fun w o hSw ho => ?_) hHeld ?_
      · obtain rfl := Option.some.inj ho; obtain ⟨z0, z1, z2, z3⟩ := HM2.out _ hSw; go_simp
      simp only [Act.put, sa, s0, ss]
      refine takeB 2 67 (.agg #[.int .i64 a1.wide, .int .i64 a1.high, .slice p1 a1.nodes.length c1]) (fun w o hSw ho => ?_) hHeld ?_
      · obtain rfl := Option.some.inj ho; obtain ⟨z0, z1, z2⟩ := HM1.out _ hSw; go_simp
      simp only [Act.put, sa, s0, ss]
      refine takeA 3 68 (.int .i64 pn) hHeld ?_
      simp only [Act.put, sa, s0, ss]
      refine takeA 4 69 (.int .i64 kd) hHeld ?_
      simp only [Act.put, sa, s0, ss]
      refine takeA 5 70 (.int .i64 fr) hHeld ?_
      simp only [Act.put, sa, s0, ss]
      refine oneR 6 (by kernel_rfl) (by kernel_rfl) (fun o ho K' hK => ?_)
      obtain rfl := Option.some.inj ho
      clear ho
      go_simp
      refine (HS2.out _ hHeld).mono ?_
      rintro e V71 ⟨z2a, zc2a, rfl, hz, hc⟩
      have HZ2a := Lib.hid hz
      clear hHeld hz
      go_wp2_with fail
      refine hK.out _ _ (hc) (fun hHeld => ?_)
      clear hK K'
      try simp only [Act.put, sa, s0, ss]
      clear hc
      refine takeA 7 72 (.int .i64 sr.1) hHeld ?_
      simp only [Act.put, sa, s0, ss]
      refine takeA 8 73 (.bool false) hHeld ?_
      simp only [Act.put, sa, s0, ss]
      refine takeA 9 74 (.bool false) hHeld ?_
      simp only [Act.put, sa, s0, ss]
      refine takeA 10 75 (.pointer (some ⟨u2.heap.size, 1, none⟩)) hHeld ?_
      simp only [Act.put, sa, s0, ss]
      refine takeB 11 76 (.agg #[.int .i64 sr.2.wide, .int .i64 sr.2.high, .slice q2 sr.2.nodes.length d2]) (fun w o hSw ho => ?_) hHeld ?_
      · obtain rfl := Option.some.inj ho; obtain ⟨z0, z1, z2, z3⟩ := HM2.out _ hSw; go_simp
      simp only [Act.put, sa, s0, ss]
      refine takeB 12 77 (.agg #[.int .i64 a1.wide, .int .i64 a1.high, .slice p1 a1.nodes.length c1]) (fun w o hSw ho => ?_) hHeld ?_
      · obtain rfl := Option.some.inj ho; obtain ⟨z0, z1, z2⟩ := HM1.out _ hSw; go_simp
      simp only [Act.put, sa, s0, ss]
      refine takeA 13 78 (.int .i64 pn) hHeld ?_
      simp only [Act.put, sa, s0, ss]
      refine takeA 14 79 (.int .i64 kd) hHeld ?_
      simp only [Act.put, sa, s0, ss]
      refine takeA 15 80 (.int .i64 fr) hHeld ?_
      simp only [Act.put, sa, s0, ss]
      refine oneR 16 (by kernel_rfl) (by kernel_rfl) (fun o ho K' hK => ?_)
      obtain rfl := Option.some.inj ho
      clear ho
      go_simp
      refine (HS2.out _ hHeld).mono ?_
      rintro e V81 ⟨z2b, zc2b, rfl, hz, hc⟩
      have HZ2b := Lib.hid hz
      clear hHeld hz
      go_wp2_with fail
      refine hK.out _ _ (hc) (fun hHeld => ?_)
      clear hK K'
      try simp only [Act.put, sa, s0, ss]
      clear hc
      refine takeA 17 82 (.agg #[.int .i64 sr.2.wide, .int .i64 sr.2.high, .slice z2b sr.2.nodes.length zc2b]) hHeld ?_
      simp only [Act.put, sa, s0, ss]
      refine oneR 18 (by kernel_rfl) (by kernel_rfl) (fun o ho K' hK => ?_)
      obtain rfl := Option.some.inj ho
      clear ho
      go_simp
      refine (HL2.out _ z2b zc2b hHeld HZ2b.out).mono ?_
      rintro e V83 ⟨rfl, hc⟩
      clear hHeld HZ2b
      go_wp2_with fail
      refine hK.out _ _ (hc) (fun hHeld => ?_)
      clear hK K'
      try simp only [Act.put, sa, s0, ss]
      clear hc
      refine takeA 19 84 (.bool false) hHeld ?_
      simp only [Act.put, sa, s0, ss]
      refine takeA 20 85 (.bool false) hHeld ?_
      simp only [Act.put, sa, s0, ss]
      refine takeA 21 86 (.bool false) hHeld ?_
      simp only [Act.put, sa, s0, ss]
      refine takeA 22 87 (.pointer (some ⟨u4.heap.size, 0, none⟩)) hHeld ?_
      simp only [Act.put, sa, s0, ss]
      refine takeB 23 88 (.int .i64 kr.1) (fun w o hSw ho => ?_) hHeld ?_
      · obtain rfl := Option.some.inj ho; obtain ⟨z0, z1, z2, z3⟩ := HM4.out _ hSw; go_simp
      simp only [Act.put, sa, s0, ss]
      refine takeB 24 89 (.agg #[.int .i64 a3.wide, .int .i64 a3.high, .slice p3 a3.nodes.length c3]) (fun w o hSw ho => ?_) hHeld ?_
      · obtain rfl := Option.some.inj ho; obtain ⟨z0, z1, z2⟩ := HM3.out _ hSw; go_simp
      simp only [Act.put, sa, s0, ss]
      refine takeA 25 90 (.int .i64 pk) hHeld ?_
      simp only [Act.put, sa, s0, ss]
      refine oneR 26 (by kernel_rfl) (by kernel_rfl) (fun o ho K' hK => ?_)
      obtain rfl := Option.some.inj ho
      clear ho
      go_simp
      refine (HS4.out _ hHeld).mono ?_
      rintro e V91 ⟨z4a, zc4a, rfl, hz, hc⟩
      have HZ4a := Lib.hid hz
      clear hHeld hz
      go_wp2_with fail
      refine hK.out _ _ (hc) (fun hHeld => ?_)
      clear hK K'
      try simp only [Act.put, sa, s0, ss]
      clear hc
      refine takeA 27 92 (.int .i64 kr.1) hHeld ?_
      simp only [Act.put, sa, s0, ss]
      refine takeA 28 93 (.bool false) hHeld ?_
      simp only [Act.put, sa, s0, ss]
      refine takeA 29 94 (.bool false) hHeld ?_
      simp only [Act.put, sa, s0, ss]
      refine takeA 30 95 (.bool false) hHeld ?_
      simp only [Act.put, sa, s0, ss]
      refine takeA 31 96 (.pointer (some ⟨u4.heap.size, 1, none⟩)) hHeld ?_
      simp only [Act.put, sa, s0, ss]
      refine takeB 32 97 (.agg #[.int .i64 kr.2.wide, .int .i64 kr.2.high, .slice q4 kr.2.nodes.length d4]) (fun w o hSw ho => ?_) hHeld ?_
      · obtain rfl := Option.some.inj ho; obtain ⟨z0, z1, z2, z3⟩ := HM4.out _ hSw; go_simp
      simp only [Act.put, sa, s0, ss]
      refine takeB 33 98 (.agg #[.int .i64 a3.wide, .int .i64 a3.high, .slice p3 a3.nodes.length c3]) (fun w o hSw ho => ?_) hHeld ?_
      · obtain rfl := Option.some.inj ho; obtain ⟨z0, z1, z2⟩ := HM3.out _ hSw; go_simp
      simp only [Act.put, sa, s0, ss]
      refine takeA 34 99 (.int .i64 pk) hHeld ?_
      simp only [Act.put, sa, s0, ss]
      refine oneR 35 (by kernel_rfl) (by kernel_rfl) (fun o ho K' hK => ?_)
      obtain rfl := Option.some.inj ho
      clear ho
      go_simp
      refine (HS4.out _ hHeld).mono ?_
      rintro e V100 ⟨z4b, zc4b, rfl, hz, hc⟩
      have HZ4b := Lib.hid hz
      clear hHeld hz
      go_wp2_with fail
      refine hK.out _ _ (hc) (fun hHeld => ?_)
      clear hK K'
      try simp only [Act.put, sa, s0, ss]
      clear hc
      refine takeA 36 101 (.agg #[.int .i64 kr.2.wide, .int .i64 kr.2.high, .slice z4b kr.2.nodes.length zc4b]) hHeld ?_
      simp only [Act.put, sa, s0, ss]
      refine oneR 37 (by kernel_rfl) (by kernel_rfl) (fun o ho K' hK => ?_)
      obtain rfl := Option.some.inj ho
      clear ho
      go_simp
      refine (HL4.out _ z4b zc4b hHeld HZ4b.out).mono ?_
      rintro e V102 ⟨rfl, hc⟩
      clear hHeld HZ4b
      go_wp2_with fail
      refine hK.out _ _ (hc) (fun hHeld => ?_)
      clear hK K'
      try simp only [Act.put, sa, s0, ss]
      clear hc
      refine takeA 38 103 (.bool false) hHeld ?_
      simp only [Act.put, sa, s0, ss]
      refine takeA 39 104 (.bool false) hHeld ?_
      simp only [Act.put, sa, s0, ss]
      refine takeA 40 105 (.bool false) hHeld ?_
      simp only [Act.put, sa, s0, ss]
      refine takeA 41 106 (.pointer (some ⟨u6.heap.size, 0, none⟩)) hHeld ?_
      simp only [Act.put, sa, s0, ss]
      refine takeB 42 107 (.int .i64 zr.1) (fun w o hSw ho => ?_) hHeld ?_
      · obtain rfl := Option.some.inj ho; obtain ⟨z0, z1, z2, z3⟩ := HM6.out _ hSw; go_simp
      simp only [Act.put, sa, s0, ss]
      refine takeB 43 108 (.agg #[.int .i64 a5.wide, .int .i64 a5.high, .slice p5 a5.nodes.length c5]) (fun w o hSw ho => ?_) hHeld ?_
      · obtain rfl := Option.some.inj ho; obtain ⟨z0, z1, z2⟩ := HM5.out _ hSw; go_simp
      simp only [Act.put, sa, s0, ss]
      refine takeA 44 109 (.int .i64 pz) hHeld ?_
      simp only [Act.put, sa, s0, ss]
      refine takeA 45 110 (.int .i64 by1) hHeld ?_
      simp only [Act.put, sa, s0, ss]
      refine oneR 46 (by kernel_rfl) (by kernel_rfl) (fun o ho K' hK => ?_)
      obtain rfl := Option.some.inj ho
      clear ho
      go_simp
      refine (HS6.out _ hHeld).mono ?_
      rintro e V111 ⟨z6a, zc6a, rfl, hz, hc⟩
      have HZ6a := Lib.hid hz
      clear hHeld hz
      go_wp2_with fail
      refine hK.out _ _ (hc) (fun hHeld => ?_)
      clear hK K'
      try simp only [Act.put, sa, s0, ss]
      clear hc
      refine takeA 47 112 (.int .i64 zr.1) hHeld ?_
      simp only [Act.put, sa, s0, ss]
      refine takeA 48 113 (.bool false) hHeld ?_
      simp only [Act.put, sa, s0, ss]
      refine takeA 49 114 (.bool false) hHeld ?_
      simp only [Act.put, sa, s0, ss]
      refine takeA 50 115 (.bool false) hHeld ?_
      simp only [Act.put, sa, s0, ss]
      refine takeA 51 116 (.pointer (some ⟨u6.heap.size, 1, none⟩)) hHeld ?_
      simp only [Act.put, sa, s0, ss]
      refine takeB 52 117 (.agg #[.int .i64 zr.2.wide, .int .i64 zr.2.high, .slice q6 zr.2.nodes.length d6]) (fun w o hSw ho => ?_) hHeld ?_
      · obtain rfl := Option.some.inj ho; obtain ⟨z0, z1, z2, z3⟩ := HM6.out _ hSw; go_simp
      simp only [Act.put, sa, s0, ss]
      refine takeB 53 118 (.agg #[.int .i64 a5.wide, .int .i64 a5.high, .slice p5 a5.nodes.length c5]) (fun w o hSw ho => ?_) hHeld ?_
      · obtain rfl := Option.some.inj ho; obtain ⟨z0, z1, z2⟩ := HM5.out _ hSw; go_simp
      simp only [Act.put, sa, s0, ss]
      refine takeA 54 119 (.int .i64 pz) hHeld ?_
      simp only [Act.put, sa, s0, ss]
      refine takeA 55 120 (.int .i64 by1) hHeld ?_
      simp only [Act.put, sa, s0, ss]
      refine oneR 56 (by kernel_rfl) (by kernel_rfl) (fun o ho K' hK => ?_)
      obtain rfl := Option.some.inj ho
      clear ho
      go_simp
      refine (HS6.out _ hHeld).mono ?_
      rintro e V121 ⟨z6b, zc6b, rfl, hz, hc⟩
      have HZ6b := Lib.hid hz
      clear hHeld hz
      go_wp2_with fail
      refine hK.out _ _ (hc) (fun hHeld => ?_)
      clear hK K'
      try simp only [Act.put, sa, s0, ss]
      clear hc
      refine takeA 57 122 (.agg #[.int .i64 zr.2.wide, .int .i64 zr.2.high, .slice z6b zr.2.nodes.length zc6b]) hHeld ?_
      simp only [Act.put, sa, s0, ss]
      refine oneR 58 (by kernel_rfl) (by kernel_rfl) (fun o ho K' hK => ?_)
      obtain rfl := Option.some.inj ho
      clear ho
      go_simp
      refine (HL6.out _ z6b zc6b hHeld HZ6b.out).mono ?_
      rintro e V123 ⟨rfl, hc⟩
      clear hHeld HZ6b
      go_wp2_with fail
      refine hK.out _ _ (hc) (fun hHeld => ?_)
      clear hK K'
      try simp only [Act.put, sa, s0, ss]
      clear hc
      refine takeA 59 124 (.bool false) hHeld ?_
      simp only [Act.put, sa, s0, ss]
      refine takeA 60 125 (.bool false) hHeld ?_
      simp only [Act.put, sa, s0, ss]
      refine takeA 61 126 (.bool false) hHeld ?_
      simp only [Act.put, sa, s0, ss]
      refine takeA 62 127 (.pointer (some ⟨u8.heap.size, 0, none⟩)) hHeld ?_
      simp only [Act.put, sa, s0, ss]
      refine takeB 63 128 (.int .i64 tr.1) (fun w o hSw ho => ?_) hHeld ?_
      · obtain rfl := Option.some.inj ho; obtain ⟨z0, z1, z2, z3⟩ := HM8.out _ hSw; go_simp
      simp only [Act.put, sa, s0, ss]
      refine takeB 64 129 (.agg #[.int .i64 a7.wide, .int .i64 a7.high, .slice p7 a7.nodes.length c7]) (fun w o hSw ho => ?_) hHeld ?_
      · obtain rfl := Option.some.inj ho; obtain ⟨z0, z1, z2⟩ := HM7.out _ hSw; go_simp
      simp only [Act.put, sa, s0, ss]
      refine oneR 65 (by kernel_rfl) (by kernel_rfl) (fun o ho K' hK => ?_)
      obtain rfl := Option.some.inj ho
      clear ho
      go_simp
      refine (HS8.out _ hHeld).mono ?_
      rintro e V130 ⟨z8a, zc8a, rfl, hz, hc⟩
      have HZ8a := Lib.hid hz
      clear hHeld hz
      go_wp2_with fail
      refine hK.out _ _ (hc) (fun hHeld => ?_)
      clear hK K'
      try simp only [Act.put, sa, s0, ss]
      clear hc
      refine takeA 66 131 (.int .i64 tr.1) hHeld ?_
      simp only [Act.put, sa, s0, ss]
      refine takeA 67 132 (.bool false) hHeld ?_
      simp only [Act.put, sa, s0, ss]
      refine takeA 68 133 (.bool false) hHeld ?_
      simp only [Act.put, sa, s0, ss]
      refine takeA 69 134 (.bool false) hHeld ?_
      simp only [Act.put, sa, s0, ss]
      refine takeA 70 135 (.pointer (some ⟨u8.heap.size, 1, none⟩)) hHeld ?_
      simp only [Act.put, sa, s0, ss]
      refine takeB 71 136 (.agg #[.int .i64 tr.2.wide, .int .i64 tr.2.high, .slice q8 tr.2.nodes.length d8]) (fun w o hSw ho => ?_) hHeld ?_
      · obtain rfl := Option.some.inj ho; obtain ⟨z0, z1, z2, z3⟩ := HM8.out _ hSw; go_simp
      simp only [Act.put, sa, s0, ss]
      refine takeB 72 137 (.agg #[.int .i64 a7.wide, .int .i64 a7.high, .slice p7 a7.nodes.length c7]) (fun w o hSw ho => ?_) hHeld ?_
      · obtain rfl := Option.some.inj ho; obtain ⟨z0, z1, z2⟩ := HM7.out _ hSw; go_simp
      simp only [Act.put, sa, s0, ss]
      refine oneR 73 (by kernel_rfl) (by kernel_rfl) (fun o ho K' hK => ?_)
      obtain rfl := Option.some.inj ho
      clear ho
      go_simp
      refine (HS8.out _ hHeld).mono ?_
      rintro e V138 ⟨z8b, zc8b, rfl, hz, hc⟩
      have HZ8b := Lib.hid hz
      clear hHeld hz
      go_wp2_with fail
      refine hK.out _ _ (hc) (fun hHeld => ?_)
      clear hK K'
      try simp only [Act.put, sa, s0, ss]
      clear hc
      refine takeA 74 139 (.agg #[.int .i64 tr.2.wide, .int .i64 tr.2.high, .slice z8b tr.2.nodes.length zc8b]) hHeld ?_
      simp only [Act.put, sa, s0, ss]
      refine oneR 75 (by kernel_rfl) (by kernel_rfl) (fun o ho K' hK => ?_)
      obtain rfl := Option.some.inj ho
      clear ho
      go_simp
      refine (HL8.out _ z8b zc8b hHeld HZ8b.out).mono ?_
      rintro e V140 ⟨rfl, hc⟩
      clear hHeld HZ8b
      go_wp2_with fail
      refine hK.out _ _ (hc) (fun hHeld => ?_)
      clear hK K'
      try simp only [Act.put, sa, s0, ss]
      clear hc
      refine takeA 76 141 (.bool false) hHeld ?_
      simp only [Act.put, sa, s0, ss]
      refine takeA 77 142 (.bool false) hHeld ?_
      simp only [Act.put, sa, s0, ss]
      refine takeA 78 143 (.bool false) hHeld ?_
      simp only [Act.put, sa, s0, ss]
      refine takeB 79 144 (.agg #[.int .i64 nr.1, .int .i64 nr.2]) (fun w o hSw ho => ?_) hHeld ?_
      · obtain rfl := Option.some.inj ho; obtain ⟨z0, z1⟩ := HM10.out _ hSw; go_simp
      simp only [Act.put, sa, s0, ss]
      refine takeB 80 145 (.agg #[.int .i64 a9.wide, .int .i64 a9.high, .slice p9 a9.nodes.length c9]) (fun w o hSw ho => ?_) hHeld ?_
      · obtain rfl := Option.some.inj ho; obtain ⟨z0, z1, z2⟩ := HM9.out _ hSw; go_simp
      simp only [Act.put, sa, s0, ss]
      refine takeA 81 146 (.int .i64 px) hHeld ?_
      simp only [Act.put, sa, s0, ss]
      refine oneR 82 (by kernel_rfl) (by kernel_rfl) (fun o ho K' hK => ?_)
      obtain rfl := Option.some.inj ho
      clear ho
      go_simp
      refine (HS10.out _ hHeld).mono ?_
      rintro e V147 ⟨rfl, hc⟩
      clear hHeld
      go_wp2_with fail
      refine hK.out _ _ (hc) (fun hHeld => ?_)
      clear hK K'
      try simp only [Act.put, sa, s0, ss]
      clear hc
      refine takeA 83 148 (.bool false) hHeld ?_
      simp only [Act.put, sa, s0, ss]
      refine takeA 84 149 (.bool false) hHeld ?_
      simp only [Act.put, sa, s0, ss]
      refine wpAnyH_done (by kernel_rfl) ?_ _
      refine NoPanic.normal ?_
      go_wp2_with fail
      go_meet
      exact ⟨rfl, hHeld⟩
  case rest =>
  obtain ⟨rfl, hD⟩ := hcut
  have HD := Lib.hid hD
  clear hD
  clear HS2 HS4 HS6 HS8 HS10 HM5 HM9 HM10 HL4 HL6
  have HT15 : Hid (tr.1 ≠ 0 ∨ (tr.1 = 0 ∧ ∃ rr : Int × List Q, (∀ W', Below W.heap.size W W' → Calls Try.prog 36 #[.agg #[.int .i64 tr.2.wide, .int .i64 tr.2.high, .slice q8 tr.2.nodes.length d8]] W' fun e W2 => ∃ z zc, e = .returned (.agg #[.int .i64 rr.1, .slice z rr.2.length zc]) ∧ Qs W2 W2.heap.size z rr.2 ∧ Below W.heap.size W W2) ∧
      (∀ W', Below W.heap.size W W' → Calls Try.prog 36 #[.agg #[.int .i64 a7.wide, .int .i64 a7.high, .slice p7 a7.nodes.length c7]] W' fun e W2 => ∃ z zc, e = .returned (.agg #[.int .i64 rr.1, .slice z rr.2.length zc]) ∧ Qs W2 W2.heap.size z rr.2 ∧ Below W.heap.size W W2 ∧ Below W'.heap.size W' W2) ∧ rr.2.length ≤ 2048 ∧
      ∀ W', Below W.heap.size W W' → Calls Try.prog 27 #[.agg #[.int .i64 tr.2.wide, .int .i64 tr.2.high, .slice q8 tr.2.nodes.length d8]] W' fun e W2 => ∃ z zc, e = .returned (.agg #[.int .i64 0, .int .i64 tr.2.wide, .int .i64 tr.2.high, .slice z tr.2.nodes.length zc]) ∧ Qs W2 W2.heap.size z tr.2.nodes ∧ Below W.heap.size W W2)) := by
    by_cases h : tr.1 = 0
    · obtain ⟨e1, e2⟩ := HX8.out h
      refine .inr ⟨h, rrOf a7, fun W' hb => ?_, fun W' hb => ?_, rrOf_small a7, fun W' hb => ?_⟩
      · have := implRectsOf_any tr.2 q8 d8 W' (O8.out.on hb) hs8
        rw [e1] at this
        refine this.mono fun _ _ ⟨v, he, ho, hb2⟩ => ?_
        obtain ⟨z, zc, rfl⟩ := ho.slice
        exact ⟨z, zc, he, ho.bs.2, below_on hb hb2⟩
      · refine (implRectsOf_any a7 p7 c7 W' (Q7.out.on hb) n7).mono fun _ _ ⟨v, he, ho, hb2⟩ => ?_
        obtain ⟨z, zc, rfl⟩ := ho.slice
        exact ⟨z, zc, he, ho.bs.2, below_on hb hb2, hb2⟩
      · have := implTidy_any tr.2 q8 d8 W' (O8.out.on hb) hs8
        rw [e2] at this
        refine this.mono fun _ _ ⟨v, he, ho, hb2⟩ => ?_
        obtain ⟨z, zc, rfl⟩ := ho.slice
        exact ⟨z, zc, he, ho.bs.2, below_on hb hb2⟩
    · exact .inl h
  have HL15 : Hid (∀ (rr : Int × List Q) W' y yc z zc, rr.2.length ≤ 2048 → Below W.heap.size W W' → Qs W' W'.heap.size y rr.2 → Qs W' W'.heap.size z rr.2 → Calls Try.prog 35 #[.slice y rr.2.length yc, .slice z rr.2.length zc] W' fun e W2 => e = .returned (.bool true) ∧ Below W.heap.size W W2) := fun rr W' y yc z zc hn hb hy hz =>
    (lwRects_same y z yc zc rr.2 W' hy hz (by omega)).mono fun _ _ ⟨he, hb2⟩ => ⟨he, below_on hb hb2⟩
  have HM15 : Hid (∀ W' z zc, Below W.heap.size W W' → Qs W' W'.heap.size z tr.2.nodes → Calls Try.prog 34 #[.agg #[.int .i64 tr.2.wide, .int .i64 tr.2.high, .slice z tr.2.nodes.length zc], .agg #[.int .i64 tr.2.wide, .int .i64 tr.2.high, .slice q8 tr.2.nodes.length d8]] W' fun e W2 => e = .returned (.bool true) ∧ Below W.heap.size W W2) := fun W' z zc hb hz =>
    (same_self tr.2 z q8 zc d8 W' hz (O8.out.on hb) hs8).mono fun _ _ ⟨he, hb2⟩ => ⟨he, below_on hb hb2⟩
  clear HX8 Q7 O8 HL8
  have hf0 := fld_rr
  have hf1 := fld_rrS
  go_upto_region 15 with (fail)
  go_cut [173] (fun s wx => s = .bool false ∧ Below W.heap.size W wx)
  case first =>
    as_aux_lemma =>
      rcases HT15.out with h1 | ⟨ht0, rr, h2, h3, hrr, h4⟩
      · clear HT15 HL15 HM15
        refine wp_region_noPanic ?_
        refine wp_region_held_drew (S := fun W' => Below W.heap.size W W') (by kernel_rfl) (below_drewN HD.out 1) (fun hHeld => ?_)
        refine takeA 0 150 (.pointer (some ⟨u8.heap.size, 0, none⟩)) hHeld ?_
        simp only [Act.put, sa, s0, ss]
        refine takeB 1 151 (.int .i64 tr.1) (fun w o hSw ho => ?_) hHeld ?_
        · obtain rfl := Option.some.inj ho; obtain ⟨z0, z1, z2, z3⟩ := HM8.out _ hSw; go_simp
        simp only [Act.put, sa, s0, ss]
        refine takeA 2 152 (.bool false) hHeld ?_
        simp only [Act.put, sa, s0, ss]
        refine takeA 3 153 (.bool false) hHeld ?_
        simp only [Act.put, sa, s0, ss]
        refine skipA 4 154 hHeld ?_
        simp only [Act.put, sa, s0, ss]
        refine skipA 5 155 hHeld ?_
        simp only [Act.put, sa, s0, ss]
        refine skipA 6 156 hHeld ?_
        simp only [Act.put, sa, s0, ss]
        refine skipA 7 157 hHeld ?_
        simp only [Act.put, sa, s0, ss]
        refine skipA 8 158 hHeld ?_
        simp only [Act.put, sa, s0, ss]
        refine skipA 9 159 hHeld ?_
        simp only [Act.put, sa, s0, ss]
        refine skipA 10 160 hHeld ?_
        simp only [Act.put, sa, s0, ss]
        refine skipA 11 161 hHeld ?_
        simp only [Act.put, sa, s0, ss]
        refine skipA 12 162 hHeld ?_
        simp only [Act.put, sa, s0, ss]
        refine skipA 13 163 hHeld ?_
        simp only [Act.put, sa, s0, ss]
        refine skipA 14 164 hHeld ?_
        simp only [Act.put, sa, s0, ss]
        refine skipA 15 165 hHeld ?_
        simp only [Act.put, sa, s0, ss]
        refine skipA 16 166 hHeld ?_
        simp only [Act.put, sa, s0, ss]
        refine skipA 17 167 hHeld ?_
        simp only [Act.put, sa, s0, ss]
        refine skipA 18 168 hHeld ?_
        simp only [Act.put, sa, s0, ss]
        refine skipA 19 169 hHeld ?_
        simp only [Act.put, sa, s0, ss]
        refine skipA 20 170 hHeld ?_
        simp only [Act.put, sa, s0, ss]
        refine skipA 21 171 hHeld ?_
        simp only [Act.put, sa, s0, ss]
        refine skipA 22 172 hHeld ?_
        simp only [Act.put, sa, s0, ss]
        refine takeA 23 173 (.bool false) hHeld ?_
        simp only [Act.put, sa, s0, ss]
        refine wpAnyH_done (by kernel_rfl) ?_ _
        refine NoPanic.normal ?_
        go_wp2_with fail
        go_meet
        exact ⟨rfl, hHeld⟩
      · have HR1 := Lib.hid h2
        have HR2 : Hid (∀ W', Below W.heap.size W W' → Calls Try.prog 36 #[.agg #[.int .i64 a7.wide, .int .i64 a7.high, .slice p7 a7.nodes.length c7]] W' fun e W2 => ∃ z zc, e = .returned (.agg #[.int .i64 rr.1, .slice z rr.2.length zc]) ∧ Qs W2 W2.heap.size z rr.2 ∧ Below W.heap.size W W2 ∧ Below W'.heap.size W' W2) := h3
        have HR3 := Lib.hid h4
        clear HT15 h2 h3 h4
        refine wp_region_noPanic ?_
        refine wp_region_held_drew (S := fun W' => Below W.heap.size W W') (by kernel_rfl) (below_drewN HD.out 1) (fun hHeld => ?_)
        refine takeA 0 150 (.pointer (some ⟨u8.heap.size, 0, none⟩)) hHeld ?_
        simp only [Act.put, sa, s0, ss]
        refine takeB 1 151 (.int .i64 0) (fun w o hSw ho => ?_) hHeld ?_
        · obtain rfl := Option.some.inj ho; obtain ⟨z0, z1, z2, z3⟩ := HM8.out _ hSw; rw [ht0] at z0; go_simp
        simp only [Act.put, sa, s0, ss]
        refine takeA 2 152 (.bool true) hHeld ?_
        simp only [Act.put, sa, s0, ss]
        refine takeA 3 153 (.bool true) hHeld ?_
        simp only [Act.put, sa, s0, ss]
        refine takeA 4 154 (.pointer (some ⟨u8.heap.size, 1, none⟩)) hHeld ?_
        simp only [Act.put, sa, s0, ss]
        refine takeB 5 155 (.agg #[.int .i64 tr.2.wide, .int .i64 tr.2.high, .slice q8 tr.2.nodes.length d8]) (fun w o hSw ho => ?_) hHeld ?_
        · obtain rfl := Option.some.inj ho; obtain ⟨z0, z1, z2, z3⟩ := HM8.out _ hSw; rw [ht0] at z0; go_simp
        simp only [Act.put, sa, s0, ss]
        refine takeB 8 158 (.agg #[.int .i64 a7.wide, .int .i64 a7.high, .slice p7 a7.nodes.length c7]) (fun w o hSw ho => ?_) hHeld ?_
        · obtain rfl := Option.some.inj ho; obtain ⟨z0, z1, z2⟩ := HM7.out _ hSw; go_simp
        simp only [Act.put, sa, s0, ss]
        refine oneR 6 (by kernel_rfl) (by kernel_rfl) (fun o ho K' hK => ?_)
        obtain rfl := Option.some.inj ho
        clear ho
        go_simp
        refine (HR1.out _ hHeld).mono ?_
        rintro e V156 ⟨ze, zce, rfl, hz, hc⟩
        have HZe := Lib.hid hz
        clear hHeld hz
        go_wp2_with fail
        refine hK.out _ _ (hc) (fun hHeld => ?_)
        clear hK K'
        try simp only [Act.put, sa, s0, ss]
        clear hc
        refine takeA 7 157 (.slice ze rr.2.length zce) hHeld ?_
        simp only [Act.put, sa, s0, ss]
        refine oneR 9 (by kernel_rfl) (by kernel_rfl) (fun o ho K' hK => ?_)
        obtain rfl := Option.some.inj ho
        clear ho
        go_simp
        refine (HR2.out _ hHeld).mono ?_
        rintro e V159 ⟨zf, zcf, rfl, hz, hc, hk⟩
        have HZf := Lib.hid hz
        replace HZe := Lib.hid (HZe.out.on hk)
        clear hHeld hz hk
        go_wp2_with fail
        refine hK.out _ _ (hc) (fun hHeld => ?_)
        clear hK K'
        try simp only [Act.put, sa, s0, ss]
        clear hc
        refine takeA 10 160 (.slice zf rr.2.length zcf) hHeld ?_
        simp only [Act.put, sa, s0, ss]
        refine oneR 11 (by kernel_rfl) (by kernel_rfl) (fun o ho K' hK => ?_)
        obtain rfl := Option.some.inj ho
        clear ho
        go_simp
        refine (HL15.out rr _ ze zce zf zcf hrr hHeld HZe.out HZf.out).mono ?_
        rintro e V161 ⟨rfl, hc⟩
        clear hHeld HZf HZe
        go_wp2_with fail
        refine hK.out _ _ (hc) (fun hHeld => ?_)
        clear hK K'
        try simp only [Act.put, sa, s0, ss]
        clear hc
        refine takeA 12 162 (.bool false) hHeld ?_
        simp only [Act.put, sa, s0, ss]
        refine takeA 13 163 (.bool false) hHeld ?_
        simp only [Act.put, sa, s0, ss]
        refine takeA 14 164 (.pointer (some ⟨u8.heap.size, 1, none⟩)) hHeld ?_
        simp only [Act.put, sa, s0, ss]
        refine takeB 15 165 (.agg #[.int .i64 tr.2.wide, .int .i64 tr.2.high, .slice q8 tr.2.nodes.length d8]) (fun w o hSw ho => ?_) hHeld ?_
        · obtain rfl := Option.some.inj ho; obtain ⟨z0, z1, z2, z3⟩ := HM8.out _ hSw; rw [ht0] at z0; go_simp
        simp only [Act.put, sa, s0, ss]
        refine takeA 18 168 (.pointer (some ⟨u8.heap.size, 1, none⟩)) hHeld ?_
        simp only [Act.put, sa, s0, ss]
        refine takeB 19 169 (.agg #[.int .i64 tr.2.wide, .int .i64 tr.2.high, .slice q8 tr.2.nodes.length d8]) (fun w o hSw ho => ?_) hHeld ?_
        · obtain rfl := Option.some.inj ho; obtain ⟨z0, z1, z2, z3⟩ := HM8.out _ hSw; rw [ht0] at z0; go_simp
        simp only [Act.put, sa, s0, ss]
        refine oneR 16 (by kernel_rfl) (by kernel_rfl) (fun o ho K' hK => ?_)
        obtain rfl := Option.some.inj ho
        clear ho
        go_simp
        refine (HR3.out _ hHeld).mono ?_
        rintro e V166 ⟨zg, zcg, rfl, hz, hc⟩
        have HZg := Lib.hid hz
        clear hHeld hz
        go_wp2_with fail
        refine hK.out _ _ (hc) (fun hHeld => ?_)
        clear hK K'
        try simp only [Act.put, sa, s0, ss]
        clear hc
        refine takeA 17 167 (.agg #[.int .i64 tr.2.wide, .int .i64 tr.2.high, .slice zg tr.2.nodes.length zcg]) hHeld ?_
        simp only [Act.put, sa, s0, ss]
        refine oneR 20 (by kernel_rfl) (by kernel_rfl) (fun o ho K' hK => ?_)
        obtain rfl := Option.some.inj ho
        clear ho
        go_simp
        refine (HM15.out _ zg zcg hHeld HZg.out).mono ?_
        rintro e V170 ⟨rfl, hc⟩
        clear hHeld HZg
        go_wp2_with fail
        refine hK.out _ _ (hc) (fun hHeld => ?_)
        clear hK K'
        try simp only [Act.put, sa, s0, ss]
        clear hc
        refine takeA 21 171 (.bool false) hHeld ?_
        simp only [Act.put, sa, s0, ss]
        refine takeA 22 172 (.bool false) hHeld ?_
        simp only [Act.put, sa, s0, ss]
        refine takeA 23 173 (.bool false) hHeld ?_
        simp only [Act.put, sa, s0, ss]
        refine wpAnyH_done (by kernel_rfl) ?_ _
        refine NoPanic.normal ?_
        go_wp2_with fail
        go_meet
        exact ⟨rfl, hHeld⟩
  case rest =>
  obtain ⟨rfl, hD⟩ := hcut
  have HD := Lib.hid hD
  clear hD
  clear HT15 HL15 HM15 HM7 HM8 hf0 hf1 n7 hs8
  have HT17 : Hid (kr.1 ≠ 0 ∨ (kr.1 = 0 ∧ kr.2.nodes.length + 2 = a3.nodes.length ∧ (∀ W', Below W.heap.size W W' → Calls Try.prog 37 #[.agg #[.int .i64 kr.2.wide, .int .i64 kr.2.high, .slice q4 kr.2.nodes.length d4]] W' fun e W2 => e = .returned (.int .i64 0) ∧ Below W.heap.size W W2) ∧
      ∀ W', Below W.heap.size W W' → Calls Try.prog 38 #[.agg #[.int .i64 kr.2.wide, .int .i64 kr.2.high, .slice q4 kr.2.nodes.length d4], .int .i64 pk] W' fun e W2 => e = .returned (.bool false) ∧ Below W.heap.size W W2)) := by
    by_cases h : kr.1 = 0
    · obtain ⟨e1, e2, e3⟩ := HX4.out h
      refine .inr ⟨h, e3, fun W' hb => ?_, fun W' hb => ?_⟩
      · have := implLayoutFault_any kr.2 q4 d4 W' (O4.out.on hb) hs4
        rw [e1] at this
        exact this.mono fun _ _ ⟨he, hb2⟩ => ⟨he, below_on hb hb2⟩
      · have := implHasPane_any kr.2 pk q4 d4 W' (O4.out.on hb) hs4
        rw [e2] at this
        exact this.mono fun _ _ ⟨he, hb2⟩ => ⟨he, below_on hb hb2⟩
    · exact .inl h
  clear HX4 O4
  go_upto_region 17 with (fail)
  go_cut [199] (fun s wx => s = .bool false ∧ Below W.heap.size W wx)
  case first =>
    as_aux_lemma =>
      obtain ⟨y0, y1, y2, y3⟩ := HM4.out _ HD.out
      rcases HT17.out with h1 | ⟨h1, hln, h2, h3⟩
      · clear HT17
        go_wp2_with fail
        go_meet
        exact ⟨rfl, HD.out⟩
      · rw [h1] at y0
        have H2 := Lib.hid h2
        have H3 := Lib.hid h3
        have hw : IntKind.i64.wrap ((a3.nodes.length : Int) - 2) = (kr.2.nodes.length : Int) := (IntWalk.i64_in _ ⟨by omega, by omega⟩).trans (by omega)
        clear HT17 h1 h2 h3 hln
        go_wp2_with fail
        refine (H2.out _ HD.out).mono ?_
        rintro e w30 ⟨rfl, hb⟩
        have HD2 := Lib.hid hb
        obtain ⟨y0, y1, y2, y3⟩ := HM4.out _ hb
        clear hb HD
        go_wp2_with fail
        refine (H3.out _ HD2.out).mono ?_
        rintro e w31 ⟨rfl, hb⟩
        have HD3 := Lib.hid hb
        obtain ⟨y0, y1, y2, y3⟩ := HM4.out _ hb
        obtain ⟨x0, x1, x2⟩ := HM3.out _ hb
        clear hb HD2
        go_wp2_with fail
        go_meet
        exact ⟨rfl, HD3.out⟩
  case rest =>
  obtain ⟨rfl, hD⟩ := hcut
  have HD := Lib.hid hD
  clear hD
  clear HT17 HM3 HM4 n3 hs4
  have HT19 : Hid (zr.1 ≠ 0 ∨ (zr.1 = 0 ∧ ∀ W', Below W.heap.size W W' → Calls Try.prog 37 #[.agg #[.int .i64 zr.2.wide, .int .i64 zr.2.high, .slice q6 zr.2.nodes.length d6]] W' fun e W2 => e = .returned (.int .i64 0) ∧ Below W.heap.size W W2)) := by
    by_cases h : zr.1 = 0
    · have e1 := HX6.out h
      refine .inr ⟨h, fun W' hb => ?_⟩
      have := implLayoutFault_any zr.2 q6 d6 W' (O6.out.on hb) hs6
      rw [e1] at this
      exact this.mono fun _ _ ⟨he, hb2⟩ => ⟨he, below_on hb hb2⟩
    · exact .inl h
  clear HX6 O6
  go_upto_region 19 with (fail)
  go_cut [208] (fun s wx => s = .bool false ∧ Below W.heap.size W wx)
  case first =>
    as_aux_lemma =>
      obtain ⟨y0, y1, y2, y3⟩ := HM6.out _ HD.out
      rcases HT19.out with h1 | ⟨h1, h2⟩
      · clear HT19
        go_wp2_with fail
        go_meet
        exact ⟨rfl, HD.out⟩
      · rw [h1] at y0
        have H2 := Lib.hid h2
        clear HT19 h1 h2
        go_wp2_with fail
        refine (H2.out _ HD.out).mono ?_
        rintro e w30 ⟨rfl, hb⟩
        have HD2 := Lib.hid hb
        clear hb HD
        go_wp2_with fail
        go_meet
        exact ⟨rfl, HD2.out⟩
  case rest =>
  obtain ⟨rfl, hD⟩ := hcut
  have HD := Lib.hid hD
  clear hD
  clear HT19 HM6 hs6
  obtain ⟨y0, y1, y2, y3⟩ := HM2.out _ HD.out
  by_cases h0 : sr.1 = 0
  · obtain ⟨e1, e2, e3, e4⟩ := HX2.out.1 h0
    have HI1 : Hid (∀ W', Below W.heap.size W W' → Calls Try.prog 37 #[.agg #[.int .i64 sr.2.wide, .int .i64 sr.2.high, .slice q2 sr.2.nodes.length d2]] W' fun e W2 => e = .returned (.int .i64 0) ∧ Below W.heap.size W W2 ∧ Below W'.heap.size W' W2) := fun W' hb => by
      have := implLayoutFault_any sr.2 q2 d2 W' (O2.out.on hb) hs2
      rw [e1] at this
      exact this.mono fun _ _ ⟨he, hb2⟩ => ⟨he, below_on hb hb2, hb2⟩
    have HI2 : Hid (∀ W', Below W.heap.size W W' → Calls Try.prog 38 #[.agg #[.int .i64 sr.2.wide, .int .i64 sr.2.high, .slice q2 sr.2.nodes.length d2], .int .i64 fr] W' fun e W2 => e = .returned (.bool true) ∧ Below W.heap.size W W2 ∧ Below W'.heap.size W' W2) := fun W' hb => by
      have := implHasPane_any sr.2 fr q2 d2 W' (O2.out.on hb) hs2
      rw [e2] at this
      exact this.mono fun _ _ ⟨he, hb2⟩ => ⟨he, below_on hb hb2, hb2⟩
    have HI3 : Hid (∀ W', Below W.heap.size W W' → Calls Try.prog 27 #[.agg #[.int .i64 a1.wide, .int .i64 a1.high, .slice p1 a1.nodes.length c1]] W' fun e W2 => ∃ z zc, e = .returned (.agg #[.int .i64 0, .int .i64 a1.tidy.wide, .int .i64 a1.tidy.high, .slice z a1.tidy.nodes.length zc]) ∧ Qs W2 W2.heap.size z a1.tidy.nodes ∧ Below W.heap.size W W2 ∧ Below W'.heap.size W' W2) := fun W' hb => by
      have := implTidy_any a1 p1 c1 W' (Q1.out.on hb) n1
      rw [e4] at this
      refine this.mono fun _ _ ⟨v, he, ho, hb2⟩ => ?_
      obtain ⟨z, zc, rfl⟩ := ho.slice
      exact ⟨z, zc, he, ho.bs.2, below_on hb hb2, hb2⟩
    have HK : Hid (∀ W', Below W.heap.size W W' → Calls Try.prog 20 #[.agg #[.int .i64 sr.2.wide, .int .i64 sr.2.high, .slice q2 sr.2.nodes.length d2], .int .i64 fr] W' (NewLr W' 0 a1.tidy)) := fun W' hb => by
      have := implKill_any sr.2 fr q2 d2 W' (O2.out.on hb) hs2
      rwa [e3] at this
    have htl : a1.tidy.nodes.length ≤ 1048576 := by have := tidyR_small a1; rw [e4] at this; simp only at this; omega
    rw [h0] at y0
    clear HX2 O2 Q1 e1 e2 e3 e4 HL2
    generalize a1.tidy = ti at *
    go_wp2_with fail
    refine (HK.out _ HD.out).mono ?_
    rintro e u20 ⟨v, rfl, ho, hb⟩
    obtain ⟨q20, d20, rfl⟩ := ho.slice
    have hb0 := below_on HD.out hb
    have B := below_mk u20 (.cells #[.int .i64 0, .int .i64 ti.wide, .int .i64 ti.high, .slice q20 ti.nodes.length d20] 30)
    have HX := Lib.hid (below_on hb0 B)
    have O20 := Lib.hid (ho.bs.2.on B)
    have M20 : Hid (AtL (u20.alloc (.cells #[.int .i64 0, .int .i64 ti.wide, .int .i64 ti.high, .slice q20 ti.nodes.length d20] 30)) u20.heap.size [.int .i64 0, .int .i64 ti.wide, .int .i64 ti.high, .slice q20 ti.nodes.length d20]) := AtL.new u20 [.int .i64 0, .int .i64 ti.wide, .int .i64 ti.high, .slice q20 ti.nodes.length d20] 30
    clear ho hb hb0 B HD HK y0 y1 y2 y3
    unfold lrV
    go_upto_region 24 with (fail)
    generalize u20.alloc (.cells #[.int .i64 0, .int .i64 ti.wide, .int .i64 ti.high, .slice q20 ti.nodes.length d20] 30) = X at *
    have HM20 := Lib.hid (fun W' (hb : Below X.heap.size X W') => (M20.out.on hb).lr)
    have HSM : Hid (∀ W' z zc, Below X.heap.size X W' → Qs W' W'.heap.size z ti.nodes → Calls Try.prog 34 #[.agg #[.int .i64 ti.wide, .int .i64 ti.high, .slice q20 ti.nodes.length d20], .agg #[.int .i64 ti.wide, .int .i64 ti.high, .slice z ti.nodes.length zc]] W' fun e W2 => e = .returned (.bool true) ∧ Below W'.heap.size W' W2) := fun W' z zc hb hz =>
      same_self ti q20 z d20 zc W' (O20.out.on hb) hz htl
    clear M20 O20 htl
    as_aux_lemma =>
      refine wp_region_noPanic ?_
      refine wp_region_held_drew (S := fun W' => Below (X).heap.size (X) W') (by kernel_rfl) (below_drewN (Below.refl _ _) 1) (fun hHeld => ?_)
      refine takeA 0 221 (.pointer (some ⟨u2.heap.size, 1, none⟩)) hHeld ?_
      simp only [Act.put, sa, s0, ss]
      refine takeB 1 222 (.agg #[.int .i64 sr.2.wide, .int .i64 sr.2.high, .slice q2 sr.2.nodes.length d2]) (fun w o hSw ho => ?_) hHeld ?_
      · obtain rfl := Option.some.inj ho; obtain ⟨z0, z1, z2, z3⟩ := HM2.out _ (below_on HX.out hSw); go_simp
      simp only [Act.put, sa, s0, ss]
      refine oneR 2 (by kernel_rfl) (by kernel_rfl) (fun o ho K' hK => ?_)
      obtain rfl := Option.some.inj ho
      clear ho
      go_simp
      refine (HI1.out _ (below_on HX.out hHeld)).mono ?_
      rintro e V223 ⟨rfl, hc, hk⟩
      replace hc := below_on hHeld hk
      clear hHeld hk
      go_wp2_with fail
      refine hK.out _ _ (hc) (fun hHeld => ?_)
      clear hK K'
      try simp only [Act.put, sa, s0, ss]
      clear hc
      refine takeA 3 224 (.bool true) hHeld ?_
      simp only [Act.put, sa, s0, ss]
      refine takeA 4 225 (.bool true) hHeld ?_
      simp only [Act.put, sa, s0, ss]
      refine takeA 5 226 (.pointer (some ⟨u2.heap.size, 1, none⟩)) hHeld ?_
      simp only [Act.put, sa, s0, ss]
      refine takeB 6 227 (.agg #[.int .i64 sr.2.wide, .int .i64 sr.2.high, .slice q2 sr.2.nodes.length d2]) (fun w o hSw ho => ?_) hHeld ?_
      · obtain rfl := Option.some.inj ho; obtain ⟨z0, z1, z2, z3⟩ := HM2.out _ (below_on HX.out hSw); go_simp
      simp only [Act.put, sa, s0, ss]
      refine takeA 7 228 (.int .i64 fr) hHeld ?_
      simp only [Act.put, sa, s0, ss]
      refine oneR 8 (by kernel_rfl) (by kernel_rfl) (fun o ho K' hK => ?_)
      obtain rfl := Option.some.inj ho
      clear ho
      go_simp
      refine (HI2.out _ (below_on HX.out hHeld)).mono ?_
      rintro e V229 ⟨rfl, hc, hk⟩
      replace hc := below_on hHeld hk
      clear hHeld hk
      go_wp2_with fail
      refine hK.out _ _ (hc) (fun hHeld => ?_)
      clear hK K'
      try simp only [Act.put, sa, s0, ss]
      clear hc
      refine takeA 9 230 (.bool true) hHeld ?_
      simp only [Act.put, sa, s0, ss]
      refine takeA 10 231 (.bool true) hHeld ?_
      simp only [Act.put, sa, s0, ss]
      refine takeA 11 232 (.pointer (some ⟨u20.heap.size, 0, none⟩)) hHeld ?_
      simp only [Act.put, sa, s0, ss]
      refine takeB 12 233 (.int .i64 0) (fun w o hSw ho => ?_) hHeld ?_
      · obtain rfl := Option.some.inj ho; obtain ⟨z0, z1, z2, z3⟩ := HM20.out _ hSw; go_simp
      simp only [Act.put, sa, s0, ss]
      refine takeA 13 234 (.bool true) hHeld ?_
      simp only [Act.put, sa, s0, ss]
      refine takeA 14 235 (.bool true) hHeld ?_
      simp only [Act.put, sa, s0, ss]
      refine takeA 15 236 (.bool true) hHeld ?_
      simp only [Act.put, sa, s0, ss]
      refine takeA 16 237 (.pointer (some ⟨u20.heap.size, 1, none⟩)) hHeld ?_
      simp only [Act.put, sa, s0, ss]
      refine takeB 17 238 (.agg #[.int .i64 ti.wide, .int .i64 ti.high, .slice q20 ti.nodes.length d20]) (fun w o hSw ho => ?_) hHeld ?_
      · obtain rfl := Option.some.inj ho; obtain ⟨z0, z1, z2, z3⟩ := HM20.out _ hSw; go_simp
      simp only [Act.put, sa, s0, ss]
      refine takeB 18 239 (.agg #[.int .i64 a1.wide, .int .i64 a1.high, .slice p1 a1.nodes.length c1]) (fun w o hSw ho => ?_) hHeld ?_
      · obtain rfl := Option.some.inj ho; obtain ⟨z0, z1, z2⟩ := HM1.out _ (below_on HX.out hSw); go_simp
      simp only [Act.put, sa, s0, ss]
      refine oneR 19 (by kernel_rfl) (by kernel_rfl) (fun o ho K' hK => ?_)
      obtain rfl := Option.some.inj ho
      clear ho
      go_simp
      refine (HI3.out _ (below_on HX.out hHeld)).mono ?_
      rintro e V240 ⟨zh, zch, rfl, hz, hc, hk⟩
      have HZh := Lib.hid hz
      replace hc := below_on hHeld hk
      clear hHeld hk hz
      go_wp2_with fail
      refine hK.out _ _ (hc) (fun hHeld => ?_)
      clear hK K'
      try simp only [Act.put, sa, s0, ss]
      clear hc
      refine takeA 20 241 (.agg #[.int .i64 ti.wide, .int .i64 ti.high, .slice zh ti.nodes.length zch]) hHeld ?_
      simp only [Act.put, sa, s0, ss]
      refine oneR 21 (by kernel_rfl) (by kernel_rfl) (fun o ho K' hK => ?_)
      obtain rfl := Option.some.inj ho
      clear ho
      go_simp
      refine (HSM.out _ zh zch hHeld HZh.out).mono ?_
      rintro e V242 ⟨rfl, hc⟩
      replace hc := below_on hHeld hc
      clear hHeld HZh
      go_wp2_with fail
      refine hK.out _ _ (hc) (fun hHeld => ?_)
      clear hK K'
      try simp only [Act.put, sa, s0, ss]
      clear hc
      refine takeA 22 243 (.bool true) hHeld ?_
      simp only [Act.put, sa, s0, ss]
      refine takeA 23 2 (.bool true) hHeld ?_
      simp only [Act.put, sa, s0, ss]
      refine wpAnyH_done (by kernel_rfl) ?_ _
      refine NoPanic.normal ?_
      have HY := Lib.hid (below_on E10.out (below_on HX.out hHeld))
      clear hHeld
      go_wp2_with fail
      go_ret
      exact ⟨rfl, HY.out⟩
  · have hn := HX2.out.2 h0
    rw [hn] at y3
    have HY := Lib.hid (below_on E10.out HD.out)
    clear HX2 O2 Q1 HL2 hn
    go_wp2_with fail
    go_ret
    exact ⟨rfl, HY.out⟩

end Go.Proofs.Ytbfickdgjgbfhaa
