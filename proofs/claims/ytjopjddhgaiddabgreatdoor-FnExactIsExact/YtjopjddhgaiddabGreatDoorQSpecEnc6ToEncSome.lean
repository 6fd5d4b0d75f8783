/- The model's encoder: EncodeKey, EncodeMouse, EncodeEvent. (Written by wip/gen_encspec6.py.) -/
import Derived.Test.YtjopjddhgaiddabGreatDoorQSpecEnc4ToSpecEnc5
import Derived.Test.YtjopjddhgaiddabGreatDoorQEncImpl5ToEncImpl7
import Derived.Test.YtjopjddhgaiddabGreatDoorQDrawsToDraws7
import Derived.Test.YtjopjddhgaiddabGreatDoorQJoinBToAppFull
import Derived.Test.YtjopjddhgaiddabGreatDoorQTokToTokRes
namespace Go.Proofs.YtjopjddhgaiddabGreatDoor
open Go.RowKit
set_option linter.unusedVariables false
set_option linter.unusedSimpArgs false

theorem l5Mouse_any (md : Md) (e : Ev) (p : Option Addr) (cp : Nat) (u g : Nat) (w : World) (hM : AtL w u (mdL md)) (hE : AtL w g (evC e p cp).toList) (h : MouseOk e) :
    Calls Tryz.prog 45 #[.pointer (some ⟨u, 0, none⟩), .pointer (some ⟨g, 0, none⟩)] w (NewOwn w (mouseE md e)) := by
  obtain ⟨cu, co, mo, sg, pa⟩ := md
  obtain ⟨kind, c, m, b, a, x, y, data⟩ := e
  obtain ⟨b0, b2, a1, a3, m0, m7, x0, x9, y0, y9⟩ := h
  dsimp only at *
  unfold mdL at hM
  unfold evC at hE
  dsimp only at hM hE
  have ha : a = 1 ∨ a = 2 ∨ a = 3 := by omega
  cases sg
  · have hm : mouseE ⟨cu, co, mo, false, pa⟩ ⟨kind, c, m, b, a, x, y, data⟩ = clickE ⟨kind, c, m, b, a, x, y, data⟩ := by simp [mouseE]
    rw [hm]
    unfold clickE
    dsimp only
    rcases ha with rfl | rfl | rfl
    · rw [if_neg (by omega)]
      exact l5Mouse_ba cu co mo pa kind c m b 1 x y _ u g w hM hE (by omega) (by omega) b0 b2 m0 m7 x0 x9 y0 y9
    · rw [if_pos rfl]
      exact l5Mouse_b2 cu co mo pa kind c m b x y _ u g w hM hE b0 b2 m0 m7 x0 x9 y0 y9
    · rw [if_neg (by omega)]
      exact l5Mouse_b3 cu co mo pa kind c m b x y _ u g w hM hE b0 b2 m0 m7 x0 x9 y0 y9
  · have hm : mouseE ⟨cu, co, mo, true, pa⟩ ⟨kind, c, m, b, a, x, y, data⟩ = sgrE ⟨kind, c, m, b, a, x, y, data⟩ := by simp [mouseE]
    rw [hm]
    unfold sgrE evNum
    dsimp only
    rcases ha with rfl | rfl | rfl
    · rw [if_neg (by omega), if_neg (by omega), Int.add_zero]
      exact l5Mouse_sa cu co mo pa kind c m b 1 x y _ u g w hM hE (by omega) (by omega) b0 b2 m0 m7 x0 x9 y0 y9
    · rw [if_neg (by omega), if_pos rfl, Int.add_zero]
      exact l5Mouse_s2 cu co mo pa kind c m b x y _ u g w hM hE b0 b2 m0 m7 x0 x9 y0 y9
    · rw [if_pos rfl, if_neg (by omega)]
      exact l5Mouse_s3 cu co mo pa kind c m b x y _ u g w hM hE b0 b2 m0 m7 x0 x9 y0 y9

set_option maxRecDepth 100000 in
set_option maxHeartbeats 2000000 in
theorem specKey_bad (cu co : Bool) (mo : Int) (sg pa : Bool) (kind code mods button act col row : Int) (data : List UInt8) (p : Option Addr) (c : Nat) (w : World) (k : Int) (hk : ¬ k = 0) (HF : Hid (∀ W, AtL W w.heap.size [.bool cu, .bool co, .int .i64 mo, .bool sg, .bool pa] → AtL W (w.heap.size + 1) [.int .i64 kind, .int .i64 code, .int .i64 mods, .int .i64 button, .int .i64 act, .int .i64 col, .int .i64 row, .slice p data.length c] → Calls Tryz.prog 21 #[.pointer (some ⟨w.heap.size, 0, none⟩), .pointer (some ⟨w.heap.size + 1, 0, none⟩), .int .i64 1] W fun en w' => en = .returned (.int .i64 k) ∧ Below W.heap.size W w')) :
    Calls Tryz.prog 22 #[.agg #[.bool cu, .bool co, .int .i64 mo, .bool sg, .bool pa], .agg #[.int .i64 kind, .int .i64 code, .int .i64 mods, .int .i64 button, .int .i64 act, .int .i64 col, .int .i64 row, .slice p data.length c]] w (NewBr w k []) := by
  have H3 := Lib.hid (AtM3 w #[.bool cu, .bool co, .int .i64 mo, .bool sg, .bool pa] 29 (#[.int .i64 kind, .int .i64 code, .int .i64 mods, .int .i64 button, .int .i64 act, .int .i64 col, .int .i64 row, .slice p data.length c]) 31 [.int .i64 0, .slice none 0 0] 37)
  go_enter Tryz.func22, Tryz.ntmps22
  go_wp2_with fail
  refine (HF.out _ H3.out.m H3.out.e).mono ?_
  rintro en w1 ⟨rfl, hb⟩
  have HM := Lib.hid (H3.out.on hb)
  have HB := Lib.hid (below_on (below_three w _ _ _) hb)
  clear hb H3 HF
  obtain ⟨m0, m1, m2, m3, m4⟩ := HM.out.m.five
  obtain ⟨z0, z1, z2, z3, z4, z5, z6, z7⟩ := AtL.eightE HM.out.e
  have q0 := HM.out.r.cells.get 0 rfl
  have q1 := HM.out.r.cells.get 1 rfl
  have hf := HM.out.r.free
  go_wp2_with fail
  exact bodyPost_ret (v := brV k (.slice none 0 0)) (by simp [results, Tryz.results22, brV, go_sem, q0, q1]) rfl (br_bare (by omega) HB.out)

set_option maxRecDepth 100000 in
set_option maxHeartbeats 2000000 in
theorem specKey_good (cu co : Bool) (mo : Int) (sg pa : Bool) (kind code mods button act col row : Int) (data : List UInt8) (p : Option Addr) (c : Nat) (w : World) (HF : Hid (∀ W, AtL W w.heap.size [.bool cu, .bool co, .int .i64 mo, .bool sg, .bool pa] → AtL W (w.heap.size + 1) [.int .i64 kind, .int .i64 code, .int .i64 mods, .int .i64 button, .int .i64 act, .int .i64 col, .int .i64 row, .slice p data.length c] → Calls Tryz.prog 21 #[.pointer (some ⟨w.heap.size, 0, none⟩), .pointer (some ⟨w.heap.size + 1, 0, none⟩), .int .i64 1] W fun en w' => en = .returned (.int .i64 0) ∧ Below W.heap.size W w')) (L : List UInt8) (HX : Hid (∀ W, Below w.heap.size w W → AtL W w.heap.size [.bool cu, .bool co, .int .i64 mo, .bool sg, .bool pa] → AtL W (w.heap.size + 1) [.int .i64 kind, .int .i64 code, .int .i64 mods, .int .i64 button, .int .i64 act, .int .i64 col, .int .i64 row, .slice p data.length c] → Calls Tryz.prog 43 #[.pointer (some ⟨w.heap.size, 0, none⟩), .pointer (some ⟨w.heap.size + 1, 0, none⟩)] W (NewOwn W L))) :
    Calls Tryz.prog 22 #[.agg #[.bool cu, .bool co, .int .i64 mo, .bool sg, .bool pa], .agg #[.int .i64 kind, .int .i64 code, .int .i64 mods, .int .i64 button, .int .i64 act, .int .i64 col, .int .i64 row, .slice p data.length c]] w (NewBr w 0 L) := by
  have H3 := Lib.hid (AtM3 w #[.bool cu, .bool co, .int .i64 mo, .bool sg, .bool pa] 29 (#[.int .i64 kind, .int .i64 code, .int .i64 mods, .int .i64 button, .int .i64 act, .int .i64 col, .int .i64 row, .slice p data.length c]) 31 [.int .i64 0, .slice none 0 0] 37)
  go_enter Tryz.func22, Tryz.ntmps22
  go_wp2_with fail
  refine (HF.out _ H3.out.m H3.out.e).mono ?_
  rintro en w1 ⟨rfl, hb⟩
  have HM := Lib.hid (H3.out.on hb)
  have HB := Lib.hid (below_on (below_three w _ _ _) hb)
  clear hb H3 HF
  obtain ⟨m0, m1, m2, m3, m4⟩ := HM.out.m.five
  obtain ⟨z0, z1, z2, z3, z4, z5, z6, z7⟩ := AtL.eightE HM.out.e
  have q0 := HM.out.r.cells.get 0 rfl
  have q1 := HM.out.r.cells.get 1 rfl
  have hf := HM.out.r.free
  go_wp2_with fail
  refine (HX.out _ HB.out HM.out.m HM.out.e).mono ?_
  rintro en w4 ⟨v, rfl, ho, hb⟩
  obtain ⟨p4, c4, hv⟩ := ho.slice
  subst hv
  have HM4 := Lib.hid (HM.out.on hb)
  have HB4 := Lib.hid (below_on HB.out hb)
  have HE : Hid (∀ u1 u2, NewBr w 0 L (.returned (brV 0 (.slice p4 L.length c4))) ((w4.setCell ⟨w.heap.size + 1 + 1, 0, none⟩ u1).setCell ⟨w.heap.size + 1 + 1, 1, none⟩ u2)) := fun u1 u2 => br_endg ho HM.out.r.cells.1 (by omega) HB4.out
  clear hb ho
  clear m0 m1 m2 m3 m4 z0 z1 z2 z3 z4 z5 z6 z7 q0 q1 hf
  have q0 := HM4.out.r.cells.get 0 rfl
  have q1 := HM4.out.r.cells.get 1 rfl
  have hf := HM4.out.r.free
  go_wp2_with fail
  exact bodyPost_ret (v := brV 0 (.slice p4 L.length c4)) (by simp [results, Tryz.results22, brV, go_sem, q0, q1]) rfl (HE.out _ _)

set_option maxRecDepth 100000 in
set_option maxHeartbeats 2000000 in
theorem specMouse_bad (cu co : Bool) (mo : Int) (sg pa : Bool) (kind code mods button act col row : Int) (data : List UInt8) (p : Option Addr) (c : Nat) (w : World) (k : Int) (hk : ¬ k = 0) (HF : Hid (∀ W, AtL W w.heap.size [.bool cu, .bool co, .int .i64 mo, .bool sg, .bool pa] → AtL W (w.heap.size + 1) [.int .i64 kind, .int .i64 code, .int .i64 mods, .int .i64 button, .int .i64 act, .int .i64 col, .int .i64 row, .slice p data.length c] → Calls Tryz.prog 21 #[.pointer (some ⟨w.heap.size, 0, none⟩), .pointer (some ⟨w.heap.size + 1, 0, none⟩), .int .i64 2] W fun en w' => en = .returned (.int .i64 k) ∧ Below W.heap.size W w')) :
    Calls Tryz.prog 23 #[.agg #[.bool cu, .bool co, .int .i64 mo, .bool sg, .bool pa], .agg #[.int .i64 kind, .int .i64 code, .int .i64 mods, .int .i64 button, .int .i64 act, .int .i64 col, .int .i64 row, .slice p data.length c]] w (NewBr w k []) := by
  have H3 := Lib.hid (AtM3 w #[.bool cu, .bool co, .int .i64 mo, .bool sg, .bool pa] 29 (#[.int .i64 kind, .int .i64 code, .int .i64 mods, .int .i64 button, .int .i64 act, .int .i64 col, .int .i64 row, .slice p data.length c]) 31 [.int .i64 0, .slice none 0 0] 37)
  go_enter Tryz.func23, Tryz.ntmps23
  go_wp2_with fail
  refine (HF.out _ H3.out.m H3.out.e).mono ?_
  rintro en w1 ⟨rfl, hb⟩
  have HM := Lib.hid (H3.out.on hb)
  have HB := Lib.hid (below_on (below_three w _ _ _) hb)
  clear hb H3 HF
  obtain ⟨m0, m1, m2, m3, m4⟩ := HM.out.m.five
  obtain ⟨z0, z1, z2, z3, z4, z5, z6, z7⟩ := AtL.eightE HM.out.e
  have q0 := HM.out.r.cells.get 0 rfl
  have q1 := HM.out.r.cells.get 1 rfl
  have hf := HM.out.r.free
  go_wp2_with fail
  exact bodyPost_ret (v := brV k (.slice none 0 0)) (by simp [results, Tryz.results23, brV, go_sem, q0, q1]) rfl (br_bare (by omega) HB.out)

set_option maxRecDepth 100000 in
set_option maxHeartbeats 2000000 in
theorem specMouse_none (cu co : Bool) (mo : Int) (sg pa : Bool) (kind code mods button act col row : Int) (data : List UInt8) (p : Option Addr) (c : Nat) (w : World) (HF : Hid (∀ W, AtL W w.heap.size [.bool cu, .bool co, .int .i64 mo, .bool sg, .bool pa] → AtL W (w.heap.size + 1) [.int .i64 kind, .int .i64 code, .int .i64 mods, .int .i64 button, .int .i64 act, .int .i64 col, .int .i64 row, .slice p data.length c] → Calls Tryz.prog 21 #[.pointer (some ⟨w.heap.size, 0, none⟩), .pointer (some ⟨w.heap.size + 1, 0, none⟩), .int .i64 2] W fun en w' => en = .returned (.int .i64 0) ∧ Below W.heap.size W w')) (HW : Hid (∀ W, AtL W w.heap.size [.bool cu, .bool co, .int .i64 mo, .bool sg, .bool pa] → Calls Tryz.prog 44 #[.pointer (some ⟨w.heap.size, 0, none⟩), .int .i64 act] W fun e w' => e = .returned (.bool false) ∧ W = w')) :
    Calls Tryz.prog 23 #[.agg #[.bool cu, .bool co, .int .i64 mo, .bool sg, .bool pa], .agg #[.int .i64 kind, .int .i64 code, .int .i64 mods, .int .i64 button, .int .i64 act, .int .i64 col, .int .i64 row, .slice p data.length c]] w (NewBr w 4 []) := by
  have H3 := Lib.hid (AtM3 w #[.bool cu, .bool co, .int .i64 mo, .bool sg, .bool pa] 29 (#[.int .i64 kind, .int .i64 code, .int .i64 mods, .int .i64 button, .int .i64 act, .int .i64 col, .int .i64 row, .slice p data.length c]) 31 [.int .i64 0, .slice none 0 0] 37)
  go_enter Tryz.func23, Tryz.ntmps23
  go_wp2_with fail
  refine (HF.out _ H3.out.m H3.out.e).mono ?_
  rintro en w1 ⟨rfl, hb⟩
  have HM := Lib.hid (H3.out.on hb)
  have HB := Lib.hid (below_on (below_three w _ _ _) hb)
  clear hb H3 HF
  obtain ⟨m0, m1, m2, m3, m4⟩ := HM.out.m.five
  obtain ⟨z0, z1, z2, z3, z4, z5, z6, z7⟩ := AtL.eightE HM.out.e
  have q0 := HM.out.r.cells.get 0 rfl
  have q1 := HM.out.r.cells.get 1 rfl
  have hf := HM.out.r.free
  go_wp2_with fail
  refine (HW.out _ HM.out.m).mono ?_
  rintro en w2 ⟨rfl, rfl⟩
  go_wp2_with fail
  exact bodyPost_ret (v := brV 4 (.slice none 0 0)) (by simp [results, Tryz.results23, brV, go_sem, q0, q1]) rfl (br_bare (by omega) HB.out)

set_option maxRecDepth 100000 in
set_option maxHeartbeats 2000000 in
theorem specMouse_good (cu co : Bool) (mo : Int) (sg pa : Bool) (kind code mods button act col row : Int) (data : List UInt8) (p : Option Addr) (c : Nat) (w : World) (HF : Hid (∀ W, AtL W w.heap.size [.bool cu, .bool co, .int .i64 mo, .bool sg, .bool pa] → AtL W (w.heap.size + 1) [.int .i64 kind, .int .i64 code, .int .i64 mods, .int .i64 button, .int .i64 act, .int .i64 col, .int .i64 row, .slice p data.length c] → Calls Tryz.prog 21 #[.pointer (some ⟨w.heap.size, 0, none⟩), .pointer (some ⟨w.heap.size + 1, 0, none⟩), .int .i64 2] W fun en w' => en = .returned (.int .i64 0) ∧ Below W.heap.size W w')) (HW : Hid (∀ W, AtL W w.heap.size [.bool cu, .bool co, .int .i64 mo, .bool sg, .bool pa] → Calls Tryz.prog 44 #[.pointer (some ⟨w.heap.size, 0, none⟩), .int .i64 act] W fun e w' => e = .returned (.bool true) ∧ W = w')) (L : List UInt8) (HX : Hid (∀ W, Below w.heap.size w W → AtL W w.heap.size [.bool cu, .bool co, .int .i64 mo, .bool sg, .bool pa] → AtL W (w.heap.size + 1) [.int .i64 kind, .int .i64 code, .int .i64 mods, .int .i64 button, .int .i64 act, .int .i64 col, .int .i64 row, .slice p data.length c] → Calls Tryz.prog 45 #[.pointer (some ⟨w.heap.size, 0, none⟩), .pointer (some ⟨w.heap.size + 1, 0, none⟩)] W (NewOwn W L))) :
    Calls Tryz.prog 23 #[.agg #[.bool cu, .bool co, .int .i64 mo, .bool sg, .bool pa], .agg #[.int .i64 kind, .int .i64 code, .int .i64 mods, .int .i64 button, .int .i64 act, .int .i64 col, .int .i64 row, .slice p data.length c]] w (NewBr w 0 L) := by
  have H3 := Lib.hid (AtM3 w #[.bool cu, .bool co, .int .i64 mo, .bool sg, .bool pa] 29 (#[.int .i64 kind, .int .i64 code, .int .i64 mods, .int .i64 button, .int .i64 act, .int .i64 col, .int .i64 row, .slice p data.length c]) 31 [.int .i64 0, .slice none 0 0] 37)
  go_enter Tryz.func23, Tryz.ntmps23
  go_wp2_with fail
  refine (HF.out _ H3.out.m H3.out.e).mono ?_
  rintro en w1 ⟨rfl, hb⟩
  have HM := Lib.hid (H3.out.on hb)
  have HB := Lib.hid (below_on (below_three w _ _ _) hb)
  clear hb H3 HF
  obtain ⟨m0, m1, m2, m3, m4⟩ := HM.out.m.five
  obtain ⟨z0, z1, z2, z3, z4, z5, z6, z7⟩ := AtL.eightE HM.out.e
  have q0 := HM.out.r.cells.get 0 rfl
  have q1 := HM.out.r.cells.get 1 rfl
  have hf := HM.out.r.free
  go_wp2_with fail
  refine (HW.out _ HM.out.m).mono ?_
  rintro en w2 ⟨rfl, rfl⟩
  go_wp2_with fail
  refine (HX.out _ HB.out HM.out.m HM.out.e).mono ?_
  rintro en w4 ⟨v, rfl, ho, hb⟩
  obtain ⟨p4, c4, hv⟩ := ho.slice
  subst hv
  have HM4 := Lib.hid (HM.out.on hb)
  have HB4 := Lib.hid (below_on HB.out hb)
  have HE : Hid (∀ u1 u2, NewBr w 0 L (.returned (brV 0 (.slice p4 L.length c4))) ((w4.setCell ⟨w.heap.size + 1 + 1, 0, none⟩ u1).setCell ⟨w.heap.size + 1 + 1, 1, none⟩ u2)) := fun u1 u2 => br_endg ho HM.out.r.cells.1 (by omega) HB4.out
  clear hb ho
  clear m0 m1 m2 m3 m4 z0 z1 z2 z3 z4 z5 z6 z7 q0 q1 hf
  have q0 := HM4.out.r.cells.get 0 rfl
  have q1 := HM4.out.r.cells.get 1 rfl
  have hf := HM4.out.r.free
  go_wp2_with fail
  exact bodyPost_ret (v := brV 0 (.slice p4 L.length c4)) (by simp [results, Tryz.results23, brV, go_sem, q0, q1]) rfl (HE.out _ _)

set_option maxRecDepth 100000 in
set_option maxHeartbeats 2000000 in
theorem specEvent_bad (cu co : Bool) (mo : Int) (sg pa : Bool) (kind code mods button act col row : Int) (data : List UInt8) (p : Option Addr) (c : Nat) (w : World) (k : Int) (hk : ¬ k = 0) (HF : Hid (∀ W, AtL W w.heap.size [.bool cu, .bool co, .int .i64 mo, .bool sg, .bool pa] → AtL W (w.heap.size + 1) [.int .i64 kind, .int .i64 code, .int .i64 mods, .int .i64 button, .int .i64 act, .int .i64 col, .int .i64 row, .slice p data.length c] → Calls Tryz.prog 21 #[.pointer (some ⟨w.heap.size, 0, none⟩), .pointer (some ⟨w.heap.size + 1, 0, none⟩), .int .i64 kind] W fun en w' => en = .returned (.int .i64 k) ∧ Below W.heap.size W w')) :
    Calls Tryz.prog 11 #[.agg #[.bool cu, .bool co, .int .i64 mo, .bool sg, .bool pa], .agg #[.int .i64 kind, .int .i64 code, .int .i64 mods, .int .i64 button, .int .i64 act, .int .i64 col, .int .i64 row, .slice p data.length c]] w (NewBr w k []) := by
  have H3 := Lib.hid (AtM3 w #[.bool cu, .bool co, .int .i64 mo, .bool sg, .bool pa] 29 (#[.int .i64 kind, .int .i64 code, .int .i64 mods, .int .i64 button, .int .i64 act, .int .i64 col, .int .i64 row, .slice p data.length c]) 31 [.int .i64 0, .slice none 0 0] 37)
  go_enter Tryz.func11, Tryz.ntmps11
  obtain ⟨z0, z1, z2, z3, z4, z5, z6, z7⟩ := AtL.eightE H3.out.e
  go_wp2_with fail
  refine (HF.out _ H3.out.m H3.out.e).mono ?_
  rintro en w1 ⟨rfl, hb⟩
  have HM := Lib.hid (H3.out.on hb)
  have HB := Lib.hid (below_on (below_three w _ _ _) hb)
  clear hb H3 HF
  clear z0 z1 z2 z3 z4 z5 z6 z7
  obtain ⟨m0, m1, m2, m3, m4⟩ := HM.out.m.five
  obtain ⟨z0, z1, z2, z3, z4, z5, z6, z7⟩ := AtL.eightE HM.out.e
  have q0 := HM.out.r.cells.get 0 rfl
  have q1 := HM.out.r.cells.get 1 rfl
  have hf := HM.out.r.free
  go_wp2_with fail
  exact bodyPost_ret (v := brV k (.slice none 0 0)) (by simp [results, Tryz.results11, brV, go_sem, q0, q1]) rfl (br_bare (by omega) HB.out)

set_option maxRecDepth 100000 in
set_option maxHeartbeats 2000000 in
theorem specEvent_1 (cu co : Bool) (mo : Int) (sg pa : Bool) (code mods button act col row : Int) (data : List UInt8) (p : Option Addr) (c : Nat) (w : World) (HF : Hid (∀ W, AtL W w.heap.size [.bool cu, .bool co, .int .i64 mo, .bool sg, .bool pa] → AtL W (w.heap.size + 1) [.int .i64 1, .int .i64 code, .int .i64 mods, .int .i64 button, .int .i64 act, .int .i64 col, .int .i64 row, .slice p data.length c] → Calls Tryz.prog 21 #[.pointer (some ⟨w.heap.size, 0, none⟩), .pointer (some ⟨w.heap.size + 1, 0, none⟩), .int .i64 1] W fun en w' => en = .returned (.int .i64 0) ∧ Below W.heap.size W w')) (r : Int) (L : List UInt8) (HX : Hid (∀ W, Below w.heap.size w W → Calls Tryz.prog 22 #[.agg #[.bool cu, .bool co, .int .i64 mo, .bool sg, .bool pa], .agg #[.int .i64 1, .int .i64 code, .int .i64 mods, .int .i64 button, .int .i64 act, .int .i64 col, .int .i64 row, .slice p data.length c]] W (NewBr W r L))) :
    Calls Tryz.prog 11 #[.agg #[.bool cu, .bool co, .int .i64 mo, .bool sg, .bool pa], .agg #[.int .i64 1, .int .i64 code, .int .i64 mods, .int .i64 button, .int .i64 act, .int .i64 col, .int .i64 row, .slice p data.length c]] w (NewBr w r L) := by
  have H3 := Lib.hid (AtM3 w #[.bool cu, .bool co, .int .i64 mo, .bool sg, .bool pa] 29 (#[.int .i64 1, .int .i64 code, .int .i64 mods, .int .i64 button, .int .i64 act, .int .i64 col, .int .i64 row, .slice p data.length c]) 31 [.int .i64 0, .slice none 0 0] 37)
  go_enter Tryz.func11, Tryz.ntmps11
  obtain ⟨z0, z1, z2, z3, z4, z5, z6, z7⟩ := AtL.eightE H3.out.e
  go_wp2_with fail
  refine (HF.out _ H3.out.m H3.out.e).mono ?_
  rintro en w1 ⟨rfl, hb⟩
  have HM := Lib.hid (H3.out.on hb)
  have HB := Lib.hid (below_on (below_three w _ _ _) hb)
  clear hb H3 HF
  clear z0 z1 z2 z3 z4 z5 z6 z7
  obtain ⟨m0, m1, m2, m3, m4⟩ := HM.out.m.five
  obtain ⟨z0, z1, z2, z3, z4, z5, z6, z7⟩ := AtL.eightE HM.out.e
  have q0 := HM.out.r.cells.get 0 rfl
  have q1 := HM.out.r.cells.get 1 rfl
  have hf := HM.out.r.free
  go_wp2_with fail
  refine (HX.out _ HB.out).mono ?_
  rintro en w4 ⟨v, rfl, ho, hb⟩
  obtain ⟨p4, c4, hv⟩ := ho.slice
  subst hv
  have HM4 := Lib.hid (HM.out.on hb)
  have HB4 := Lib.hid (below_on HB.out hb)
  have HE : Hid (∀ u1 u2, NewBr w r L (.returned (brV r (.slice p4 L.length c4))) ((w4.setCell ⟨w.heap.size + 1 + 1, 0, none⟩ u1).setCell ⟨w.heap.size + 1 + 1, 1, none⟩ u2)) := fun u1 u2 => br_endg ho HM.out.r.cells.1 (by omega) HB4.out
  clear hb ho
  clear m0 m1 m2 m3 m4 z0 z1 z2 z3 z4 z5 z6 z7 q0 q1 hf
  unfold brV
  have q0 := HM4.out.r.cells.get 0 rfl
  have q1 := HM4.out.r.cells.get 1 rfl
  have hf := HM4.out.r.free
  go_wp2_with fail
  exact bodyPost_ret (v := brV r (.slice p4 L.length c4)) (by simp [results, Tryz.results11, brV, go_sem, q0, q1]) rfl (HE.out _ _)

set_option maxRecDepth 100000 in
set_option maxHeartbeats 2000000 in
theorem specEvent_2 (cu co : Bool) (mo : Int) (sg pa : Bool) (code mods button act col row : Int) (data : List UInt8) (p : Option Addr) (c : Nat) (w : World) (HF : Hid (∀ W, AtL W w.heap.size [.bool cu, .bool co, .int .i64 mo, .bool sg, .bool pa] → AtL W (w.heap.size + 1) [.int .i64 2, .int .i64 code, .int .i64 mods, .int .i64 button, .int .i64 act, .int .i64 col, .int .i64 row, .slice p data.length c] → Calls Tryz.prog 21 #[.pointer (some ⟨w.heap.size, 0, none⟩), .pointer (some ⟨w.heap.size + 1, 0, none⟩), .int .i64 2] W fun en w' => en = .returned (.int .i64 0) ∧ Below W.heap.size W w')) (r : Int) (L : List UInt8) (HX : Hid (∀ W, Below w.heap.size w W → Calls Tryz.prog 23 #[.agg #[.bool cu, .bool co, .int .i64 mo, .bool sg, .bool pa], .agg #[.int .i64 2, .int .i64 code, .int .i64 mods, .int .i64 button, .int .i64 act, .int .i64 col, .int .i64 row, .slice p data.length c]] W (NewBr W r L))) :
    Calls Tryz.prog 11 #[.agg #[.bool cu, .bool co, .int .i64 mo, .bool sg, .bool pa], .agg #[.int .i64 2, .int .i64 code, .int .i64 mods, .int .i64 button, .int .i64 act, .int .i64 col, .int .i64 row, .slice p data.length c]] w (NewBr w r L) := by
  have H3 := Lib.hid (AtM3 w #[.bool cu, .bool co, .int .i64 mo, .bool sg, .bool pa] 29 (#[.int .i64 2, .int .i64 code, .int .i64 mods, .int .i64 button, .int .i64 act, .int .i64 col, .int .i64 row, .slice p data.length c]) 31 [.int .i64 0, .slice none 0 0] 37)
  go_enter Tryz.func11, Tryz.ntmps11
  obtain ⟨z0, z1, z2, z3, z4, z5, z6, z7⟩ := AtL.eightE H3.out.e
  go_wp2_with fail
  refine (HF.out _ H3.out.m H3.out.e).mono ?_
  rintro en w1 ⟨rfl, hb⟩
  have HM := Lib.hid (H3.out.on hb)
  have HB := Lib.hid (below_on (below_three w _ _ _) hb)
  clear hb H3 HF
  clear z0 z1 z2 z3 z4 z5 z6 z7
  obtain ⟨m0, m1, m2, m3, m4⟩ := HM.out.m.five
  obtain ⟨z0, z1, z2, z3, z4, z5, z6, z7⟩ := AtL.eightE HM.out.e
  have q0 := HM.out.r.cells.get 0 rfl
  have q1 := HM.out.r.cells.get 1 rfl
  have hf := HM.out.r.free
  go_wp2_with fail
  refine (HX.out _ HB.out).mono ?_
  rintro en w4 ⟨v, rfl, ho, hb⟩
  obtain ⟨p4, c4, hv⟩ := ho.slice
  subst hv
  have HM4 := Lib.hid (HM.out.on hb)
  have HB4 := Lib.hid (below_on HB.out hb)
  have HE : Hid (∀ u1 u2, NewBr w r L (.returned (brV r (.slice p4 L.length c4))) ((w4.setCell ⟨w.heap.size + 1 + 1, 0, none⟩ u1).setCell ⟨w.heap.size + 1 + 1, 1, none⟩ u2)) := fun u1 u2 => br_endg ho HM.out.r.cells.1 (by omega) HB4.out
  clear hb ho
  clear m0 m1 m2 m3 m4 z0 z1 z2 z3 z4 z5 z6 z7 q0 q1 hf
  unfold brV
  have q0 := HM4.out.r.cells.get 0 rfl
  have q1 := HM4.out.r.cells.get 1 rfl
  have hf := HM4.out.r.free
  go_wp2_with fail
  exact bodyPost_ret (v := brV r (.slice p4 L.length c4)) (by simp [results, Tryz.results11, brV, go_sem, q0, q1]) rfl (HE.out _ _)

set_option maxRecDepth 100000 in
set_option maxHeartbeats 2000000 in
theorem specEvent_4 (cu co : Bool) (mo : Int) (sg pa : Bool) (code mods button act col row : Int) (data : List UInt8) (p : Option Addr) (c : Nat) (w : World) (HF : Hid (∀ W, AtL W w.heap.size [.bool cu, .bool co, .int .i64 mo, .bool sg, .bool pa] → AtL W (w.heap.size + 1) [.int .i64 4, .int .i64 code, .int .i64 mods, .int .i64 button, .int .i64 act, .int .i64 col, .int .i64 row, .slice p data.length c] → Calls Tryz.prog 21 #[.pointer (some ⟨w.heap.size, 0, none⟩), .pointer (some ⟨w.heap.size + 1, 0, none⟩), .int .i64 4] W fun en w' => en = .returned (.int .i64 0) ∧ Below W.heap.size W w')) (hd : Bs w w.heap.size p data) (hp : p = none → c = 0) (hl : data.length ≤ 1000) :
    Calls Tryz.prog 11 #[.agg #[.bool cu, .bool co, .int .i64 mo, .bool sg, .bool pa], .agg #[.int .i64 4, .int .i64 code, .int .i64 mods, .int .i64 button, .int .i64 act, .int .i64 col, .int .i64 row, .slice p data.length c]] w (NewBr w 0 data) := by
  have HD := Lib.hid hd
  clear hd
  have H3 := Lib.hid (AtM3 w #[.bool cu, .bool co, .int .i64 mo, .bool sg, .bool pa] 29 (#[.int .i64 4, .int .i64 code, .int .i64 mods, .int .i64 button, .int .i64 act, .int .i64 col, .int .i64 row, .slice p data.length c]) 31 [.int .i64 0, .slice none 0 0] 37)
  go_enter Tryz.func11, Tryz.ntmps11
  obtain ⟨z0, z1, z2, z3, z4, z5, z6, z7⟩ := AtL.eightE H3.out.e
  go_wp2_with fail
  refine (HF.out _ H3.out.m H3.out.e).mono ?_
  rintro en w1 ⟨rfl, hb⟩
  have HM := Lib.hid (H3.out.on hb)
  have HB := Lib.hid (below_on (below_three w _ _ _) hb)
  clear hb H3 HF
  clear z0 z1 z2 z3 z4 z5 z6 z7
  obtain ⟨m0, m1, m2, m3, m4⟩ := HM.out.m.five
  obtain ⟨z0, z1, z2, z3, z4, z5, z6, z7⟩ := AtL.eightE HM.out.e
  have q0 := HM.out.r.cells.get 0 rfl
  have q1 := HM.out.r.cells.get 1 rfl
  have hf := HM.out.r.free
  go_wp2_with fail
  refine (l1Copy_any p c data _ (HD.out.on HB.out) (by omega)).mono ?_
  rintro en w4 ⟨v, rfl, ho, hb⟩
  obtain ⟨p4, c4, hv⟩ := ho.slice
  subst hv
  have HM4 := Lib.hid (HM.out.on hb)
  have HB4 := Lib.hid (below_on HB.out hb)
  have HE : Hid (∀ u1 u2, NewBr w 0 data (.returned (brV 0 (.slice p4 data.length c4))) ((w4.setCell ⟨w.heap.size + 1 + 1, 0, none⟩ u1).setCell ⟨w.heap.size + 1 + 1, 1, none⟩ u2)) := fun u1 u2 => br_endg ho HM.out.r.cells.1 (by omega) HB4.out
  clear hb ho
  clear m0 m1 m2 m3 m4 z0 z1 z2 z3 z4 z5 z6 z7 q0 q1 hf
  have q0 := HM4.out.r.cells.get 0 rfl
  have q1 := HM4.out.r.cells.get 1 rfl
  have hf := HM4.out.r.free
  go_wp2_with fail
  exact bodyPost_ret (v := brV 0 (.slice p4 data.length c4)) (by simp [results, Tryz.results11, brV, go_sem, q0, q1]) rfl (HE.out _ _)

set_option maxRecDepth 100000 in
set_option maxHeartbeats 2000000 in
theorem specEvent_3f (cu co : Bool) (mo : Int) (sg : Bool) (code mods button act col row : Int) (data : List UInt8) (p : Option Addr) (c : Nat) (w : World) (HF : Hid (∀ W, AtL W w.heap.size [.bool cu, .bool co, .int .i64 mo, .bool sg, .bool false] → AtL W (w.heap.size + 1) [.int .i64 3, .int .i64 code, .int .i64 mods, .int .i64 button, .int .i64 act, .int .i64 col, .int .i64 row, .slice p data.length c] → Calls Tryz.prog 21 #[.pointer (some ⟨w.heap.size, 0, none⟩), .pointer (some ⟨w.heap.size + 1, 0, none⟩), .int .i64 3] W fun en w' => en = .returned (.int .i64 0) ∧ Below W.heap.size W w')) (hd : Bs w w.heap.size p data) (hp : p = none → c = 0) (hl : data.length ≤ 1000) :
    Calls Tryz.prog 11 #[.agg #[.bool cu, .bool co, .int .i64 mo, .bool sg, .bool false], .agg #[.int .i64 3, .int .i64 code, .int .i64 mods, .int .i64 button, .int .i64 act, .int .i64 col, .int .i64 row, .slice p data.length c]] w (NewBr w 0 data) := by
  have HD := Lib.hid hd
  clear hd
  have H3 := Lib.hid (AtM3 w #[.bool cu, .bool co, .int .i64 mo, .bool sg, .bool false] 29 (#[.int .i64 3, .int .i64 code, .int .i64 mods, .int .i64 button, .int .i64 act, .int .i64 col, .int .i64 row, .slice p data.length c]) 31 [.int .i64 0, .slice none 0 0] 37)
  go_enter Tryz.func11, Tryz.ntmps11
  obtain ⟨z0, z1, z2, z3, z4, z5, z6, z7⟩ := AtL.eightE H3.out.e
  go_wp2_with fail
  refine (HF.out _ H3.out.m H3.out.e).mono ?_
  rintro en w1 ⟨rfl, hb⟩
  have HM := Lib.hid (H3.out.on hb)
  have HB := Lib.hid (below_on (below_three w _ _ _) hb)
  clear hb H3 HF
  clear z0 z1 z2 z3 z4 z5 z6 z7
  obtain ⟨m0, m1, m2, m3, m4⟩ := HM.out.m.five
  obtain ⟨z0, z1, z2, z3, z4, z5, z6, z7⟩ := AtL.eightE HM.out.e
  have q0 := HM.out.r.cells.get 0 rfl
  have q1 := HM.out.r.cells.get 1 rfl
  have hf := HM.out.r.free
  go_wp2_with fail
  refine (l1Copy_any p c data _ (HD.out.on HB.out) (by omega)).mono ?_
  rintro en w4 ⟨v, rfl, ho, hb⟩
  obtain ⟨p4, c4, hv⟩ := ho.slice
  subst hv
  have HM4 := Lib.hid (HM.out.on hb)
  have HB4 := Lib.hid (below_on HB.out hb)
  have HE : Hid (∀ u1 u2, NewBr w 0 data (.returned (brV 0 (.slice p4 data.length c4))) ((w4.setCell ⟨w.heap.size + 1 + 1, 0, none⟩ u1).setCell ⟨w.heap.size + 1 + 1, 1, none⟩ u2)) := fun u1 u2 => br_endg ho HM.out.r.cells.1 (by omega) HB4.out
  clear hb ho
  clear m0 m1 m2 m3 m4 z0 z1 z2 z3 z4 z5 z6 z7 q0 q1 hf
  have q0 := HM4.out.r.cells.get 0 rfl
  have q1 := HM4.out.r.cells.get 1 rfl
  have hf := HM4.out.r.free
  go_wp2_with fail
  exact bodyPost_ret (v := brV 0 (.slice p4 data.length c4)) (by simp [results, Tryz.results11, brV, go_sem, q0, q1]) rfl (HE.out _ _)

set_option maxRecDepth 100000 in
set_option maxHeartbeats 2000000 in
theorem specEvent_3t (cu co : Bool) (mo : Int) (sg : Bool) (code mods button act col row : Int) (data : List UInt8) (p : Option Addr) (c : Nat) (w : World) (HF : Hid (∀ W, AtL W w.heap.size [.bool cu, .bool co, .int .i64 mo, .bool sg, .bool true] → AtL W (w.heap.size + 1) [.int .i64 3, .int .i64 code, .int .i64 mods, .int .i64 button, .int .i64 act, .int .i64 col, .int .i64 row, .slice p data.length c] → Calls Tryz.prog 21 #[.pointer (some ⟨w.heap.size, 0, none⟩), .pointer (some ⟨w.heap.size + 1, 0, none⟩), .int .i64 3] W fun en w' => en = .returned (.int .i64 0) ∧ Below W.heap.size W w')) (hd : Bs w w.heap.size p data) (hp : p = none → c = 0) (hl : data.length ≤ 1000) (hne : data ≠ []) :
    Calls Tryz.prog 11 #[.agg #[.bool cu, .bool co, .int .i64 mo, .bool sg, .bool true], .agg #[.int .i64 3, .int .i64 code, .int .i64 mods, .int .i64 button, .int .i64 act, .int .i64 col, .int .i64 row, .slice p data.length c]] w (NewBr w 0 ((begB ++ data) ++ finB)) := by
  have HD := Lib.hid hd
  clear hd
  have H3 := Lib.hid (AtM3 w #[.bool cu, .bool co, .int .i64 mo, .bool sg, .bool true] 29 (#[.int .i64 3, .int .i64 code, .int .i64 mods, .int .i64 button, .int .i64 act, .int .i64 col, .int .i64 row, .slice p data.length c]) 31 [.int .i64 0, .slice none 0 0] 37)
  go_enter Tryz.func11, Tryz.ntmps11
  obtain ⟨z0, z1, z2, z3, z4, z5, z6, z7⟩ := AtL.eightE H3.out.e
  go_wp2_with fail
  refine (HF.out _ H3.out.m H3.out.e).mono ?_
  rintro en w1 ⟨rfl, hb⟩
  have HM := Lib.hid (H3.out.on hb)
  have HB := Lib.hid (below_on (below_three w _ _ _) hb)
  clear hb H3 HF
  clear z0 z1 z2 z3 z4 z5 z6 z7
  obtain ⟨m0, m1, m2, m3, m4⟩ := HM.out.m.five
  obtain ⟨z0, z1, z2, z3, z4, z5, z6, z7⟩ := AtL.eightE HM.out.e
  have q0 := HM.out.r.cells.get 0 rfl
  have q1 := HM.out.r.cells.get 1 rfl
  have hf := HM.out.r.free
  clear m0 m1 m2 m3 m4 z0 z1 z2 z3 z4 z5 z6 z7 q0 q1 hf
  obtain ⟨b0, off, rfl, hblt, hbc⟩ := HD.out hne
  obtain ⟨V5, hrun5, hmk5⟩ := conv_markE (w1.alloc (.cells #[.int .u8 27, .int .u8 91, .int .u8 50, .int .u8 48, .int .u8 48, .int .u8 126] 5)) (w1.heap.size) 0 6 6
  have hb5 : Below w1.heap.size w1 V5 := hmk5.below _ _ (below_mk w1 _) (Nat.le_refl _)
  have HM5 := Lib.hid (HM.out.on hb5)
  have HB5 := Lib.hid (below_on HB.out hb5)
  have HS5 : Hid (Bs V5 V5.heap.size (some ⟨w1.heap.size, 0, none⟩) begB) := (bs_litE w1 begB _ (by simp [bcells, begB]) 5 _ rfl).marked hmk5
  have HD5 : Hid (Bs V5 V5.heap.size (some ⟨b0, off, none⟩) data) := HD.out.on HB5.out
  obtain ⟨v6, W6, hrun6, ho6, hb6⟩ := app_full V5 w1.heap.size begB data ⟨b0, off, none⟩ c (news_bs HS5.out) (news_bs HD5.out) hne (by simp [begB]; omega)
  have HO6 := Lib.hid ho6
  have HB6 := Lib.hid hb6
  have hl6 : (begB ++ data).length ≤ 1100 := by simp [begB]; omega
  have HL6 := Lib.hid hl6
  clear hb5 ho6 hb6 hbc hmk5 HS5 HD5 hl6
  replace hrun6 : (Builtin.append_ #[24, 24] 24 #[.slice (some ⟨w1.heap.size, 0, none⟩) 6 6, .slice (some ⟨b0, off, none⟩) data.length c]).run Tryz.prog V5 = .ok v6 W6 := hrun6
  obtain ⟨m0, m1, m2, m3, m4⟩ := HM.out.m.five
  obtain ⟨z0, z1, z2, z3, z4, z5, z6, z7⟩ := AtL.eightE HM.out.e
  have q0 := HM.out.r.cells.get 0 rfl
  have q1 := HM.out.r.cells.get 1 rfl
  have hf := HM.out.r.free
  obtain ⟨i0, hi0, hz0, hz1, hz2⟩ := info_parts Tryz.info_u8
  have z7' := AtL.get HM5.out.e 7 rfl
  generalize hbd : begB ++ data = bd at *
  go_wp2_with (at_builtin; first | (refine wpList_append_runE _ rfl _ _ 24 rfl _ _ rfl rfl hrun6 ?_) | (refine Lib.wpList_append_own_string _ rfl _ _ 24 9 rfl V5.heap.size 5 i0 Tryz.underlying24 Tryz.underlying9 hi0 hz0 hz1 hz2 _ _ _ rfl HO6.out _ rfl (by have := HL6.out; unfold maxLen; simp [ByteArray.size]; omega) (by have := HL6.out; simp [ByteArray.size]; omega) HB6.out.size ?_; intro v7 w7 hown7 hgrow7 _; have HR := Lib.hid (grewB (q := finB) HO6.out HB6.out (by simp [ByteArray.size, finB]) hown7 hgrow7); obtain ⟨p7, c7, hv7⟩ := HR.out.1.slice; subst hv7; have HM7 := Lib.hid (HM5.out.on HR.out.2); have q0' := HM7.out.r.cells.get 0 rfl; have q1' := HM7.out.r.cells.get 1 rfl; have hf' := HM7.out.r.free))
  have HE : Hid (∀ u1 u2, NewBr w 0 (bd ++ finB) (.returned (brV 0 (.slice p7 (bd ++ finB).length c7))) ((w7.setCell ⟨w.heap.size + 1 + 1, 0, none⟩ u1).setCell ⟨w.heap.size + 1 + 1, 1, none⟩ u2)) := fun u1 u2 => br_endg HR.out.1 HM5.out.r.cells.1 (by omega) (below_on HB5.out HR.out.2)
  exact bodyPost_ret (v := brV 0 (.slice p7 (bd ++ finB).length c7)) (by simp [results, Tryz.results11, brV, go_sem, q0', q1']) rfl (HE.out _ _)

theorem specEncodeKey_any (md : Md) (e : Ev) (p : Option Addr) (c : Nat) (w : World) : Calls Tryz.prog 22 #[mdV md, evV e p c] w (NewBr w (encKey md e).1 (encKey md e).2) := by
  have HF := Lib.hid (fun W (hm : AtL W w.heap.size (mdL md)) (he : AtL W (w.heap.size + 1) (evC e p c).toList) => l5Asked_any md e p c w.heap.size (w.heap.size + 1) 1 W hm he)
  by_cases hk : askE md e 1 = 0
  · have hf : faultE md e = 0 := by
      refine Classical.byContradiction fun h => ?_
      rw [ask_fault h] at hk
      exact h hk
    have h1 : e.kind = 1 := by
      have := ask_kind (k := 1) hf
      rw [hk] at this
      refine Classical.byContradiction fun h => ?_
      rw [if_pos h] at this
      cases this
    obtain ⟨g1, g2, g3⟩ := fault_key (fault_zero hf).2 h1
    have hc : encKey md e = (0, keyE md e.code e.mods) := by unfold encKey; rw [hk, if_neg (by simp)]
    have HX := Lib.hid (fun W (hb : Below w.heap.size w W) (hm : AtL W w.heap.size (mdL md)) (he : AtL W (w.heap.size + 1) (evC e p c).toList) => l5Key_any md e p c w.heap.size (w.heap.size + 1) W hm he g1 g2 g3)
    rw [hc]
    rw [hk] at HF
    generalize keyE md e.code e.mods = L at *
    obtain ⟨cu, co, mo, sg, pa⟩ := md
    obtain ⟨kind, code, mods, button, act, col, row, data⟩ := e
    exact specKey_good cu co mo sg pa kind code mods button act col row data p c w HF L HX
  · have hc : encKey md e = (askE md e 1, []) := by unfold encKey; rw [if_pos hk]
    rw [hc]
    generalize askE md e 1 = k at *
    obtain ⟨cu, co, mo, sg, pa⟩ := md
    obtain ⟨kind, code, mods, button, act, col, row, data⟩ := e
    exact specKey_bad cu co mo sg pa kind code mods button act col row data p c w k hk HF
theorem specEncodeMouse_any (md : Md) (e : Ev) (p : Option Addr) (c : Nat) (w : World) : Calls Tryz.prog 23 #[mdV md, evV e p c] w (NewBr w (encMouse md e).1 (encMouse md e).2) := by
  have HF := Lib.hid (fun W (hm : AtL W w.heap.size (mdL md)) (he : AtL W (w.heap.size + 1) (evC e p c).toList) => l5Asked_any md e p c w.heap.size (w.heap.size + 1) 2 W hm he)
  by_cases hk : askE md e 2 = 0
  · have hf : faultE md e = 0 := by
      refine Classical.byContradiction fun h => ?_
      rw [ask_fault h] at hk
      exact h hk
    have h1 : e.kind = 2 := by
      have := ask_kind (k := 2) hf
      rw [hk] at this
      refine Classical.byContradiction fun h => ?_
      rw [if_pos h] at this
      cases this
    have g := fault_mouse (fault_zero hf).2 h1
    have hc : encMouse md e = mouseR md e := by unfold encMouse mouseR; rw [hk, if_neg (by simp)]
    have HW := Lib.hid (fun W (hm : AtL W w.heap.size (mdL md)) => l5Wanted_any md w.heap.size e.act W hm)
    have HX := Lib.hid (fun W (hb : Below w.heap.size w W) (hm : AtL W w.heap.size (mdL md)) (he : AtL W (w.heap.size + 1) (evC e p c).toList) => l5Mouse_any md e p c w.heap.size (w.heap.size + 1) W hm he g)
    rw [hc]
    rw [hk] at HF
    unfold mouseR
    clear g hc
    cases hw : wantE md.mouse e.act
    · rw [if_neg (by simp)]
      rw [hw] at HW
      obtain ⟨cu, co, mo, sg, pa⟩ := md
      obtain ⟨kind, code, mods, button, act, col, row, data⟩ := e
      exact specMouse_none cu co mo sg pa kind code mods button act col row data p c w HF HW
    · rw [if_pos rfl]
      rw [hw] at HW
      generalize mouseE md e = L at *
      obtain ⟨cu, co, mo, sg, pa⟩ := md
      obtain ⟨kind, code, mods, button, act, col, row, data⟩ := e
      exact specMouse_good cu co mo sg pa kind code mods button act col row data p c w HF HW L HX
  · have hc : encMouse md e = (askE md e 2, []) := by unfold encMouse; rw [if_pos hk]
    rw [hc]
    generalize askE md e 2 = k at *
    obtain ⟨cu, co, mo, sg, pa⟩ := md
    obtain ⟨kind, code, mods, button, act, col, row, data⟩ := e
    exact specMouse_bad cu co mo sg pa kind code mods button act col row data p c w k hk HF
theorem specEncodeEvent_any (md : Md) (e : Ev) (p : Option Addr) (c : Nat) (w : World) (hd : Bs w w.heap.size p e.data) (hp : p = none → c = 0) : Calls Tryz.prog 11 #[mdV md, evV e p c] w (NewBr w (encEvent md e).1 (encEvent md e).2) := by
  have HF := Lib.hid (fun W (hm : AtL W w.heap.size (mdL md)) (he : AtL W (w.heap.size + 1) (evC e p c).toList) => l5Asked_any md e p c w.heap.size (w.heap.size + 1) e.kind W hm he)
  by_cases hf : faultE md e = 0
  · have hk : askE md e e.kind = 0 := by rw [ask_kind hf, if_neg (by simp)]
    rw [hk] at HF
    have he := (fault_zero hf).2
    have hg := encEvent_good hf
    rcases fault_kind he with h1 | h1 | h1 | h1
    · have hc : encEvent md e = encKey md e := by unfold encEvent; rw [hk, if_neg (by simp), if_pos h1]
      rw [hc]
      have HX := Lib.hid (fun W (hb : Below w.heap.size w W) => specEncodeKey_any md e p c W)
      generalize encKey md e = r at *
      obtain ⟨cu, co, mo, sg, pa⟩ := md
      obtain ⟨kind, code, mods, button, act, col, row, data⟩ := e
      dsimp only at *
      subst h1
      exact specEvent_1 cu co mo sg pa code mods button act col row data p c w HF _ _ HX
    · have hc : encEvent md e = encMouse md e := by unfold encEvent; rw [hk, if_neg (by simp), if_neg (by omega), if_pos h1]
      rw [hc]
      have HX := Lib.hid (fun W (hb : Below w.heap.size w W) => specEncodeMouse_any md e p c W)
      generalize encMouse md e = r at *
      obtain ⟨cu, co, mo, sg, pa⟩ := md
      obtain ⟨kind, code, mods, button, act, col, row, data⟩ := e
      dsimp only at *
      subst h1
      exact specEvent_2 cu co mo sg pa code mods button act col row data p c w HF _ _ HX
    · rw [hg, if_neg (by omega), if_neg (by omega), if_pos h1]
      have hl := fault_len he (.inl h1)
      have hne : e.data ≠ [] := List.length_pos_iff.1 (by omega)
      obtain ⟨cu, co, mo, sg, pa⟩ := md
      obtain ⟨kind, code, mods, button, act, col, row, data⟩ := e
      dsimp only at *
      subst h1
      cases pa
      · exact specEvent_3f cu co mo sg code mods button act col row data p c w HF hd hp (by omega)
      · exact specEvent_3t cu co mo sg code mods button act col row data p c w HF hd hp (by omega) hne
    · rw [hg, if_neg (by omega), if_neg (by omega), if_neg (by omega)]
      have hl := fault_len he (.inr h1)
      obtain ⟨cu, co, mo, sg, pa⟩ := md
      obtain ⟨kind, code, mods, button, act, col, row, data⟩ := e
      dsimp only at *
      subst h1
      exact specEvent_4 cu co mo sg pa code mods button act col row data p c w HF hd hp (by omega)
  · rw [encEvent_bad hf]
    have hk := ask_fault (k := e.kind) hf
    rw [hk] at HF
    generalize faultE md e = k at *
    obtain ⟨cu, co, mo, sg, pa⟩ := md
    obtain ⟨kind, code, mods, button, act, col, row, data⟩ := e
    exact specEvent_bad cu co mo sg pa kind code mods button act col row data p c w k hf HF

end Go.Proofs.YtjopjddhgaiddabGreatDoor

/- What the laws over the encoder share: lengths, toEvent in memory of its own. -/
namespace Go.Proofs.YtjopjddhgaiddabGreatDoor
open Go.RowKit
set_option linter.unusedVariables false
set_option linter.unusedSimpArgs false

theorem AtL.twoE {w : World} {b : Nat} {v0 v1 : Value} (h : AtL w b [v0, v1]) : w.cell? ⟨b, 0, none⟩ = some v0 ∧ w.cell? ⟨b, 1, none⟩ = some v1 := ⟨h.get 0 rfl, h.get 1 rfl⟩
theorem below_set2 {B : Nat} {x w : World} (h : Below B x w) (g : Nat) (hg : B ≤ g) (u v : Value) : Below B x ((w.setCell ⟨g, 0, none⟩ u).setCell ⟨g, 1, none⟩ v) := (h.setCell hg _).setCell hg _
theorem seq_len (priv : Bool) (nums : List Int) (fin : UInt8) (hin : inNum nums = true) (h4 : nums.length ≤ 4) : (seqB priv nums fin).length ≤ 42 := by
  have := pb_len priv nums fin hin h4
  unfold seqB
  simp only [List.length_append, List.length_cons, List.length_nil]
  omega
theorem putB_len (c : Int) : (putB c).length ≤ 4 := by have := put_small c; rw [put_len]; omega
theorem keyE_len (md : Md) (c m : Int) (hk : keyCode c = true) (h0 : 0 ≤ m) (h7 : m ≤ 7) : (keyE md c m).length ≤ 50 := by
  unfold keyE
  split
  · unfold letterB
    split
    · have := seq_len false [1, m + 1] (byteE (letterE c)) (inNum2 (by omega) (by omega) (by omega) (by omega)) (by simp); omega
    · split
      · simp
      · have := seq_len false [] (byteE (letterE c)) rfl (by simp); omega
  · rename_i hl
    split
    · have hr := tildeE_range c
      unfold tildeB
      split
      · have := seq_len false [tildeE c, m + 1] 126 (inNum2 (by omega) (by omega) (by omega) (by omega)) (by simp); omega
      · have := seq_len false [tildeE c] 126 (by simp [inNum, inR]; omega) (by simp); omega
    · rename_i ht
      have hT : Typed c m := ⟨hk, by simpa using hl, by simpa using ht, h0, h7⟩
      have hc := hT.code
      have hp := plain_len c m
      have hu := putB_len c
      unfold typedE
      split
      · omega
      · split
        · simp; omega
        · split
          · have := seq_len false [codeE c, m + 1] 117 (inNum2 hc.1 hc.2.1 (by omega) (by omega)) (by simp); omega
          · split
            · split <;> (simp; omega)
            · split <;> omega
theorem mouseE_len (md : Md) (e : Ev) (h : MouseOk e) : (mouseE md e).length ≤ 50 := by
  obtain ⟨b0, b2, a1, a3, m0, m7, x0, x9, y0, y9⟩ := h
  unfold mouseE
  split
  · have := evNum_range e.button e.act e.mods b0 (by omega) m0 m7
    have := seq_len true [evNum e.button e.act e.mods, e.col + 1, e.row + 1] (if e.act = 2 then 109 else 77) (inNum3 (by omega) (by omega) (by omega) (by omega) (by omega) (by omega)) (by simp)
    unfold sgrE
    omega
  · simp [clickE]
theorem mouseR_len (md : Md) (e : Ev) (h : MouseOk e) : (mouseR md e).2.length ≤ 50 := by
  unfold mouseR
  split
  · exact mouseE_len md e h
  · simp
theorem encKey_len (md : Md) (e : Ev) : (encKey md e).2.length ≤ 100 := by
  unfold encKey
  split
  · simp
  · rename_i hk
    have hk : askE md e 1 = 0 := by simpa using hk
    have hf : faultE md e = 0 := Classical.byContradiction fun h => by rw [ask_fault h] at hk; exact h hk
    have h1 : e.kind = 1 := Classical.byContradiction fun h => by rw [ask_kind hf, if_pos h] at hk; cases hk
    obtain ⟨g1, g2, g3⟩ := fault_key (fault_zero hf).2 h1
    exact Nat.le_trans (keyE_len md e.code e.mods g1 g2 g3) (by omega)
theorem encMouse_len (md : Md) (e : Ev) : (encMouse md e).2.length ≤ 100 := by
  unfold encMouse
  split
  · simp
  · rename_i hk
    have hk : askE md e 2 = 0 := by simpa using hk
    have hf : faultE md e = 0 := Classical.byContradiction fun h => by rw [ask_fault h] at hk; exact h hk
    have h1 : e.kind = 2 := Classical.byContradiction fun h => by rw [ask_kind hf, if_pos h] at hk; cases hk
    have := mouseR_len md e (fault_mouse (fault_zero hf).2 h1)
    unfold mouseR at this
    exact Nat.le_trans this (by omega)
theorem encEvent_len (md : Md) (e : Ev) : (encEvent md e).2.length ≤ 100 := by
  by_cases hf : faultE md e = 0
  · rw [encEvent_good hf]
    have he := (fault_zero hf).2
    rcases fault_kind he with h1 | h1 | h1 | h1
    · rw [if_pos h1]
      obtain ⟨g1, g2, g3⟩ := fault_key he h1
      have := keyE_len md e.code e.mods g1 g2 g3
      dsimp only
      omega
    · rw [if_neg (by omega), if_pos h1]
      exact Nat.le_trans (mouseR_len md e (fault_mouse he h1)) (by omega)
    · rw [if_neg (by omega), if_neg (by omega), if_pos h1]
      have hl := fault_len he (.inl h1)
      show (pasteE md e.data).length ≤ 100
      unfold pasteE
      split
      · simp [begB, finB]; omega
      · omega
    · rw [if_neg (by omega), if_neg (by omega), if_neg (by omega)]
      have hl := fault_len he (.inr h1)
      show e.data.length ≤ 100
      omega
  · rw [encEvent_bad hf]
    simp

set_option maxRecDepth 100000 in
set_option maxHeartbeats 2000000 in
theorem toEvent_own (e : Ev) (p : Option Addr) (c : Nat) (w : World) (h : Bs w w.heap.size p e.data) (hl : e.data.length ≤ 1048576) :
    Calls Tryz.prog 7 #[evV e p c] w fun en w' => ∃ g, en = .returned (evV e (some ⟨g, 0, none⟩) e.data.length) ∧ Own w' w.heap.size (.slice (some ⟨g, 0, none⟩) e.data.length e.data.length) e.data ∧ Below w.heap.size w w' := by
  unfold evV
  go_enter Tryz.func7, Tryz.ntmps7
  go_wp2_with fail
  refine (toByteS_any _ _ _ _ (((h.alloc _).alloc _).alloc _) hl).mono ?_
  rintro en w1 ⟨rfl, rfl⟩
  go_wp2
  refine bodyPost_ret (v := evV e (some ⟨w.heap.size + 1 + 1 + 1, 0, none⟩) e.data.length) (by simp [results, Tryz.results7, evV, go_sem]) rfl ⟨_, rfl, (own_lit _ e.data _ _ _ (by simp) rfl rfl hl).lower (by simp; omega), ?_⟩
  exact ((((Below.refl _ _).alloc (Nat.le_refl _) _).alloc (by simp) _).alloc (by simp; omega) _).alloc (by simp; omega) _

end Go.Proofs.YtjopjddhgaiddabGreatDoor

/- What is encoded has some bytes just where its code is 0. -/
namespace Go.Proofs.YtjopjddhgaiddabGreatDoor
open Go.RowKit
set_option linter.unusedVariables false
set_option linter.unusedSimpArgs false

def SomeE (r : Int × List UInt8) : Prop := (r.1 ≠ 0 ∧ r.2.length = 0) ∨ (r.1 = 0 ∧ ∃ n, r.2.length = n + 1)
theorem someE_of {l : List UInt8} (h : 1 ≤ l.length) : SomeE (0, l) := .inr ⟨rfl, l.length - 1, by show l.length = l.length - 1 + 1; omega⟩
theorem someE_bad {k : Int} (h : k ≠ 0) : SomeE (k, []) := .inl ⟨h, rfl⟩
theorem seq_some (priv : Bool) (nums : List Int) (fin : UInt8) : 1 ≤ (seqB priv nums fin).length := by
  unfold seqB
  simp only [List.length_append, List.length_cons, List.length_nil]
  omega
theorem putB_some (c : Int) : 1 ≤ (putB c).length := List.length_pos_iff.mpr (putB_ne c)
theorem keyE_some (md : Md) (c m : Int) : 1 ≤ (keyE md c m).length := by
  unfold keyE
  split
  · unfold letterB
    split
    · exact seq_some _ _ _
    · split
      · simp
      · exact seq_some _ _ _
  · split
    · unfold tildeB
      split <;> exact seq_some _ _ _
    · unfold typedE
      have hu := putB_some c
      split
      · rename_i h; exact List.length_pos_iff.mpr h.1
      · split
        · simp
        · split
          · exact seq_some _ _ _
          · split
            · simp
            · split
              · exact hu
              · rename_i h; exact List.length_pos_iff.mpr h
theorem mouseE_some (md : Md) (e : Ev) : 1 ≤ (mouseE md e).length := by
  unfold mouseE
  split
  · exact seq_some _ _ _
  · simp [clickE]
theorem encKey_some (md : Md) (e : Ev) : SomeE (encKey md e) := by
  unfold encKey
  split
  · rename_i h; exact someE_bad h
  · exact someE_of (keyE_some _ _ _)
theorem encMouse_some (md : Md) (e : Ev) : SomeE (encMouse md e) := by
  unfold encMouse
  split
  · rename_i h; exact someE_bad h
  · split
    · exact someE_of (mouseE_some _ _)
    · exact someE_bad (by decide)
theorem encEvent_some (md : Md) (e : Ev) : SomeE (encEvent md e) := by
  by_cases hf : faultE md e = 0
  · rw [encEvent_good hf]
    have he := (fault_zero hf).2
    rcases fault_kind he with h1 | h1 | h1 | h1
    · rw [if_pos h1]
      exact someE_of (keyE_some _ _ _)
    · rw [if_neg (by omega), if_pos h1]
      unfold mouseR
      split
      · exact someE_of (mouseE_some _ _)
      · exact someE_bad (by decide)
    · rw [if_neg (by omega), if_neg (by omega), if_pos h1]
      have hl := (fault_len he (.inl h1)).1
      refine someE_of ?_
      unfold pasteE
      split
      · simp [begB, finB]
      · exact hl
    · rw [if_neg (by omega), if_neg (by omega), if_neg (by omega)]
      exact someE_of (fault_len he (.inr h1)).1
  · rw [encEvent_bad hf]
    exact someE_bad hf

end Go.Proofs.YtjopjddhgaiddabGreatDoor
