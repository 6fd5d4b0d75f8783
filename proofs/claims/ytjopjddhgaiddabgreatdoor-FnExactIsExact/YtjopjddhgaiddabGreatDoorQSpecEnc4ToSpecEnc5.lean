/- The model's encoder: l5Other whole, l5Key. (Written by wip/gen_specenc4.py.) -/
import Derived.Test.YtjopjddhgaiddabGreatDoorQSpecEnc3ToSpecEnc3b
import Derived.Test.YtjopjddhgaiddabGreatDoorQEncImpl3ToEncImpl4
import Derived.Test.YtjopjddhgaiddabGreatDoorQSpecEnc1ToSpecEnc2
import Derived.Test.YtjopjddhgaiddabGreatDoorQEncImplToEncMouse2
namespace Go.Proofs.YtjopjddhgaiddabGreatDoor
open Go.RowKit
set_option linter.unusedVariables false
set_option linter.unusedSimpArgs false

theorem l5Other_any (md : Md) (kind c m bu ac cl ro : Int) (ds : Value) (b g : Nat) (w : World) (hM : AtL w b (mdL md)) (hE : AtL w g [.int .i64 kind, .int .i64 c, .int .i64 m, .int .i64 bu, .int .i64 ac, .int .i64 cl, .int .i64 ro, ds]) (h : Typed c m) :
    Calls Tryz.prog 76 #[.pointer (some ⟨b, 0, none⟩), .pointer (some ⟨g, 0, none⟩)] w (NewOwn w (typedE md.coded c m)) := by
  have h0 := h.m0
  have h7 := h.m7
  obtain ⟨cu, co, mo, sg, pa⟩ := md
  dsimp only
  unfold mdL at hM
  dsimp only at hM
  by_cases hx : m = 0
  · subst hx
    cases hs : special c
    · exact other_x0f cu co mo sg pa kind c bu ac cl ro ds b g w hM hE h hs
    · exact other_x0t cu co mo sg pa kind c bu ac cl ro ds b g w hM hE h hs
  by_cases hy : m = 2 ∧ special c = false ∧ c ≤ 126
  · obtain ⟨rfl, hs, hc⟩ := hy
    exact other_y cu co mo sg pa kind c bu ac cl ro ds b g w hM hE h hs hc
  by_cases hz : m = 4 ∧ special c = false ∧ ctrlE c ≠ []
  · obtain ⟨rfl, hs, hc⟩ := hz
    exact other_x4 cu co mo sg pa kind c bu ac cl ro ds b g w hM hE h hs hc
  have hm : m = 1 ∨ m = 2 ∨ m = 3 ∨ m = 4 ∨ m = 5 ∨ m = 6 ∨ m = 7 := by omega
  clear h0 h7 hx
  cases hs : special c <;> cases co
  · rcases hm with rfl | rfl | rfl | rfl | rfl | rfl | rfl
    · exact other_ef_1 cu mo sg pa kind c bu ac cl ro ds b g w hM hE h hs
    · exact other_nf_2 cu mo sg pa kind c bu ac cl ro ds b g w hM hE h hs (by rcases Int.lt_or_le 126 c with h1 | h1; exact h1; exact absurd ⟨rfl, hs, h1⟩ hy)
    · exact other_ef_3 cu mo sg pa kind c bu ac cl ro ds b g w hM hE h hs
    · exact other_ef_4 cu mo sg pa kind c bu ac cl ro ds b g w hM hE h hs (Classical.byContradiction fun hc => hz ⟨rfl, hs, hc⟩)
    · exact other_ef_5 cu mo sg pa kind c bu ac cl ro ds b g w hM hE h hs
    · by_cases hc : ctrlE c = []
      · exact other_ef_6 cu mo sg pa kind c bu ac cl ro ds b g w hM hE h hs hc
      · exact other_nf_6 cu mo sg pa kind c bu ac cl ro ds b g w hM hE h hs hc
    · exact other_ef_7 cu mo sg pa kind c bu ac cl ro ds b g w hM hE h hs
  · rcases hm with rfl | rfl | rfl | rfl | rfl | rfl | rfl
    · exact other_et_1 cu mo sg pa kind c bu ac cl ro ds b g w hM hE h hs
    · exact other_nt_2 cu mo sg pa kind c bu ac cl ro ds b g w hM hE h hs (by rcases Int.lt_or_le 126 c with h1 | h1; exact h1; exact absurd ⟨rfl, hs, h1⟩ hy)
    · exact other_et_3 cu mo sg pa kind c bu ac cl ro ds b g w hM hE h hs
    · exact other_et_4 cu mo sg pa kind c bu ac cl ro ds b g w hM hE h hs (Classical.byContradiction fun hc => hz ⟨rfl, hs, hc⟩)
    · exact other_et_5 cu mo sg pa kind c bu ac cl ro ds b g w hM hE h hs
    · by_cases hc : ctrlE c = []
      · exact other_et_6 cu mo sg pa kind c bu ac cl ro ds b g w hM hE h hs hc
      · exact other_nt_6 cu mo sg pa kind c bu ac cl ro ds b g w hM hE h hs hc
    · exact other_et_7 cu mo sg pa kind c bu ac cl ro ds b g w hM hE h hs
  · rcases hm with rfl | rfl | rfl | rfl | rfl | rfl | rfl
    · exact other_sf_1 cu mo sg pa kind c bu ac cl ro ds b g w hM hE h hs
    · exact other_sf_2 cu mo sg pa kind c bu ac cl ro ds b g w hM hE h hs
    · exact other_sf_3 cu mo sg pa kind c bu ac cl ro ds b g w hM hE h hs
    · exact other_sf_4 cu mo sg pa kind c bu ac cl ro ds b g w hM hE h hs
    · exact other_sf_5 cu mo sg pa kind c bu ac cl ro ds b g w hM hE h hs
    · exact other_sf_6 cu mo sg pa kind c bu ac cl ro ds b g w hM hE h hs
    · exact other_sf_7 cu mo sg pa kind c bu ac cl ro ds b g w hM hE h hs
  · rcases hm with rfl | rfl | rfl | rfl | rfl | rfl | rfl
    · exact other_st_1 cu mo sg pa kind c bu ac cl ro ds b g w hM hE h hs
    · exact other_st_2 cu mo sg pa kind c bu ac cl ro ds b g w hM hE h hs
    · exact other_st_3 cu mo sg pa kind c bu ac cl ro ds b g w hM hE h hs
    · exact other_st_4 cu mo sg pa kind c bu ac cl ro ds b g w hM hE h hs
    · exact other_st_5 cu mo sg pa kind c bu ac cl ro ds b g w hM hE h hs
    · exact other_st_6 cu mo sg pa kind c bu ac cl ro ds b g w hM hE h hs
    · exact other_st_7 cu mo sg pa kind c bu ac cl ro ds b g w hM hE h hs

set_option maxRecDepth 100000 in
set_option maxHeartbeats 2000000 in
theorem l5Key_lm (cu co : Bool) (mo : Int) (sg pa : Bool) (kind c m bu ac cl ro : Int) (ds : Value) (b g : Nat) (w : World) (hM : AtL w b [.bool cu, .bool co, .int .i64 mo, .bool sg, .bool pa]) (hE : AtL w g [.int .i64 kind, .int .i64 c, .int .i64 m, .int .i64 bu, .int .i64 ac, .int .i64 cl, .int .i64 ro, ds]) (n : Int) (hl : letterE c = n) (hn : ¬ n = 0) (h0 : 0 ≤ n) (h1 : n ≤ 255) (hm : ¬ m = 0) (m0 : 0 ≤ m) (m7 : m ≤ 7) :
    Calls Tryz.prog 43 #[.pointer (some ⟨b, 0, none⟩), .pointer (some ⟨g, 0, none⟩)] w (NewOwn w (seqB false [1, m + 1] (byteE n))) := by
  have HS := Lib.hid (fun (W : World) g hg => l5Seq_lit #[.int .i64 1, .int .i64 (m + 1)] [1, m + 1] n 2 W 2 g hg rfl rfl (inNum2 (by omega) (by omega) (by omega) (by omega)) (by simp) h0 h1)
  generalize seqB false [1, m + 1] (byteE n) = L at *
  have hw : IntKind.i64.wrap (m + 1) = m + 1 := IntWalk.i64_in _ ⟨by omega, by omega⟩
  obtain ⟨q0, q1, q2, q3, q4⟩ := hM.five
  obtain ⟨z0, z1, z2, z3, z4, z5, z6, z7⟩ := AtL.eightS hE
  have HLC := Lib.hid (fun W => l5Letter_any c W)
  rw [hl] at HLC
  clear hM hE q1 q2 q3 q4 z0 z3 z4 z5 z6 z7
  go_enter Tryz.func43, Tryz.ntmps43
  go_wp2_with fail
  refine (HLC.out _).mono ?_
  rintro e w1 ⟨rfl, rfl⟩
  go_wp2_with fail
  refine (HS.out _ _ rfl).mono ?_
  rintro e w3 ⟨v, rfl, ho, hb⟩
  have HE := Lib.hid (own_low ho (below_on (below_mk w _) hb) (by simp))
  clear ho hb
  go_wp2_with fail
  go_ret
  exact HE.out

set_option maxRecDepth 100000 in
set_option maxHeartbeats 2000000 in
theorem l5Key_lt (co : Bool) (mo : Int) (sg pa : Bool) (kind c bu ac cl ro : Int) (ds : Value) (b g : Nat) (w : World) (hM : AtL w b [.bool true, .bool co, .int .i64 mo, .bool sg, .bool pa]) (hE : AtL w g [.int .i64 kind, .int .i64 c, .int .i64 0, .int .i64 bu, .int .i64 ac, .int .i64 cl, .int .i64 ro, ds]) (n : Int) (hl : letterE c = n) (hn : ¬ n = 0) (h0 : 0 ≤ n) (h1 : n ≤ 255) :
    Calls Tryz.prog 43 #[.pointer (some ⟨b, 0, none⟩), .pointer (some ⟨g, 0, none⟩)] w (NewOwn w [27, 79, byteE n]) := by
  have HO : Hid (NewOwn w [27, 79, byteE n] (.returned (.slice (some ⟨w.heap.size, 0, none⟩) 3 3)) (w.alloc (.cells #[.int .u8 27, .int .u8 79, .int .u8 n] 5))) :=
    ⟨_, rfl, own_lit w [27, 79, byteE n] _ _ 3 rfl rfl (by simp [bcells, byteE_val (show 0 ≤ n by omega) (show n ≤ 255 by omega)]) (by simp), below_mk w _⟩
  obtain ⟨q0, q1, q2, q3, q4⟩ := hM.five
  obtain ⟨z0, z1, z2, z3, z4, z5, z6, z7⟩ := AtL.eightS hE
  have HLC := Lib.hid (fun W => l5Letter_any c W)
  rw [hl] at HLC
  clear hM hE q1 q2 q3 q4 z0 z3 z4 z5 z6 z7
  go_enter Tryz.func43, Tryz.ntmps43
  go_wp2_with fail
  refine (HLC.out _).mono ?_
  rintro e w1 ⟨rfl, rfl⟩
  go_wp2_with fail
  go_ret
  exact HO.out

set_option maxRecDepth 100000 in
set_option maxHeartbeats 2000000 in
theorem l5Key_lf (co : Bool) (mo : Int) (sg pa : Bool) (kind c bu ac cl ro : Int) (ds : Value) (b g : Nat) (w : World) (hM : AtL w b [.bool false, .bool co, .int .i64 mo, .bool sg, .bool pa]) (hE : AtL w g [.int .i64 kind, .int .i64 c, .int .i64 0, .int .i64 bu, .int .i64 ac, .int .i64 cl, .int .i64 ro, ds]) (n : Int) (hl : letterE c = n) (hn : ¬ n = 0) (h0 : 0 ≤ n) (h1 : n ≤ 255) :
    Calls Tryz.prog 43 #[.pointer (some ⟨b, 0, none⟩), .pointer (some ⟨g, 0, none⟩)] w (NewOwn w (seqB false [] (byteE n))) := by
  have HS := Lib.hid (fun W => l5Seq_any none 0 [] (byteE n) W (fun e => absurd rfl e) rfl (by simp))
  rw [byteE_val h0 h1] at HS
  generalize seqB false [] (byteE n) = L at *
  obtain ⟨q0, q1, q2, q3, q4⟩ := hM.five
  obtain ⟨z0, z1, z2, z3, z4, z5, z6, z7⟩ := AtL.eightS hE
  have HLC := Lib.hid (fun W => l5Letter_any c W)
  rw [hl] at HLC
  clear hM hE q1 q2 q3 q4 z0 z3 z4 z5 z6 z7
  go_enter Tryz.func43, Tryz.ntmps43
  go_wp2_with fail
  refine (HLC.out _).mono ?_
  rintro e w1 ⟨rfl, rfl⟩
  go_wp2_with fail
  refine (HS.out _).mono ?_
  rintro e w3 ⟨v, rfl, ho, hb⟩
  have HE := Lib.hid (own_low ho hb (Nat.le_refl _))
  clear ho hb
  go_wp2_with fail
  go_ret
  exact HE.out

set_option maxRecDepth 100000 in
set_option maxHeartbeats 2000000 in
theorem l5Key_tm (cu co : Bool) (mo : Int) (sg pa : Bool) (kind c m bu ac cl ro : Int) (ds : Value) (b g : Nat) (w : World) (hM : AtL w b [.bool cu, .bool co, .int .i64 mo, .bool sg, .bool pa]) (hE : AtL w g [.int .i64 kind, .int .i64 c, .int .i64 m, .int .i64 bu, .int .i64 ac, .int .i64 cl, .int .i64 ro, ds]) (n : Int) (hl : letterE c = 0) (ht : tildeE c = n) (hn : ¬ n = 0) (h0 : 0 ≤ n) (h1 : n ≤ 255) (hm : ¬ m = 0) (m0 : 0 ≤ m) (m7 : m ≤ 7) :
    Calls Tryz.prog 43 #[.pointer (some ⟨b, 0, none⟩), .pointer (some ⟨g, 0, none⟩)] w (NewOwn w (seqB false [n, m + 1] 126)) := by
  have HTC := Lib.hid (fun W => l5Tilde_any c W)
  rw [ht] at HTC
  have HEE := Lib.hid hE
  have HMM := Lib.hid hM
  have HS : Hid (∀ (W : World) g, g = W.heap.size → Calls Tryz.prog 74 #[.slice (some ⟨g, 0, none⟩) 2 2, .int .u8 126] (W.alloc (.cells #[.int .i64 n, .int .i64 (m + 1)] 2)) (NewOwn (W.alloc (.cells #[.int .i64 n, .int .i64 (m + 1)] 2)) (seqB false [n, m + 1] 126))) := fun W g hg => l5Seq_lit #[.int .i64 n, .int .i64 (m + 1)] [n, m + 1] 126 2 W 2 g hg rfl rfl (inNum2 (by omega) (by omega) (by omega) (by omega)) (by simp) (by omega) (by omega)
  generalize seqB false [n, m + 1] 126 = L at *
  have hw : IntKind.i64.wrap (m + 1) = m + 1 := IntWalk.i64_in _ ⟨by omega, by omega⟩
  obtain ⟨q0, q1, q2, q3, q4⟩ := hM.five
  obtain ⟨z0, z1, z2, z3, z4, z5, z6, z7⟩ := AtL.eightS hE
  have HLC := Lib.hid (fun W => l5Letter_any c W)
  rw [hl] at HLC
  clear hM hE q1 q2 q3 q4 z0 z3 z4 z5 z6 z7
  go_enter Tryz.func43, Tryz.ntmps43
  go_wp2_with fail
  refine (HLC.out _).mono ?_
  rintro e w1 ⟨rfl, rfl⟩
  go_wp2_with fail
  refine (HTC.out _).mono ?_
  rintro e w2 ⟨rfl, hb2⟩
  have HB := Lib.hid hb2
  have HE2 := Lib.hid (HEE.out.on hb2)
  clear hb2 z1 z2 q0
  obtain ⟨z0, z1, z2, z3, z4, z5, z6, z7⟩ := AtL.eightS HE2.out
  clear z0 z3 z4 z5 z6 z7
  go_wp2_with fail
  refine (HS.out _ _ rfl).mono ?_
  rintro e w3 ⟨v, rfl, ho, hb⟩
  have HE := Lib.hid (own_low ho (below_on (below_on HB.out (below_mk _ _)) hb) (by have := HB.out.size; simp; omega))
  clear ho hb
  go_wp2_with fail
  go_ret
  exact HE.out

set_option maxRecDepth 100000 in
set_option maxHeartbeats 2000000 in
theorem l5Key_t0 (cu co : Bool) (mo : Int) (sg pa : Bool) (kind c bu ac cl ro : Int) (ds : Value) (b g : Nat) (w : World) (hM : AtL w b [.bool cu, .bool co, .int .i64 mo, .bool sg, .bool pa]) (hE : AtL w g [.int .i64 kind, .int .i64 c, .int .i64 0, .int .i64 bu, .int .i64 ac, .int .i64 cl, .int .i64 ro, ds]) (n : Int) (hl : letterE c = 0) (ht : tildeE c = n) (hn : ¬ n = 0) (h0 : 0 ≤ n) (h1 : n ≤ 255) :
    Calls Tryz.prog 43 #[.pointer (some ⟨b, 0, none⟩), .pointer (some ⟨g, 0, none⟩)] w (NewOwn w (seqB false [n] 126)) := by
  have HTC := Lib.hid (fun W => l5Tilde_any c W)
  rw [ht] at HTC
  have HEE := Lib.hid hE
  have HMM := Lib.hid hM
  have HS : Hid (∀ (W : World) g, g = W.heap.size → Calls Tryz.prog 74 #[.slice (some ⟨g, 0, none⟩) 1 1, .int .u8 126] (W.alloc (.cells #[.int .i64 n] 2)) (NewOwn (W.alloc (.cells #[.int .i64 n] 2)) (seqB false [n] 126))) := fun W g hg => l5Seq_lit #[.int .i64 n] [n] 126 1 W 2 g hg rfl rfl (by simp [inNum, inR]; omega) (by simp) (by omega) (by omega)
  generalize seqB false [n] 126 = L at *
  obtain ⟨q0, q1, q2, q3, q4⟩ := hM.five
  obtain ⟨z0, z1, z2, z3, z4, z5, z6, z7⟩ := AtL.eightS hE
  have HLC := Lib.hid (fun W => l5Letter_any c W)
  rw [hl] at HLC
  clear hM hE q1 q2 q3 q4 z0 z3 z4 z5 z6 z7
  go_enter Tryz.func43, Tryz.ntmps43
  go_wp2_with fail
  refine (HLC.out _).mono ?_
  rintro e w1 ⟨rfl, rfl⟩
  go_wp2_with fail
  refine (HTC.out _).mono ?_
  rintro e w2 ⟨rfl, hb2⟩
  have HB := Lib.hid hb2
  have HE2 := Lib.hid (HEE.out.on hb2)
  clear hb2 z1 z2 q0
  obtain ⟨z0, z1, z2, z3, z4, z5, z6, z7⟩ := AtL.eightS HE2.out
  clear z0 z3 z4 z5 z6 z7
  go_wp2_with fail
  refine (HS.out _ _ rfl).mono ?_
  rintro e w3 ⟨v, rfl, ho, hb⟩
  have HE := Lib.hid (own_low ho (below_on (below_on HB.out (below_mk _ _)) hb) (by have := HB.out.size; simp; omega))
  clear ho hb
  go_wp2_with fail
  go_ret
  exact HE.out

set_option maxRecDepth 100000 in
set_option maxHeartbeats 2000000 in
theorem l5Key_o (cu co : Bool) (mo : Int) (sg pa : Bool) (kind c m bu ac cl ro : Int) (ds : Value) (b g : Nat) (w : World) (hM : AtL w b [.bool cu, .bool co, .int .i64 mo, .bool sg, .bool pa]) (hE : AtL w g [.int .i64 kind, .int .i64 c, .int .i64 m, .int .i64 bu, .int .i64 ac, .int .i64 cl, .int .i64 ro, ds]) (hl : letterE c = 0) (ht : tildeE c = 0) (h : Typed c m) :
    Calls Tryz.prog 43 #[.pointer (some ⟨b, 0, none⟩), .pointer (some ⟨g, 0, none⟩)] w (NewOwn w (typedE co c m)) := by
  have HTC := Lib.hid (fun W => l5Tilde_any c W)
  rw [ht] at HTC
  have HEE := Lib.hid hE
  have HMM := Lib.hid hM
  have HX := Lib.hid (fun W hm he => l5Other_any ⟨cu, co, mo, sg, pa⟩ kind c m bu ac cl ro ds b g W hm he h)
  dsimp only at HX
  generalize typedE co c m = L at *
  obtain ⟨q0, q1, q2, q3, q4⟩ := hM.five
  obtain ⟨z0, z1, z2, z3, z4, z5, z6, z7⟩ := AtL.eightS hE
  have HLC := Lib.hid (fun W => l5Letter_any c W)
  rw [hl] at HLC
  clear hM hE q1 q2 q3 q4 z0 z3 z4 z5 z6 z7
  go_enter Tryz.func43, Tryz.ntmps43
  go_wp2_with fail
  refine (HLC.out _).mono ?_
  rintro e w1 ⟨rfl, rfl⟩
  go_wp2_with fail
  refine (HTC.out _).mono ?_
  rintro e w2 ⟨rfl, hb2⟩
  have HB := Lib.hid hb2
  have HE2 := Lib.hid (HEE.out.on hb2)
  clear hb2 z1 z2 q0
  obtain ⟨z0, z1, z2, z3, z4, z5, z6, z7⟩ := AtL.eightS HE2.out
  clear z0 z3 z4 z5 z6 z7
  go_wp2_with fail
  refine (HX.out _ (HMM.out.on HB.out) HE2.out).mono ?_
  rintro e w3 ⟨v, rfl, ho, hb⟩
  have HE := Lib.hid (own_low ho (below_on HB.out hb) HB.out.size)
  clear ho hb
  go_wp2_with fail
  go_ret
  exact HE.out

theorem l5Key_any (md : Md) (e : Ev) (p : Option Addr) (cp : Nat) (b g : Nat) (w : World) (hM : AtL w b (mdL md)) (hE : AtL w g (evC e p cp).toList) (hk : keyCode e.code = true) (h0 : 0 ≤ e.mods) (h7 : e.mods ≤ 7) :
    Calls Tryz.prog 43 #[.pointer (some ⟨b, 0, none⟩), .pointer (some ⟨g, 0, none⟩)] w (NewOwn w (keyE md e.code e.mods)) := by
  obtain ⟨cu, co, mo, sg, pa⟩ := md
  obtain ⟨kind, c, m, bu, ac, cl, ro, data⟩ := e
  dsimp only at *
  unfold mdL at hM
  unfold evC at hE
  dsimp only at hM hE
  by_cases hl : letterE c = 0
  · by_cases ht : tildeE c = 0
    · have hc : keyE ⟨cu, co, mo, sg, pa⟩ c m = typedE co c m := by simp [keyE, hl, ht]
      rw [hc]
      exact l5Key_o cu co mo sg pa kind c m bu ac cl ro _ b g w hM hE hl ht ⟨hk, hl, ht, h0, h7⟩
    · have hr := tildeE_range c
      have hc : keyE ⟨cu, co, mo, sg, pa⟩ c m = tildeB (tildeE c) m := by simp [keyE, hl, ht]
      rw [hc]
      by_cases hm : m = 0
      · subst hm
        have : tildeB (tildeE c) 0 = seqB false [tildeE c] 126 := by simp [tildeB]
        rw [this]
        exact l5Key_t0 cu co mo sg pa kind c bu ac cl ro _ b g w hM hE _ hl rfl ht (by omega) (by omega)
      · have : tildeB (tildeE c) m = seqB false [tildeE c, m + 1] 126 := by simp [tildeB, hm]
        rw [this]
        exact l5Key_tm cu co mo sg pa kind c m bu ac cl ro _ b g w hM hE _ hl rfl ht (by omega) (by omega) hm h0 h7
  · have hr := letterE_range c hl
    have hc : keyE ⟨cu, co, mo, sg, pa⟩ c m = letterB cu (byteE (letterE c)) m := by simp [keyE, hl]
    rw [hc]
    by_cases hm : m = 0
    · subst hm
      cases cu
      · have : letterB false (byteE (letterE c)) 0 = seqB false [] (byteE (letterE c)) := by simp [letterB]
        rw [this]
        exact l5Key_lf co mo sg pa kind c bu ac cl ro _ b g w hM hE _ rfl hl (by omega) (by omega)
      · have : letterB true (byteE (letterE c)) 0 = [27, 79, byteE (letterE c)] := by simp [letterB]
        rw [this]
        exact l5Key_lt co mo sg pa kind c bu ac cl ro _ b g w hM hE _ rfl hl (by omega) (by omega)
    · have : letterB cu (byteE (letterE c)) m = seqB false [1, m + 1] (byteE (letterE c)) := by simp [letterB, hm]
      rw [this]
      exact l5Key_lm cu co mo sg pa kind c m bu ac cl ro _ b g w hM hE _ rfl hl (by omega) (by omega) hm h0 h7

end Go.Proofs.YtjopjddhgaiddabGreatDoor

/- The model's encoder: l5Mouse. (Written by wip/gen_specmouse5.py.) -/
namespace Go.Proofs.YtjopjddhgaiddabGreatDoor
open Go.RowKit
set_option linter.unusedVariables false
set_option linter.unusedSimpArgs false

theorem drew_low {w : World} {B : Nat} (h : B ≤ w.heap.size) : Below B w w.drew := below_drewN (Below.refl _ _) 1

set_option maxRecDepth 100000 in
set_option maxHeartbeats 8000000 in
theorem l5Mouse_s2 (cu co : Bool) (mo : Int) (pa : Bool) (kind c m b x y : Int) (ds : Value) (u g : Nat) (w : World) (hM : AtL w u [.bool cu, .bool co, .int .i64 mo, .bool true, .bool pa]) (hE : AtL w g [.int .i64 kind, .int .i64 c, .int .i64 m, .int .i64 b, .int .i64 2, .int .i64 x, .int .i64 y, ds]) (b0 : 0 ≤ b) (b2 : b ≤ 2) (m0 : 0 ≤ m) (m7 : m ≤ 7) (x0 : 0 ≤ x) (x9 : x ≤ 199) (y0 : 0 ≤ y) (y9 : y ≤ 199) :
    Calls Tryz.prog 45 #[.pointer (some ⟨u, 0, none⟩), .pointer (some ⟨g, 0, none⟩)] w (NewOwn w (seqB true [(b + 4 * m), x + 1, y + 1] 109)) := by
  obtain ⟨i0, hi0, hz0, hz1, hz2⟩ := info_parts Tryz.info_u8
  have HI := Lib.hid (And.intro hi0 (And.intro hz0 (And.intro hz1 hz2)))
  clear hi0 hz0 hz1 hz2
  have hin : inNum [(b + 4 * m), x + 1, y + 1] = true := inNum3 (by omega) (by omega) (by omega) (by omega) (by omega) (by omega)
  have HL2 : Hid (∀ (W : World) (k : Nat), Is W W.heap.size (some ⟨k, 0, none⟩) [(b + 4 * m), x + 1, y + 1] → Calls Tryz.prog 77 #[.bool true, .slice (some ⟨k, 0, none⟩) 3 3, .int .u8 109] W (NewOwn W (pb true [(b + 4 * m), x + 1, y + 1] 109))) := fun W k h => l2Bytes_any true (some ⟨k, 0, none⟩) 3 [(b + 4 * m), x + 1, y + 1] 109 W h hin (by simp)
  have hll := pb_lenS true [(b + 4 * m), x + 1, y + 1] 109 hin (by simp)
  have hne : pb true [(b + 4 * m), x + 1, y + 1] 109 ≠ [] := by unfold pb; simp
  have HIS : Hid (∀ (W : World) k, k = W.heap.size → Is (W.alloc (.cells #[.int .i64 (b + 4 * m), .int .i64 (x + 1), .int .i64 (y + 1)] 2)) (W.alloc (.cells #[.int .i64 (b + 4 * m), .int .i64 (x + 1), .int .i64 (y + 1)] 2)).heap.size (some ⟨k, 0, none⟩) [(b + 4 * m), x + 1, y + 1]) := fun W k hk => is_lit W _ _ rfl _ k hk
  unfold seqB
  generalize pb true [(b + 4 * m), x + 1, y + 1] 109 = L at *
  clear hin
  have hw1 : IntKind.i64.wrap (4 * m) = 4 * m := IntWalk.i64_in _ ⟨by omega, by omega⟩
  have hw2 : IntKind.i64.wrap (b + 4 * m) = b + 4 * m := IntWalk.i64_in _ ⟨by omega, by omega⟩
  have hw3 : IntKind.i64.wrap (b + 4 * m + 32) = b + 4 * m + 32 := IntWalk.i64_in _ ⟨by omega, by omega⟩
  have hw4 : IntKind.i64.wrap (x + 1) = x + 1 := IntWalk.i64_in _ ⟨by omega, by omega⟩
  have hw5 : IntKind.i64.wrap (y + 1) = y + 1 := IntWalk.i64_in _ ⟨by omega, by omega⟩
  have HEE := Lib.hid hE
  have HEE := Lib.hid hE
  have HEE := Lib.hid hE
  have HK := Lib.hid (fun W' (hW : Below w.heap.size w W') => AtL.eightS (hE.on hW))
  obtain ⟨q0, q1, q2, q3, q4⟩ := hM.five
  obtain ⟨y_0, y_1, y_2, y_3, y_4, y_5, y_6, y_7⟩ := AtL.eightS hE
  clear hM hE q0 q1 q2 q4 y_0 y_1 y_7
  go_enter Tryz.func45, Tryz.ntmps45
  go_wp2_with fail
  refine wp_region_noPanic ?_
  refine wp_region_held_drew (S := fun W' => Below (w).heap.size (w) W') (by kernel_rfl) (below_drewN (Below.refl _ _) 1) (fun hHeld => ?_)
  refine takeR 0 7 (.pointer (some ⟨g, 0, none⟩)) (by kernel_rfl) (by kernel_rfl) (by kernel_rfl) (by kernel_rfl) (fun _ _ _ h => h) (by kernel_rfl) (fun w o hSw ho => ?_) hHeld ?_
  · obtain rfl := Option.some.inj ho; go_simp
  simp only [Act.put, List.setIfInBounds_toArray, List.set_cons_zero, List.set_cons_succ]
  refine takeR 4 11 (.pointer (some ⟨g, 0, none⟩)) (by kernel_rfl) (by kernel_rfl) (by kernel_rfl) (by kernel_rfl) (fun _ _ _ h => h) (by kernel_rfl) (fun w o hSw ho => ?_) hHeld ?_
  · obtain rfl := Option.some.inj ho; go_simp
  simp only [Act.put, List.setIfInBounds_toArray, List.set_cons_zero, List.set_cons_succ]
  refine takeR 1 8 (.pointer (some ⟨g, 0, none⟩)) (by kernel_rfl) (by kernel_rfl) (by kernel_rfl) (by kernel_rfl) (fun _ _ _ h => h) (by kernel_rfl) (fun w o hSw ho => ?_) hHeld ?_
  · obtain rfl := Option.some.inj ho; go_simp
  simp only [Act.put, List.setIfInBounds_toArray, List.set_cons_zero, List.set_cons_succ]
  refine takeR 5 12 (.pointer (some ⟨g, 0, none⟩)) (by kernel_rfl) (by kernel_rfl) (by kernel_rfl) (by kernel_rfl) (fun _ _ _ h => h) (by kernel_rfl) (fun w o hSw ho => ?_) hHeld ?_
  · obtain rfl := Option.some.inj ho; go_simp
  simp only [Act.put, List.setIfInBounds_toArray, List.set_cons_zero, List.set_cons_succ]
  refine takeR 2 9 (.pointer (some ⟨g, 3, none⟩)) (by kernel_rfl) (by kernel_rfl) (by kernel_rfl) (by kernel_rfl) (fun _ _ _ h => h) (by kernel_rfl) (fun w o hSw ho => ?_) hHeld ?_
  · obtain rfl := Option.some.inj ho; go_simp
  simp only [Act.put, List.setIfInBounds_toArray, List.set_cons_zero, List.set_cons_succ]
  refine takeR 6 13 (.pointer (some ⟨g, 2, none⟩)) (by kernel_rfl) (by kernel_rfl) (by kernel_rfl) (by kernel_rfl) (fun _ _ _ h => h) (by kernel_rfl) (fun w o hSw ho => ?_) hHeld ?_
  · obtain rfl := Option.some.inj ho; go_simp
  simp only [Act.put, List.setIfInBounds_toArray, List.set_cons_zero, List.set_cons_succ]
  refine takeR 3 10 (.int .i64 b) (by kernel_rfl) (by kernel_rfl) (by kernel_rfl) (by kernel_rfl) (fun _ _ _ h => h) (by kernel_rfl) (fun w o hSw ho => ?_) hHeld ?_
  · obtain rfl := Option.some.inj ho; obtain ⟨z0, z1, z2, z3, z4, z5, z6, z7⟩ := HK.out _ hSw; go_simp
  simp only [Act.put, List.setIfInBounds_toArray, List.set_cons_zero, List.set_cons_succ]
  refine takeR 7 14 (.int .i64 m) (by kernel_rfl) (by kernel_rfl) (by kernel_rfl) (by kernel_rfl) (fun _ _ _ h => h) (by kernel_rfl) (fun w o hSw ho => ?_) hHeld ?_
  · obtain rfl := Option.some.inj ho; obtain ⟨z0, z1, z2, z3, z4, z5, z6, z7⟩ := HK.out _ hSw; go_simp
  simp only [Act.put, List.setIfInBounds_toArray, List.set_cons_zero, List.set_cons_succ]
  refine takeR 8 15 (.int .i64 (4 * m)) (by kernel_rfl) (by kernel_rfl) (by kernel_rfl) (by kernel_rfl) (fun _ _ _ h => h) (by kernel_rfl) (fun w o hSw ho => ?_) hHeld ?_
  · obtain rfl := Option.some.inj ho; go_simp
  simp only [Act.put, List.setIfInBounds_toArray, List.set_cons_zero, List.set_cons_succ]
  refine takeR 9 16 (.int .i64 (b + 4 * m)) (by kernel_rfl) (by kernel_rfl) (by kernel_rfl) (by kernel_rfl) (fun _ _ _ h => h) (by kernel_rfl) (fun w o hSw ho => ?_) hHeld ?_
  · obtain rfl := Option.some.inj ho; go_simp
  simp only [Act.put, List.setIfInBounds_toArray, List.set_cons_zero, List.set_cons_succ]
  refine takeR 10 5 (.int .i64 (b + 4 * m)) (by kernel_rfl) (by kernel_rfl) (by kernel_rfl) (by kernel_rfl) (fun _ _ _ h => h) (by kernel_rfl) (fun w o hSw ho => ?_) hHeld ?_
  · obtain rfl := Option.some.inj ho; go_simp
  simp only [Act.put, List.setIfInBounds_toArray, List.set_cons_zero, List.set_cons_succ]
  refine wpAnyH_done (by kernel_rfl) ?_ _
  refine NoPanic.normal ?_
  go_wp2_with fail
  refine wp_genE (fun W => AtL W g [.int .i64 kind, .int .i64 c, .int .i64 m, .int .i64 b, .int .i64 2, .int .i64 x, .int .i64 y, ds] ∧ Below w.heap.size w W) ⟨HEE.out.on (below_drewN (Below.refl _ _) 1), below_drewN (Below.refl _ _) 1⟩ (fun W hW => ?_)
  obtain ⟨hk, hb⟩ := hW
  clear HK HEE q3 y_2 y_3 y_4 y_5 y_6 hw1 hw2 hw3
  have HK := Lib.hid (fun W' (hW : Below W.heap.size W W') => AtL.eightS (hk.on hW))
  have HB := Lib.hid hb
  clear hk hb
  refine wp_region_noPanic ?_
  refine wp_region_held_drew (S := fun W' => Below (W).heap.size (W) W') (by kernel_rfl) (below_drewN (Below.refl _ _) 1) (fun hHeld => ?_)
  refine takeR 1 34 (.int .i64 (b + 4 * m)) (by kernel_rfl) (by kernel_rfl) (by kernel_rfl) (by kernel_rfl) (fun _ _ _ h => h) (by kernel_rfl) (fun w o hSw ho => ?_) hHeld ?_
  · obtain rfl := Option.some.inj ho; go_simp
  simp only [Act.put, List.setIfInBounds_toArray, List.set_cons_zero, List.set_cons_succ]
  refine takeR 2 35 (.pointer (some ⟨g, 0, none⟩)) (by kernel_rfl) (by kernel_rfl) (by kernel_rfl) (by kernel_rfl) (fun _ _ _ h => h) (by kernel_rfl) (fun w o hSw ho => ?_) hHeld ?_
  · obtain rfl := Option.some.inj ho; go_simp
  simp only [Act.put, List.setIfInBounds_toArray, List.set_cons_zero, List.set_cons_succ]
  refine takeR 7 40 (.pointer (some ⟨g, 0, none⟩)) (by kernel_rfl) (by kernel_rfl) (by kernel_rfl) (by kernel_rfl) (fun _ _ _ h => h) (by kernel_rfl) (fun w o hSw ho => ?_) hHeld ?_
  · obtain rfl := Option.some.inj ho; go_simp
  simp only [Act.put, List.setIfInBounds_toArray, List.set_cons_zero, List.set_cons_succ]
  refine takeR 13 46 (.int .u8 109) (by kernel_rfl) (by kernel_rfl) (by kernel_rfl) (by kernel_rfl) (fun _ _ _ h => h) (by kernel_rfl) (fun w o hSw ho => ?_) hHeld ?_
  · obtain rfl := Option.some.inj ho; go_simp
  simp only [Act.put, List.setIfInBounds_toArray, List.set_cons_zero, List.set_cons_succ]
  refine takeR 3 36 (.pointer (some ⟨g, 0, none⟩)) (by kernel_rfl) (by kernel_rfl) (by kernel_rfl) (by kernel_rfl) (fun _ _ _ h => h) (by kernel_rfl) (fun w o hSw ho => ?_) hHeld ?_
  · obtain rfl := Option.some.inj ho; go_simp
  simp only [Act.put, List.setIfInBounds_toArray, List.set_cons_zero, List.set_cons_succ]
  refine takeR 8 41 (.pointer (some ⟨g, 0, none⟩)) (by kernel_rfl) (by kernel_rfl) (by kernel_rfl) (by kernel_rfl) (fun _ _ _ h => h) (by kernel_rfl) (fun w o hSw ho => ?_) hHeld ?_
  · obtain rfl := Option.some.inj ho; go_simp
  simp only [Act.put, List.setIfInBounds_toArray, List.set_cons_zero, List.set_cons_succ]
  refine takeR 4 37 (.pointer (some ⟨g, 5, none⟩)) (by kernel_rfl) (by kernel_rfl) (by kernel_rfl) (by kernel_rfl) (fun _ _ _ h => h) (by kernel_rfl) (fun w o hSw ho => ?_) hHeld ?_
  · obtain rfl := Option.some.inj ho; go_simp
  simp only [Act.put, List.setIfInBounds_toArray, List.set_cons_zero, List.set_cons_succ]
  refine takeR 9 42 (.pointer (some ⟨g, 6, none⟩)) (by kernel_rfl) (by kernel_rfl) (by kernel_rfl) (by kernel_rfl) (fun _ _ _ h => h) (by kernel_rfl) (fun w o hSw ho => ?_) hHeld ?_
  · obtain rfl := Option.some.inj ho; go_simp
  simp only [Act.put, List.setIfInBounds_toArray, List.set_cons_zero, List.set_cons_succ]
  refine takeR 5 38 (.int .i64 x) (by kernel_rfl) (by kernel_rfl) (by kernel_rfl) (by kernel_rfl) (fun _ _ _ h => h) (by kernel_rfl) (fun w o hSw ho => ?_) hHeld ?_
  · obtain rfl := Option.some.inj ho; obtain ⟨z0, z1, z2, z3, z4, z5, z6, z7⟩ := HK.out _ hSw; go_simp
  simp only [Act.put, List.setIfInBounds_toArray, List.set_cons_zero, List.set_cons_succ]
  refine takeR 10 43 (.int .i64 y) (by kernel_rfl) (by kernel_rfl) (by kernel_rfl) (by kernel_rfl) (fun _ _ _ h => h) (by kernel_rfl) (fun w o hSw ho => ?_) hHeld ?_
  · obtain rfl := Option.some.inj ho; obtain ⟨z0, z1, z2, z3, z4, z5, z6, z7⟩ := HK.out _ hSw; go_simp
  simp only [Act.put, List.setIfInBounds_toArray, List.set_cons_zero, List.set_cons_succ]
  refine takeR 6 39 (.int .i64 (x + 1)) (by kernel_rfl) (by kernel_rfl) (by kernel_rfl) (by kernel_rfl) (fun _ _ _ h => h) (by kernel_rfl) (fun w o hSw ho => ?_) hHeld ?_
  · obtain rfl := Option.some.inj ho; go_simp
  simp only [Act.put, List.setIfInBounds_toArray, List.set_cons_zero, List.set_cons_succ]
  refine takeR 11 44 (.int .i64 (y + 1)) (by kernel_rfl) (by kernel_rfl) (by kernel_rfl) (by kernel_rfl) (fun _ _ _ h => h) (by kernel_rfl) (fun w o hSw ho => ?_) hHeld ?_
  · obtain rfl := Option.some.inj ho; go_simp
  simp only [Act.put, List.setIfInBounds_toArray, List.set_cons_zero, List.set_cons_succ]
  have HT0 : Hid (∀ (V : World) k, k = V.heap.size → Below W.heap.size W V → Own (V.alloc (.cells #[.int .u8 27, .int .u8 91] 5)) W.heap.size (.slice (some ⟨k, 0, none⟩) 2 2) [27, 91]) := fun V k hk hV => (own_lit V [27, 91] _ k 2 hk rfl rfl (by simp)).lower hV.size
  refine twoR 0 12 (by kernel_rfl) (by kernel_rfl) (by kernel_rfl) (fun o ho K' hK => ?_) (fun o ho K' hK => ?_)
  · obtain rfl := Option.some.inj ho
    clear ho
    go_simp
    have HT1 := Lib.hid (HT0.out W.drew (W.heap.size) (by simp) hHeld)
    refine hK.out _ _ (below_on hHeld (below_mk _ _)) (fun hHeld => ?_)
    clear hK K'
    try simp only [Act.put, List.setIfInBounds_toArray, List.set_cons_zero, List.set_cons_succ]
    have HT2 : Hid (Own (((W.alloc (.cells #[.int .u8 27, .int .u8 91] 5)).alloc (.cells #[.int .i64 (b + 4 * m), .int .i64 (x + 1), .int .i64 (y + 1)] 2)).drew) W.heap.size (.slice (some ⟨W.heap.size, 0, none⟩) 2 2) [27, 91]) := HT1.out.on (below_mk (W.drew.alloc (.cells #[.int .u8 27, .int .u8 91] 5)) (.cells #[.int .i64 (b + 4 * m), .int .i64 (x + 1), .int .i64 (y + 1)] 2))
    have HI2 : Hid (Is (((W.alloc (.cells #[.int .u8 27, .int .u8 91] 5)).alloc (.cells #[.int .i64 (b + 4 * m), .int .i64 (x + 1), .int .i64 (y + 1)] 2)).drew) (((W.alloc (.cells #[.int .u8 27, .int .u8 91] 5)).alloc (.cells #[.int .i64 (b + 4 * m), .int .i64 (x + 1), .int .i64 (y + 1)] 2)).drew).heap.size (some ⟨W.heap.size + 1, 0, none⟩) [(b + 4 * m), x + 1, y + 1]) := HIS.out (W.drew.alloc (.cells #[.int .u8 27, .int .u8 91] 5)) (W.heap.size + 1) (by simp)
    refine oneR 12 (by kernel_rfl) (by kernel_rfl) (fun o ho K' hK => ?_)
    obtain rfl := Option.some.inj ho
    clear ho
    go_simp
    refine hK.out _ _ (below_on hHeld (below_mk _ _)) (fun hHeld => ?_)
    clear hK K'
    try simp only [Act.put, List.setIfInBounds_toArray, List.set_cons_zero, List.set_cons_succ]
    refine oneR 14 (by kernel_rfl) (by kernel_rfl) (fun o ho K' hK => ?_)
    obtain rfl := Option.some.inj ho
    clear ho
    go_simp
    refine (HL2.out _ _ HI2.out).mono ?_
    rintro e V2 ⟨v2, rfl, ho2, hb2⟩
    obtain ⟨g1, cap1, hv, hlc⟩ := own_room ho2 hne
    subst hv
    have HT9 := Lib.hid (HT2.out.on hb2)
    have HS9 := Lib.hid ho2.bs.2
    have HV2 := Lib.hid (below_on hHeld hb2)
    clear ho2 hb2 hHeld
    go_wp2_with fail
    refine hK.out _ _ (HV2.out) (fun hHeld => ?_)
    clear hK K'
    try simp only [Act.put, List.setIfInBounds_toArray, List.set_cons_zero, List.set_cons_succ]
    have HVX := Lib.hid hHeld
    refine oneR 15 (by kernel_rfl) (by kernel_rfl) (fun o ho K' hK => ?_)
    obtain rfl := Option.some.inj ho
    clear ho
    refine wp_append_own _ _ _ 24 rfl W.heap.size 5 i0 (.int .u8 0) 1 1 Tryz.underlying24 HI.out.1 HI.out.2.1 HI.out.2.2.1 HI.out.2.2.2 rfl (by decide) _ _ _ rfl HT9.out ⟨g1, 0, none⟩ L.length cap1 (L.map (fun x : UInt8 => Value.int .u8 (x.toNat : Int))) rfl (by simp) (news_bs HS9.out) (one_cells _) (by unfold maxLen; simp; omega) (by simp; omega) HVX.out.size ?_
    intro v4 wA hownA hgrowA _
    have HA := Lib.hid (grew2 (l := [27, 91]) HT9.out HVX.out hownA hgrowA)
    clear hownA hgrowA hHeld
    change K' (Act.put _ (some 48) v4) wA
    refine hK.out _ _ (HA.out.2) (fun hHeld => ?_)
    clear hK K'
    try simp only [Act.put, List.setIfInBounds_toArray, List.set_cons_zero, List.set_cons_succ]
    refine takeR 16 4 (v4) (by kernel_rfl) (by kernel_rfl) (by kernel_rfl) (by kernel_rfl) (fun _ _ _ h => h) (by kernel_rfl) (fun w o hSw ho => ?_) hHeld ?_
    · obtain rfl := Option.some.inj ho; go_simp
    simp only [Act.put, List.setIfInBounds_toArray, List.set_cons_zero, List.set_cons_succ]
    refine wpAnyH_done (by kernel_rfl) ?_ _
    refine NoPanic.normal ?_
    have HE : Hid (NewOwn w ([27, 91] ++ L) (.returned v4) wA) := ⟨_, rfl, HA.out.1.lower HB.out.size, below_on HB.out HA.out.2⟩
    go_wp2_with fail
    go_ret
    exact HE.out
  · obtain rfl := Option.some.inj ho
    clear ho
    go_simp
    have HI1 : Hid (Is ((W.alloc (.cells #[.int .i64 (b + 4 * m), .int .i64 (x + 1), .int .i64 (y + 1)] 2)).drew) ((W.alloc (.cells #[.int .i64 (b + 4 * m), .int .i64 (x + 1), .int .i64 (y + 1)] 2)).drew).heap.size (some ⟨W.heap.size, 0, none⟩) [(b + 4 * m), x + 1, y + 1]) := HIS.out W.drew (W.heap.size) (by simp)
    refine hK.out _ _ (below_on hHeld (below_mk _ _)) (fun hHeld => ?_)
    clear hK K'
    try simp only [Act.put, List.setIfInBounds_toArray, List.set_cons_zero, List.set_cons_succ]
    refine twoR 0 14 (by kernel_rfl) (by kernel_rfl) (by kernel_rfl) (fun o ho K' hK => ?_) (fun o ho K' hK => ?_)
    · obtain rfl := Option.some.inj ho
      clear ho
      go_simp
      have HT2 : Hid (Own (((W.alloc (.cells #[.int .i64 (b + 4 * m), .int .i64 (x + 1), .int .i64 (y + 1)] 2)).alloc (.cells #[.int .u8 27, .int .u8 91] 5)).drew) W.heap.size (.slice (some ⟨W.heap.size + 1, 0, none⟩) 2 2) [27, 91]) := HT0.out (W.drew.alloc (.cells #[.int .i64 (b + 4 * m), .int .i64 (x + 1), .int .i64 (y + 1)] 2)) (W.heap.size + 1) (by simp) hHeld
      have HI2 : Hid (Is (((W.alloc (.cells #[.int .i64 (b + 4 * m), .int .i64 (x + 1), .int .i64 (y + 1)] 2)).alloc (.cells #[.int .u8 27, .int .u8 91] 5)).drew) (((W.alloc (.cells #[.int .i64 (b + 4 * m), .int .i64 (x + 1), .int .i64 (y + 1)] 2)).alloc (.cells #[.int .u8 27, .int .u8 91] 5)).drew).heap.size (some ⟨W.heap.size, 0, none⟩) [(b + 4 * m), x + 1, y + 1]) := HI1.out.on (below_mk (W.drew.alloc (.cells #[.int .i64 (b + 4 * m), .int .i64 (x + 1), .int .i64 (y + 1)] 2)) (.cells #[.int .u8 27, .int .u8 91] 5))
      refine hK.out _ _ (below_on hHeld (below_mk _ _)) (fun hHeld => ?_)
      clear hK K'
      try simp only [Act.put, List.setIfInBounds_toArray, List.set_cons_zero, List.set_cons_succ]
      refine oneR 14 (by kernel_rfl) (by kernel_rfl) (fun o ho K' hK => ?_)
      obtain rfl := Option.some.inj ho
      clear ho
      go_simp
      refine (HL2.out _ _ HI2.out).mono ?_
      rintro e V2 ⟨v2, rfl, ho2, hb2⟩
      obtain ⟨g1, cap1, hv, hlc⟩ := own_room ho2 hne
      subst hv
      have HT9 := Lib.hid (HT2.out.on hb2)
      have HS9 := Lib.hid ho2.bs.2
      have HV2 := Lib.hid (below_on hHeld hb2)
      clear ho2 hb2 hHeld
      go_wp2_with fail
      refine hK.out _ _ (HV2.out) (fun hHeld => ?_)
      clear hK K'
      try simp only [Act.put, List.setIfInBounds_toArray, List.set_cons_zero, List.set_cons_succ]
      have HVX := Lib.hid hHeld
      refine oneR 15 (by kernel_rfl) (by kernel_rfl) (fun o ho K' hK => ?_)
      obtain rfl := Option.some.inj ho
      clear ho
      refine wp_append_own _ _ _ 24 rfl W.heap.size 5 i0 (.int .u8 0) 1 1 Tryz.underlying24 HI.out.1 HI.out.2.1 HI.out.2.2.1 HI.out.2.2.2 rfl (by decide) _ _ _ rfl HT9.out ⟨g1, 0, none⟩ L.length cap1 (L.map (fun x : UInt8 => Value.int .u8 (x.toNat : Int))) rfl (by simp) (news_bs HS9.out) (one_cells _) (by unfold maxLen; simp; omega) (by simp; omega) HVX.out.size ?_
      intro v4 wA hownA hgrowA _
      have HA := Lib.hid (grew2 (l := [27, 91]) HT9.out HVX.out hownA hgrowA)
      clear hownA hgrowA hHeld
      change K' (Act.put _ (some 48) v4) wA
      refine hK.out _ _ (HA.out.2) (fun hHeld => ?_)
      clear hK K'
      try simp only [Act.put, List.setIfInBounds_toArray, List.set_cons_zero, List.set_cons_succ]
      refine takeR 16 4 (v4) (by kernel_rfl) (by kernel_rfl) (by kernel_rfl) (by kernel_rfl) (fun _ _ _ h => h) (by kernel_rfl) (fun w o hSw ho => ?_) hHeld ?_
      · obtain rfl := Option.some.inj ho; go_simp
      simp only [Act.put, List.setIfInBounds_toArray, List.set_cons_zero, List.set_cons_succ]
      refine wpAnyH_done (by kernel_rfl) ?_ _
      refine NoPanic.normal ?_
      have HE : Hid (NewOwn w ([27, 91] ++ L) (.returned v4) wA) := ⟨_, rfl, HA.out.1.lower HB.out.size, below_on HB.out HA.out.2⟩
      go_wp2_with fail
      go_ret
      exact HE.out
    · obtain rfl := Option.some.inj ho
      clear ho
      go_simp
      refine (HL2.out _ _ HI1.out).mono ?_
      rintro e V2 ⟨v2, rfl, ho2, hb2⟩
      obtain ⟨g1, cap1, hv, hlc⟩ := own_room ho2 hne
      subst hv
      have HV2 := Lib.hid (below_on hHeld hb2)
      have HS8 := Lib.hid ho2
      clear ho2 hb2 hHeld
      go_wp2_with fail
      refine hK.out _ _ (HV2.out) (fun hHeld => ?_)
      clear hK K'
      try simp only [Act.put, List.setIfInBounds_toArray, List.set_cons_zero, List.set_cons_succ]
      refine oneR 0 (by kernel_rfl) (by kernel_rfl) (fun o ho K' hK => ?_)
      obtain rfl := Option.some.inj ho
      clear ho
      go_simp
      have HT9 := Lib.hid (HT0.out V2 _ rfl hHeld)
      have HS9 := Lib.hid ((HS8.out.on (below_mk V2 (.cells #[.int .u8 27, .int .u8 91] 5))).bs.2)
      refine hK.out _ _ (below_on hHeld (below_mk _ _)) (fun hHeld => ?_)
      clear hK K'
      try simp only [Act.put, List.setIfInBounds_toArray, List.set_cons_zero, List.set_cons_succ]
      have HVX := Lib.hid hHeld
      refine oneR 15 (by kernel_rfl) (by kernel_rfl) (fun o ho K' hK => ?_)
      obtain rfl := Option.some.inj ho
      clear ho
      refine wp_append_own _ _ _ 24 rfl W.heap.size 5 i0 (.int .u8 0) 1 1 Tryz.underlying24 HI.out.1 HI.out.2.1 HI.out.2.2.1 HI.out.2.2.2 rfl (by decide) _ _ _ rfl HT9.out ⟨g1, 0, none⟩ L.length cap1 (L.map (fun x : UInt8 => Value.int .u8 (x.toNat : Int))) rfl (by simp) (news_bs HS9.out) (one_cells _) (by unfold maxLen; simp; omega) (by simp; omega) HVX.out.size ?_
      intro v4 wA hownA hgrowA _
      have HA := Lib.hid (grew2 (l := [27, 91]) HT9.out HVX.out hownA hgrowA)
      clear hownA hgrowA hHeld
      change K' (Act.put _ (some 48) v4) wA
      refine hK.out _ _ (HA.out.2) (fun hHeld => ?_)
      clear hK K'
      try simp only [Act.put, List.setIfInBounds_toArray, List.set_cons_zero, List.set_cons_succ]
      refine takeR 16 4 (v4) (by kernel_rfl) (by kernel_rfl) (by kernel_rfl) (by kernel_rfl) (fun _ _ _ h => h) (by kernel_rfl) (fun w o hSw ho => ?_) hHeld ?_
      · obtain rfl := Option.some.inj ho; go_simp
      simp only [Act.put, List.setIfInBounds_toArray, List.set_cons_zero, List.set_cons_succ]
      refine wpAnyH_done (by kernel_rfl) ?_ _
      refine NoPanic.normal ?_
      have HE : Hid (NewOwn w ([27, 91] ++ L) (.returned v4) wA) := ⟨_, rfl, HA.out.1.lower HB.out.size, below_on HB.out HA.out.2⟩
      go_wp2_with fail
      go_ret
      exact HE.out

set_option maxRecDepth 100000 in
set_option maxHeartbeats 8000000 in
theorem l5Mouse_b2 (cu co : Bool) (mo : Int) (pa : Bool) (kind c m b x y : Int) (ds : Value) (u g : Nat) (w : World) (hM : AtL w u [.bool cu, .bool co, .int .i64 mo, .bool false, .bool pa]) (hE : AtL w g [.int .i64 kind, .int .i64 c, .int .i64 m, .int .i64 b, .int .i64 2, .int .i64 x, .int .i64 y, ds]) (b0 : 0 ≤ b) (b2 : b ≤ 2) (m0 : 0 ≤ m) (m7 : m ≤ 7) (x0 : 0 ≤ x) (x9 : x ≤ 199) (y0 : 0 ≤ y) (y9 : y ≤ 199) :
    Calls Tryz.prog 45 #[.pointer (some ⟨u, 0, none⟩), .pointer (some ⟨g, 0, none⟩)] w (NewOwn w [27, 91, 77, byteE (32 + evNum 3 2 m), byteE (33 + x), byteE (33 + y)]) := by
  have hev : evNum 3 2 m = (b + 4 * m - b + 3) := by
    unfold evNum
    rw [if_neg (by omega)]; omega
  have hv1 : ((byteE (32 + evNum 3 2 m)).toNat : Int) = 32 + (b + 4 * m - b + 3) := by rw [hev]; exact byteE_val (by omega) (by omega)
  have hv2 : ((byteE (33 + x)).toNat : Int) = 33 + x := byteE_val (by omega) (by omega)
  have hv3 : ((byteE (33 + y)).toNat : Int) = 33 + y := byteE_val (by omega) (by omega)
  have HLIT : Hid (∀ W : World, NewOwn W [27, 91, 77, byteE (32 + evNum 3 2 m), byteE (33 + x), byteE (33 + y)] (.returned (.slice (some ⟨W.heap.size, 0, none⟩) 6 6)) (W.alloc (.cells #[.int .u8 27, .int .u8 91, .int .u8 77, .int .u8 (32 + (b + 4 * m - b + 3)), .int .u8 (33 + x), .int .u8 (33 + y)] 5))) := fun W =>
    ⟨_, rfl, own_lit W [27, 91, 77, byteE (32 + evNum 3 2 m), byteE (33 + x), byteE (33 + y)] _ _ 6 rfl rfl (by simp [bcells, hv1, hv2, hv3]) (by simp), below_mk W _⟩
  clear hv1 hv2 hv3 hev
  generalize hl6 : [27, 91, 77, byteE (32 + evNum 3 2 m), byteE (33 + x), byteE (33 + y)] = L at *
  clear hl6
  have hx1 : IntKind.i64.wrap (b + 4 * m - b) = b + 4 * m - b := IntWalk.i64_in _ ⟨by omega, by omega⟩
  have hx2 : IntKind.i64.wrap (b + 4 * m - b + 3) = b + 4 * m - b + 3 := IntWalk.i64_in _ ⟨by omega, by omega⟩
  have hx3 : IntKind.i64.wrap (32 + (b + 4 * m - b + 3)) = 32 + (b + 4 * m - b + 3) := IntWalk.i64_in _ ⟨by omega, by omega⟩
  have hx4 : IntKind.i64.wrap (33 + x) = 33 + x := IntWalk.i64_in _ ⟨by omega, by omega⟩
  have hx5 : IntKind.i64.wrap (33 + y) = 33 + y := IntWalk.i64_in _ ⟨by omega, by omega⟩
  have hx6 : IntKind.u8.wrap (32 + (b + 4 * m - b + 3)) = 32 + (b + 4 * m - b + 3) := IntWalk.u8_in _ ⟨by omega, by omega⟩
  have hx7 : IntKind.u8.wrap (33 + x) = 33 + x := IntWalk.u8_in _ ⟨by omega, by omega⟩
  have hx8 : IntKind.u8.wrap (33 + y) = 33 + y := IntWalk.u8_in _ ⟨by omega, by omega⟩
  have hw1 : IntKind.i64.wrap (4 * m) = 4 * m := IntWalk.i64_in _ ⟨by omega, by omega⟩
  have hw2 : IntKind.i64.wrap (b + 4 * m) = b + 4 * m := IntWalk.i64_in _ ⟨by omega, by omega⟩
  have hw3 : IntKind.i64.wrap (b + 4 * m + 32) = b + 4 * m + 32 := IntWalk.i64_in _ ⟨by omega, by omega⟩
  have hw4 : IntKind.i64.wrap (x + 1) = x + 1 := IntWalk.i64_in _ ⟨by omega, by omega⟩
  have hw5 : IntKind.i64.wrap (y + 1) = y + 1 := IntWalk.i64_in _ ⟨by omega, by omega⟩
  have HEE := Lib.hid hE
  have HEE := Lib.hid hE
  have HEE := Lib.hid hE
  have HK := Lib.hid (fun W' (hW : Below w.heap.size w W') => AtL.eightS (hE.on hW))
  obtain ⟨q0, q1, q2, q3, q4⟩ := hM.five
  obtain ⟨y_0, y_1, y_2, y_3, y_4, y_5, y_6, y_7⟩ := AtL.eightS hE
  clear hM hE q0 q1 q2 q4 y_0 y_1 y_7
  go_enter Tryz.func45, Tryz.ntmps45
  go_wp2_with fail
  refine wp_region_noPanic ?_
  refine wp_region_held_drew (S := fun W' => Below (w).heap.size (w) W') (by kernel_rfl) (below_drewN (Below.refl _ _) 1) (fun hHeld => ?_)
  refine takeR 0 7 (.pointer (some ⟨g, 0, none⟩)) (by kernel_rfl) (by kernel_rfl) (by kernel_rfl) (by kernel_rfl) (fun _ _ _ h => h) (by kernel_rfl) (fun w o hSw ho => ?_) hHeld ?_
  · obtain rfl := Option.some.inj ho; go_simp
  simp only [Act.put, List.setIfInBounds_toArray, List.set_cons_zero, List.set_cons_succ]
  refine takeR 4 11 (.pointer (some ⟨g, 0, none⟩)) (by kernel_rfl) (by kernel_rfl) (by kernel_rfl) (by kernel_rfl) (fun _ _ _ h => h) (by kernel_rfl) (fun w o hSw ho => ?_) hHeld ?_
  · obtain rfl := Option.some.inj ho; go_simp
  simp only [Act.put, List.setIfInBounds_toArray, List.set_cons_zero, List.set_cons_succ]
  refine takeR 1 8 (.pointer (some ⟨g, 0, none⟩)) (by kernel_rfl) (by kernel_rfl) (by kernel_rfl) (by kernel_rfl) (fun _ _ _ h => h) (by kernel_rfl) (fun w o hSw ho => ?_) hHeld ?_
  · obtain rfl := Option.some.inj ho; go_simp
  simp only [Act.put, List.setIfInBounds_toArray, List.set_cons_zero, List.set_cons_succ]
  refine takeR 5 12 (.pointer (some ⟨g, 0, none⟩)) (by kernel_rfl) (by kernel_rfl) (by kernel_rfl) (by kernel_rfl) (fun _ _ _ h => h) (by kernel_rfl) (fun w o hSw ho => ?_) hHeld ?_
  · obtain rfl := Option.some.inj ho; go_simp
  simp only [Act.put, List.setIfInBounds_toArray, List.set_cons_zero, List.set_cons_succ]
  refine takeR 2 9 (.pointer (some ⟨g, 3, none⟩)) (by kernel_rfl) (by kernel_rfl) (by kernel_rfl) (by kernel_rfl) (fun _ _ _ h => h) (by kernel_rfl) (fun w o hSw ho => ?_) hHeld ?_
  · obtain rfl := Option.some.inj ho; go_simp
  simp only [Act.put, List.setIfInBounds_toArray, List.set_cons_zero, List.set_cons_succ]
  refine takeR 6 13 (.pointer (some ⟨g, 2, none⟩)) (by kernel_rfl) (by kernel_rfl) (by kernel_rfl) (by kernel_rfl) (fun _ _ _ h => h) (by kernel_rfl) (fun w o hSw ho => ?_) hHeld ?_
  · obtain rfl := Option.some.inj ho; go_simp
  simp only [Act.put, List.setIfInBounds_toArray, List.set_cons_zero, List.set_cons_succ]
  refine takeR 3 10 (.int .i64 b) (by kernel_rfl) (by kernel_rfl) (by kernel_rfl) (by kernel_rfl) (fun _ _ _ h => h) (by kernel_rfl) (fun w o hSw ho => ?_) hHeld ?_
  · obtain rfl := Option.some.inj ho; obtain ⟨z0, z1, z2, z3, z4, z5, z6, z7⟩ := HK.out _ hSw; go_simp
  simp only [Act.put, List.setIfInBounds_toArray, List.set_cons_zero, List.set_cons_succ]
  refine takeR 7 14 (.int .i64 m) (by kernel_rfl) (by kernel_rfl) (by kernel_rfl) (by kernel_rfl) (fun _ _ _ h => h) (by kernel_rfl) (fun w o hSw ho => ?_) hHeld ?_
  · obtain rfl := Option.some.inj ho; obtain ⟨z0, z1, z2, z3, z4, z5, z6, z7⟩ := HK.out _ hSw; go_simp
  simp only [Act.put, List.setIfInBounds_toArray, List.set_cons_zero, List.set_cons_succ]
  refine takeR 8 15 (.int .i64 (4 * m)) (by kernel_rfl) (by kernel_rfl) (by kernel_rfl) (by kernel_rfl) (fun _ _ _ h => h) (by kernel_rfl) (fun w o hSw ho => ?_) hHeld ?_
  · obtain rfl := Option.some.inj ho; go_simp
  simp only [Act.put, List.setIfInBounds_toArray, List.set_cons_zero, List.set_cons_succ]
  refine takeR 9 16 (.int .i64 (b + 4 * m)) (by kernel_rfl) (by kernel_rfl) (by kernel_rfl) (by kernel_rfl) (fun _ _ _ h => h) (by kernel_rfl) (fun w o hSw ho => ?_) hHeld ?_
  · obtain rfl := Option.some.inj ho; go_simp
  simp only [Act.put, List.setIfInBounds_toArray, List.set_cons_zero, List.set_cons_succ]
  refine takeR 10 5 (.int .i64 (b + 4 * m)) (by kernel_rfl) (by kernel_rfl) (by kernel_rfl) (by kernel_rfl) (fun _ _ _ h => h) (by kernel_rfl) (fun w o hSw ho => ?_) hHeld ?_
  · obtain rfl := Option.some.inj ho; go_simp
  simp only [Act.put, List.setIfInBounds_toArray, List.set_cons_zero, List.set_cons_succ]
  refine wpAnyH_done (by kernel_rfl) ?_ _
  refine NoPanic.normal ?_
  go_wp2_with fail
  refine wp_genE (fun W => AtL W g [.int .i64 kind, .int .i64 c, .int .i64 m, .int .i64 b, .int .i64 2, .int .i64 x, .int .i64 y, ds] ∧ Below w.heap.size w W) ⟨HEE.out.on (below_drewN (Below.refl _ _) 1), below_drewN (Below.refl _ _) 1⟩ (fun W hW => ?_)
  obtain ⟨hk, hb⟩ := hW
  clear HK HEE q3 y_2 y_3 y_4 y_5 y_6 hw1 hw2 hw3 hx1 hx2
  have HK := Lib.hid (fun W' (hW : Below W.heap.size W W') => AtL.eightS (hk.on hW))
  have HB := Lib.hid hb
  clear hk hb
  refine wp_region_noPanic ?_
  refine wp_region_held_drew (S := fun W' => Below (W).heap.size (W) W') (by kernel_rfl) (below_drewN (Below.refl _ _) 1) (fun hHeld => ?_)
  refine takeR 0 61 (.int .i64 (b + 4 * m - b + 3)) (by kernel_rfl) (by kernel_rfl) (by kernel_rfl) (by kernel_rfl) (fun _ _ _ h => h) (by kernel_rfl) (fun w o hSw ho => ?_) hHeld ?_
  · obtain rfl := Option.some.inj ho; go_simp
  simp only [Act.put, List.setIfInBounds_toArray, List.set_cons_zero, List.set_cons_succ]
  refine takeR 3 64 (.pointer (some ⟨g, 0, none⟩)) (by kernel_rfl) (by kernel_rfl) (by kernel_rfl) (by kernel_rfl) (fun _ _ _ h => h) (by kernel_rfl) (fun w o hSw ho => ?_) hHeld ?_
  · obtain rfl := Option.some.inj ho; go_simp
  simp only [Act.put, List.setIfInBounds_toArray, List.set_cons_zero, List.set_cons_succ]
  refine takeR 9 70 (.pointer (some ⟨g, 0, none⟩)) (by kernel_rfl) (by kernel_rfl) (by kernel_rfl) (by kernel_rfl) (fun _ _ _ h => h) (by kernel_rfl) (fun w o hSw ho => ?_) hHeld ?_
  · obtain rfl := Option.some.inj ho; go_simp
  simp only [Act.put, List.setIfInBounds_toArray, List.set_cons_zero, List.set_cons_succ]
  refine takeR 1 62 (.int .i64 (32 + (b + 4 * m - b + 3))) (by kernel_rfl) (by kernel_rfl) (by kernel_rfl) (by kernel_rfl) (fun _ _ _ h => h) (by kernel_rfl) (fun w o hSw ho => ?_) hHeld ?_
  · obtain rfl := Option.some.inj ho; go_simp
  simp only [Act.put, List.setIfInBounds_toArray, List.set_cons_zero, List.set_cons_succ]
  refine takeR 4 65 (.pointer (some ⟨g, 0, none⟩)) (by kernel_rfl) (by kernel_rfl) (by kernel_rfl) (by kernel_rfl) (fun _ _ _ h => h) (by kernel_rfl) (fun w o hSw ho => ?_) hHeld ?_
  · obtain rfl := Option.some.inj ho; go_simp
  simp only [Act.put, List.setIfInBounds_toArray, List.set_cons_zero, List.set_cons_succ]
  refine takeR 10 71 (.pointer (some ⟨g, 0, none⟩)) (by kernel_rfl) (by kernel_rfl) (by kernel_rfl) (by kernel_rfl) (fun _ _ _ h => h) (by kernel_rfl) (fun w o hSw ho => ?_) hHeld ?_
  · obtain rfl := Option.some.inj ho; go_simp
  simp only [Act.put, List.setIfInBounds_toArray, List.set_cons_zero, List.set_cons_succ]
  refine takeR 2 63 (.int .u8 (32 + (b + 4 * m - b + 3))) (by kernel_rfl) (by kernel_rfl) (by kernel_rfl) (by kernel_rfl) (fun _ _ _ h => h) (by kernel_rfl) (fun w o hSw ho => ?_) hHeld ?_
  · obtain rfl := Option.some.inj ho; go_simp
  simp only [Act.put, List.setIfInBounds_toArray, List.set_cons_zero, List.set_cons_succ]
  refine takeR 5 66 (.pointer (some ⟨g, 5, none⟩)) (by kernel_rfl) (by kernel_rfl) (by kernel_rfl) (by kernel_rfl) (fun _ _ _ h => h) (by kernel_rfl) (fun w o hSw ho => ?_) hHeld ?_
  · obtain rfl := Option.some.inj ho; go_simp
  simp only [Act.put, List.setIfInBounds_toArray, List.set_cons_zero, List.set_cons_succ]
  refine takeR 11 72 (.pointer (some ⟨g, 6, none⟩)) (by kernel_rfl) (by kernel_rfl) (by kernel_rfl) (by kernel_rfl) (fun _ _ _ h => h) (by kernel_rfl) (fun w o hSw ho => ?_) hHeld ?_
  · obtain rfl := Option.some.inj ho; go_simp
  simp only [Act.put, List.setIfInBounds_toArray, List.set_cons_zero, List.set_cons_succ]
  refine takeR 6 67 (.int .i64 x) (by kernel_rfl) (by kernel_rfl) (by kernel_rfl) (by kernel_rfl) (fun _ _ _ h => h) (by kernel_rfl) (fun w o hSw ho => ?_) hHeld ?_
  · obtain rfl := Option.some.inj ho; obtain ⟨z0, z1, z2, z3, z4, z5, z6, z7⟩ := HK.out _ hSw; go_simp
  simp only [Act.put, List.setIfInBounds_toArray, List.set_cons_zero, List.set_cons_succ]
  refine takeR 12 73 (.int .i64 y) (by kernel_rfl) (by kernel_rfl) (by kernel_rfl) (by kernel_rfl) (fun _ _ _ h => h) (by kernel_rfl) (fun w o hSw ho => ?_) hHeld ?_
  · obtain rfl := Option.some.inj ho; obtain ⟨z0, z1, z2, z3, z4, z5, z6, z7⟩ := HK.out _ hSw; go_simp
  simp only [Act.put, List.setIfInBounds_toArray, List.set_cons_zero, List.set_cons_succ]
  refine takeR 7 68 (.int .i64 (33 + x)) (by kernel_rfl) (by kernel_rfl) (by kernel_rfl) (by kernel_rfl) (fun _ _ _ h => h) (by kernel_rfl) (fun w o hSw ho => ?_) hHeld ?_
  · obtain rfl := Option.some.inj ho; go_simp
  simp only [Act.put, List.setIfInBounds_toArray, List.set_cons_zero, List.set_cons_succ]
  refine takeR 13 74 (.int .i64 (33 + y)) (by kernel_rfl) (by kernel_rfl) (by kernel_rfl) (by kernel_rfl) (fun _ _ _ h => h) (by kernel_rfl) (fun w o hSw ho => ?_) hHeld ?_
  · obtain rfl := Option.some.inj ho; go_simp
  simp only [Act.put, List.setIfInBounds_toArray, List.set_cons_zero, List.set_cons_succ]
  refine takeR 8 69 (.int .u8 (33 + x)) (by kernel_rfl) (by kernel_rfl) (by kernel_rfl) (by kernel_rfl) (fun _ _ _ h => h) (by kernel_rfl) (fun w o hSw ho => ?_) hHeld ?_
  · obtain rfl := Option.some.inj ho; go_simp
  simp only [Act.put, List.setIfInBounds_toArray, List.set_cons_zero, List.set_cons_succ]
  refine takeR 14 75 (.int .u8 (33 + y)) (by kernel_rfl) (by kernel_rfl) (by kernel_rfl) (by kernel_rfl) (fun _ _ _ h => h) (by kernel_rfl) (fun w o hSw ho => ?_) hHeld ?_
  · obtain rfl := Option.some.inj ho; go_simp
  simp only [Act.put, List.setIfInBounds_toArray, List.set_cons_zero, List.set_cons_succ]
  refine oneR 15 (by kernel_rfl) (by kernel_rfl) (fun o ho K' hK => ?_)
  obtain rfl := Option.some.inj ho
  clear ho
  go_simp
  refine hK.out _ _ (below_on hHeld (below_mk _ _)) (fun hHeld => ?_)
  clear hK K'
  try simp only [Act.put, List.setIfInBounds_toArray, List.set_cons_zero, List.set_cons_succ]
  have HE : Hid (NewOwn W.drew L (.returned (.slice (some ⟨W.heap.size, 0, none⟩) 6 6)) (W.drew.alloc (.cells #[.int .u8 27, .int .u8 91, .int .u8 77, .int .u8 (32 + (b + 4 * m - b + 3)), .int .u8 (33 + x), .int .u8 (33 + y)] 5))) := HLIT.out W.drew
  have HE2 : Hid (NewOwn w L (.returned (.slice (some ⟨W.heap.size, 0, none⟩) 6 6)) (W.drew.alloc (.cells #[.int .u8 27, .int .u8 91, .int .u8 77, .int .u8 (32 + (b + 4 * m - b + 3)), .int .u8 (33 + x), .int .u8 (33 + y)] 5))) := by
    obtain ⟨v, he, ho, hb⟩ := HE.out
    exact ⟨v, he, ho.lower (by have := HB.out.size; simpa using this), below_on HB.out hHeld⟩
  refine takeR 16 4 (.slice (some ⟨W.heap.size, 0, none⟩) 6 6) (by kernel_rfl) (by kernel_rfl) (by kernel_rfl) (by kernel_rfl) (fun _ _ _ h => h) (by kernel_rfl) (fun w o hSw ho => ?_) hHeld ?_
  · obtain rfl := Option.some.inj ho; go_simp
  simp only [Act.put, List.setIfInBounds_toArray, List.set_cons_zero, List.set_cons_succ]
  refine wpAnyH_done (by kernel_rfl) ?_ _
  refine NoPanic.normal ?_
  go_wp2_with fail
  go_ret
  exact HE2.out

set_option maxRecDepth 100000 in
set_option maxHeartbeats 8000000 in
theorem l5Mouse_s3 (cu co : Bool) (mo : Int) (pa : Bool) (kind c m b x y : Int) (ds : Value) (u g : Nat) (w : World) (hM : AtL w u [.bool cu, .bool co, .int .i64 mo, .bool true, .bool pa]) (hE : AtL w g [.int .i64 kind, .int .i64 c, .int .i64 m, .int .i64 b, .int .i64 3, .int .i64 x, .int .i64 y, ds]) (b0 : 0 ≤ b) (b2 : b ≤ 2) (m0 : 0 ≤ m) (m7 : m ≤ 7) (x0 : 0 ≤ x) (x9 : x ≤ 199) (y0 : 0 ≤ y) (y9 : y ≤ 199) :
    Calls Tryz.prog 45 #[.pointer (some ⟨u, 0, none⟩), .pointer (some ⟨g, 0, none⟩)] w (NewOwn w (seqB true [(b + 4 * m + 32), x + 1, y + 1] 77)) := by
  obtain ⟨i0, hi0, hz0, hz1, hz2⟩ := info_parts Tryz.info_u8
  have HI := Lib.hid (And.intro hi0 (And.intro hz0 (And.intro hz1 hz2)))
  clear hi0 hz0 hz1 hz2
  have hin : inNum [(b + 4 * m + 32), x + 1, y + 1] = true := inNum3 (by omega) (by omega) (by omega) (by omega) (by omega) (by omega)
  have HL2 : Hid (∀ (W : World) (k : Nat), Is W W.heap.size (some ⟨k, 0, none⟩) [(b + 4 * m + 32), x + 1, y + 1] → Calls Tryz.prog 77 #[.bool true, .slice (some ⟨k, 0, none⟩) 3 3, .int .u8 77] W (NewOwn W (pb true [(b + 4 * m + 32), x + 1, y + 1] 77))) := fun W k h => l2Bytes_any true (some ⟨k, 0, none⟩) 3 [(b + 4 * m + 32), x + 1, y + 1] 77 W h hin (by simp)
  have hll := pb_lenS true [(b + 4 * m + 32), x + 1, y + 1] 77 hin (by simp)
  have hne : pb true [(b + 4 * m + 32), x + 1, y + 1] 77 ≠ [] := by unfold pb; simp
  have HIS : Hid (∀ (W : World) k, k = W.heap.size → Is (W.alloc (.cells #[.int .i64 (b + 4 * m + 32), .int .i64 (x + 1), .int .i64 (y + 1)] 2)) (W.alloc (.cells #[.int .i64 (b + 4 * m + 32), .int .i64 (x + 1), .int .i64 (y + 1)] 2)).heap.size (some ⟨k, 0, none⟩) [(b + 4 * m + 32), x + 1, y + 1]) := fun W k hk => is_lit W _ _ rfl _ k hk
  unfold seqB
  generalize pb true [(b + 4 * m + 32), x + 1, y + 1] 77 = L at *
  clear hin
  have hw1 : IntKind.i64.wrap (4 * m) = 4 * m := IntWalk.i64_in _ ⟨by omega, by omega⟩
  have hw2 : IntKind.i64.wrap (b + 4 * m) = b + 4 * m := IntWalk.i64_in _ ⟨by omega, by omega⟩
  have hw3 : IntKind.i64.wrap (b + 4 * m + 32) = b + 4 * m + 32 := IntWalk.i64_in _ ⟨by omega, by omega⟩
  have hw4 : IntKind.i64.wrap (x + 1) = x + 1 := IntWalk.i64_in _ ⟨by omega, by omega⟩
  have hw5 : IntKind.i64.wrap (y + 1) = y + 1 := IntWalk.i64_in _ ⟨by omega, by omega⟩
  have HEE := Lib.hid hE
  have HEE := Lib.hid hE
  have HK := Lib.hid (fun W' (hW : Below w.heap.size w W') => AtL.eightS (hE.on hW))
  obtain ⟨q0, q1, q2, q3, q4⟩ := hM.five
  obtain ⟨y_0, y_1, y_2, y_3, y_4, y_5, y_6, y_7⟩ := AtL.eightS hE
  clear hM hE q0 q1 q2 q4 y_0 y_1 y_7
  go_enter Tryz.func45, Tryz.ntmps45
  go_wp2_with fail
  refine wp_region_noPanic ?_
  refine wp_region_held_drew (S := fun W' => Below (w).heap.size (w) W') (by kernel_rfl) (below_drewN (Below.refl _ _) 1) (fun hHeld => ?_)
  refine takeR 0 7 (.pointer (some ⟨g, 0, none⟩)) (by kernel_rfl) (by kernel_rfl) (by kernel_rfl) (by kernel_rfl) (fun _ _ _ h => h) (by kernel_rfl) (fun w o hSw ho => ?_) hHeld ?_
  · obtain rfl := Option.some.inj ho; go_simp
  simp only [Act.put, List.setIfInBounds_toArray, List.set_cons_zero, List.set_cons_succ]
  refine takeR 4 11 (.pointer (some ⟨g, 0, none⟩)) (by kernel_rfl) (by kernel_rfl) (by kernel_rfl) (by kernel_rfl) (fun _ _ _ h => h) (by kernel_rfl) (fun w o hSw ho => ?_) hHeld ?_
  · obtain rfl := Option.some.inj ho; go_simp
  simp only [Act.put, List.setIfInBounds_toArray, List.set_cons_zero, List.set_cons_succ]
  refine takeR 1 8 (.pointer (some ⟨g, 0, none⟩)) (by kernel_rfl) (by kernel_rfl) (by kernel_rfl) (by kernel_rfl) (fun _ _ _ h => h) (by kernel_rfl) (fun w o hSw ho => ?_) hHeld ?_
  · obtain rfl := Option.some.inj ho; go_simp
  simp only [Act.put, List.setIfInBounds_toArray, List.set_cons_zero, List.set_cons_succ]
  refine takeR 5 12 (.pointer (some ⟨g, 0, none⟩)) (by kernel_rfl) (by kernel_rfl) (by kernel_rfl) (by kernel_rfl) (fun _ _ _ h => h) (by kernel_rfl) (fun w o hSw ho => ?_) hHeld ?_
  · obtain rfl := Option.some.inj ho; go_simp
  simp only [Act.put, List.setIfInBounds_toArray, List.set_cons_zero, List.set_cons_succ]
  refine takeR 2 9 (.pointer (some ⟨g, 3, none⟩)) (by kernel_rfl) (by kernel_rfl) (by kernel_rfl) (by kernel_rfl) (fun _ _ _ h => h) (by kernel_rfl) (fun w o hSw ho => ?_) hHeld ?_
  · obtain rfl := Option.some.inj ho; go_simp
  simp only [Act.put, List.setIfInBounds_toArray, List.set_cons_zero, List.set_cons_succ]
  refine takeR 6 13 (.pointer (some ⟨g, 2, none⟩)) (by kernel_rfl) (by kernel_rfl) (by kernel_rfl) (by kernel_rfl) (fun _ _ _ h => h) (by kernel_rfl) (fun w o hSw ho => ?_) hHeld ?_
  · obtain rfl := Option.some.inj ho; go_simp
  simp only [Act.put, List.setIfInBounds_toArray, List.set_cons_zero, List.set_cons_succ]
  refine takeR 3 10 (.int .i64 b) (by kernel_rfl) (by kernel_rfl) (by kernel_rfl) (by kernel_rfl) (fun _ _ _ h => h) (by kernel_rfl) (fun w o hSw ho => ?_) hHeld ?_
  · obtain rfl := Option.some.inj ho; obtain ⟨z0, z1, z2, z3, z4, z5, z6, z7⟩ := HK.out _ hSw; go_simp
  simp only [Act.put, List.setIfInBounds_toArray, List.set_cons_zero, List.set_cons_succ]
  refine takeR 7 14 (.int .i64 m) (by kernel_rfl) (by kernel_rfl) (by kernel_rfl) (by kernel_rfl) (fun _ _ _ h => h) (by kernel_rfl) (fun w o hSw ho => ?_) hHeld ?_
  · obtain rfl := Option.some.inj ho; obtain ⟨z0, z1, z2, z3, z4, z5, z6, z7⟩ := HK.out _ hSw; go_simp
  simp only [Act.put, List.setIfInBounds_toArray, List.set_cons_zero, List.set_cons_succ]
  refine takeR 8 15 (.int .i64 (4 * m)) (by kernel_rfl) (by kernel_rfl) (by kernel_rfl) (by kernel_rfl) (fun _ _ _ h => h) (by kernel_rfl) (fun w o hSw ho => ?_) hHeld ?_
  · obtain rfl := Option.some.inj ho; go_simp
  simp only [Act.put, List.setIfInBounds_toArray, List.set_cons_zero, List.set_cons_succ]
  refine takeR 9 16 (.int .i64 (b + 4 * m)) (by kernel_rfl) (by kernel_rfl) (by kernel_rfl) (by kernel_rfl) (fun _ _ _ h => h) (by kernel_rfl) (fun w o hSw ho => ?_) hHeld ?_
  · obtain rfl := Option.some.inj ho; go_simp
  simp only [Act.put, List.setIfInBounds_toArray, List.set_cons_zero, List.set_cons_succ]
  refine takeR 10 5 (.int .i64 (b + 4 * m)) (by kernel_rfl) (by kernel_rfl) (by kernel_rfl) (by kernel_rfl) (fun _ _ _ h => h) (by kernel_rfl) (fun w o hSw ho => ?_) hHeld ?_
  · obtain rfl := Option.some.inj ho; go_simp
  simp only [Act.put, List.setIfInBounds_toArray, List.set_cons_zero, List.set_cons_succ]
  refine wpAnyH_done (by kernel_rfl) ?_ _
  refine NoPanic.normal ?_
  go_wp2_with fail
  refine wp_genE (fun W => AtL W g [.int .i64 kind, .int .i64 c, .int .i64 m, .int .i64 b, .int .i64 3, .int .i64 x, .int .i64 y, ds] ∧ Below w.heap.size w W) ⟨HEE.out.on (below_drewN (Below.refl _ _) 1), below_drewN (Below.refl _ _) 1⟩ (fun W hW => ?_)
  obtain ⟨hk, hb⟩ := hW
  clear HK HEE q3 y_2 y_3 y_4 y_5 y_6 hw1 hw2 hw3
  have HK := Lib.hid (fun W' (hW : Below W.heap.size W W') => AtL.eightS (hk.on hW))
  have HB := Lib.hid hb
  clear hk hb
  refine wp_region_noPanic ?_
  refine wp_region_held_drew (S := fun W' => Below (W).heap.size (W) W') (by kernel_rfl) (below_drewN (Below.refl _ _) 1) (fun hHeld => ?_)
  refine takeR 1 34 (.int .i64 (b + 4 * m + 32)) (by kernel_rfl) (by kernel_rfl) (by kernel_rfl) (by kernel_rfl) (fun _ _ _ h => h) (by kernel_rfl) (fun w o hSw ho => ?_) hHeld ?_
  · obtain rfl := Option.some.inj ho; go_simp
  simp only [Act.put, List.setIfInBounds_toArray, List.set_cons_zero, List.set_cons_succ]
  refine takeR 2 35 (.pointer (some ⟨g, 0, none⟩)) (by kernel_rfl) (by kernel_rfl) (by kernel_rfl) (by kernel_rfl) (fun _ _ _ h => h) (by kernel_rfl) (fun w o hSw ho => ?_) hHeld ?_
  · obtain rfl := Option.some.inj ho; go_simp
  simp only [Act.put, List.setIfInBounds_toArray, List.set_cons_zero, List.set_cons_succ]
  refine takeR 7 40 (.pointer (some ⟨g, 0, none⟩)) (by kernel_rfl) (by kernel_rfl) (by kernel_rfl) (by kernel_rfl) (fun _ _ _ h => h) (by kernel_rfl) (fun w o hSw ho => ?_) hHeld ?_
  · obtain rfl := Option.some.inj ho; go_simp
  simp only [Act.put, List.setIfInBounds_toArray, List.set_cons_zero, List.set_cons_succ]
  refine takeR 13 46 (.int .u8 77) (by kernel_rfl) (by kernel_rfl) (by kernel_rfl) (by kernel_rfl) (fun _ _ _ h => h) (by kernel_rfl) (fun w o hSw ho => ?_) hHeld ?_
  · obtain rfl := Option.some.inj ho; go_simp
  simp only [Act.put, List.setIfInBounds_toArray, List.set_cons_zero, List.set_cons_succ]
  refine takeR 3 36 (.pointer (some ⟨g, 0, none⟩)) (by kernel_rfl) (by kernel_rfl) (by kernel_rfl) (by kernel_rfl) (fun _ _ _ h => h) (by kernel_rfl) (fun w o hSw ho => ?_) hHeld ?_
  · obtain rfl := Option.some.inj ho; go_simp
  simp only [Act.put, List.setIfInBounds_toArray, List.set_cons_zero, List.set_cons_succ]
  refine takeR 8 41 (.pointer (some ⟨g, 0, none⟩)) (by kernel_rfl) (by kernel_rfl) (by kernel_rfl) (by kernel_rfl) (fun _ _ _ h => h) (by kernel_rfl) (fun w o hSw ho => ?_) hHeld ?_
  · obtain rfl := Option.some.inj ho; go_simp
  simp only [Act.put, List.setIfInBounds_toArray, List.set_cons_zero, List.set_cons_succ]
  refine takeR 4 37 (.pointer (some ⟨g, 5, none⟩)) (by kernel_rfl) (by kernel_rfl) (by kernel_rfl) (by kernel_rfl) (fun _ _ _ h => h) (by kernel_rfl) (fun w o hSw ho => ?_) hHeld ?_
  · obtain rfl := Option.some.inj ho; go_simp
  simp only [Act.put, List.setIfInBounds_toArray, List.set_cons_zero, List.set_cons_succ]
  refine takeR 9 42 (.pointer (some ⟨g, 6, none⟩)) (by kernel_rfl) (by kernel_rfl) (by kernel_rfl) (by kernel_rfl) (fun _ _ _ h => h) (by kernel_rfl) (fun w o hSw ho => ?_) hHeld ?_
  · obtain rfl := Option.some.inj ho; go_simp
  simp only [Act.put, List.setIfInBounds_toArray, List.set_cons_zero, List.set_cons_succ]
  refine takeR 5 38 (.int .i64 x) (by kernel_rfl) (by kernel_rfl) (by kernel_rfl) (by kernel_rfl) (fun _ _ _ h => h) (by kernel_rfl) (fun w o hSw ho => ?_) hHeld ?_
  · obtain rfl := Option.some.inj ho; obtain ⟨z0, z1, z2, z3, z4, z5, z6, z7⟩ := HK.out _ hSw; go_simp
  simp only [Act.put, List.setIfInBounds_toArray, List.set_cons_zero, List.set_cons_succ]
  refine takeR 10 43 (.int .i64 y) (by kernel_rfl) (by kernel_rfl) (by kernel_rfl) (by kernel_rfl) (fun _ _ _ h => h) (by kernel_rfl) (fun w o hSw ho => ?_) hHeld ?_
  · obtain rfl := Option.some.inj ho; obtain ⟨z0, z1, z2, z3, z4, z5, z6, z7⟩ := HK.out _ hSw; go_simp
  simp only [Act.put, List.setIfInBounds_toArray, List.set_cons_zero, List.set_cons_succ]
  refine takeR 6 39 (.int .i64 (x + 1)) (by kernel_rfl) (by kernel_rfl) (by kernel_rfl) (by kernel_rfl) (fun _ _ _ h => h) (by kernel_rfl) (fun w o hSw ho => ?_) hHeld ?_
  · obtain rfl := Option.some.inj ho; go_simp
  simp only [Act.put, List.setIfInBounds_toArray, List.set_cons_zero, List.set_cons_succ]
  refine takeR 11 44 (.int .i64 (y + 1)) (by kernel_rfl) (by kernel_rfl) (by kernel_rfl) (by kernel_rfl) (fun _ _ _ h => h) (by kernel_rfl) (fun w o hSw ho => ?_) hHeld ?_
  · obtain rfl := Option.some.inj ho; go_simp
  simp only [Act.put, List.setIfInBounds_toArray, List.set_cons_zero, List.set_cons_succ]
  have HT0 : Hid (∀ (V : World) k, k = V.heap.size → Below W.heap.size W V → Own (V.alloc (.cells #[.int .u8 27, .int .u8 91] 5)) W.heap.size (.slice (some ⟨k, 0, none⟩) 2 2) [27, 91]) := fun V k hk hV => (own_lit V [27, 91] _ k 2 hk rfl rfl (by simp)).lower hV.size
  refine twoR 0 12 (by kernel_rfl) (by kernel_rfl) (by kernel_rfl) (fun o ho K' hK => ?_) (fun o ho K' hK => ?_)
  · obtain rfl := Option.some.inj ho
    clear ho
    go_simp
    have HT1 := Lib.hid (HT0.out W.drew (W.heap.size) (by simp) hHeld)
    refine hK.out _ _ (below_on hHeld (below_mk _ _)) (fun hHeld => ?_)
    clear hK K'
    try simp only [Act.put, List.setIfInBounds_toArray, List.set_cons_zero, List.set_cons_succ]
    have HT2 : Hid (Own (((W.alloc (.cells #[.int .u8 27, .int .u8 91] 5)).alloc (.cells #[.int .i64 (b + 4 * m + 32), .int .i64 (x + 1), .int .i64 (y + 1)] 2)).drew) W.heap.size (.slice (some ⟨W.heap.size, 0, none⟩) 2 2) [27, 91]) := HT1.out.on (below_mk (W.drew.alloc (.cells #[.int .u8 27, .int .u8 91] 5)) (.cells #[.int .i64 (b + 4 * m + 32), .int .i64 (x + 1), .int .i64 (y + 1)] 2))
    have HI2 : Hid (Is (((W.alloc (.cells #[.int .u8 27, .int .u8 91] 5)).alloc (.cells #[.int .i64 (b + 4 * m + 32), .int .i64 (x + 1), .int .i64 (y + 1)] 2)).drew) (((W.alloc (.cells #[.int .u8 27, .int .u8 91] 5)).alloc (.cells #[.int .i64 (b + 4 * m + 32), .int .i64 (x + 1), .int .i64 (y + 1)] 2)).drew).heap.size (some ⟨W.heap.size + 1, 0, none⟩) [(b + 4 * m + 32), x + 1, y + 1]) := HIS.out (W.drew.alloc (.cells #[.int .u8 27, .int .u8 91] 5)) (W.heap.size + 1) (by simp)
    refine oneR 12 (by kernel_rfl) (by kernel_rfl) (fun o ho K' hK => ?_)
    obtain rfl := Option.some.inj ho
    clear ho
    go_simp
    refine hK.out _ _ (below_on hHeld (below_mk _ _)) (fun hHeld => ?_)
    clear hK K'
    try simp only [Act.put, List.setIfInBounds_toArray, List.set_cons_zero, List.set_cons_succ]
    refine oneR 14 (by kernel_rfl) (by kernel_rfl) (fun o ho K' hK => ?_)
    obtain rfl := Option.some.inj ho
    clear ho
    go_simp
    refine (HL2.out _ _ HI2.out).mono ?_
    rintro e V2 ⟨v2, rfl, ho2, hb2⟩
    obtain ⟨g1, cap1, hv, hlc⟩ := own_room ho2 hne
    subst hv
    have HT9 := Lib.hid (HT2.out.on hb2)
    have HS9 := Lib.hid ho2.bs.2
    have HV2 := Lib.hid (below_on hHeld hb2)
    clear ho2 hb2 hHeld
    go_wp2_with fail
    refine hK.out _ _ (HV2.out) (fun hHeld => ?_)
    clear hK K'
    try simp only [Act.put, List.setIfInBounds_toArray, List.set_cons_zero, List.set_cons_succ]
    have HVX := Lib.hid hHeld
    refine oneR 15 (by kernel_rfl) (by kernel_rfl) (fun o ho K' hK => ?_)
    obtain rfl := Option.some.inj ho
    clear ho
    refine wp_append_own _ _ _ 24 rfl W.heap.size 5 i0 (.int .u8 0) 1 1 Tryz.underlying24 HI.out.1 HI.out.2.1 HI.out.2.2.1 HI.out.2.2.2 rfl (by decide) _ _ _ rfl HT9.out ⟨g1, 0, none⟩ L.length cap1 (L.map (fun x : UInt8 => Value.int .u8 (x.toNat : Int))) rfl (by simp) (news_bs HS9.out) (one_cells _) (by unfold maxLen; simp; omega) (by simp; omega) HVX.out.size ?_
    intro v4 wA hownA hgrowA _
    have HA := Lib.hid (grew2 (l := [27, 91]) HT9.out HVX.out hownA hgrowA)
    clear hownA hgrowA hHeld
    change K' (Act.put _ (some 48) v4) wA
    refine hK.out _ _ (HA.out.2) (fun hHeld => ?_)
    clear hK K'
    try simp only [Act.put, List.setIfInBounds_toArray, List.set_cons_zero, List.set_cons_succ]
    refine takeR 16 4 (v4) (by kernel_rfl) (by kernel_rfl) (by kernel_rfl) (by kernel_rfl) (fun _ _ _ h => h) (by kernel_rfl) (fun w o hSw ho => ?_) hHeld ?_
    · obtain rfl := Option.some.inj ho; go_simp
    simp only [Act.put, List.setIfInBounds_toArray, List.set_cons_zero, List.set_cons_succ]
    refine wpAnyH_done (by kernel_rfl) ?_ _
    refine NoPanic.normal ?_
    have HE : Hid (NewOwn w ([27, 91] ++ L) (.returned v4) wA) := ⟨_, rfl, HA.out.1.lower HB.out.size, below_on HB.out HA.out.2⟩
    go_wp2_with fail
    go_ret
    exact HE.out
  · obtain rfl := Option.some.inj ho
    clear ho
    go_simp
    have HI1 : Hid (Is ((W.alloc (.cells #[.int .i64 (b + 4 * m + 32), .int .i64 (x + 1), .int .i64 (y + 1)] 2)).drew) ((W.alloc (.cells #[.int .i64 (b + 4 * m + 32), .int .i64 (x + 1), .int .i64 (y + 1)] 2)).drew).heap.size (some ⟨W.heap.size, 0, none⟩) [(b + 4 * m + 32), x + 1, y + 1]) := HIS.out W.drew (W.heap.size) (by simp)
    refine hK.out _ _ (below_on hHeld (below_mk _ _)) (fun hHeld => ?_)
    clear hK K'
    try simp only [Act.put, List.setIfInBounds_toArray, List.set_cons_zero, List.set_cons_succ]
    refine twoR 0 14 (by kernel_rfl) (by kernel_rfl) (by kernel_rfl) (fun o ho K' hK => ?_) (fun o ho K' hK => ?_)
    · obtain rfl := Option.some.inj ho
      clear ho
      go_simp
      have HT2 : Hid (Own (((W.alloc (.cells #[.int .i64 (b + 4 * m + 32), .int .i64 (x + 1), .int .i64 (y + 1)] 2)).alloc (.cells #[.int .u8 27, .int .u8 91] 5)).drew) W.heap.size (.slice (some ⟨W.heap.size + 1, 0, none⟩) 2 2) [27, 91]) := HT0.out (W.drew.alloc (.cells #[.int .i64 (b + 4 * m + 32), .int .i64 (x + 1), .int .i64 (y + 1)] 2)) (W.heap.size + 1) (by simp) hHeld
      have HI2 : Hid (Is (((W.alloc (.cells #[.int .i64 (b + 4 * m + 32), .int .i64 (x + 1), .int .i64 (y + 1)] 2)).alloc (.cells #[.int .u8 27, .int .u8 91] 5)).drew) (((W.alloc (.cells #[.int .i64 (b + 4 * m + 32), .int .i64 (x + 1), .int .i64 (y + 1)] 2)).alloc (.cells #[.int .u8 27, .int .u8 91] 5)).drew).heap.size (some ⟨W.heap.size, 0, none⟩) [(b + 4 * m + 32), x + 1, y + 1]) := HI1.out.on (below_mk (W.drew.alloc (.cells #[.int .i64 (b + 4 * m + 32), .int .i64 (x + 1), .int .i64 (y + 1)] 2)) (.cells #[.int .u8 27, .int .u8 91] 5))
      refine hK.out _ _ (below_on hHeld (below_mk _ _)) (fun hHeld => ?_)
      clear hK K'
      try simp only [Act.put, List.setIfInBounds_toArray, List.set_cons_zero, List.set_cons_succ]
      refine oneR 14 (by kernel_rfl) (by kernel_rfl) (fun o ho K' hK => ?_)
      obtain rfl := Option.some.inj ho
      clear ho
      go_simp
      refine (HL2.out _ _ HI2.out).mono ?_
      rintro e V2 ⟨v2, rfl, ho2, hb2⟩
      obtain ⟨g1, cap1, hv, hlc⟩ := own_room ho2 hne
      subst hv
      have HT9 := Lib.hid (HT2.out.on hb2)
      have HS9 := Lib.hid ho2.bs.2
      have HV2 := Lib.hid (below_on hHeld hb2)
      clear ho2 hb2 hHeld
      go_wp2_with fail
      refine hK.out _ _ (HV2.out) (fun hHeld => ?_)
      clear hK K'
      try simp only [Act.put, List.setIfInBounds_toArray, List.set_cons_zero, List.set_cons_succ]
      have HVX := Lib.hid hHeld
      refine oneR 15 (by kernel_rfl) (by kernel_rfl) (fun o ho K' hK => ?_)
      obtain rfl := Option.some.inj ho
      clear ho
      refine wp_append_own _ _ _ 24 rfl W.heap.size 5 i0 (.int .u8 0) 1 1 Tryz.underlying24 HI.out.1 HI.out.2.1 HI.out.2.2.1 HI.out.2.2.2 rfl (by decide) _ _ _ rfl HT9.out ⟨g1, 0, none⟩ L.length cap1 (L.map (fun x : UInt8 => Value.int .u8 (x.toNat : Int))) rfl (by simp) (news_bs HS9.out) (one_cells _) (by unfold maxLen; simp; omega) (by simp; omega) HVX.out.size ?_
      intro v4 wA hownA hgrowA _
      have HA := Lib.hid (grew2 (l := [27, 91]) HT9.out HVX.out hownA hgrowA)
      clear hownA hgrowA hHeld
      change K' (Act.put _ (some 48) v4) wA
      refine hK.out _ _ (HA.out.2) (fun hHeld => ?_)
      clear hK K'
      try simp only [Act.put, List.setIfInBounds_toArray, List.set_cons_zero, List.set_cons_succ]
      refine takeR 16 4 (v4) (by kernel_rfl) (by kernel_rfl) (by kernel_rfl) (by kernel_rfl) (fun _ _ _ h => h) (by kernel_rfl) (fun w o hSw ho => ?_) hHeld ?_
      · obtain rfl := Option.some.inj ho; go_simp
      simp only [Act.put, List.setIfInBounds_toArray, List.set_cons_zero, List.set_cons_succ]
      refine wpAnyH_done (by kernel_rfl) ?_ _
      refine NoPanic.normal ?_
      have HE : Hid (NewOwn w ([27, 91] ++ L) (.returned v4) wA) := ⟨_, rfl, HA.out.1.lower HB.out.size, below_on HB.out HA.out.2⟩
      go_wp2_with fail
      go_ret
      exact HE.out
    · obtain rfl := Option.some.inj ho
      clear ho
      go_simp
      refine (HL2.out _ _ HI1.out).mono ?_
      rintro e V2 ⟨v2, rfl, ho2, hb2⟩
      obtain ⟨g1, cap1, hv, hlc⟩ := own_room ho2 hne
      subst hv
      have HV2 := Lib.hid (below_on hHeld hb2)
      have HS8 := Lib.hid ho2
      clear ho2 hb2 hHeld
      go_wp2_with fail
      refine hK.out _ _ (HV2.out) (fun hHeld => ?_)
      clear hK K'
      try simp only [Act.put, List.setIfInBounds_toArray, List.set_cons_zero, List.set_cons_succ]
      refine oneR 0 (by kernel_rfl) (by kernel_rfl) (fun o ho K' hK => ?_)
      obtain rfl := Option.some.inj ho
      clear ho
      go_simp
      have HT9 := Lib.hid (HT0.out V2 _ rfl hHeld)
      have HS9 := Lib.hid ((HS8.out.on (below_mk V2 (.cells #[.int .u8 27, .int .u8 91] 5))).bs.2)
      refine hK.out _ _ (below_on hHeld (below_mk _ _)) (fun hHeld => ?_)
      clear hK K'
      try simp only [Act.put, List.setIfInBounds_toArray, List.set_cons_zero, List.set_cons_succ]
      have HVX := Lib.hid hHeld
      refine oneR 15 (by kernel_rfl) (by kernel_rfl) (fun o ho K' hK => ?_)
      obtain rfl := Option.some.inj ho
      clear ho
      refine wp_append_own _ _ _ 24 rfl W.heap.size 5 i0 (.int .u8 0) 1 1 Tryz.underlying24 HI.out.1 HI.out.2.1 HI.out.2.2.1 HI.out.2.2.2 rfl (by decide) _ _ _ rfl HT9.out ⟨g1, 0, none⟩ L.length cap1 (L.map (fun x : UInt8 => Value.int .u8 (x.toNat : Int))) rfl (by simp) (news_bs HS9.out) (one_cells _) (by unfold maxLen; simp; omega) (by simp; omega) HVX.out.size ?_
      intro v4 wA hownA hgrowA _
      have HA := Lib.hid (grew2 (l := [27, 91]) HT9.out HVX.out hownA hgrowA)
      clear hownA hgrowA hHeld
      change K' (Act.put _ (some 48) v4) wA
      refine hK.out _ _ (HA.out.2) (fun hHeld => ?_)
      clear hK K'
      try simp only [Act.put, List.setIfInBounds_toArray, List.set_cons_zero, List.set_cons_succ]
      refine takeR 16 4 (v4) (by kernel_rfl) (by kernel_rfl) (by kernel_rfl) (by kernel_rfl) (fun _ _ _ h => h) (by kernel_rfl) (fun w o hSw ho => ?_) hHeld ?_
      · obtain rfl := Option.some.inj ho; go_simp
      simp only [Act.put, List.setIfInBounds_toArray, List.set_cons_zero, List.set_cons_succ]
      refine wpAnyH_done (by kernel_rfl) ?_ _
      refine NoPanic.normal ?_
      have HE : Hid (NewOwn w ([27, 91] ++ L) (.returned v4) wA) := ⟨_, rfl, HA.out.1.lower HB.out.size, below_on HB.out HA.out.2⟩
      go_wp2_with fail
      go_ret
      exact HE.out

set_option maxRecDepth 100000 in
set_option maxHeartbeats 8000000 in
theorem l5Mouse_b3 (cu co : Bool) (mo : Int) (pa : Bool) (kind c m b x y : Int) (ds : Value) (u g : Nat) (w : World) (hM : AtL w u [.bool cu, .bool co, .int .i64 mo, .bool false, .bool pa]) (hE : AtL w g [.int .i64 kind, .int .i64 c, .int .i64 m, .int .i64 b, .int .i64 3, .int .i64 x, .int .i64 y, ds]) (b0 : 0 ≤ b) (b2 : b ≤ 2) (m0 : 0 ≤ m) (m7 : m ≤ 7) (x0 : 0 ≤ x) (x9 : x ≤ 199) (y0 : 0 ≤ y) (y9 : y ≤ 199) :
    Calls Tryz.prog 45 #[.pointer (some ⟨u, 0, none⟩), .pointer (some ⟨g, 0, none⟩)] w (NewOwn w [27, 91, 77, byteE (32 + evNum b 3 m), byteE (33 + x), byteE (33 + y)]) := by
  have hev : evNum b 3 m = (b + 4 * m + 32) := by
    unfold evNum
    rw [if_pos rfl]
  have hv1 : ((byteE (32 + evNum b 3 m)).toNat : Int) = 32 + (b + 4 * m + 32) := by rw [hev]; exact byteE_val (by omega) (by omega)
  have hv2 : ((byteE (33 + x)).toNat : Int) = 33 + x := byteE_val (by omega) (by omega)
  have hv3 : ((byteE (33 + y)).toNat : Int) = 33 + y := byteE_val (by omega) (by omega)
  have HLIT : Hid (∀ W : World, NewOwn W [27, 91, 77, byteE (32 + evNum b 3 m), byteE (33 + x), byteE (33 + y)] (.returned (.slice (some ⟨W.heap.size, 0, none⟩) 6 6)) (W.alloc (.cells #[.int .u8 27, .int .u8 91, .int .u8 77, .int .u8 (32 + (b + 4 * m + 32)), .int .u8 (33 + x), .int .u8 (33 + y)] 5))) := fun W =>
    ⟨_, rfl, own_lit W [27, 91, 77, byteE (32 + evNum b 3 m), byteE (33 + x), byteE (33 + y)] _ _ 6 rfl rfl (by simp [bcells, hv1, hv2, hv3]) (by simp), below_mk W _⟩
  clear hv1 hv2 hv3 hev
  generalize hl6 : [27, 91, 77, byteE (32 + evNum b 3 m), byteE (33 + x), byteE (33 + y)] = L at *
  clear hl6
  have hx1 : IntKind.i64.wrap (b + 4 * m - b) = b + 4 * m - b := IntWalk.i64_in _ ⟨by omega, by omega⟩
  have hx2 : IntKind.i64.wrap (b + 4 * m - b + 3) = b + 4 * m - b + 3 := IntWalk.i64_in _ ⟨by omega, by omega⟩
  have hx3 : IntKind.i64.wrap (32 + (b + 4 * m + 32)) = 32 + (b + 4 * m + 32) := IntWalk.i64_in _ ⟨by omega, by omega⟩
  have hx4 : IntKind.i64.wrap (33 + x) = 33 + x := IntWalk.i64_in _ ⟨by omega, by omega⟩
  have hx5 : IntKind.i64.wrap (33 + y) = 33 + y := IntWalk.i64_in _ ⟨by omega, by omega⟩
  have hx6 : IntKind.u8.wrap (32 + (b + 4 * m + 32)) = 32 + (b + 4 * m + 32) := IntWalk.u8_in _ ⟨by omega, by omega⟩
  have hx7 : IntKind.u8.wrap (33 + x) = 33 + x := IntWalk.u8_in _ ⟨by omega, by omega⟩
  have hx8 : IntKind.u8.wrap (33 + y) = 33 + y := IntWalk.u8_in _ ⟨by omega, by omega⟩
  have hw1 : IntKind.i64.wrap (4 * m) = 4 * m := IntWalk.i64_in _ ⟨by omega, by omega⟩
  have hw2 : IntKind.i64.wrap (b + 4 * m) = b + 4 * m := IntWalk.i64_in _ ⟨by omega, by omega⟩
  have hw3 : IntKind.i64.wrap (b + 4 * m + 32) = b + 4 * m + 32 := IntWalk.i64_in _ ⟨by omega, by omega⟩
  have hw4 : IntKind.i64.wrap (x + 1) = x + 1 := IntWalk.i64_in _ ⟨by omega, by omega⟩
  have hw5 : IntKind.i64.wrap (y + 1) = y + 1 := IntWalk.i64_in _ ⟨by omega, by omega⟩
  have HEE := Lib.hid hE
  have HEE := Lib.hid hE
  have HK := Lib.hid (fun W' (hW : Below w.heap.size w W') => AtL.eightS (hE.on hW))
  obtain ⟨q0, q1, q2, q3, q4⟩ := hM.five
  obtain ⟨y_0, y_1, y_2, y_3, y_4, y_5, y_6, y_7⟩ := AtL.eightS hE
  clear hM hE q0 q1 q2 q4 y_0 y_1 y_7
  go_enter Tryz.func45, Tryz.ntmps45
  go_wp2_with fail
  refine wp_region_noPanic ?_
  refine wp_region_held_drew (S := fun W' => Below (w).heap.size (w) W') (by kernel_rfl) (below_drewN (Below.refl _ _) 1) (fun hHeld => ?_)
  refine takeR 0 7 (.pointer (some ⟨g, 0, none⟩)) (by kernel_rfl) (by kernel_rfl) (by kernel_rfl) (by kernel_rfl) (fun _ _ _ h => h) (by kernel_rfl) (fun w o hSw ho => ?_) hHeld ?_
  · obtain rfl := Option.some.inj ho; go_simp
  simp only [Act.put, List.setIfInBounds_toArray, List.set_cons_zero, List.set_cons_succ]
  refine takeR 4 11 (.pointer (some ⟨g, 0, none⟩)) (by kernel_rfl) (by kernel_rfl) (by kernel_rfl) (by kernel_rfl) (fun _ _ _ h => h) (by kernel_rfl) (fun w o hSw ho => ?_) hHeld ?_
  · obtain rfl := Option.some.inj ho; go_simp
  simp only [Act.put, List.setIfInBounds_toArray, List.set_cons_zero, List.set_cons_succ]
  refine takeR 1 8 (.pointer (some ⟨g, 0, none⟩)) (by kernel_rfl) (by kernel_rfl) (by kernel_rfl) (by kernel_rfl) (fun _ _ _ h => h) (by kernel_rfl) (fun w o hSw ho => ?_) hHeld ?_
  · obtain rfl := Option.some.inj ho; go_simp
  simp only [Act.put, List.setIfInBounds_toArray, List.set_cons_zero, List.set_cons_succ]
  refine takeR 5 12 (.pointer (some ⟨g, 0, none⟩)) (by kernel_rfl) (by kernel_rfl) (by kernel_rfl) (by kernel_rfl) (fun _ _ _ h => h) (by kernel_rfl) (fun w o hSw ho => ?_) hHeld ?_
  · obtain rfl := Option.some.inj ho; go_simp
  simp only [Act.put, List.setIfInBounds_toArray, List.set_cons_zero, List.set_cons_succ]
  refine takeR 2 9 (.pointer (some ⟨g, 3, none⟩)) (by kernel_rfl) (by kernel_rfl) (by kernel_rfl) (by kernel_rfl) (fun _ _ _ h => h) (by kernel_rfl) (fun w o hSw ho => ?_) hHeld ?_
  · obtain rfl := Option.some.inj ho; go_simp
  simp only [Act.put, List.setIfInBounds_toArray, List.set_cons_zero, List.set_cons_succ]
  refine takeR 6 13 (.pointer (some ⟨g, 2, none⟩)) (by kernel_rfl) (by kernel_rfl) (by kernel_rfl) (by kernel_rfl) (fun _ _ _ h => h) (by kernel_rfl) (fun w o hSw ho => ?_) hHeld ?_
  · obtain rfl := Option.some.inj ho; go_simp
  simp only [Act.put, List.setIfInBounds_toArray, List.set_cons_zero, List.set_cons_succ]
  refine takeR 3 10 (.int .i64 b) (by kernel_rfl) (by kernel_rfl) (by kernel_rfl) (by kernel_rfl) (fun _ _ _ h => h) (by kernel_rfl) (fun w o hSw ho => ?_) hHeld ?_
  · obtain rfl := Option.some.inj ho; obtain ⟨z0, z1, z2, z3, z4, z5, z6, z7⟩ := HK.out _ hSw; go_simp
  simp only [Act.put, List.setIfInBounds_toArray, List.set_cons_zero, List.set_cons_succ]
  refine takeR 7 14 (.int .i64 m) (by kernel_rfl) (by kernel_rfl) (by kernel_rfl) (by kernel_rfl) (fun _ _ _ h => h) (by kernel_rfl) (fun w o hSw ho => ?_) hHeld ?_
  · obtain rfl := Option.some.inj ho; obtain ⟨z0, z1, z2, z3, z4, z5, z6, z7⟩ := HK.out _ hSw; go_simp
  simp only [Act.put, List.setIfInBounds_toArray, List.set_cons_zero, List.set_cons_succ]
  refine takeR 8 15 (.int .i64 (4 * m)) (by kernel_rfl) (by kernel_rfl) (by kernel_rfl) (by kernel_rfl) (fun _ _ _ h => h) (by kernel_rfl) (fun w o hSw ho => ?_) hHeld ?_
  · obtain rfl := Option.some.inj ho; go_simp
  simp only [Act.put, List.setIfInBounds_toArray, List.set_cons_zero, List.set_cons_succ]
  refine takeR 9 16 (.int .i64 (b + 4 * m)) (by kernel_rfl) (by kernel_rfl) (by kernel_rfl) (by kernel_rfl) (fun _ _ _ h => h) (by kernel_rfl) (fun w o hSw ho => ?_) hHeld ?_
  · obtain rfl := Option.some.inj ho; go_simp
  simp only [Act.put, List.setIfInBounds_toArray, List.set_cons_zero, List.set_cons_succ]
  refine takeR 10 5 (.int .i64 (b + 4 * m)) (by kernel_rfl) (by kernel_rfl) (by kernel_rfl) (by kernel_rfl) (fun _ _ _ h => h) (by kernel_rfl) (fun w o hSw ho => ?_) hHeld ?_
  · obtain rfl := Option.some.inj ho; go_simp
  simp only [Act.put, List.setIfInBounds_toArray, List.set_cons_zero, List.set_cons_succ]
  refine wpAnyH_done (by kernel_rfl) ?_ _
  refine NoPanic.normal ?_
  go_wp2_with fail
  refine wp_genE (fun W => AtL W g [.int .i64 kind, .int .i64 c, .int .i64 m, .int .i64 b, .int .i64 3, .int .i64 x, .int .i64 y, ds] ∧ Below w.heap.size w W) ⟨HEE.out.on (below_drewN (Below.refl _ _) 1), below_drewN (Below.refl _ _) 1⟩ (fun W hW => ?_)
  obtain ⟨hk, hb⟩ := hW
  clear HK HEE q3 y_2 y_3 y_4 y_5 y_6 hw1 hw2 hw3 hx1 hx2
  have HK := Lib.hid (fun W' (hW : Below W.heap.size W W') => AtL.eightS (hk.on hW))
  have HB := Lib.hid hb
  clear hk hb
  refine wp_region_noPanic ?_
  refine wp_region_held_drew (S := fun W' => Below (W).heap.size (W) W') (by kernel_rfl) (below_drewN (Below.refl _ _) 1) (fun hHeld => ?_)
  refine takeR 0 61 (.int .i64 (b + 4 * m + 32)) (by kernel_rfl) (by kernel_rfl) (by kernel_rfl) (by kernel_rfl) (fun _ _ _ h => h) (by kernel_rfl) (fun w o hSw ho => ?_) hHeld ?_
  · obtain rfl := Option.some.inj ho; go_simp
  simp only [Act.put, List.setIfInBounds_toArray, List.set_cons_zero, List.set_cons_succ]
  refine takeR 3 64 (.pointer (some ⟨g, 0, none⟩)) (by kernel_rfl) (by kernel_rfl) (by kernel_rfl) (by kernel_rfl) (fun _ _ _ h => h) (by kernel_rfl) (fun w o hSw ho => ?_) hHeld ?_
  · obtain rfl := Option.some.inj ho; go_simp
  simp only [Act.put, List.setIfInBounds_toArray, List.set_cons_zero, List.set_cons_succ]
  refine takeR 9 70 (.pointer (some ⟨g, 0, none⟩)) (by kernel_rfl) (by kernel_rfl) (by kernel_rfl) (by kernel_rfl) (fun _ _ _ h => h) (by kernel_rfl) (fun w o hSw ho => ?_) hHeld ?_
  · obtain rfl := Option.some.inj ho; go_simp
  simp only [Act.put, List.setIfInBounds_toArray, List.set_cons_zero, List.set_cons_succ]
  refine takeR 1 62 (.int .i64 (32 + (b + 4 * m + 32))) (by kernel_rfl) (by kernel_rfl) (by kernel_rfl) (by kernel_rfl) (fun _ _ _ h => h) (by kernel_rfl) (fun w o hSw ho => ?_) hHeld ?_
  · obtain rfl := Option.some.inj ho; go_simp
  simp only [Act.put, List.setIfInBounds_toArray, List.set_cons_zero, List.set_cons_succ]
  refine takeR 4 65 (.pointer (some ⟨g, 0, none⟩)) (by kernel_rfl) (by kernel_rfl) (by kernel_rfl) (by kernel_rfl) (fun _ _ _ h => h) (by kernel_rfl) (fun w o hSw ho => ?_) hHeld ?_
  · obtain rfl := Option.some.inj ho; go_simp
  simp only [Act.put, List.setIfInBounds_toArray, List.set_cons_zero, List.set_cons_succ]
  refine takeR 10 71 (.pointer (some ⟨g, 0, none⟩)) (by kernel_rfl) (by kernel_rfl) (by kernel_rfl) (by kernel_rfl) (fun _ _ _ h => h) (by kernel_rfl) (fun w o hSw ho => ?_) hHeld ?_
  · obtain rfl := Option.some.inj ho; go_simp
  simp only [Act.put, List.setIfInBounds_toArray, List.set_cons_zero, List.set_cons_succ]
  refine takeR 2 63 (.int .u8 (32 + (b + 4 * m + 32))) (by kernel_rfl) (by kernel_rfl) (by kernel_rfl) (by kernel_rfl) (fun _ _ _ h => h) (by kernel_rfl) (fun w o hSw ho => ?_) hHeld ?_
  · obtain rfl := Option.some.inj ho; go_simp
  simp only [Act.put, List.setIfInBounds_toArray, List.set_cons_zero, List.set_cons_succ]
  refine takeR 5 66 (.pointer (some ⟨g, 5, none⟩)) (by kernel_rfl) (by kernel_rfl) (by kernel_rfl) (by kernel_rfl) (fun _ _ _ h => h) (by kernel_rfl) (fun w o hSw ho => ?_) hHeld ?_
  · obtain rfl := Option.some.inj ho; go_simp
  simp only [Act.put, List.setIfInBounds_toArray, List.set_cons_zero, List.set_cons_succ]
  refine takeR 11 72 (.pointer (some ⟨g, 6, none⟩)) (by kernel_rfl) (by kernel_rfl) (by kernel_rfl) (by kernel_rfl) (fun _ _ _ h => h) (by kernel_rfl) (fun w o hSw ho => ?_) hHeld ?_
  · obtain rfl := Option.some.inj ho; go_simp
  simp only [Act.put, List.setIfInBounds_toArray, List.set_cons_zero, List.set_cons_succ]
  refine takeR 6 67 (.int .i64 x) (by kernel_rfl) (by kernel_rfl) (by kernel_rfl) (by kernel_rfl) (fun _ _ _ h => h) (by kernel_rfl) (fun w o hSw ho => ?_) hHeld ?_
  · obtain rfl := Option.some.inj ho; obtain ⟨z0, z1, z2, z3, z4, z5, z6, z7⟩ := HK.out _ hSw; go_simp
  simp only [Act.put, List.setIfInBounds_toArray, List.set_cons_zero, List.set_cons_succ]
  refine takeR 12 73 (.int .i64 y) (by kernel_rfl) (by kernel_rfl) (by kernel_rfl) (by kernel_rfl) (fun _ _ _ h => h) (by kernel_rfl) (fun w o hSw ho => ?_) hHeld ?_
  · obtain rfl := Option.some.inj ho; obtain ⟨z0, z1, z2, z3, z4, z5, z6, z7⟩ := HK.out _ hSw; go_simp
  simp only [Act.put, List.setIfInBounds_toArray, List.set_cons_zero, List.set_cons_succ]
  refine takeR 7 68 (.int .i64 (33 + x)) (by kernel_rfl) (by kernel_rfl) (by kernel_rfl) (by kernel_rfl) (fun _ _ _ h => h) (by kernel_rfl) (fun w o hSw ho => ?_) hHeld ?_
  · obtain rfl := Option.some.inj ho; go_simp
  simp only [Act.put, List.setIfInBounds_toArray, List.set_cons_zero, List.set_cons_succ]
  refine takeR 13 74 (.int .i64 (33 + y)) (by kernel_rfl) (by kernel_rfl) (by kernel_rfl) (by kernel_rfl) (fun _ _ _ h => h) (by kernel_rfl) (fun w o hSw ho => ?_) hHeld ?_
  · obtain rfl := Option.some.inj ho; go_simp
  simp only [Act.put, List.setIfInBounds_toArray, List.set_cons_zero, List.set_cons_succ]
  refine takeR 8 69 (.int .u8 (33 + x)) (by kernel_rfl) (by kernel_rfl) (by kernel_rfl) (by kernel_rfl) (fun _ _ _ h => h) (by kernel_rfl) (fun w o hSw ho => ?_) hHeld ?_
  · obtain rfl := Option.some.inj ho; go_simp
  simp only [Act.put, List.setIfInBounds_toArray, List.set_cons_zero, List.set_cons_succ]
  refine takeR 14 75 (.int .u8 (33 + y)) (by kernel_rfl) (by kernel_rfl) (by kernel_rfl) (by kernel_rfl) (fun _ _ _ h => h) (by kernel_rfl) (fun w o hSw ho => ?_) hHeld ?_
  · obtain rfl := Option.some.inj ho; go_simp
  simp only [Act.put, List.setIfInBounds_toArray, List.set_cons_zero, List.set_cons_succ]
  refine oneR 15 (by kernel_rfl) (by kernel_rfl) (fun o ho K' hK => ?_)
  obtain rfl := Option.some.inj ho
  clear ho
  go_simp
  refine hK.out _ _ (below_on hHeld (below_mk _ _)) (fun hHeld => ?_)
  clear hK K'
  try simp only [Act.put, List.setIfInBounds_toArray, List.set_cons_zero, List.set_cons_succ]
  have HE : Hid (NewOwn W.drew L (.returned (.slice (some ⟨W.heap.size, 0, none⟩) 6 6)) (W.drew.alloc (.cells #[.int .u8 27, .int .u8 91, .int .u8 77, .int .u8 (32 + (b + 4 * m + 32)), .int .u8 (33 + x), .int .u8 (33 + y)] 5))) := HLIT.out W.drew
  have HE2 : Hid (NewOwn w L (.returned (.slice (some ⟨W.heap.size, 0, none⟩) 6 6)) (W.drew.alloc (.cells #[.int .u8 27, .int .u8 91, .int .u8 77, .int .u8 (32 + (b + 4 * m + 32)), .int .u8 (33 + x), .int .u8 (33 + y)] 5))) := by
    obtain ⟨v, he, ho, hb⟩ := HE.out
    exact ⟨v, he, ho.lower (by have := HB.out.size; simpa using this), below_on HB.out hHeld⟩
  refine takeR 16 4 (.slice (some ⟨W.heap.size, 0, none⟩) 6 6) (by kernel_rfl) (by kernel_rfl) (by kernel_rfl) (by kernel_rfl) (fun _ _ _ h => h) (by kernel_rfl) (fun w o hSw ho => ?_) hHeld ?_
  · obtain rfl := Option.some.inj ho; go_simp
  simp only [Act.put, List.setIfInBounds_toArray, List.set_cons_zero, List.set_cons_succ]
  refine wpAnyH_done (by kernel_rfl) ?_ _
  refine NoPanic.normal ?_
  go_wp2_with fail
  go_ret
  exact HE2.out

set_option maxRecDepth 100000 in
set_option maxHeartbeats 8000000 in
theorem l5Mouse_sa (cu co : Bool) (mo : Int) (pa : Bool) (kind c m b a x y : Int) (ds : Value) (u g : Nat) (w : World) (hM : AtL w u [.bool cu, .bool co, .int .i64 mo, .bool true, .bool pa]) (hE : AtL w g [.int .i64 kind, .int .i64 c, .int .i64 m, .int .i64 b, .int .i64 a, .int .i64 x, .int .i64 y, ds]) (ha2 : ¬ a = 2) (ha3 : ¬ a = 3) (b0 : 0 ≤ b) (b2 : b ≤ 2) (m0 : 0 ≤ m) (m7 : m ≤ 7) (x0 : 0 ≤ x) (x9 : x ≤ 199) (y0 : 0 ≤ y) (y9 : y ≤ 199) :
    Calls Tryz.prog 45 #[.pointer (some ⟨u, 0, none⟩), .pointer (some ⟨g, 0, none⟩)] w (NewOwn w (seqB true [(b + 4 * m), x + 1, y + 1] 77)) := by
  obtain ⟨i0, hi0, hz0, hz1, hz2⟩ := info_parts Tryz.info_u8
  have HI := Lib.hid (And.intro hi0 (And.intro hz0 (And.intro hz1 hz2)))
  clear hi0 hz0 hz1 hz2
  have hin : inNum [(b + 4 * m), x + 1, y + 1] = true := inNum3 (by omega) (by omega) (by omega) (by omega) (by omega) (by omega)
  have HL2 : Hid (∀ (W : World) (k : Nat), Is W W.heap.size (some ⟨k, 0, none⟩) [(b + 4 * m), x + 1, y + 1] → Calls Tryz.prog 77 #[.bool true, .slice (some ⟨k, 0, none⟩) 3 3, .int .u8 77] W (NewOwn W (pb true [(b + 4 * m), x + 1, y + 1] 77))) := fun W k h => l2Bytes_any true (some ⟨k, 0, none⟩) 3 [(b + 4 * m), x + 1, y + 1] 77 W h hin (by simp)
  have hll := pb_lenS true [(b + 4 * m), x + 1, y + 1] 77 hin (by simp)
  have hne : pb true [(b + 4 * m), x + 1, y + 1] 77 ≠ [] := by unfold pb; simp
  have HIS : Hid (∀ (W : World) k, k = W.heap.size → Is (W.alloc (.cells #[.int .i64 (b + 4 * m), .int .i64 (x + 1), .int .i64 (y + 1)] 2)) (W.alloc (.cells #[.int .i64 (b + 4 * m), .int .i64 (x + 1), .int .i64 (y + 1)] 2)).heap.size (some ⟨k, 0, none⟩) [(b + 4 * m), x + 1, y + 1]) := fun W k hk => is_lit W _ _ rfl _ k hk
  unfold seqB
  generalize pb true [(b + 4 * m), x + 1, y + 1] 77 = L at *
  clear hin
  have hw1 : IntKind.i64.wrap (4 * m) = 4 * m := IntWalk.i64_in _ ⟨by omega, by omega⟩
  have hw2 : IntKind.i64.wrap (b + 4 * m) = b + 4 * m := IntWalk.i64_in _ ⟨by omega, by omega⟩
  have hw3 : IntKind.i64.wrap (b + 4 * m + 32) = b + 4 * m + 32 := IntWalk.i64_in _ ⟨by omega, by omega⟩
  have hw4 : IntKind.i64.wrap (x + 1) = x + 1 := IntWalk.i64_in _ ⟨by omega, by omega⟩
  have hw5 : IntKind.i64.wrap (y + 1) = y + 1 := IntWalk.i64_in _ ⟨by omega, by omega⟩
  have HEE := Lib.hid hE
  have HK := Lib.hid (fun W' (hW : Below w.heap.size w W') => AtL.eightS (hE.on hW))
  obtain ⟨q0, q1, q2, q3, q4⟩ := hM.five
  obtain ⟨y_0, y_1, y_2, y_3, y_4, y_5, y_6, y_7⟩ := AtL.eightS hE
  clear hM hE q0 q1 q2 q4 y_0 y_1 y_7
  go_enter Tryz.func45, Tryz.ntmps45
  go_wp2_with fail
  refine wp_region_noPanic ?_
  refine wp_region_held_drew (S := fun W' => Below (w).heap.size (w) W') (by kernel_rfl) (below_drewN (Below.refl _ _) 1) (fun hHeld => ?_)
  refine takeR 0 7 (.pointer (some ⟨g, 0, none⟩)) (by kernel_rfl) (by kernel_rfl) (by kernel_rfl) (by kernel_rfl) (fun _ _ _ h => h) (by kernel_rfl) (fun w o hSw ho => ?_) hHeld ?_
  · obtain rfl := Option.some.inj ho; go_simp
  simp only [Act.put, List.setIfInBounds_toArray, List.set_cons_zero, List.set_cons_succ]
  refine takeR 4 11 (.pointer (some ⟨g, 0, none⟩)) (by kernel_rfl) (by kernel_rfl) (by kernel_rfl) (by kernel_rfl) (fun _ _ _ h => h) (by kernel_rfl) (fun w o hSw ho => ?_) hHeld ?_
  · obtain rfl := Option.some.inj ho; go_simp
  simp only [Act.put, List.setIfInBounds_toArray, List.set_cons_zero, List.set_cons_succ]
  refine takeR 1 8 (.pointer (some ⟨g, 0, none⟩)) (by kernel_rfl) (by kernel_rfl) (by kernel_rfl) (by kernel_rfl) (fun _ _ _ h => h) (by kernel_rfl) (fun w o hSw ho => ?_) hHeld ?_
  · obtain rfl := Option.some.inj ho; go_simp
  simp only [Act.put, List.setIfInBounds_toArray, List.set_cons_zero, List.set_cons_succ]
  refine takeR 5 12 (.pointer (some ⟨g, 0, none⟩)) (by kernel_rfl) (by kernel_rfl) (by kernel_rfl) (by kernel_rfl) (fun _ _ _ h => h) (by kernel_rfl) (fun w o hSw ho => ?_) hHeld ?_
  · obtain rfl := Option.some.inj ho; go_simp
  simp only [Act.put, List.setIfInBounds_toArray, List.set_cons_zero, List.set_cons_succ]
  refine takeR 2 9 (.pointer (some ⟨g, 3, none⟩)) (by kernel_rfl) (by kernel_rfl) (by kernel_rfl) (by kernel_rfl) (fun _ _ _ h => h) (by kernel_rfl) (fun w o hSw ho => ?_) hHeld ?_
  · obtain rfl := Option.some.inj ho; go_simp
  simp only [Act.put, List.setIfInBounds_toArray, List.set_cons_zero, List.set_cons_succ]
  refine takeR 6 13 (.pointer (some ⟨g, 2, none⟩)) (by kernel_rfl) (by kernel_rfl) (by kernel_rfl) (by kernel_rfl) (fun _ _ _ h => h) (by kernel_rfl) (fun w o hSw ho => ?_) hHeld ?_
  · obtain rfl := Option.some.inj ho; go_simp
  simp only [Act.put, List.setIfInBounds_toArray, List.set_cons_zero, List.set_cons_succ]
  refine takeR 3 10 (.int .i64 b) (by kernel_rfl) (by kernel_rfl) (by kernel_rfl) (by kernel_rfl) (fun _ _ _ h => h) (by kernel_rfl) (fun w o hSw ho => ?_) hHeld ?_
  · obtain rfl := Option.some.inj ho; obtain ⟨z0, z1, z2, z3, z4, z5, z6, z7⟩ := HK.out _ hSw; go_simp
  simp only [Act.put, List.setIfInBounds_toArray, List.set_cons_zero, List.set_cons_succ]
  refine takeR 7 14 (.int .i64 m) (by kernel_rfl) (by kernel_rfl) (by kernel_rfl) (by kernel_rfl) (fun _ _ _ h => h) (by kernel_rfl) (fun w o hSw ho => ?_) hHeld ?_
  · obtain rfl := Option.some.inj ho; obtain ⟨z0, z1, z2, z3, z4, z5, z6, z7⟩ := HK.out _ hSw; go_simp
  simp only [Act.put, List.setIfInBounds_toArray, List.set_cons_zero, List.set_cons_succ]
  refine takeR 8 15 (.int .i64 (4 * m)) (by kernel_rfl) (by kernel_rfl) (by kernel_rfl) (by kernel_rfl) (fun _ _ _ h => h) (by kernel_rfl) (fun w o hSw ho => ?_) hHeld ?_
  · obtain rfl := Option.some.inj ho; go_simp
  simp only [Act.put, List.setIfInBounds_toArray, List.set_cons_zero, List.set_cons_succ]
  refine takeR 9 16 (.int .i64 (b + 4 * m)) (by kernel_rfl) (by kernel_rfl) (by kernel_rfl) (by kernel_rfl) (fun _ _ _ h => h) (by kernel_rfl) (fun w o hSw ho => ?_) hHeld ?_
  · obtain rfl := Option.some.inj ho; go_simp
  simp only [Act.put, List.setIfInBounds_toArray, List.set_cons_zero, List.set_cons_succ]
  refine takeR 10 5 (.int .i64 (b + 4 * m)) (by kernel_rfl) (by kernel_rfl) (by kernel_rfl) (by kernel_rfl) (fun _ _ _ h => h) (by kernel_rfl) (fun w o hSw ho => ?_) hHeld ?_
  · obtain rfl := Option.some.inj ho; go_simp
  simp only [Act.put, List.setIfInBounds_toArray, List.set_cons_zero, List.set_cons_succ]
  refine wpAnyH_done (by kernel_rfl) ?_ _
  refine NoPanic.normal ?_
  go_wp2_with fail
  refine wp_genE (fun W => AtL W g [.int .i64 kind, .int .i64 c, .int .i64 m, .int .i64 b, .int .i64 a, .int .i64 x, .int .i64 y, ds] ∧ Below w.heap.size w W) ⟨HEE.out.on (below_drewN (Below.refl _ _) 1), below_drewN (Below.refl _ _) 1⟩ (fun W hW => ?_)
  obtain ⟨hk, hb⟩ := hW
  clear HK HEE q3 y_2 y_3 y_4 y_5 y_6 hw1 hw2 hw3
  have HK := Lib.hid (fun W' (hW : Below W.heap.size W W') => AtL.eightS (hk.on hW))
  have HB := Lib.hid hb
  clear hk hb
  refine wp_region_noPanic ?_
  refine wp_region_held_drew (S := fun W' => Below (W).heap.size (W) W') (by kernel_rfl) (below_drewN (Below.refl _ _) 1) (fun hHeld => ?_)
  refine takeR 1 34 (.int .i64 (b + 4 * m)) (by kernel_rfl) (by kernel_rfl) (by kernel_rfl) (by kernel_rfl) (fun _ _ _ h => h) (by kernel_rfl) (fun w o hSw ho => ?_) hHeld ?_
  · obtain rfl := Option.some.inj ho; go_simp
  simp only [Act.put, List.setIfInBounds_toArray, List.set_cons_zero, List.set_cons_succ]
  refine takeR 2 35 (.pointer (some ⟨g, 0, none⟩)) (by kernel_rfl) (by kernel_rfl) (by kernel_rfl) (by kernel_rfl) (fun _ _ _ h => h) (by kernel_rfl) (fun w o hSw ho => ?_) hHeld ?_
  · obtain rfl := Option.some.inj ho; go_simp
  simp only [Act.put, List.setIfInBounds_toArray, List.set_cons_zero, List.set_cons_succ]
  refine takeR 7 40 (.pointer (some ⟨g, 0, none⟩)) (by kernel_rfl) (by kernel_rfl) (by kernel_rfl) (by kernel_rfl) (fun _ _ _ h => h) (by kernel_rfl) (fun w o hSw ho => ?_) hHeld ?_
  · obtain rfl := Option.some.inj ho; go_simp
  simp only [Act.put, List.setIfInBounds_toArray, List.set_cons_zero, List.set_cons_succ]
  refine takeR 13 46 (.int .u8 77) (by kernel_rfl) (by kernel_rfl) (by kernel_rfl) (by kernel_rfl) (fun _ _ _ h => h) (by kernel_rfl) (fun w o hSw ho => ?_) hHeld ?_
  · obtain rfl := Option.some.inj ho; go_simp
  simp only [Act.put, List.setIfInBounds_toArray, List.set_cons_zero, List.set_cons_succ]
  refine takeR 3 36 (.pointer (some ⟨g, 0, none⟩)) (by kernel_rfl) (by kernel_rfl) (by kernel_rfl) (by kernel_rfl) (fun _ _ _ h => h) (by kernel_rfl) (fun w o hSw ho => ?_) hHeld ?_
  · obtain rfl := Option.some.inj ho; go_simp
  simp only [Act.put, List.setIfInBounds_toArray, List.set_cons_zero, List.set_cons_succ]
  refine takeR 8 41 (.pointer (some ⟨g, 0, none⟩)) (by kernel_rfl) (by kernel_rfl) (by kernel_rfl) (by kernel_rfl) (fun _ _ _ h => h) (by kernel_rfl) (fun w o hSw ho => ?_) hHeld ?_
  · obtain rfl := Option.some.inj ho; go_simp
  simp only [Act.put, List.setIfInBounds_toArray, List.set_cons_zero, List.set_cons_succ]
  refine takeR 4 37 (.pointer (some ⟨g, 5, none⟩)) (by kernel_rfl) (by kernel_rfl) (by kernel_rfl) (by kernel_rfl) (fun _ _ _ h => h) (by kernel_rfl) (fun w o hSw ho => ?_) hHeld ?_
  · obtain rfl := Option.some.inj ho; go_simp
  simp only [Act.put, List.setIfInBounds_toArray, List.set_cons_zero, List.set_cons_succ]
  refine takeR 9 42 (.pointer (some ⟨g, 6, none⟩)) (by kernel_rfl) (by kernel_rfl) (by kernel_rfl) (by kernel_rfl) (fun _ _ _ h => h) (by kernel_rfl) (fun w o hSw ho => ?_) hHeld ?_
  · obtain rfl := Option.some.inj ho; go_simp
  simp only [Act.put, List.setIfInBounds_toArray, List.set_cons_zero, List.set_cons_succ]
  refine takeR 5 38 (.int .i64 x) (by kernel_rfl) (by kernel_rfl) (by kernel_rfl) (by kernel_rfl) (fun _ _ _ h => h) (by kernel_rfl) (fun w o hSw ho => ?_) hHeld ?_
  · obtain rfl := Option.some.inj ho; obtain ⟨z0, z1, z2, z3, z4, z5, z6, z7⟩ := HK.out _ hSw; go_simp
  simp only [Act.put, List.setIfInBounds_toArray, List.set_cons_zero, List.set_cons_succ]
  refine takeR 10 43 (.int .i64 y) (by kernel_rfl) (by kernel_rfl) (by kernel_rfl) (by kernel_rfl) (fun _ _ _ h => h) (by kernel_rfl) (fun w o hSw ho => ?_) hHeld ?_
  · obtain rfl := Option.some.inj ho; obtain ⟨z0, z1, z2, z3, z4, z5, z6, z7⟩ := HK.out _ hSw; go_simp
  simp only [Act.put, List.setIfInBounds_toArray, List.set_cons_zero, List.set_cons_succ]
  refine takeR 6 39 (.int .i64 (x + 1)) (by kernel_rfl) (by kernel_rfl) (by kernel_rfl) (by kernel_rfl) (fun _ _ _ h => h) (by kernel_rfl) (fun w o hSw ho => ?_) hHeld ?_
  · obtain rfl := Option.some.inj ho; go_simp
  simp only [Act.put, List.setIfInBounds_toArray, List.set_cons_zero, List.set_cons_succ]
  refine takeR 11 44 (.int .i64 (y + 1)) (by kernel_rfl) (by kernel_rfl) (by kernel_rfl) (by kernel_rfl) (fun _ _ _ h => h) (by kernel_rfl) (fun w o hSw ho => ?_) hHeld ?_
  · obtain rfl := Option.some.inj ho; go_simp
  simp only [Act.put, List.setIfInBounds_toArray, List.set_cons_zero, List.set_cons_succ]
  have HT0 : Hid (∀ (V : World) k, k = V.heap.size → Below W.heap.size W V → Own (V.alloc (.cells #[.int .u8 27, .int .u8 91] 5)) W.heap.size (.slice (some ⟨k, 0, none⟩) 2 2) [27, 91]) := fun V k hk hV => (own_lit V [27, 91] _ k 2 hk rfl rfl (by simp)).lower hV.size
  refine twoR 0 12 (by kernel_rfl) (by kernel_rfl) (by kernel_rfl) (fun o ho K' hK => ?_) (fun o ho K' hK => ?_)
  · obtain rfl := Option.some.inj ho
    clear ho
    go_simp
    have HT1 := Lib.hid (HT0.out W.drew (W.heap.size) (by simp) hHeld)
    refine hK.out _ _ (below_on hHeld (below_mk _ _)) (fun hHeld => ?_)
    clear hK K'
    try simp only [Act.put, List.setIfInBounds_toArray, List.set_cons_zero, List.set_cons_succ]
    have HT2 : Hid (Own (((W.alloc (.cells #[.int .u8 27, .int .u8 91] 5)).alloc (.cells #[.int .i64 (b + 4 * m), .int .i64 (x + 1), .int .i64 (y + 1)] 2)).drew) W.heap.size (.slice (some ⟨W.heap.size, 0, none⟩) 2 2) [27, 91]) := HT1.out.on (below_mk (W.drew.alloc (.cells #[.int .u8 27, .int .u8 91] 5)) (.cells #[.int .i64 (b + 4 * m), .int .i64 (x + 1), .int .i64 (y + 1)] 2))
    have HI2 : Hid (Is (((W.alloc (.cells #[.int .u8 27, .int .u8 91] 5)).alloc (.cells #[.int .i64 (b + 4 * m), .int .i64 (x + 1), .int .i64 (y + 1)] 2)).drew) (((W.alloc (.cells #[.int .u8 27, .int .u8 91] 5)).alloc (.cells #[.int .i64 (b + 4 * m), .int .i64 (x + 1), .int .i64 (y + 1)] 2)).drew).heap.size (some ⟨W.heap.size + 1, 0, none⟩) [(b + 4 * m), x + 1, y + 1]) := HIS.out (W.drew.alloc (.cells #[.int .u8 27, .int .u8 91] 5)) (W.heap.size + 1) (by simp)
    refine oneR 12 (by kernel_rfl) (by kernel_rfl) (fun o ho K' hK => ?_)
    obtain rfl := Option.some.inj ho
    clear ho
    go_simp
    refine hK.out _ _ (below_on hHeld (below_mk _ _)) (fun hHeld => ?_)
    clear hK K'
    try simp only [Act.put, List.setIfInBounds_toArray, List.set_cons_zero, List.set_cons_succ]
    refine oneR 14 (by kernel_rfl) (by kernel_rfl) (fun o ho K' hK => ?_)
    obtain rfl := Option.some.inj ho
    clear ho
    go_simp
    refine (HL2.out _ _ HI2.out).mono ?_
    rintro e V2 ⟨v2, rfl, ho2, hb2⟩
    obtain ⟨g1, cap1, hv, hlc⟩ := own_room ho2 hne
    subst hv
    have HT9 := Lib.hid (HT2.out.on hb2)
    have HS9 := Lib.hid ho2.bs.2
    have HV2 := Lib.hid (below_on hHeld hb2)
    clear ho2 hb2 hHeld
    go_wp2_with fail
    refine hK.out _ _ (HV2.out) (fun hHeld => ?_)
    clear hK K'
    try simp only [Act.put, List.setIfInBounds_toArray, List.set_cons_zero, List.set_cons_succ]
    have HVX := Lib.hid hHeld
    refine oneR 15 (by kernel_rfl) (by kernel_rfl) (fun o ho K' hK => ?_)
    obtain rfl := Option.some.inj ho
    clear ho
    refine wp_append_own _ _ _ 24 rfl W.heap.size 5 i0 (.int .u8 0) 1 1 Tryz.underlying24 HI.out.1 HI.out.2.1 HI.out.2.2.1 HI.out.2.2.2 rfl (by decide) _ _ _ rfl HT9.out ⟨g1, 0, none⟩ L.length cap1 (L.map (fun x : UInt8 => Value.int .u8 (x.toNat : Int))) rfl (by simp) (news_bs HS9.out) (one_cells _) (by unfold maxLen; simp; omega) (by simp; omega) HVX.out.size ?_
    intro v4 wA hownA hgrowA _
    have HA := Lib.hid (grew2 (l := [27, 91]) HT9.out HVX.out hownA hgrowA)
    clear hownA hgrowA hHeld
    change K' (Act.put _ (some 48) v4) wA
    refine hK.out _ _ (HA.out.2) (fun hHeld => ?_)
    clear hK K'
    try simp only [Act.put, List.setIfInBounds_toArray, List.set_cons_zero, List.set_cons_succ]
    refine takeR 16 4 (v4) (by kernel_rfl) (by kernel_rfl) (by kernel_rfl) (by kernel_rfl) (fun _ _ _ h => h) (by kernel_rfl) (fun w o hSw ho => ?_) hHeld ?_
    · obtain rfl := Option.some.inj ho; go_simp
    simp only [Act.put, List.setIfInBounds_toArray, List.set_cons_zero, List.set_cons_succ]
    refine wpAnyH_done (by kernel_rfl) ?_ _
    refine NoPanic.normal ?_
    have HE : Hid (NewOwn w ([27, 91] ++ L) (.returned v4) wA) := ⟨_, rfl, HA.out.1.lower HB.out.size, below_on HB.out HA.out.2⟩
    go_wp2_with fail
    go_ret
    exact HE.out
  · obtain rfl := Option.some.inj ho
    clear ho
    go_simp
    have HI1 : Hid (Is ((W.alloc (.cells #[.int .i64 (b + 4 * m), .int .i64 (x + 1), .int .i64 (y + 1)] 2)).drew) ((W.alloc (.cells #[.int .i64 (b + 4 * m), .int .i64 (x + 1), .int .i64 (y + 1)] 2)).drew).heap.size (some ⟨W.heap.size, 0, none⟩) [(b + 4 * m), x + 1, y + 1]) := HIS.out W.drew (W.heap.size) (by simp)
    refine hK.out _ _ (below_on hHeld (below_mk _ _)) (fun hHeld => ?_)
    clear hK K'
    try simp only [Act.put, List.setIfInBounds_toArray, List.set_cons_zero, List.set_cons_succ]
    refine twoR 0 14 (by kernel_rfl) (by kernel_rfl) (by kernel_rfl) (fun o ho K' hK => ?_) (fun o ho K' hK => ?_)
    · obtain rfl := Option.some.inj ho
      clear ho
      go_simp
      have HT2 : Hid (Own (((W.alloc (.cells #[.int .i64 (b + 4 * m), .int .i64 (x + 1), .int .i64 (y + 1)] 2)).alloc (.cells #[.int .u8 27, .int .u8 91] 5)).drew) W.heap.size (.slice (some ⟨W.heap.size + 1, 0, none⟩) 2 2) [27, 91]) := HT0.out (W.drew.alloc (.cells #[.int .i64 (b + 4 * m), .int .i64 (x + 1), .int .i64 (y + 1)] 2)) (W.heap.size + 1) (by simp) hHeld
      have HI2 : Hid (Is (((W.alloc (.cells #[.int .i64 (b + 4 * m), .int .i64 (x + 1), .int .i64 (y + 1)] 2)).alloc (.cells #[.int .u8 27, .int .u8 91] 5)).drew) (((W.alloc (.cells #[.int .i64 (b + 4 * m), .int .i64 (x + 1), .int .i64 (y + 1)] 2)).alloc (.cells #[.int .u8 27, .int .u8 91] 5)).drew).heap.size (some ⟨W.heap.size, 0, none⟩) [(b + 4 * m), x + 1, y + 1]) := HI1.out.on (below_mk (W.drew.alloc (.cells #[.int .i64 (b + 4 * m), .int .i64 (x + 1), .int .i64 (y + 1)] 2)) (.cells #[.int .u8 27, .int .u8 91] 5))
      refine hK.out _ _ (below_on hHeld (below_mk _ _)) (fun hHeld => ?_)
      clear hK K'
      try simp only [Act.put, List.setIfInBounds_toArray, List.set_cons_zero, List.set_cons_succ]
      refine oneR 14 (by kernel_rfl) (by kernel_rfl) (fun o ho K' hK => ?_)
      obtain rfl := Option.some.inj ho
      clear ho
      go_simp
      refine (HL2.out _ _ HI2.out).mono ?_
      rintro e V2 ⟨v2, rfl, ho2, hb2⟩
      obtain ⟨g1, cap1, hv, hlc⟩ := own_room ho2 hne
      subst hv
      have HT9 := Lib.hid (HT2.out.on hb2)
      have HS9 := Lib.hid ho2.bs.2
      have HV2 := Lib.hid (below_on hHeld hb2)
      clear ho2 hb2 hHeld
      go_wp2_with fail
      refine hK.out _ _ (HV2.out) (fun hHeld => ?_)
      clear hK K'
      try simp only [Act.put, List.setIfInBounds_toArray, List.set_cons_zero, List.set_cons_succ]
      have HVX := Lib.hid hHeld
      refine oneR 15 (by kernel_rfl) (by kernel_rfl) (fun o ho K' hK => ?_)
      obtain rfl := Option.some.inj ho
      clear ho
      refine wp_append_own _ _ _ 24 rfl W.heap.size 5 i0 (.int .u8 0) 1 1 Tryz.underlying24 HI.out.1 HI.out.2.1 HI.out.2.2.1 HI.out.2.2.2 rfl (by decide) _ _ _ rfl HT9.out ⟨g1, 0, none⟩ L.length cap1 (L.map (fun x : UInt8 => Value.int .u8 (x.toNat : Int))) rfl (by simp) (news_bs HS9.out) (one_cells _) (by unfold maxLen; simp; omega) (by simp; omega) HVX.out.size ?_
      intro v4 wA hownA hgrowA _
      have HA := Lib.hid (grew2 (l := [27, 91]) HT9.out HVX.out hownA hgrowA)
      clear hownA hgrowA hHeld
      change K' (Act.put _ (some 48) v4) wA
      refine hK.out _ _ (HA.out.2) (fun hHeld => ?_)
      clear hK K'
      try simp only [Act.put, List.setIfInBounds_toArray, List.set_cons_zero, List.set_cons_succ]
      refine takeR 16 4 (v4) (by kernel_rfl) (by kernel_rfl) (by kernel_rfl) (by kernel_rfl) (fun _ _ _ h => h) (by kernel_rfl) (fun w o hSw ho => ?_) hHeld ?_
      · obtain rfl := Option.some.inj ho; go_simp
      simp only [Act.put, List.setIfInBounds_toArray, List.set_cons_zero, List.set_cons_succ]
      refine wpAnyH_done (by kernel_rfl) ?_ _
      refine NoPanic.normal ?_
      have HE : Hid (NewOwn w ([27, 91] ++ L) (.returned v4) wA) := ⟨_, rfl, HA.out.1.lower HB.out.size, below_on HB.out HA.out.2⟩
      go_wp2_with fail
      go_ret
      exact HE.out
    · obtain rfl := Option.some.inj ho
      clear ho
      go_simp
      refine (HL2.out _ _ HI1.out).mono ?_
      rintro e V2 ⟨v2, rfl, ho2, hb2⟩
      obtain ⟨g1, cap1, hv, hlc⟩ := own_room ho2 hne
      subst hv
      have HV2 := Lib.hid (below_on hHeld hb2)
      have HS8 := Lib.hid ho2
      clear ho2 hb2 hHeld
      go_wp2_with fail
      refine hK.out _ _ (HV2.out) (fun hHeld => ?_)
      clear hK K'
      try simp only [Act.put, List.setIfInBounds_toArray, List.set_cons_zero, List.set_cons_succ]
      refine oneR 0 (by kernel_rfl) (by kernel_rfl) (fun o ho K' hK => ?_)
      obtain rfl := Option.some.inj ho
      clear ho
      go_simp
      have HT9 := Lib.hid (HT0.out V2 _ rfl hHeld)
      have HS9 := Lib.hid ((HS8.out.on (below_mk V2 (.cells #[.int .u8 27, .int .u8 91] 5))).bs.2)
      refine hK.out _ _ (below_on hHeld (below_mk _ _)) (fun hHeld => ?_)
      clear hK K'
      try simp only [Act.put, List.setIfInBounds_toArray, List.set_cons_zero, List.set_cons_succ]
      have HVX := Lib.hid hHeld
      refine oneR 15 (by kernel_rfl) (by kernel_rfl) (fun o ho K' hK => ?_)
      obtain rfl := Option.some.inj ho
      clear ho
      refine wp_append_own _ _ _ 24 rfl W.heap.size 5 i0 (.int .u8 0) 1 1 Tryz.underlying24 HI.out.1 HI.out.2.1 HI.out.2.2.1 HI.out.2.2.2 rfl (by decide) _ _ _ rfl HT9.out ⟨g1, 0, none⟩ L.length cap1 (L.map (fun x : UInt8 => Value.int .u8 (x.toNat : Int))) rfl (by simp) (news_bs HS9.out) (one_cells _) (by unfold maxLen; simp; omega) (by simp; omega) HVX.out.size ?_
      intro v4 wA hownA hgrowA _
      have HA := Lib.hid (grew2 (l := [27, 91]) HT9.out HVX.out hownA hgrowA)
      clear hownA hgrowA hHeld
      change K' (Act.put _ (some 48) v4) wA
      refine hK.out _ _ (HA.out.2) (fun hHeld => ?_)
      clear hK K'
      try simp only [Act.put, List.setIfInBounds_toArray, List.set_cons_zero, List.set_cons_succ]
      refine takeR 16 4 (v4) (by kernel_rfl) (by kernel_rfl) (by kernel_rfl) (by kernel_rfl) (fun _ _ _ h => h) (by kernel_rfl) (fun w o hSw ho => ?_) hHeld ?_
      · obtain rfl := Option.some.inj ho; go_simp
      simp only [Act.put, List.setIfInBounds_toArray, List.set_cons_zero, List.set_cons_succ]
      refine wpAnyH_done (by kernel_rfl) ?_ _
      refine NoPanic.normal ?_
      have HE : Hid (NewOwn w ([27, 91] ++ L) (.returned v4) wA) := ⟨_, rfl, HA.out.1.lower HB.out.size, below_on HB.out HA.out.2⟩
      go_wp2_with fail
      go_ret
      exact HE.out

set_option maxRecDepth 100000 in
set_option maxHeartbeats 8000000 in
theorem l5Mouse_ba (cu co : Bool) (mo : Int) (pa : Bool) (kind c m b a x y : Int) (ds : Value) (u g : Nat) (w : World) (hM : AtL w u [.bool cu, .bool co, .int .i64 mo, .bool false, .bool pa]) (hE : AtL w g [.int .i64 kind, .int .i64 c, .int .i64 m, .int .i64 b, .int .i64 a, .int .i64 x, .int .i64 y, ds]) (ha2 : ¬ a = 2) (ha3 : ¬ a = 3) (b0 : 0 ≤ b) (b2 : b ≤ 2) (m0 : 0 ≤ m) (m7 : m ≤ 7) (x0 : 0 ≤ x) (x9 : x ≤ 199) (y0 : 0 ≤ y) (y9 : y ≤ 199) :
    Calls Tryz.prog 45 #[.pointer (some ⟨u, 0, none⟩), .pointer (some ⟨g, 0, none⟩)] w (NewOwn w [27, 91, 77, byteE (32 + evNum b a m), byteE (33 + x), byteE (33 + y)]) := by
  have hev : evNum b a m = (b + 4 * m) := by
    unfold evNum
    rw [if_neg ha3]; omega
  have hv1 : ((byteE (32 + evNum b a m)).toNat : Int) = 32 + (b + 4 * m) := by rw [hev]; exact byteE_val (by omega) (by omega)
  have hv2 : ((byteE (33 + x)).toNat : Int) = 33 + x := byteE_val (by omega) (by omega)
  have hv3 : ((byteE (33 + y)).toNat : Int) = 33 + y := byteE_val (by omega) (by omega)
  have HLIT : Hid (∀ W : World, NewOwn W [27, 91, 77, byteE (32 + evNum b a m), byteE (33 + x), byteE (33 + y)] (.returned (.slice (some ⟨W.heap.size, 0, none⟩) 6 6)) (W.alloc (.cells #[.int .u8 27, .int .u8 91, .int .u8 77, .int .u8 (32 + (b + 4 * m)), .int .u8 (33 + x), .int .u8 (33 + y)] 5))) := fun W =>
    ⟨_, rfl, own_lit W [27, 91, 77, byteE (32 + evNum b a m), byteE (33 + x), byteE (33 + y)] _ _ 6 rfl rfl (by simp [bcells, hv1, hv2, hv3]) (by simp), below_mk W _⟩
  clear hv1 hv2 hv3 hev
  generalize hl6 : [27, 91, 77, byteE (32 + evNum b a m), byteE (33 + x), byteE (33 + y)] = L at *
  clear hl6
  have hx1 : IntKind.i64.wrap (b + 4 * m - b) = b + 4 * m - b := IntWalk.i64_in _ ⟨by omega, by omega⟩
  have hx2 : IntKind.i64.wrap (b + 4 * m - b + 3) = b + 4 * m - b + 3 := IntWalk.i64_in _ ⟨by omega, by omega⟩
  have hx3 : IntKind.i64.wrap (32 + (b + 4 * m)) = 32 + (b + 4 * m) := IntWalk.i64_in _ ⟨by omega, by omega⟩
  have hx4 : IntKind.i64.wrap (33 + x) = 33 + x := IntWalk.i64_in _ ⟨by omega, by omega⟩
  have hx5 : IntKind.i64.wrap (33 + y) = 33 + y := IntWalk.i64_in _ ⟨by omega, by omega⟩
  have hx6 : IntKind.u8.wrap (32 + (b + 4 * m)) = 32 + (b + 4 * m) := IntWalk.u8_in _ ⟨by omega, by omega⟩
  have hx7 : IntKind.u8.wrap (33 + x) = 33 + x := IntWalk.u8_in _ ⟨by omega, by omega⟩
  have hx8 : IntKind.u8.wrap (33 + y) = 33 + y := IntWalk.u8_in _ ⟨by omega, by omega⟩
  have hw1 : IntKind.i64.wrap (4 * m) = 4 * m := IntWalk.i64_in _ ⟨by omega, by omega⟩
  have hw2 : IntKind.i64.wrap (b + 4 * m) = b + 4 * m := IntWalk.i64_in _ ⟨by omega, by omega⟩
  have hw3 : IntKind.i64.wrap (b + 4 * m + 32) = b + 4 * m + 32 := IntWalk.i64_in _ ⟨by omega, by omega⟩
  have hw4 : IntKind.i64.wrap (x + 1) = x + 1 := IntWalk.i64_in _ ⟨by omega, by omega⟩
  have hw5 : IntKind.i64.wrap (y + 1) = y + 1 := IntWalk.i64_in _ ⟨by omega, by omega⟩
  have HEE := Lib.hid hE
  have HK := Lib.hid (fun W' (hW : Below w.heap.size w W') => AtL.eightS (hE.on hW))
  obtain ⟨q0, q1, q2, q3, q4⟩ := hM.five
  obtain ⟨y_0, y_1, y_2, y_3, y_4, y_5, y_6, y_7⟩ := AtL.eightS hE
  clear hM hE q0 q1 q2 q4 y_0 y_1 y_7
  go_enter Tryz.func45, Tryz.ntmps45
  go_wp2_with fail
  refine wp_region_noPanic ?_
  refine wp_region_held_drew (S := fun W' => Below (w).heap.size (w) W') (by kernel_rfl) (below_drewN (Below.refl _ _) 1) (fun hHeld => ?_)
  refine takeR 0 7 (.pointer (some ⟨g, 0, none⟩)) (by kernel_rfl) (by kernel_rfl) (by kernel_rfl) (by kernel_rfl) (fun _ _ _ h => h) (by kernel_rfl) (fun w o hSw ho => ?_) hHeld ?_
  · obtain rfl := Option.some.inj ho; go_simp
  simp only [Act.put, List.setIfInBounds_toArray, List.set_cons_zero, List.set_cons_succ]
  refine takeR 4 11 (.pointer (some ⟨g, 0, none⟩)) (by kernel_rfl) (by kernel_rfl) (by kernel_rfl) (by kernel_rfl) (fun _ _ _ h => h) (by kernel_rfl) (fun w o hSw ho => ?_) hHeld ?_
  · obtain rfl := Option.some.inj ho; go_simp
  simp only [Act.put, List.setIfInBounds_toArray, List.set_cons_zero, List.set_cons_succ]
  refine takeR 1 8 (.pointer (some ⟨g, 0, none⟩)) (by kernel_rfl) (by kernel_rfl) (by kernel_rfl) (by kernel_rfl) (fun _ _ _ h => h) (by kernel_rfl) (fun w o hSw ho => ?_) hHeld ?_
  · obtain rfl := Option.some.inj ho; go_simp
  simp only [Act.put, List.setIfInBounds_toArray, List.set_cons_zero, List.set_cons_succ]
  refine takeR 5 12 (.pointer (some ⟨g, 0, none⟩)) (by kernel_rfl) (by kernel_rfl) (by kernel_rfl) (by kernel_rfl) (fun _ _ _ h => h) (by kernel_rfl) (fun w o hSw ho => ?_) hHeld ?_
  · obtain rfl := Option.some.inj ho; go_simp
  simp only [Act.put, List.setIfInBounds_toArray, List.set_cons_zero, List.set_cons_succ]
  refine takeR 2 9 (.pointer (some ⟨g, 3, none⟩)) (by kernel_rfl) (by kernel_rfl) (by kernel_rfl) (by kernel_rfl) (fun _ _ _ h => h) (by kernel_rfl) (fun w o hSw ho => ?_) hHeld ?_
  · obtain rfl := Option.some.inj ho; go_simp
  simp only [Act.put, List.setIfInBounds_toArray, List.set_cons_zero, List.set_cons_succ]
  refine takeR 6 13 (.pointer (some ⟨g, 2, none⟩)) (by kernel_rfl) (by kernel_rfl) (by kernel_rfl) (by kernel_rfl) (fun _ _ _ h => h) (by kernel_rfl) (fun w o hSw ho => ?_) hHeld ?_
  · obtain rfl := Option.some.inj ho; go_simp
  simp only [Act.put, List.setIfInBounds_toArray, List.set_cons_zero, List.set_cons_succ]
  refine takeR 3 10 (.int .i64 b) (by kernel_rfl) (by kernel_rfl) (by kernel_rfl) (by kernel_rfl) (fun _ _ _ h => h) (by kernel_rfl) (fun w o hSw ho => ?_) hHeld ?_
  · obtain rfl := Option.some.inj ho; obtain ⟨z0, z1, z2, z3, z4, z5, z6, z7⟩ := HK.out _ hSw; go_simp
  simp only [Act.put, List.setIfInBounds_toArray, List.set_cons_zero, List.set_cons_succ]
  refine takeR 7 14 (.int .i64 m) (by kernel_rfl) (by kernel_rfl) (by kernel_rfl) (by kernel_rfl) (fun _ _ _ h => h) (by kernel_rfl) (fun w o hSw ho => ?_) hHeld ?_
  · obtain rfl := Option.some.inj ho; obtain ⟨z0, z1, z2, z3, z4, z5, z6, z7⟩ := HK.out _ hSw; go_simp
  simp only [Act.put, List.setIfInBounds_toArray, List.set_cons_zero, List.set_cons_succ]
  refine takeR 8 15 (.int .i64 (4 * m)) (by kernel_rfl) (by kernel_rfl) (by kernel_rfl) (by kernel_rfl) (fun _ _ _ h => h) (by kernel_rfl) (fun w o hSw ho => ?_) hHeld ?_
  · obtain rfl := Option.some.inj ho; go_simp
  simp only [Act.put, List.setIfInBounds_toArray, List.set_cons_zero, List.set_cons_succ]
  refine takeR 9 16 (.int .i64 (b + 4 * m)) (by kernel_rfl) (by kernel_rfl) (by kernel_rfl) (by kernel_rfl) (fun _ _ _ h => h) (by kernel_rfl) (fun w o hSw ho => ?_) hHeld ?_
  · obtain rfl := Option.some.inj ho; go_simp
  simp only [Act.put, List.setIfInBounds_toArray, List.set_cons_zero, List.set_cons_succ]
  refine takeR 10 5 (.int .i64 (b + 4 * m)) (by kernel_rfl) (by kernel_rfl) (by kernel_rfl) (by kernel_rfl) (fun _ _ _ h => h) (by kernel_rfl) (fun w o hSw ho => ?_) hHeld ?_
  · obtain rfl := Option.some.inj ho; go_simp
  simp only [Act.put, List.setIfInBounds_toArray, List.set_cons_zero, List.set_cons_succ]
  refine wpAnyH_done (by kernel_rfl) ?_ _
  refine NoPanic.normal ?_
  go_wp2_with fail
  refine wp_genE (fun W => AtL W g [.int .i64 kind, .int .i64 c, .int .i64 m, .int .i64 b, .int .i64 a, .int .i64 x, .int .i64 y, ds] ∧ Below w.heap.size w W) ⟨HEE.out.on (below_drewN (Below.refl _ _) 1), below_drewN (Below.refl _ _) 1⟩ (fun W hW => ?_)
  obtain ⟨hk, hb⟩ := hW
  clear HK HEE q3 y_2 y_3 y_4 y_5 y_6 hw1 hw2 hw3 hx1 hx2
  have HK := Lib.hid (fun W' (hW : Below W.heap.size W W') => AtL.eightS (hk.on hW))
  have HB := Lib.hid hb
  clear hk hb
  refine wp_region_noPanic ?_
  refine wp_region_held_drew (S := fun W' => Below (W).heap.size (W) W') (by kernel_rfl) (below_drewN (Below.refl _ _) 1) (fun hHeld => ?_)
  refine takeR 0 61 (.int .i64 (b + 4 * m)) (by kernel_rfl) (by kernel_rfl) (by kernel_rfl) (by kernel_rfl) (fun _ _ _ h => h) (by kernel_rfl) (fun w o hSw ho => ?_) hHeld ?_
  · obtain rfl := Option.some.inj ho; go_simp
  simp only [Act.put, List.setIfInBounds_toArray, List.set_cons_zero, List.set_cons_succ]
  refine takeR 3 64 (.pointer (some ⟨g, 0, none⟩)) (by kernel_rfl) (by kernel_rfl) (by kernel_rfl) (by kernel_rfl) (fun _ _ _ h => h) (by kernel_rfl) (fun w o hSw ho => ?_) hHeld ?_
  · obtain rfl := Option.some.inj ho; go_simp
  simp only [Act.put, List.setIfInBounds_toArray, List.set_cons_zero, List.set_cons_succ]
  refine takeR 9 70 (.pointer (some ⟨g, 0, none⟩)) (by kernel_rfl) (by kernel_rfl) (by kernel_rfl) (by kernel_rfl) (fun _ _ _ h => h) (by kernel_rfl) (fun w o hSw ho => ?_) hHeld ?_
  · obtain rfl := Option.some.inj ho; go_simp
  simp only [Act.put, List.setIfInBounds_toArray, List.set_cons_zero, List.set_cons_succ]
  refine takeR 1 62 (.int .i64 (32 + (b + 4 * m))) (by kernel_rfl) (by kernel_rfl) (by kernel_rfl) (by kernel_rfl) (fun _ _ _ h => h) (by kernel_rfl) (fun w o hSw ho => ?_) hHeld ?_
  · obtain rfl := Option.some.inj ho; go_simp
  simp only [Act.put, List.setIfInBounds_toArray, List.set_cons_zero, List.set_cons_succ]
  refine takeR 4 65 (.pointer (some ⟨g, 0, none⟩)) (by kernel_rfl) (by kernel_rfl) (by kernel_rfl) (by kernel_rfl) (fun _ _ _ h => h) (by kernel_rfl) (fun w o hSw ho => ?_) hHeld ?_
  · obtain rfl := Option.some.inj ho; go_simp
  simp only [Act.put, List.setIfInBounds_toArray, List.set_cons_zero, List.set_cons_succ]
  refine takeR 10 71 (.pointer (some ⟨g, 0, none⟩)) (by kernel_rfl) (by kernel_rfl) (by kernel_rfl) (by kernel_rfl) (fun _ _ _ h => h) (by kernel_rfl) (fun w o hSw ho => ?_) hHeld ?_
  · obtain rfl := Option.some.inj ho; go_simp
  simp only [Act.put, List.setIfInBounds_toArray, List.set_cons_zero, List.set_cons_succ]
  refine takeR 2 63 (.int .u8 (32 + (b + 4 * m))) (by kernel_rfl) (by kernel_rfl) (by kernel_rfl) (by kernel_rfl) (fun _ _ _ h => h) (by kernel_rfl) (fun w o hSw ho => ?_) hHeld ?_
  · obtain rfl := Option.some.inj ho; go_simp
  simp only [Act.put, List.setIfInBounds_toArray, List.set_cons_zero, List.set_cons_succ]
  refine takeR 5 66 (.pointer (some ⟨g, 5, none⟩)) (by kernel_rfl) (by kernel_rfl) (by kernel_rfl) (by kernel_rfl) (fun _ _ _ h => h) (by kernel_rfl) (fun w o hSw ho => ?_) hHeld ?_
  · obtain rfl := Option.some.inj ho; go_simp
  simp only [Act.put, List.setIfInBounds_toArray, List.set_cons_zero, List.set_cons_succ]
  refine takeR 11 72 (.pointer (some ⟨g, 6, none⟩)) (by kernel_rfl) (by kernel_rfl) (by kernel_rfl) (by kernel_rfl) (fun _ _ _ h => h) (by kernel_rfl) (fun w o hSw ho => ?_) hHeld ?_
  · obtain rfl := Option.some.inj ho; go_simp
  simp only [Act.put, List.setIfInBounds_toArray, List.set_cons_zero, List.set_cons_succ]
  refine takeR 6 67 (.int .i64 x) (by kernel_rfl) (by kernel_rfl) (by kernel_rfl) (by kernel_rfl) (fun _ _ _ h => h) (by kernel_rfl) (fun w o hSw ho => ?_) hHeld ?_
  · obtain rfl := Option.some.inj ho; obtain ⟨z0, z1, z2, z3, z4, z5, z6, z7⟩ := HK.out _ hSw; go_simp
  simp only [Act.put, List.setIfInBounds_toArray, List.set_cons_zero, List.set_cons_succ]
  refine takeR 12 73 (.int .i64 y) (by kernel_rfl) (by kernel_rfl) (by kernel_rfl) (by kernel_rfl) (fun _ _ _ h => h) (by kernel_rfl) (fun w o hSw ho => ?_) hHeld ?_
  · obtain rfl := Option.some.inj ho; obtain ⟨z0, z1, z2, z3, z4, z5, z6, z7⟩ := HK.out _ hSw; go_simp
  simp only [Act.put, List.setIfInBounds_toArray, List.set_cons_zero, List.set_cons_succ]
  refine takeR 7 68 (.int .i64 (33 + x)) (by kernel_rfl) (by kernel_rfl) (by kernel_rfl) (by kernel_rfl) (fun _ _ _ h => h) (by kernel_rfl) (fun w o hSw ho => ?_) hHeld ?_
  · obtain rfl := Option.some.inj ho; go_simp
  simp only [Act.put, List.setIfInBounds_toArray, List.set_cons_zero, List.set_cons_succ]
  refine takeR 13 74 (.int .i64 (33 + y)) (by kernel_rfl) (by kernel_rfl) (by kernel_rfl) (by kernel_rfl) (fun _ _ _ h => h) (by kernel_rfl) (fun w o hSw ho => ?_) hHeld ?_
  · obtain rfl := Option.some.inj ho; go_simp
  simp only [Act.put, List.setIfInBounds_toArray, List.set_cons_zero, List.set_cons_succ]
  refine takeR 8 69 (.int .u8 (33 + x)) (by kernel_rfl) (by kernel_rfl) (by kernel_rfl) (by kernel_rfl) (fun _ _ _ h => h) (by kernel_rfl) (fun w o hSw ho => ?_) hHeld ?_
  · obtain rfl := Option.some.inj ho; go_simp
  simp only [Act.put, List.setIfInBounds_toArray, List.set_cons_zero, List.set_cons_succ]
  refine takeR 14 75 (.int .u8 (33 + y)) (by kernel_rfl) (by kernel_rfl) (by kernel_rfl) (by kernel_rfl) (fun _ _ _ h => h) (by kernel_rfl) (fun w o hSw ho => ?_) hHeld ?_
  · obtain rfl := Option.some.inj ho; go_simp
  simp only [Act.put, List.setIfInBounds_toArray, List.set_cons_zero, List.set_cons_succ]
  refine oneR 15 (by kernel_rfl) (by kernel_rfl) (fun o ho K' hK => ?_)
  obtain rfl := Option.some.inj ho
  clear ho
  go_simp
  refine hK.out _ _ (below_on hHeld (below_mk _ _)) (fun hHeld => ?_)
  clear hK K'
  try simp only [Act.put, List.setIfInBounds_toArray, List.set_cons_zero, List.set_cons_succ]
  have HE : Hid (NewOwn W.drew L (.returned (.slice (some ⟨W.heap.size, 0, none⟩) 6 6)) (W.drew.alloc (.cells #[.int .u8 27, .int .u8 91, .int .u8 77, .int .u8 (32 + (b + 4 * m)), .int .u8 (33 + x), .int .u8 (33 + y)] 5))) := HLIT.out W.drew
  have HE2 : Hid (NewOwn w L (.returned (.slice (some ⟨W.heap.size, 0, none⟩) 6 6)) (W.drew.alloc (.cells #[.int .u8 27, .int .u8 91, .int .u8 77, .int .u8 (32 + (b + 4 * m)), .int .u8 (33 + x), .int .u8 (33 + y)] 5))) := by
    obtain ⟨v, he, ho, hb⟩ := HE.out
    exact ⟨v, he, ho.lower (by have := HB.out.size; simpa using this), below_on HB.out hHeld⟩
  refine takeR 16 4 (.slice (some ⟨W.heap.size, 0, none⟩) 6 6) (by kernel_rfl) (by kernel_rfl) (by kernel_rfl) (by kernel_rfl) (fun _ _ _ h => h) (by kernel_rfl) (fun w o hSw ho => ?_) hHeld ?_
  · obtain rfl := Option.some.inj ho; go_simp
  simp only [Act.put, List.setIfInBounds_toArray, List.set_cons_zero, List.set_cons_succ]
  refine wpAnyH_done (by kernel_rfl) ?_ _
  refine NoPanic.normal ?_
  go_wp2_with fail
  go_ret
  exact HE2.out

end Go.Proofs.YtjopjddhgaiddabGreatDoor
