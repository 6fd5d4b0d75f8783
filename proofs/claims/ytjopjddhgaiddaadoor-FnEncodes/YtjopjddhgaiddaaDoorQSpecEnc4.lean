/- The model's encoder: l5Other whole, l5Key. (Written by wip/gen_specenc4.py.) -/
import Derived.Test.YtjopjddhgaiddaaDoorQSpecEnc3
import Derived.Test.YtjopjddhgaiddaaDoorQSpecEnc3b
import Derived.Test.YtjopjddhgaiddaaDoorQEncImpl3bToEncImpl4
namespace Go.Proofs.YtjopjddhgaiddaaDoor
open Go.RowKit
set_option linter.unusedVariables false
set_option linter.unusedSimpArgs false

theorem l5Other_any (md : Md) (kind c m bu ac cl ro : Int) (ds : Value) (b g : Nat) (w : World) (hM : AtL w b (mdL md)) (hE : AtL w g [.int .i64 kind, .int .i64 c, .int .i64 m, .int .i64 bu, .int .i64 ac, .int .i64 cl, .int .i64 ro, ds]) (h : Typed c m) :
    Calls Tryd.prog 51 #[.pointer (some ⟨b, 0, none⟩), .pointer (some ⟨g, 0, none⟩)] w (NewOwn w (typedE md.coded c m)) := by
  have h0 := h.m0
  have h7 := h.m7
  obtain ⟨cu, co, mo, sg, pa⟩ := md
  dsimp only
  unfold mdL at hM
  dsimp only at hM
  by_cases hx : m = 0
  · subst hx
    cases hs : special c
    · exact other_x0f cu co mo sg pa kind c bu ac cl ro ds b g w hM hE h hs
    · exact other_x0t cu co mo sg pa kind c bu ac cl ro ds b g w hM hE h hs
  by_cases hy : m = 2 ∧ special c = false ∧ c ≤ 126
  · obtain ⟨rfl, hs, hc⟩ := hy
    exact other_y cu co mo sg pa kind c bu ac cl ro ds b g w hM hE h hs hc
  by_cases hz : m = 4 ∧ special c = false ∧ ctrlE c ≠ []
  · obtain ⟨rfl, hs, hc⟩ := hz
    exact other_x4 cu co mo sg pa kind c bu ac cl ro ds b g w hM hE h hs hc
  have hm : m = 1 ∨ m = 2 ∨ m = 3 ∨ m = 4 ∨ m = 5 ∨ m = 6 ∨ m = 7 := by omega
  clear h0 h7 hx
  cases hs : special c <;> cases co
  · rcases hm with rfl | rfl | rfl | rfl | rfl | rfl | rfl
    · exact other_ef_1 cu mo sg pa kind c bu ac cl ro ds b g w hM hE h hs
    · exact other_nf_2 cu mo sg pa kind c bu ac cl ro ds b g w hM hE h hs (by rcases Int.lt_or_le 126 c with h1 | h1; exact h1; exact absurd ⟨rfl, hs, h1⟩ hy)
    · exact other_ef_3 cu mo sg pa kind c bu ac cl ro ds b g w hM hE h hs
    · exact other_ef_4 cu mo sg pa kind c bu ac cl ro ds b g w hM hE h hs (Classical.byContradiction fun hc => hz ⟨rfl, hs, hc⟩)
    · exact other_ef_5 cu mo sg pa kind c bu ac cl ro ds b g w hM hE h hs
    · by_cases hc : ctrlE c = []
      · exact other_ef_6 cu mo sg pa kind c bu ac cl ro ds b g w hM hE h hs hc
      · exact other_nf_6 cu mo sg pa kind c bu ac cl ro ds b g w hM hE h hs hc
    · exact other_ef_7 cu mo sg pa kind c bu ac cl ro ds b g w hM hE h hs
  · rcases hm with rfl | rfl | rfl | rfl | rfl | rfl | rfl
    · exact other_et_1 cu mo sg pa kind c bu ac cl ro ds b g w hM hE h hs
    · exact other_nt_2 cu mo sg pa kind c bu ac cl ro ds b g w hM hE h hs (by rcases Int.lt_or_le 126 c with h1 | h1; exact h1; exact absurd ⟨rfl, hs, h1⟩ hy)
    · exact other_et_3 cu mo sg pa kind c bu ac cl ro ds b g w hM hE h hs
    · exact other_et_4 cu mo sg pa kind c bu ac cl ro ds b g w hM hE h hs (Classical.byContradiction fun hc => hz ⟨rfl, hs, hc⟩)
    · exact other_et_5 cu mo sg pa kind c bu ac cl ro ds b g w hM hE h hs
    · by_cases hc : ctrlE c = []
      · exact other_et_6 cu mo sg pa kind c bu ac cl ro ds b g w hM hE h hs hc
      · exact other_nt_6 cu mo sg pa kind c bu ac cl ro ds b g w hM hE h hs hc
    · exact other_et_7 cu mo sg pa kind c bu ac cl ro ds b g w hM hE h hs
  · rcases hm with rfl | rfl | rfl | rfl | rfl | rfl | rfl
    · exact other_sf_1 cu mo sg pa kind c bu ac cl ro ds b g w hM hE h hs
    · exact other_sf_2 cu mo sg pa kind c bu ac cl ro ds b g w hM hE h hs
    · exact other_sf_3 cu mo sg pa kind c bu ac cl ro ds b g w hM hE h hs
    · exact other_sf_4 cu mo sg pa kind c bu ac cl ro ds b g w hM hE h hs
    · exact other_sf_5 cu mo sg pa kind c bu ac cl ro ds b g w hM hE h hs
    · exact other_sf_6 cu mo sg pa kind c bu ac cl ro ds b g w hM hE h hs
    · exact other_sf_7 cu mo sg pa kind c bu ac cl ro ds b g w hM hE h hs
  · rcases hm with rfl | rfl | rfl | rfl | rfl | rfl | rfl
    · exact other_st_1 cu mo sg pa kind c bu ac cl ro ds b g w hM hE h hs
    · exact other_st_2 cu mo sg pa kind c bu ac cl ro ds b g w hM hE h hs
    · exact other_st_3 cu mo sg pa kind c bu ac cl ro ds b g w hM hE h hs
    · exact other_st_4 cu mo sg pa kind c bu ac cl ro ds b g w hM hE h hs
    · exact other_st_5 cu mo sg pa kind c bu ac cl ro ds b g w hM hE h hs
    · exact other_st_6 cu mo sg pa kind c bu ac cl ro ds b g w hM hE h hs
    · exact other_st_7 cu mo sg pa kind c bu ac cl ro ds b g w hM hE h hs

set_option maxRecDepth 100000 in
set_option maxHeartbeats 2000000 in
theorem l5Key_lm (cu co : Bool) (mo : Int) (sg pa : Bool) (kind c m bu ac cl ro : Int) (ds : Value) (b g : Nat) (w : World) (hM : AtL w b [.bool cu, .bool co, .int .i64 mo, .bool sg, .bool pa]) (hE : AtL w g [.int .i64 kind, .int .i64 c, .int .i64 m, .int .i64 bu, .int .i64 ac, .int .i64 cl, .int .i64 ro, ds]) (n : Int) (hl : letterE c = n) (hn : ¬ n = 0) (h0 : 0 ≤ n) (h1 : n ≤ 255) (hm : ¬ m = 0) (m0 : 0 ≤ m) (m7 : m ≤ 7) :
    Calls Tryd.prog 27 #[.pointer (some ⟨b, 0, none⟩), .pointer (some ⟨g, 0, none⟩)] w (NewOwn w (seqB false [1, m + 1] (byteE n))) := by
  have HS := Lib.hid (fun (W : World) g hg => l5Seq_lit #[.int .i64 1, .int .i64 (m + 1)] [1, m + 1] n 2 W 2 g hg rfl rfl (inNum2 (by omega) (by omega) (by omega) (by omega)) (by simp) h0 h1)
  generalize seqB false [1, m + 1] (byteE n) = L at *
  have hw : IntKind.i64.wrap (m + 1) = m + 1 := IntWalk.i64_in _ ⟨by omega, by omega⟩
  obtain ⟨q0, q1, q2, q3, q4⟩ := hM.five
  obtain ⟨z0, z1, z2, z3, z4, z5, z6, z7⟩ := AtL.eightS hE
  have HLC := Lib.hid (fun W => l5Letter_any c W)
  rw [hl] at HLC
  clear hM hE q1 q2 q3 q4 z0 z3 z4 z5 z6 z7
  go_enter Tryd.func27, Tryd.ntmps27
  go_wp2_with fail
  refine (HLC.out _).mono ?_
  rintro e w1 ⟨rfl, rfl⟩
  go_wp2_with fail
  refine (HS.out _ _ rfl).mono ?_
  rintro e w3 ⟨v, rfl, ho, hb⟩
  have HE := Lib.hid (own_low ho (below_on (below_mk w _) hb) (by simp))
  clear ho hb
  go_wp2_with fail
  go_ret
  exact HE.out

set_option maxRecDepth 100000 in
set_option maxHeartbeats 2000000 in
theorem l5Key_lt (co : Bool) (mo : Int) (sg pa : Bool) (kind c bu ac cl ro : Int) (ds : Value) (b g : Nat) (w : World) (hM : AtL w b [.bool true, .bool co, .int .i64 mo, .bool sg, .bool pa]) (hE : AtL w g [.int .i64 kind, .int .i64 c, .int .i64 0, .int .i64 bu, .int .i64 ac, .int .i64 cl, .int .i64 ro, ds]) (n : Int) (hl : letterE c = n) (hn : ¬ n = 0) (h0 : 0 ≤ n) (h1 : n ≤ 255) :
    Calls Tryd.prog 27 #[.pointer (some ⟨b, 0, none⟩), .pointer (some ⟨g, 0, none⟩)] w (NewOwn w [27, 79, byteE n]) := by
  have HO : Hid (NewOwn w [27, 79, byteE n] (.returned (.slice (some ⟨w.heap.size, 0, none⟩) 3 3)) (w.alloc (.cells #[.int .u8 27, .int .u8 79, .int .u8 n] 5))) :=
    ⟨_, rfl, own_lit w [27, 79, byteE n] _ _ 3 rfl rfl (by simp [bcells, byteE_val (show 0 ≤ n by omega) (show n ≤ 255 by omega)]) (by simp), below_mk w _⟩
  obtain ⟨q0, q1, q2, q3, q4⟩ := hM.five
  obtain ⟨z0, z1, z2, z3, z4, z5, z6, z7⟩ := AtL.eightS hE
  have HLC := Lib.hid (fun W => l5Letter_any c W)
  rw [hl] at HLC
  clear hM hE q1 q2 q3 q4 z0 z3 z4 z5 z6 z7
  go_enter Tryd.func27, Tryd.ntmps27
  go_wp2_with fail
  refine (HLC.out _).mono ?_
  rintro e w1 ⟨rfl, rfl⟩
  go_wp2_with fail
  go_ret
  exact HO.out

set_option maxRecDepth 100000 in
set_option maxHeartbeats 2000000 in
theorem l5Key_lf (co : Bool) (mo : Int) (sg pa : Bool) (kind c bu ac cl ro : Int) (ds : Value) (b g : Nat) (w : World) (hM : AtL w b [.bool false, .bool co, .int .i64 mo, .bool sg, .bool pa]) (hE : AtL w g [.int .i64 kind, .int .i64 c, .int .i64 0, .int .i64 bu, .int .i64 ac, .int .i64 cl, .int .i64 ro, ds]) (n : Int) (hl : letterE c = n) (hn : ¬ n = 0) (h0 : 0 ≤ n) (h1 : n ≤ 255) :
    Calls Tryd.prog 27 #[.pointer (some ⟨b, 0, none⟩), .pointer (some ⟨g, 0, none⟩)] w (NewOwn w (seqB false [] (byteE n))) := by
  have HS := Lib.hid (fun W => l5Seq_any none 0 [] (byteE n) W (fun e => absurd rfl e) rfl (by simp))
  rw [byteE_val h0 h1] at HS
  generalize seqB false [] (byteE n) = L at *
  obtain ⟨q0, q1, q2, q3, q4⟩ := hM.five
  obtain ⟨z0, z1, z2, z3, z4, z5, z6, z7⟩ := AtL.eightS hE
  have HLC := Lib.hid (fun W => l5Letter_any c W)
  rw [hl] at HLC
  clear hM hE q1 q2 q3 q4 z0 z3 z4 z5 z6 z7
  go_enter Tryd.func27, Tryd.ntmps27
  go_wp2_with fail
  refine (HLC.out _).mono ?_
  rintro e w1 ⟨rfl, rfl⟩
  go_wp2_with fail
  refine (HS.out _).mono ?_
  rintro e w3 ⟨v, rfl, ho, hb⟩
  have HE := Lib.hid (own_low ho hb (Nat.le_refl _))
  clear ho hb
  go_wp2_with fail
  go_ret
  exact HE.out

set_option maxRecDepth 100000 in
set_option maxHeartbeats 2000000 in
theorem l5Key_tm (cu co : Bool) (mo : Int) (sg pa : Bool) (kind c m bu ac cl ro : Int) (ds : Value) (b g : Nat) (w : World) (hM : AtL w b [.bool cu, .bool co, .int .i64 mo, .bool sg, .bool pa]) (hE : AtL w g [.int .i64 kind, .int .i64 c, .int .i64 m, .int .i64 bu, .int .i64 ac, .int .i64 cl, .int .i64 ro, ds]) (n : Int) (hl : letterE c = 0) (ht : tildeE c = n) (hn : ¬ n = 0) (h0 : 0 ≤ n) (h1 : n ≤ 255) (hm : ¬ m = 0) (m0 : 0 ≤ m) (m7 : m ≤ 7) :
    Calls Tryd.prog 27 #[.pointer (some ⟨b, 0, none⟩), .pointer (some ⟨g, 0, none⟩)] w (NewOwn w (seqB false [n, m + 1] 126)) := by
  have HTC := Lib.hid (fun W => l5Tilde_any c W)
  rw [ht] at HTC
  have HEE := Lib.hid hE
  have HMM := Lib.hid hM
  have HS : Hid (∀ (W : World) g, g = W.heap.size → Calls Tryd.prog 49 #[.slice (some ⟨g, 0, none⟩) 2 2, .int .u8 126] (W.alloc (.cells #[.int .i64 n, .int .i64 (m + 1)] 2)) (NewOwn (W.alloc (.cells #[.int .i64 n, .int .i64 (m + 1)] 2)) (seqB false [n, m + 1] 126))) := fun W g hg => l5Seq_lit #[.int .i64 n, .int .i64 (m + 1)] [n, m + 1] 126 2 W 2 g hg rfl rfl (inNum2 (by omega) (by omega) (by omega) (by omega)) (by simp) (by omega) (by omega)
  generalize seqB false [n, m + 1] 126 = L at *
  have hw : IntKind.i64.wrap (m + 1) = m + 1 := IntWalk.i64_in _ ⟨by omega, by omega⟩
  obtain ⟨q0, q1, q2, q3, q4⟩ := hM.five
  obtain ⟨z0, z1, z2, z3, z4, z5, z6, z7⟩ := AtL.eightS hE
  have HLC := Lib.hid (fun W => l5Letter_any c W)
  rw [hl] at HLC
  clear hM hE q1 q2 q3 q4 z0 z3 z4 z5 z6 z7
  go_enter Tryd.func27, Tryd.ntmps27
  go_wp2_with fail
  refine (HLC.out _).mono ?_
  rintro e w1 ⟨rfl, rfl⟩
  go_wp2_with fail
  refine (HTC.out _).mono ?_
  rintro e w2 ⟨rfl, hb2⟩
  have HB := Lib.hid hb2
  have HE2 := Lib.hid (HEE.out.on hb2)
  clear hb2 z1 z2 q0
  obtain ⟨z0, z1, z2, z3, z4, z5, z6, z7⟩ := AtL.eightS HE2.out
  clear z0 z3 z4 z5 z6 z7
  go_wp2_with fail
  refine (HS.out _ _ rfl).mono ?_
  rintro e w3 ⟨v, rfl, ho, hb⟩
  have HE := Lib.hid (own_low ho (below_on (below_on HB.out (below_mk _ _)) hb) (by have := HB.out.size; simp; omega))
  clear ho hb
  go_wp2_with fail
  go_ret
  exact HE.out

set_option maxRecDepth 100000 in
set_option maxHeartbeats 2000000 in
theorem l5Key_t0 (cu co : Bool) (mo : Int) (sg pa : Bool) (kind c bu ac cl ro : Int) (ds : Value) (b g : Nat) (w : World) (hM : AtL w b [.bool cu, .bool co, .int .i64 mo, .bool sg, .bool pa]) (hE : AtL w g [.int .i64 kind, .int .i64 c, .int .i64 0, .int .i64 bu, .int .i64 ac, .int .i64 cl, .int .i64 ro, ds]) (n : Int) (hl : letterE c = 0) (ht : tildeE c = n) (hn : ¬ n = 0) (h0 : 0 ≤ n) (h1 : n ≤ 255) :
    Calls Tryd.prog 27 #[.pointer (some ⟨b, 0, none⟩), .pointer (some ⟨g, 0, none⟩)] w (NewOwn w (seqB false [n] 126)) := by
  have HTC := Lib.hid (fun W => l5Tilde_any c W)
  rw [ht] at HTC
  have HEE := Lib.hid hE
  have HMM := Lib.hid hM
  have HS : Hid (∀ (W : World) g, g = W.heap.size → Calls Tryd.prog 49 #[.slice (some ⟨g, 0, none⟩) 1 1, .int .u8 126] (W.alloc (.cells #[.int .i64 n] 2)) (NewOwn (W.alloc (.cells #[.int .i64 n] 2)) (seqB false [n] 126))) := fun W g hg => l5Seq_lit #[.int .i64 n] [n] 126 1 W 2 g hg rfl rfl (by simp [inNum, inR]; omega) (by simp) (by omega) (by omega)
  generalize seqB false [n] 126 = L at *
  obtain ⟨q0, q1, q2, q3, q4⟩ := hM.five
  obtain ⟨z0, z1, z2, z3, z4, z5, z6, z7⟩ := AtL.eightS hE
  have HLC := Lib.hid (fun W => l5Letter_any c W)
  rw [hl] at HLC
  clear hM hE q1 q2 q3 q4 z0 z3 z4 z5 z6 z7
  go_enter Tryd.func27, Tryd.ntmps27
  go_wp2_with fail
  refine (HLC.out _).mono ?_
  rintro e w1 ⟨rfl, rfl⟩
  go_wp2_with fail
  refine (HTC.out _).mono ?_
  rintro e w2 ⟨rfl, hb2⟩
  have HB := Lib.hid hb2
  have HE2 := Lib.hid (HEE.out.on hb2)
  clear hb2 z1 z2 q0
  obtain ⟨z0, z1, z2, z3, z4, z5, z6, z7⟩ := AtL.eightS HE2.out
  clear z0 z3 z4 z5 z6 z7
  go_wp2_with fail
  refine (HS.out _ _ rfl).mono ?_
  rintro e w3 ⟨v, rfl, ho, hb⟩
  have HE := Lib.hid (own_low ho (below_on (below_on HB.out (below_mk _ _)) hb) (by have := HB.out.size; simp; omega))
  clear ho hb
  go_wp2_with fail
  go_ret
  exact HE.out

set_option maxRecDepth 100000 in
set_option maxHeartbeats 2000000 in
theorem l5Key_o (cu co : Bool) (mo : Int) (sg pa : Bool) (kind c m bu ac cl ro : Int) (ds : Value) (b g : Nat) (w : World) (hM : AtL w b [.bool cu, .bool co, .int .i64 mo, .bool sg, .bool pa]) (hE : AtL w g [.int .i64 kind, .int .i64 c, .int .i64 m, .int .i64 bu, .int .i64 ac, .int .i64 cl, .int .i64 ro, ds]) (hl : letterE c = 0) (ht : tildeE c = 0) (h : Typed c m) :
    Calls Tryd.prog 27 #[.pointer (some ⟨b, 0, none⟩), .pointer (some ⟨g, 0, none⟩)] w (NewOwn w (typedE co c m)) := by
  have HTC := Lib.hid (fun W => l5Tilde_any c W)
  rw [ht] at HTC
  have HEE := Lib.hid hE
  have HMM := Lib.hid hM
  have HX := Lib.hid (fun W hm he => l5Other_any ⟨cu, co, mo, sg, pa⟩ kind c m bu ac cl ro ds b g W hm he h)
  dsimp only at HX
  generalize typedE co c m = L at *
  obtain ⟨q0, q1, q2, q3, q4⟩ := hM.five
  obtain ⟨z0, z1, z2, z3, z4, z5, z6, z7⟩ := AtL.eightS hE
  have HLC := Lib.hid (fun W => l5Letter_any c W)
  rw [hl] at HLC
  clear hM hE q1 q2 q3 q4 z0 z3 z4 z5 z6 z7
  go_enter Tryd.func27, Tryd.ntmps27
  go_wp2_with fail
  refine (HLC.out _).mono ?_
  rintro e w1 ⟨rfl, rfl⟩
  go_wp2_with fail
  refine (HTC.out _).mono ?_
  rintro e w2 ⟨rfl, hb2⟩
  have HB := Lib.hid hb2
  have HE2 := Lib.hid (HEE.out.on hb2)
  clear hb2 z1 z2 q0
  obtain ⟨z0, z1, z2, z3, z4, z5, z6, z7⟩ := AtL.eightS HE2.out
  clear z0 z3 z4 z5 z6 z7
  go_wp2_with fail
  refine (HX.out _ (HMM.out.on HB.out) HE2.out).mono ?_
  rintro e w3 ⟨v, rfl, ho, hb⟩
  have HE := Lib.hid (own_low ho (below_on HB.out hb) HB.out.size)
  clear ho hb
  go_wp2_with fail
  go_ret
  exact HE.out

theorem l5Key_any (md : Md) (e : Ev) (p : Option Addr) (cp : Nat) (b g : Nat) (w : World) (hM : AtL w b (mdL md)) (hE : AtL w g (evC e p cp).toList) (hk : keyCode e.code = true) (h0 : 0 ≤ e.mods) (h7 : e.mods ≤ 7) :
    Calls Tryd.prog 27 #[.pointer (some ⟨b, 0, none⟩), .pointer (some ⟨g, 0, none⟩)] w (NewOwn w (keyE md e.code e.mods)) := by
  obtain ⟨cu, co, mo, sg, pa⟩ := md
  obtain ⟨kind, c, m, bu, ac, cl, ro, data⟩ := e
  dsimp only at *
  unfold mdL at hM
  unfold evC at hE
  dsimp only at hM hE
  by_cases hl : letterE c = 0
  · by_cases ht : tildeE c = 0
    · have hc : keyE ⟨cu, co, mo, sg, pa⟩ c m = typedE co c m := by simp [keyE, hl, ht]
      rw [hc]
      exact l5Key_o cu co mo sg pa kind c m bu ac cl ro _ b g w hM hE hl ht ⟨hk, hl, ht, h0, h7⟩
    · have hr := tildeE_range c
      have hc : keyE ⟨cu, co, mo, sg, pa⟩ c m = tildeB (tildeE c) m := by simp [keyE, hl, ht]
      rw [hc]
      by_cases hm : m = 0
      · subst hm
        have : tildeB (tildeE c) 0 = seqB false [tildeE c] 126 := by simp [tildeB]
        rw [this]
        exact l5Key_t0 cu co mo sg pa kind c bu ac cl ro _ b g w hM hE _ hl rfl ht (by omega) (by omega)
      · have : tildeB (tildeE c) m = seqB false [tildeE c, m + 1] 126 := by simp [tildeB, hm]
        rw [this]
        exact l5Key_tm cu co mo sg pa kind c m bu ac cl ro _ b g w hM hE _ hl rfl ht (by omega) (by omega) hm h0 h7
  · have hr := letterE_range c hl
    have hc : keyE ⟨cu, co, mo, sg, pa⟩ c m = letterB cu (byteE (letterE c)) m := by simp [keyE, hl]
    rw [hc]
    by_cases hm : m = 0
    · subst hm
      cases cu
      · have : letterB false (byteE (letterE c)) 0 = seqB false [] (byteE (letterE c)) := by simp [letterB]
        rw [this]
        exact l5Key_lf co mo sg pa kind c bu ac cl ro _ b g w hM hE _ rfl hl (by omega) (by omega)
      · have : letterB true (byteE (letterE c)) 0 = [27, 79, byteE (letterE c)] := by simp [letterB]
        rw [this]
        exact l5Key_lt co mo sg pa kind c bu ac cl ro _ b g w hM hE _ rfl hl (by omega) (by omega)
    · have : letterB cu (byteE (letterE c)) m = seqB false [1, m + 1] (byteE (letterE c)) := by simp [letterB, hm]
      rw [this]
      exact l5Key_lm cu co mo sg pa kind c m bu ac cl ro _ b g w hM hE _ rfl hl (by omega) (by omega) hm h0 h7

end Go.Proofs.YtjopjddhgaiddaaDoor
