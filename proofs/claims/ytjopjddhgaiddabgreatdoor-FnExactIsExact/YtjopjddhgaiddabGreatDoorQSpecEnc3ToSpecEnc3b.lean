/- The model's encoder: l5Other. (Written by wip/gen_other.py.) -/
import Derived.Test.YtjopjddhgaiddabGreatDoorQSpecEnc1ToSpecEnc2
import Derived.Test.YtjopjddhgaiddabGreatDoorQEncImpl3ToEncImpl4
namespace Go.Proofs.YtjopjddhgaiddabGreatDoor
open Go.RowKit
set_option linter.unusedVariables false
set_option linter.unusedSimpArgs false

set_option maxRecDepth 100000 in
set_option maxHeartbeats 4000000 in
theorem other_x0t (cu co : Bool) (mo : Int) (sg pa : Bool) (kind c bu ac cl ro : Int) (ds : Value) (b g : Nat) (w : World) (hM : AtL w b [.bool cu, .bool co, .int .i64 mo, .bool sg, .bool pa]) (hE : AtL w g [.int .i64 kind, .int .i64 c, .int .i64 0, .int .i64 bu, .int .i64 ac, .int .i64 cl, .int .i64 ro, ds]) (h : Typed c 0) (hs : special c = true) :
    Calls Tryz.prog 76 #[.pointer (some ⟨b, 0, none⟩), .pointer (some ⟨g, 0, none⟩)] w (NewOwn w (typedE co c 0)) := by
  have hne : plainE c 0 ≠ [] := by
    unfold plainE
    rw [if_pos hs]
    simp
  rw [typedE_plain hne (.inl rfl)]
  have hok : (!(plainE c 0).isEmpty) = true := by simp [hne]
  obtain ⟨i0, hi0, hz0, hz1, hz2⟩ := info_parts Tryz.info_u8
  have HI := Lib.hid (And.intro hi0 (And.intro hz0 (And.intro hz1 hz2)))
  clear hi0 hz0 hz1 hz2
  have HP := Lib.hid (l5Plain_any kind c 0 bu ac cl ro ds g w hE h)
  rw [hok] at HP
  have hll := plain_len c 0
  have hcode := h.code
  have HMM := Lib.hid hM
  have HEE := Lib.hid hE
  clear hM hE hok
  generalize plainE c 0 = L at *
  go_enter Tryz.func76, Tryz.ntmps76
  go_wp2_with fail
  refine HP.out.mono ?_
  rintro e w1 ⟨v, rfl, ho, hb⟩
  have HO := Lib.hid ho
  have HB := Lib.hid hb
  have HM1 := Lib.hid (HMM.out.on hb)
  have HE1 := Lib.hid (HEE.out.on hb)
  have m1 := HM1.out.get 1 rfl
  obtain ⟨z0, z1, z2, z3, z4, z5, z6, z7⟩ := AtL.eightS HE1.out
  clear z0 z3 z4 z5 z6 z7 HP HMM HEE ho hb
  go_wp2_with fail
  refine (specIsSpecial_any c _).mono ?_
  rintro e w2 ⟨rfl, rfl⟩
  rw [hs]
  go_wp2_with fail
  go_ret
  exact ⟨_, rfl, HO.out, HB.out⟩

set_option maxRecDepth 100000 in
set_option maxHeartbeats 4000000 in
theorem other_x0f (cu co : Bool) (mo : Int) (sg pa : Bool) (kind c bu ac cl ro : Int) (ds : Value) (b g : Nat) (w : World) (hM : AtL w b [.bool cu, .bool co, .int .i64 mo, .bool sg, .bool pa]) (hE : AtL w g [.int .i64 kind, .int .i64 c, .int .i64 0, .int .i64 bu, .int .i64 ac, .int .i64 cl, .int .i64 ro, ds]) (h : Typed c 0) (hs : special c = false) :
    Calls Tryz.prog 76 #[.pointer (some ⟨b, 0, none⟩), .pointer (some ⟨g, 0, none⟩)] w (NewOwn w (typedE co c 0)) := by
  have hne : plainE c 0 ≠ [] := by
    unfold plainE
    rw [if_neg (by simp [hs]), if_pos (.inl rfl)]
    exact putB_ne c
  rw [typedE_plain hne (.inl rfl)]
  have hok : (!(plainE c 0).isEmpty) = true := by simp [hne]
  obtain ⟨i0, hi0, hz0, hz1, hz2⟩ := info_parts Tryz.info_u8
  have HI := Lib.hid (And.intro hi0 (And.intro hz0 (And.intro hz1 hz2)))
  clear hi0 hz0 hz1 hz2
  have HP := Lib.hid (l5Plain_any kind c 0 bu ac cl ro ds g w hE h)
  rw [hok] at HP
  have hll := plain_len c 0
  have hcode := h.code
  have HMM := Lib.hid hM
  have HEE := Lib.hid hE
  clear hM hE hok
  generalize plainE c 0 = L at *
  go_enter Tryz.func76, Tryz.ntmps76
  go_wp2_with fail
  refine HP.out.mono ?_
  rintro e w1 ⟨v, rfl, ho, hb⟩
  have HO := Lib.hid ho
  have HB := Lib.hid hb
  have HM1 := Lib.hid (HMM.out.on hb)
  have HE1 := Lib.hid (HEE.out.on hb)
  have m1 := HM1.out.get 1 rfl
  obtain ⟨z0, z1, z2, z3, z4, z5, z6, z7⟩ := AtL.eightS HE1.out
  clear z0 z3 z4 z5 z6 z7 HP HMM HEE ho hb
  go_wp2_with fail
  refine (specIsSpecial_any c _).mono ?_
  rintro e w2 ⟨rfl, rfl⟩
  rw [hs]
  go_wp2_with fail
  go_ret
  exact ⟨_, rfl, HO.out, HB.out⟩

set_option maxRecDepth 100000 in
set_option maxHeartbeats 4000000 in
theorem other_x4 (cu co : Bool) (mo : Int) (sg pa : Bool) (kind c bu ac cl ro : Int) (ds : Value) (b g : Nat) (w : World) (hM : AtL w b [.bool cu, .bool co, .int .i64 mo, .bool sg, .bool pa]) (hE : AtL w g [.int .i64 kind, .int .i64 c, .int .i64 4, .int .i64 bu, .int .i64 ac, .int .i64 cl, .int .i64 ro, ds]) (h : Typed c 4) (hs : special c = false) (hp : ctrlE c ≠ []) :
    Calls Tryz.prog 76 #[.pointer (some ⟨b, 0, none⟩), .pointer (some ⟨g, 0, none⟩)] w (NewOwn w (typedE co c 4)) := by
  have hne : plainE c 4 ≠ [] := by
    unfold plainE
    rw [if_neg (by simp [hs]), if_neg (by omega), if_pos (.inl rfl)]
    exact hp
  rw [typedE_plain hne (.inr ⟨hs, rfl⟩)]
  have hok : (!(plainE c 4).isEmpty) = true := by simp [hne]
  obtain ⟨i0, hi0, hz0, hz1, hz2⟩ := info_parts Tryz.info_u8
  have HI := Lib.hid (And.intro hi0 (And.intro hz0 (And.intro hz1 hz2)))
  clear hi0 hz0 hz1 hz2
  have HP := Lib.hid (l5Plain_any kind c 4 bu ac cl ro ds g w hE h)
  rw [hok] at HP
  have hll := plain_len c 4
  have hcode := h.code
  have HMM := Lib.hid hM
  have HEE := Lib.hid hE
  clear hM hE hok
  generalize plainE c 4 = L at *
  go_enter Tryz.func76, Tryz.ntmps76
  go_wp2_with fail
  refine HP.out.mono ?_
  rintro e w1 ⟨v, rfl, ho, hb⟩
  have HO := Lib.hid ho
  have HB := Lib.hid hb
  have HM1 := Lib.hid (HMM.out.on hb)
  have HE1 := Lib.hid (HEE.out.on hb)
  have m1 := HM1.out.get 1 rfl
  obtain ⟨z0, z1, z2, z3, z4, z5, z6, z7⟩ := AtL.eightS HE1.out
  clear z0 z3 z4 z5 z6 z7 HP HMM HEE ho hb
  go_wp2_with fail
  refine (specIsSpecial_any c _).mono ?_
  rintro e w2 ⟨rfl, rfl⟩
  rw [hs]
  go_wp2_with fail
  go_ret
  exact ⟨_, rfl, HO.out, HB.out⟩

set_option maxRecDepth 100000 in
set_option maxHeartbeats 4000000 in
theorem other_y (cu co : Bool) (mo : Int) (sg pa : Bool) (kind c bu ac cl ro : Int) (ds : Value) (b g : Nat) (w : World) (hM : AtL w b [.bool cu, .bool co, .int .i64 mo, .bool sg, .bool pa]) (hE : AtL w g [.int .i64 kind, .int .i64 c, .int .i64 2, .int .i64 bu, .int .i64 ac, .int .i64 cl, .int .i64 ro, ds]) (h : Typed c 2) (hs : special c = false) (h126 : c ≤ 126) :
    Calls Tryz.prog 76 #[.pointer (some ⟨b, 0, none⟩), .pointer (some ⟨g, 0, none⟩)] w (NewOwn w (typedE co c 2)) := by
  have h32 := (h.pt hs).2.1
  have hin : inR c 32 126 = true := by simp [inR, h32, h126]
  have hne : plainE c 2 ≠ [] := by
    unfold plainE
    rw [if_neg (by simp [hs]), if_pos (.inr rfl)]
    exact putB_ne c
  rw [typedE_alt h32 h126]
  have hok : (!(plainE c 2).isEmpty) = true := by simp [hne]
  obtain ⟨i0, hi0, hz0, hz1, hz2⟩ := info_parts Tryz.info_u8
  have HI := Lib.hid (And.intro hi0 (And.intro hz0 (And.intro hz1 hz2)))
  clear hi0 hz0 hz1 hz2
  have HP := Lib.hid (l5Plain_any kind c 2 bu ac cl ro ds g w hE h)
  rw [hok] at HP
  have hll := plain_len c 2
  have hcode := h.code
  have HMM := Lib.hid hM
  have HEE := Lib.hid hE
  clear hM hE hok
  generalize plainE c 2 = L at *
  go_enter Tryz.func76, Tryz.ntmps76
  go_wp2_with fail
  refine HP.out.mono ?_
  rintro e w1 ⟨v, rfl, ho, hb⟩
  have HO := Lib.hid ho
  have HB := Lib.hid hb
  have HM1 := Lib.hid (HMM.out.on hb)
  have HE1 := Lib.hid (HEE.out.on hb)
  have m1 := HM1.out.get 1 rfl
  obtain ⟨z0, z1, z2, z3, z4, z5, z6, z7⟩ := AtL.eightS HE1.out
  clear z0 z3 z4 z5 z6 z7 HP HMM HEE ho hb
  go_wp2_with fail
  refine (specIsSpecial_any c _).mono ?_
  rintro e w2 ⟨rfl, rfl⟩
  rw [hs]
  obtain ⟨g1, cap1, hv, hlc⟩ := own_room HO.out hne
  subst hv
  have HL1 := Lib.hid ((own_lit w1 [27] #[.int .u8 27] w1.heap.size 1 rfl rfl rfl (by simp)).lower (base' := w.heap.size) HB.out.size)
  have HS1 := Lib.hid ((HO.out.on (below_mk w1 (.cells #[.int .u8 27] 5))).bs.2)
  have HB1 := Lib.hid (below_on HB.out (below_mk w1 (.cells #[.int .u8 27] 5)))
  go_wp2_with (first | (go_at_call 70; refine (l1In_any _ _ _ _).mono ?_; rintro e w' ⟨rfl, rfl⟩; rw [hin]) | (at_builtin; refine wpList_append_own _ rfl _ _ 24 rfl w.heap.size 5 i0 (.int .u8 0) 1 1 Tryz.underlying24 HI.out.1 HI.out.2.1 HI.out.2.2.1 HI.out.2.2.2 rfl (by decide) _ _ _ rfl HL1.out ⟨g1, 0, none⟩ L.length cap1 (L.map (fun x : UInt8 => Value.int .u8 (x.toNat : Int))) rfl (by simp) (news_bs HS1.out) (one_cells _) (by unfold maxLen; simp; omega) (by simp; omega) HB1.out.size ?_; intro v4 wA hownA hgrowA _))
  have HA := Lib.hid (grew2 (l := [27]) HL1.out HB1.out hownA hgrowA)
  clear hownA hgrowA
  go_ret
  exact ⟨_, rfl, HA.out.1, HA.out.2⟩

set_option maxRecDepth 100000 in
set_option maxHeartbeats 4000000 in
theorem other_st_1 (cu : Bool) (mo : Int) (sg pa : Bool) (kind c bu ac cl ro : Int) (ds : Value) (b g : Nat) (w : World) (hM : AtL w b [.bool cu, .bool true, .int .i64 mo, .bool sg, .bool pa]) (hE : AtL w g [.int .i64 kind, .int .i64 c, .int .i64 1, .int .i64 bu, .int .i64 ac, .int .i64 cl, .int .i64 ro, ds]) (h : Typed c 1) (hs : special c = true) :
    Calls Tryz.prog 76 #[.pointer (some ⟨b, 0, none⟩), .pointer (some ⟨g, 0, none⟩)] w (NewOwn w (typedE true c 1)) := by
  have hne : plainE c 1 ≠ [] := by
    unfold plainE
    rw [if_pos hs]
    simp
  have hh : plainE c 1 = [] ∨ ((1 : Int) ≠ 0 ∧ (special c = true ∨ (1 : Int) ≠ 4)) := .inr ⟨by omega, .inl hs⟩
  rw [typedE_coded hh (.inl (by omega))]
  clear hh
  have HSL := Lib.hid (fun (W : World) g hg => l5Seq_lit #[.int .i64 (codeE c), .int .i64 2] [codeE c, 2] 117 2 W 2 g hg rfl rfl (inNum2 h.code.1 h.code.2.1 (by omega) (by omega)) (by simp) (by omega) (by omega))
  rw [show byteE 117 = 117 from rfl] at HSL
  rw [show (1 : Int) + 1 = 2 from rfl]
  have HPK := Lib.hid (fun W => l5Code_any c W)
  have hok : (!(plainE c 1).isEmpty) = true := by simp [hne]
  obtain ⟨i0, hi0, hz0, hz1, hz2⟩ := info_parts Tryz.info_u8
  have HI := Lib.hid (And.intro hi0 (And.intro hz0 (And.intro hz1 hz2)))
  clear hi0 hz0 hz1 hz2
  have HP := Lib.hid (l5Plain_any kind c 1 bu ac cl ro ds g w hE h)
  rw [hok] at HP
  have hll := plain_len c 1
  have hcode := h.code
  have HMM := Lib.hid hM
  have HEE := Lib.hid hE
  clear hM hE hok
  generalize plainE c 1 = L at *
  go_enter Tryz.func76, Tryz.ntmps76
  go_wp2_with fail
  refine HP.out.mono ?_
  rintro e w1 ⟨v, rfl, ho, hb⟩
  have HO := Lib.hid ho
  have HB := Lib.hid hb
  have HM1 := Lib.hid (HMM.out.on hb)
  have HE1 := Lib.hid (HEE.out.on hb)
  have m1 := HM1.out.get 1 rfl
  obtain ⟨z0, z1, z2, z3, z4, z5, z6, z7⟩ := AtL.eightS HE1.out
  clear z0 z3 z4 z5 z6 z7 HP HMM HEE ho hb
  go_wp2_with fail
  refine (specIsSpecial_any c _).mono ?_
  rintro e w2 ⟨rfl, rfl⟩
  rw [hs]
  go_wp2_with fail
  refine wp_gen3 (fun W => AtL W g [.int .i64 kind, .int .i64 c, .int .i64 1, .int .i64 bu, .int .i64 ac, .int .i64 cl, .int .i64 ro, ds] ∧ Below w.heap.size w W) ⟨HE1.out, HB.out⟩ (fun W hW => ?_)
  obtain ⟨hk, hb⟩ := hW
  have HK2 := Lib.hid (fun W' (hW : Below W.heap.size W W') => AtL.eightS (hk.on hW))
  have HB2 := Lib.hid hb
  clear hk hb HM1 HE1 HO HB m1 z1 z2
  refine wp_region_noPanic ?_
  refine wp_region_held_drew (S := fun W' => Below (W).heap.size (W) W') (by kernel_rfl) (below_drewN (Below.refl _ _) 1) (fun hHeld => ?_)
  refine takeR 0 61 (.pointer (some ⟨g, 0, none⟩)) (by kernel_rfl) (by kernel_rfl) (by kernel_rfl) (by kernel_rfl) (fun _ _ _ h => h) (by kernel_rfl) (fun w o hSw ho => ?_) hHeld ?_
  · obtain rfl := Option.some.inj ho; go_simp
  simp only [Act.put, List.setIfInBounds_toArray, List.set_cons_zero, List.set_cons_succ]
  refine takeR 5 66 (.pointer (some ⟨g, 0, none⟩)) (by kernel_rfl) (by kernel_rfl) (by kernel_rfl) (by kernel_rfl) (fun _ _ _ h => h) (by kernel_rfl) (fun w o hSw ho => ?_) hHeld ?_
  · obtain rfl := Option.some.inj ho; go_simp
  simp only [Act.put, List.setIfInBounds_toArray, List.set_cons_zero, List.set_cons_succ]
  refine takeR 1 62 (.pointer (some ⟨g, 0, none⟩)) (by kernel_rfl) (by kernel_rfl) (by kernel_rfl) (by kernel_rfl) (fun _ _ _ h => h) (by kernel_rfl) (fun w o hSw ho => ?_) hHeld ?_
  · obtain rfl := Option.some.inj ho; go_simp
  simp only [Act.put, List.setIfInBounds_toArray, List.set_cons_zero, List.set_cons_succ]
  refine takeR 6 67 (.pointer (some ⟨g, 0, none⟩)) (by kernel_rfl) (by kernel_rfl) (by kernel_rfl) (by kernel_rfl) (fun _ _ _ h => h) (by kernel_rfl) (fun w o hSw ho => ?_) hHeld ?_
  · obtain rfl := Option.some.inj ho; go_simp
  simp only [Act.put, List.setIfInBounds_toArray, List.set_cons_zero, List.set_cons_succ]
  refine takeR 2 63 (.pointer (some ⟨g, 1, none⟩)) (by kernel_rfl) (by kernel_rfl) (by kernel_rfl) (by kernel_rfl) (fun _ _ _ h => h) (by kernel_rfl) (fun w o hSw ho => ?_) hHeld ?_
  · obtain rfl := Option.some.inj ho; go_simp
  simp only [Act.put, List.setIfInBounds_toArray, List.set_cons_zero, List.set_cons_succ]
  refine takeR 7 68 (.pointer (some ⟨g, 2, none⟩)) (by kernel_rfl) (by kernel_rfl) (by kernel_rfl) (by kernel_rfl) (fun _ _ _ h => h) (by kernel_rfl) (fun w o hSw ho => ?_) hHeld ?_
  · obtain rfl := Option.some.inj ho; go_simp
  simp only [Act.put, List.setIfInBounds_toArray, List.set_cons_zero, List.set_cons_succ]
  refine takeR 3 64 (.int .i64 c) (by kernel_rfl) (by kernel_rfl) (by kernel_rfl) (by kernel_rfl) (fun _ _ _ h => h) (by kernel_rfl) (fun w o hSw ho => ?_) hHeld ?_
  · obtain rfl := Option.some.inj ho; obtain ⟨z0, z1, z2, z3, z4, z5, z6, z7⟩ := HK2.out _ hSw; go_simp
  simp only [Act.put, List.setIfInBounds_toArray, List.set_cons_zero, List.set_cons_succ]
  refine takeR 8 69 (.int .i64 1) (by kernel_rfl) (by kernel_rfl) (by kernel_rfl) (by kernel_rfl) (fun _ _ _ h => h) (by kernel_rfl) (fun w o hSw ho => ?_) hHeld ?_
  · obtain rfl := Option.some.inj ho; obtain ⟨z0, z1, z2, z3, z4, z5, z6, z7⟩ := HK2.out _ hSw; go_simp
  simp only [Act.put, List.setIfInBounds_toArray, List.set_cons_zero, List.set_cons_succ]
  refine takeR 9 70 (.int .i64 2) (by kernel_rfl) (by kernel_rfl) (by kernel_rfl) (by kernel_rfl) (fun _ _ _ h => h) (by kernel_rfl) (fun w o hSw ho => ?_) hHeld ?_
  · obtain rfl := Option.some.inj ho; go_simp; rfl
  simp only [Act.put, List.setIfInBounds_toArray, List.set_cons_zero, List.set_cons_succ]
  refine oneR 4 (by kernel_rfl) (by kernel_rfl) (fun o ho K' hK => ?_)
  obtain rfl := Option.some.inj ho
  clear ho
  go_simp
  refine (HPK.out _).mono ?_
  rintro e V1 ⟨rfl, rfl⟩
  go_wp2_with fail
  refine hK.out _ _ (hHeld) (fun hHeld => ?_)
  clear hK K'
  try simp only [Act.put, List.setIfInBounds_toArray, List.set_cons_zero, List.set_cons_succ]
  have HV1 := Lib.hid hHeld
  refine oneR 10 (by kernel_rfl) (by kernel_rfl) (fun o ho K' hK => ?_)
  obtain rfl := Option.some.inj ho
  clear ho
  go_simp
  refine hK.out _ _ (below_on hHeld (below_mk _ _)) (fun hHeld => ?_)
  clear hK K'
  try simp only [Act.put, List.setIfInBounds_toArray, List.set_cons_zero, List.set_cons_succ]
  refine oneR 11 (by kernel_rfl) (by kernel_rfl) (fun o ho K' hK => ?_)
  obtain rfl := Option.some.inj ho
  clear ho
  go_simp
  refine (HSL.out W.drew (W.heap.size) (by simp)).mono ?_
  rintro e V2 ⟨v2, rfl, ho2, hb2⟩
  have HV2 := Lib.hid (below_on hHeld hb2)
  have HE := Lib.hid (own_low ho2 (below_on HB2.out HV2.out) (by have h1 := HB2.out.size; have h2 := HV1.out.size; simp at h2 ⊢; omega))
  clear ho2 hb2 hHeld
  go_wp2_with fail
  refine hK.out _ _ (HV2.out) (fun hHeld => ?_)
  clear hK K'
  try simp only [Act.put, List.setIfInBounds_toArray, List.set_cons_zero, List.set_cons_succ]
  refine takeR 12 4 (v2) (by kernel_rfl) (by kernel_rfl) (by kernel_rfl) (by kernel_rfl) (fun _ _ _ h => h) (by kernel_rfl) (fun w o hSw ho => ?_) hHeld ?_
  · obtain rfl := Option.some.inj ho; go_simp
  simp only [Act.put, List.setIfInBounds_toArray, List.set_cons_zero, List.set_cons_succ]
  refine wpAnyH_done (by kernel_rfl) ?_ _
  refine NoPanic.normal ?_
  go_wp2_with fail
  go_ret
  exact HE.out

set_option maxRecDepth 100000 in
set_option maxHeartbeats 4000000 in
theorem other_st_2 (cu : Bool) (mo : Int) (sg pa : Bool) (kind c bu ac cl ro : Int) (ds : Value) (b g : Nat) (w : World) (hM : AtL w b [.bool cu, .bool true, .int .i64 mo, .bool sg, .bool pa]) (hE : AtL w g [.int .i64 kind, .int .i64 c, .int .i64 2, .int .i64 bu, .int .i64 ac, .int .i64 cl, .int .i64 ro, ds]) (h : Typed c 2) (hs : special c = true) :
    Calls Tryz.prog 76 #[.pointer (some ⟨b, 0, none⟩), .pointer (some ⟨g, 0, none⟩)] w (NewOwn w (typedE true c 2)) := by
  have hne : plainE c 2 ≠ [] := by
    unfold plainE
    rw [if_pos hs]
    simp
  have hh : plainE c 2 = [] ∨ ((2 : Int) ≠ 0 ∧ (special c = true ∨ (2 : Int) ≠ 4)) := .inr ⟨by omega, .inl hs⟩
  have h127 : 126 < c := by simp [special, inR] at hs; omega
  have hin : inR c 32 126 = false := by simp [inR]; omega
  rw [typedE_coded hh (.inr h127)]
  clear hh
  have HSL := Lib.hid (fun (W : World) g hg => l5Seq_lit #[.int .i64 (codeE c), .int .i64 3] [codeE c, 3] 117 2 W 2 g hg rfl rfl (inNum2 h.code.1 h.code.2.1 (by omega) (by omega)) (by simp) (by omega) (by omega))
  rw [show byteE 117 = 117 from rfl] at HSL
  rw [show (2 : Int) + 1 = 3 from rfl]
  have HPK := Lib.hid (fun W => l5Code_any c W)
  have hok : (!(plainE c 2).isEmpty) = true := by simp [hne]
  obtain ⟨i0, hi0, hz0, hz1, hz2⟩ := info_parts Tryz.info_u8
  have HI := Lib.hid (And.intro hi0 (And.intro hz0 (And.intro hz1 hz2)))
  clear hi0 hz0 hz1 hz2
  have HP := Lib.hid (l5Plain_any kind c 2 bu ac cl ro ds g w hE h)
  rw [hok] at HP
  have hll := plain_len c 2
  have hcode := h.code
  have HMM := Lib.hid hM
  have HEE := Lib.hid hE
  clear hM hE hok
  generalize plainE c 2 = L at *
  go_enter Tryz.func76, Tryz.ntmps76
  go_wp2_with fail
  refine HP.out.mono ?_
  rintro e w1 ⟨v, rfl, ho, hb⟩
  have HO := Lib.hid ho
  have HB := Lib.hid hb
  have HM1 := Lib.hid (HMM.out.on hb)
  have HE1 := Lib.hid (HEE.out.on hb)
  have m1 := HM1.out.get 1 rfl
  obtain ⟨z0, z1, z2, z3, z4, z5, z6, z7⟩ := AtL.eightS HE1.out
  clear z0 z3 z4 z5 z6 z7 HP HMM HEE ho hb
  go_wp2_with fail
  refine (specIsSpecial_any c _).mono ?_
  rintro e w2 ⟨rfl, rfl⟩
  rw [hs]
  go_wp2_with (go_at_call 70; refine (l1In_any _ _ _ _).mono ?_; rintro e w' ⟨rfl, rfl⟩; rw [hin])
  refine wp_gen3 (fun W => AtL W g [.int .i64 kind, .int .i64 c, .int .i64 2, .int .i64 bu, .int .i64 ac, .int .i64 cl, .int .i64 ro, ds] ∧ Below w.heap.size w W) ⟨HE1.out, HB.out⟩ (fun W hW => ?_)
  obtain ⟨hk, hb⟩ := hW
  have HK2 := Lib.hid (fun W' (hW : Below W.heap.size W W') => AtL.eightS (hk.on hW))
  have HB2 := Lib.hid hb
  clear hk hb HM1 HE1 HO HB m1 z1 z2
  refine wp_region_noPanic ?_
  refine wp_region_held_drew (S := fun W' => Below (W).heap.size (W) W') (by kernel_rfl) (below_drewN (Below.refl _ _) 1) (fun hHeld => ?_)
  refine takeR 0 61 (.pointer (some ⟨g, 0, none⟩)) (by kernel_rfl) (by kernel_rfl) (by kernel_rfl) (by kernel_rfl) (fun _ _ _ h => h) (by kernel_rfl) (fun w o hSw ho => ?_) hHeld ?_
  · obtain rfl := Option.some.inj ho; go_simp
  simp only [Act.put, List.setIfInBounds_toArray, List.set_cons_zero, List.set_cons_succ]
  refine takeR 5 66 (.pointer (some ⟨g, 0, none⟩)) (by kernel_rfl) (by kernel_rfl) (by kernel_rfl) (by kernel_rfl) (fun _ _ _ h => h) (by kernel_rfl) (fun w o hSw ho => ?_) hHeld ?_
  · obtain rfl := Option.some.inj ho; go_simp
  simp only [Act.put, List.setIfInBounds_toArray, List.set_cons_zero, List.set_cons_succ]
  refine takeR 1 62 (.pointer (some ⟨g, 0, none⟩)) (by kernel_rfl) (by kernel_rfl) (by kernel_rfl) (by kernel_rfl) (fun _ _ _ h => h) (by kernel_rfl) (fun w o hSw ho => ?_) hHeld ?_
  · obtain rfl := Option.some.inj ho; go_simp
  simp only [Act.put, List.setIfInBounds_toArray, List.set_cons_zero, List.set_cons_succ]
  refine takeR 6 67 (.pointer (some ⟨g, 0, none⟩)) (by kernel_rfl) (by kernel_rfl) (by kernel_rfl) (by kernel_rfl) (fun _ _ _ h => h) (by kernel_rfl) (fun w o hSw ho => ?_) hHeld ?_
  · obtain rfl := Option.some.inj ho; go_simp
  simp only [Act.put, List.setIfInBounds_toArray, List.set_cons_zero, List.set_cons_succ]
  refine takeR 2 63 (.pointer (some ⟨g, 1, none⟩)) (by kernel_rfl) (by kernel_rfl) (by kernel_rfl) (by kernel_rfl) (fun _ _ _ h => h) (by kernel_rfl) (fun w o hSw ho => ?_) hHeld ?_
  · obtain rfl := Option.some.inj ho; go_simp
  simp only [Act.put, List.setIfInBounds_toArray, List.set_cons_zero, List.set_cons_succ]
  refine takeR 7 68 (.pointer (some ⟨g, 2, none⟩)) (by kernel_rfl) (by kernel_rfl) (by kernel_rfl) (by kernel_rfl) (fun _ _ _ h => h) (by kernel_rfl) (fun w o hSw ho => ?_) hHeld ?_
  · obtain rfl := Option.some.inj ho; go_simp
  simp only [Act.put, List.setIfInBounds_toArray, List.set_cons_zero, List.set_cons_succ]
  refine takeR 3 64 (.int .i64 c) (by kernel_rfl) (by kernel_rfl) (by kernel_rfl) (by kernel_rfl) (fun _ _ _ h => h) (by kernel_rfl) (fun w o hSw ho => ?_) hHeld ?_
  · obtain rfl := Option.some.inj ho; obtain ⟨z0, z1, z2, z3, z4, z5, z6, z7⟩ := HK2.out _ hSw; go_simp
  simp only [Act.put, List.setIfInBounds_toArray, List.set_cons_zero, List.set_cons_succ]
  refine takeR 8 69 (.int .i64 2) (by kernel_rfl) (by kernel_rfl) (by kernel_rfl) (by kernel_rfl) (fun _ _ _ h => h) (by kernel_rfl) (fun w o hSw ho => ?_) hHeld ?_
  · obtain rfl := Option.some.inj ho; obtain ⟨z0, z1, z2, z3, z4, z5, z6, z7⟩ := HK2.out _ hSw; go_simp
  simp only [Act.put, List.setIfInBounds_toArray, List.set_cons_zero, List.set_cons_succ]
  refine takeR 9 70 (.int .i64 3) (by kernel_rfl) (by kernel_rfl) (by kernel_rfl) (by kernel_rfl) (fun _ _ _ h => h) (by kernel_rfl) (fun w o hSw ho => ?_) hHeld ?_
  · obtain rfl := Option.some.inj ho; go_simp; rfl
  simp only [Act.put, List.setIfInBounds_toArray, List.set_cons_zero, List.set_cons_succ]
  refine oneR 4 (by kernel_rfl) (by kernel_rfl) (fun o ho K' hK => ?_)
  obtain rfl := Option.some.inj ho
  clear ho
  go_simp
  refine (HPK.out _).mono ?_
  rintro e V1 ⟨rfl, rfl⟩
  go_wp2_with fail
  refine hK.out _ _ (hHeld) (fun hHeld => ?_)
  clear hK K'
  try simp only [Act.put, List.setIfInBounds_toArray, List.set_cons_zero, List.set_cons_succ]
  have HV1 := Lib.hid hHeld
  refine oneR 10 (by kernel_rfl) (by kernel_rfl) (fun o ho K' hK => ?_)
  obtain rfl := Option.some.inj ho
  clear ho
  go_simp
  refine hK.out _ _ (below_on hHeld (below_mk _ _)) (fun hHeld => ?_)
  clear hK K'
  try simp only [Act.put, List.setIfInBounds_toArray, List.set_cons_zero, List.set_cons_succ]
  refine oneR 11 (by kernel_rfl) (by kernel_rfl) (fun o ho K' hK => ?_)
  obtain rfl := Option.some.inj ho
  clear ho
  go_simp
  refine (HSL.out W.drew (W.heap.size) (by simp)).mono ?_
  rintro e V2 ⟨v2, rfl, ho2, hb2⟩
  have HV2 := Lib.hid (below_on hHeld hb2)
  have HE := Lib.hid (own_low ho2 (below_on HB2.out HV2.out) (by have h1 := HB2.out.size; have h2 := HV1.out.size; simp at h2 ⊢; omega))
  clear ho2 hb2 hHeld
  go_wp2_with fail
  refine hK.out _ _ (HV2.out) (fun hHeld => ?_)
  clear hK K'
  try simp only [Act.put, List.setIfInBounds_toArray, List.set_cons_zero, List.set_cons_succ]
  refine takeR 12 4 (v2) (by kernel_rfl) (by kernel_rfl) (by kernel_rfl) (by kernel_rfl) (fun _ _ _ h => h) (by kernel_rfl) (fun w o hSw ho => ?_) hHeld ?_
  · obtain rfl := Option.some.inj ho; go_simp
  simp only [Act.put, List.setIfInBounds_toArray, List.set_cons_zero, List.set_cons_succ]
  refine wpAnyH_done (by kernel_rfl) ?_ _
  refine NoPanic.normal ?_
  go_wp2_with fail
  go_ret
  exact HE.out

set_option maxRecDepth 100000 in
set_option maxHeartbeats 4000000 in
theorem other_st_3 (cu : Bool) (mo : Int) (sg pa : Bool) (kind c bu ac cl ro : Int) (ds : Value) (b g : Nat) (w : World) (hM : AtL w b [.bool cu, .bool true, .int .i64 mo, .bool sg, .bool pa]) (hE : AtL w g [.int .i64 kind, .int .i64 c, .int .i64 3, .int .i64 bu, .int .i64 ac, .int .i64 cl, .int .i64 ro, ds]) (h : Typed c 3) (hs : special c = true) :
    Calls Tryz.prog 76 #[.pointer (some ⟨b, 0, none⟩), .pointer (some ⟨g, 0, none⟩)] w (NewOwn w (typedE true c 3)) := by
  have hne : plainE c 3 ≠ [] := by
    unfold plainE
    rw [if_pos hs]
    simp
  have hh : plainE c 3 = [] ∨ ((3 : Int) ≠ 0 ∧ (special c = true ∨ (3 : Int) ≠ 4)) := .inr ⟨by omega, .inl hs⟩
  rw [typedE_coded hh (.inl (by omega))]
  clear hh
  have HSL := Lib.hid (fun (W : World) g hg => l5Seq_lit #[.int .i64 (codeE c), .int .i64 4] [codeE c, 4] 117 2 W 2 g hg rfl rfl (inNum2 h.code.1 h.code.2.1 (by omega) (by omega)) (by simp) (by omega) (by omega))
  rw [show byteE 117 = 117 from rfl] at HSL
  rw [show (3 : Int) + 1 = 4 from rfl]
  have HPK := Lib.hid (fun W => l5Code_any c W)
  have hok : (!(plainE c 3).isEmpty) = true := by simp [hne]
  obtain ⟨i0, hi0, hz0, hz1, hz2⟩ := info_parts Tryz.info_u8
  have HI := Lib.hid (And.intro hi0 (And.intro hz0 (And.intro hz1 hz2)))
  clear hi0 hz0 hz1 hz2
  have HP := Lib.hid (l5Plain_any kind c 3 bu ac cl ro ds g w hE h)
  rw [hok] at HP
  have hll := plain_len c 3
  have hcode := h.code
  have HMM := Lib.hid hM
  have HEE := Lib.hid hE
  clear hM hE hok
  generalize plainE c 3 = L at *
  go_enter Tryz.func76, Tryz.ntmps76
  go_wp2_with fail
  refine HP.out.mono ?_
  rintro e w1 ⟨v, rfl, ho, hb⟩
  have HO := Lib.hid ho
  have HB := Lib.hid hb
  have HM1 := Lib.hid (HMM.out.on hb)
  have HE1 := Lib.hid (HEE.out.on hb)
  have m1 := HM1.out.get 1 rfl
  obtain ⟨z0, z1, z2, z3, z4, z5, z6, z7⟩ := AtL.eightS HE1.out
  clear z0 z3 z4 z5 z6 z7 HP HMM HEE ho hb
  go_wp2_with fail
  refine (specIsSpecial_any c _).mono ?_
  rintro e w2 ⟨rfl, rfl⟩
  rw [hs]
  go_wp2_with fail
  refine wp_gen3 (fun W => AtL W g [.int .i64 kind, .int .i64 c, .int .i64 3, .int .i64 bu, .int .i64 ac, .int .i64 cl, .int .i64 ro, ds] ∧ Below w.heap.size w W) ⟨HE1.out, HB.out⟩ (fun W hW => ?_)
  obtain ⟨hk, hb⟩ := hW
  have HK2 := Lib.hid (fun W' (hW : Below W.heap.size W W') => AtL.eightS (hk.on hW))
  have HB2 := Lib.hid hb
  clear hk hb HM1 HE1 HO HB m1 z1 z2
  refine wp_region_noPanic ?_
  refine wp_region_held_drew (S := fun W' => Below (W).heap.size (W) W') (by kernel_rfl) (below_drewN (Below.refl _ _) 1) (fun hHeld => ?_)
  refine takeR 0 61 (.pointer (some ⟨g, 0, none⟩)) (by kernel_rfl) (by kernel_rfl) (by kernel_rfl) (by kernel_rfl) (fun _ _ _ h => h) (by kernel_rfl) (fun w o hSw ho => ?_) hHeld ?_
  · obtain rfl := Option.some.inj ho; go_simp
  simp only [Act.put, List.setIfInBounds_toArray, List.set_cons_zero, List.set_cons_succ]
  refine takeR 5 66 (.pointer (some ⟨g, 0, none⟩)) (by kernel_rfl) (by kernel_rfl) (by kernel_rfl) (by kernel_rfl) (fun _ _ _ h => h) (by kernel_rfl) (fun w o hSw ho => ?_) hHeld ?_
  · obtain rfl := Option.some.inj ho; go_simp
  simp only [Act.put, List.setIfInBounds_toArray, List.set_cons_zero, List.set_cons_succ]
  refine takeR 1 62 (.pointer (some ⟨g, 0, none⟩)) (by kernel_rfl) (by kernel_rfl) (by kernel_rfl) (by kernel_rfl) (fun _ _ _ h => h) (by kernel_rfl) (fun w o hSw ho => ?_) hHeld ?_
  · obtain rfl := Option.some.inj ho; go_simp
  simp only [Act.put, List.setIfInBounds_toArray, List.set_cons_zero, List.set_cons_succ]
  refine takeR 6 67 (.pointer (some ⟨g, 0, none⟩)) (by kernel_rfl) (by kernel_rfl) (by kernel_rfl) (by kernel_rfl) (fun _ _ _ h => h) (by kernel_rfl) (fun w o hSw ho => ?_) hHeld ?_
  · obtain rfl := Option.some.inj ho; go_simp
  simp only [Act.put, List.setIfInBounds_toArray, List.set_cons_zero, List.set_cons_succ]
  refine takeR 2 63 (.pointer (some ⟨g, 1, none⟩)) (by kernel_rfl) (by kernel_rfl) (by kernel_rfl) (by kernel_rfl) (fun _ _ _ h => h) (by kernel_rfl) (fun w o hSw ho => ?_) hHeld ?_
  · obtain rfl := Option.some.inj ho; go_simp
  simp only [Act.put, List.setIfInBounds_toArray, List.set_cons_zero, List.set_cons_succ]
  refine takeR 7 68 (.pointer (some ⟨g, 2, none⟩)) (by kernel_rfl) (by kernel_rfl) (by kernel_rfl) (by kernel_rfl) (fun _ _ _ h => h) (by kernel_rfl) (fun w o hSw ho => ?_) hHeld ?_
  · obtain rfl := Option.some.inj ho; go_simp
  simp only [Act.put, List.setIfInBounds_toArray, List.set_cons_zero, List.set_cons_succ]
  refine takeR 3 64 (.int .i64 c) (by kernel_rfl) (by kernel_rfl) (by kernel_rfl) (by kernel_rfl) (fun _ _ _ h => h) (by kernel_rfl) (fun w o hSw ho => ?_) hHeld ?_
  · obtain rfl := Option.some.inj ho; obtain ⟨z0, z1, z2, z3, z4, z5, z6, z7⟩ := HK2.out _ hSw; go_simp
  simp only [Act.put, List.setIfInBounds_toArray, List.set_cons_zero, List.set_cons_succ]
  refine takeR 8 69 (.int .i64 3) (by kernel_rfl) (by kernel_rfl) (by kernel_rfl) (by kernel_rfl) (fun _ _ _ h => h) (by kernel_rfl) (fun w o hSw ho => ?_) hHeld ?_
  · obtain rfl := Option.some.inj ho; obtain ⟨z0, z1, z2, z3, z4, z5, z6, z7⟩ := HK2.out _ hSw; go_simp
  simp only [Act.put, List.setIfInBounds_toArray, List.set_cons_zero, List.set_cons_succ]
  refine takeR 9 70 (.int .i64 4) (by kernel_rfl) (by kernel_rfl) (by kernel_rfl) (by kernel_rfl) (fun _ _ _ h => h) (by kernel_rfl) (fun w o hSw ho => ?_) hHeld ?_
  · obtain rfl := Option.some.inj ho; go_simp; rfl
  simp only [Act.put, List.setIfInBounds_toArray, List.set_cons_zero, List.set_cons_succ]
  refine oneR 4 (by kernel_rfl) (by kernel_rfl) (fun o ho K' hK => ?_)
  obtain rfl := Option.some.inj ho
  clear ho
  go_simp
  refine (HPK.out _).mono ?_
  rintro e V1 ⟨rfl, rfl⟩
  go_wp2_with fail
  refine hK.out _ _ (hHeld) (fun hHeld => ?_)
  clear hK K'
  try simp only [Act.put, List.setIfInBounds_toArray, List.set_cons_zero, List.set_cons_succ]
  have HV1 := Lib.hid hHeld
  refine oneR 10 (by kernel_rfl) (by kernel_rfl) (fun o ho K' hK => ?_)
  obtain rfl := Option.some.inj ho
  clear ho
  go_simp
  refine hK.out _ _ (below_on hHeld (below_mk _ _)) (fun hHeld => ?_)
  clear hK K'
  try simp only [Act.put, List.setIfInBounds_toArray, List.set_cons_zero, List.set_cons_succ]
  refine oneR 11 (by kernel_rfl) (by kernel_rfl) (fun o ho K' hK => ?_)
  obtain rfl := Option.some.inj ho
  clear ho
  go_simp
  refine (HSL.out W.drew (W.heap.size) (by simp)).mono ?_
  rintro e V2 ⟨v2, rfl, ho2, hb2⟩
  have HV2 := Lib.hid (below_on hHeld hb2)
  have HE := Lib.hid (own_low ho2 (below_on HB2.out HV2.out) (by have h1 := HB2.out.size; have h2 := HV1.out.size; simp at h2 ⊢; omega))
  clear ho2 hb2 hHeld
  go_wp2_with fail
  refine hK.out _ _ (HV2.out) (fun hHeld => ?_)
  clear hK K'
  try simp only [Act.put, List.setIfInBounds_toArray, List.set_cons_zero, List.set_cons_succ]
  refine takeR 12 4 (v2) (by kernel_rfl) (by kernel_rfl) (by kernel_rfl) (by kernel_rfl) (fun _ _ _ h => h) (by kernel_rfl) (fun w o hSw ho => ?_) hHeld ?_
  · obtain rfl := Option.some.inj ho; go_simp
  simp only [Act.put, List.setIfInBounds_toArray, List.set_cons_zero, List.set_cons_succ]
  refine wpAnyH_done (by kernel_rfl) ?_ _
  refine NoPanic.normal ?_
  go_wp2_with fail
  go_ret
  exact HE.out

set_option maxRecDepth 100000 in
set_option maxHeartbeats 4000000 in
theorem other_st_4 (cu : Bool) (mo : Int) (sg pa : Bool) (kind c bu ac cl ro : Int) (ds : Value) (b g : Nat) (w : World) (hM : AtL w b [.bool cu, .bool true, .int .i64 mo, .bool sg, .bool pa]) (hE : AtL w g [.int .i64 kind, .int .i64 c, .int .i64 4, .int .i64 bu, .int .i64 ac, .int .i64 cl, .int .i64 ro, ds]) (h : Typed c 4) (hs : special c = true) :
    Calls Tryz.prog 76 #[.pointer (some ⟨b, 0, none⟩), .pointer (some ⟨g, 0, none⟩)] w (NewOwn w (typedE true c 4)) := by
  have hne : plainE c 4 ≠ [] := by
    unfold plainE
    rw [if_pos hs]
    simp
  have hh : plainE c 4 = [] ∨ ((4 : Int) ≠ 0 ∧ (special c = true ∨ (4 : Int) ≠ 4)) := .inr ⟨by omega, .inl hs⟩
  rw [typedE_coded hh (.inl (by omega))]
  clear hh
  have HSL := Lib.hid (fun (W : World) g hg => l5Seq_lit #[.int .i64 (codeE c), .int .i64 5] [codeE c, 5] 117 2 W 2 g hg rfl rfl (inNum2 h.code.1 h.code.2.1 (by omega) (by omega)) (by simp) (by omega) (by omega))
  rw [show byteE 117 = 117 from rfl] at HSL
  rw [show (4 : Int) + 1 = 5 from rfl]
  have HPK := Lib.hid (fun W => l5Code_any c W)
  have hok : (!(plainE c 4).isEmpty) = true := by simp [hne]
  obtain ⟨i0, hi0, hz0, hz1, hz2⟩ := info_parts Tryz.info_u8
  have HI := Lib.hid (And.intro hi0 (And.intro hz0 (And.intro hz1 hz2)))
  clear hi0 hz0 hz1 hz2
  have HP := Lib.hid (l5Plain_any kind c 4 bu ac cl ro ds g w hE h)
  rw [hok] at HP
  have hll := plain_len c 4
  have hcode := h.code
  have HMM := Lib.hid hM
  have HEE := Lib.hid hE
  clear hM hE hok
  generalize plainE c 4 = L at *
  go_enter Tryz.func76, Tryz.ntmps76
  go_wp2_with fail
  refine HP.out.mono ?_
  rintro e w1 ⟨v, rfl, ho, hb⟩
  have HO := Lib.hid ho
  have HB := Lib.hid hb
  have HM1 := Lib.hid (HMM.out.on hb)
  have HE1 := Lib.hid (HEE.out.on hb)
  have m1 := HM1.out.get 1 rfl
  obtain ⟨z0, z1, z2, z3, z4, z5, z6, z7⟩ := AtL.eightS HE1.out
  clear z0 z3 z4 z5 z6 z7 HP HMM HEE ho hb
  go_wp2_with fail
  refine (specIsSpecial_any c _).mono ?_
  rintro e w2 ⟨rfl, rfl⟩
  rw [hs]
  go_wp2_with fail
  refine wp_gen3 (fun W => AtL W g [.int .i64 kind, .int .i64 c, .int .i64 4, .int .i64 bu, .int .i64 ac, .int .i64 cl, .int .i64 ro, ds] ∧ Below w.heap.size w W) ⟨HE1.out, HB.out⟩ (fun W hW => ?_)
  obtain ⟨hk, hb⟩ := hW
  have HK2 := Lib.hid (fun W' (hW : Below W.heap.size W W') => AtL.eightS (hk.on hW))
  have HB2 := Lib.hid hb
  clear hk hb HM1 HE1 HO HB m1 z1 z2
  refine wp_region_noPanic ?_
  refine wp_region_held_drew (S := fun W' => Below (W).heap.size (W) W') (by kernel_rfl) (below_drewN (Below.refl _ _) 1) (fun hHeld => ?_)
  refine takeR 0 61 (.pointer (some ⟨g, 0, none⟩)) (by kernel_rfl) (by kernel_rfl) (by kernel_rfl) (by kernel_rfl) (fun _ _ _ h => h) (by kernel_rfl) (fun w o hSw ho => ?_) hHeld ?_
  · obtain rfl := Option.some.inj ho; go_simp
  simp only [Act.put, List.setIfInBounds_toArray, List.set_cons_zero, List.set_cons_succ]
  refine takeR 5 66 (.pointer (some ⟨g, 0, none⟩)) (by kernel_rfl) (by kernel_rfl) (by kernel_rfl) (by kernel_rfl) (fun _ _ _ h => h) (by kernel_rfl) (fun w o hSw ho => ?_) hHeld ?_
  · obtain rfl := Option.some.inj ho; go_simp
  simp only [Act.put, List.setIfInBounds_toArray, List.set_cons_zero, List.set_cons_succ]
  refine takeR 1 62 (.pointer (some ⟨g, 0, none⟩)) (by kernel_rfl) (by kernel_rfl) (by kernel_rfl) (by kernel_rfl) (fun _ _ _ h => h) (by kernel_rfl) (fun w o hSw ho => ?_) hHeld ?_
  · obtain rfl := Option.some.inj ho; go_simp
  simp only [Act.put, List.setIfInBounds_toArray, List.set_cons_zero, List.set_cons_succ]
  refine takeR 6 67 (.pointer (some ⟨g, 0, none⟩)) (by kernel_rfl) (by kernel_rfl) (by kernel_rfl) (by kernel_rfl) (fun _ _ _ h => h) (by kernel_rfl) (fun w o hSw ho => ?_) hHeld ?_
  · obtain rfl := Option.some.inj ho; go_simp
  simp only [Act.put, List.setIfInBounds_toArray, List.set_cons_zero, List.set_cons_succ]
  refine takeR 2 63 (.pointer (some ⟨g, 1, none⟩)) (by kernel_rfl) (by kernel_rfl) (by kernel_rfl) (by kernel_rfl) (fun _ _ _ h => h) (by kernel_rfl) (fun w o hSw ho => ?_) hHeld ?_
  · obtain rfl := Option.some.inj ho; go_simp
  simp only [Act.put, List.setIfInBounds_toArray, List.set_cons_zero, List.set_cons_succ]
  refine takeR 7 68 (.pointer (some ⟨g, 2, none⟩)) (by kernel_rfl) (by kernel_rfl) (by kernel_rfl) (by kernel_rfl) (fun _ _ _ h => h) (by kernel_rfl) (fun w o hSw ho => ?_) hHeld ?_
  · obtain rfl := Option.some.inj ho; go_simp
  simp only [Act.put, List.setIfInBounds_toArray, List.set_cons_zero, List.set_cons_succ]
  refine takeR 3 64 (.int .i64 c) (by kernel_rfl) (by kernel_rfl) (by kernel_rfl) (by kernel_rfl) (fun _ _ _ h => h) (by kernel_rfl) (fun w o hSw ho => ?_) hHeld ?_
  · obtain rfl := Option.some.inj ho; obtain ⟨z0, z1, z2, z3, z4, z5, z6, z7⟩ := HK2.out _ hSw; go_simp
  simp only [Act.put, List.setIfInBounds_toArray, List.set_cons_zero, List.set_cons_succ]
  refine takeR 8 69 (.int .i64 4) (by kernel_rfl) (by kernel_rfl) (by kernel_rfl) (by kernel_rfl) (fun _ _ _ h => h) (by kernel_rfl) (fun w o hSw ho => ?_) hHeld ?_
  · obtain rfl := Option.some.inj ho; obtain ⟨z0, z1, z2, z3, z4, z5, z6, z7⟩ := HK2.out _ hSw; go_simp
  simp only [Act.put, List.setIfInBounds_toArray, List.set_cons_zero, List.set_cons_succ]
  refine takeR 9 70 (.int .i64 5) (by kernel_rfl) (by kernel_rfl) (by kernel_rfl) (by kernel_rfl) (fun _ _ _ h => h) (by kernel_rfl) (fun w o hSw ho => ?_) hHeld ?_
  · obtain rfl := Option.some.inj ho; go_simp; rfl
  simp only [Act.put, List.setIfInBounds_toArray, List.set_cons_zero, List.set_cons_succ]
  refine oneR 4 (by kernel_rfl) (by kernel_rfl) (fun o ho K' hK => ?_)
  obtain rfl := Option.some.inj ho
  clear ho
  go_simp
  refine (HPK.out _).mono ?_
  rintro e V1 ⟨rfl, rfl⟩
  go_wp2_with fail
  refine hK.out _ _ (hHeld) (fun hHeld => ?_)
  clear hK K'
  try simp only [Act.put, List.setIfInBounds_toArray, List.set_cons_zero, List.set_cons_succ]
  have HV1 := Lib.hid hHeld
  refine oneR 10 (by kernel_rfl) (by kernel_rfl) (fun o ho K' hK => ?_)
  obtain rfl := Option.some.inj ho
  clear ho
  go_simp
  refine hK.out _ _ (below_on hHeld (below_mk _ _)) (fun hHeld => ?_)
  clear hK K'
  try simp only [Act.put, List.setIfInBounds_toArray, List.set_cons_zero, List.set_cons_succ]
  refine oneR 11 (by kernel_rfl) (by kernel_rfl) (fun o ho K' hK => ?_)
  obtain rfl := Option.some.inj ho
  clear ho
  go_simp
  refine (HSL.out W.drew (W.heap.size) (by simp)).mono ?_
  rintro e V2 ⟨v2, rfl, ho2, hb2⟩
  have HV2 := Lib.hid (below_on hHeld hb2)
  have HE := Lib.hid (own_low ho2 (below_on HB2.out HV2.out) (by have h1 := HB2.out.size; have h2 := HV1.out.size; simp at h2 ⊢; omega))
  clear ho2 hb2 hHeld
  go_wp2_with fail
  refine hK.out _ _ (HV2.out) (fun hHeld => ?_)
  clear hK K'
  try simp only [Act.put, List.setIfInBounds_toArray, List.set_cons_zero, List.set_cons_succ]
  refine takeR 12 4 (v2) (by kernel_rfl) (by kernel_rfl) (by kernel_rfl) (by kernel_rfl) (fun _ _ _ h => h) (by kernel_rfl) (fun w o hSw ho => ?_) hHeld ?_
  · obtain rfl := Option.some.inj ho; go_simp
  simp only [Act.put, List.setIfInBounds_toArray, List.set_cons_zero, List.set_cons_succ]
  refine wpAnyH_done (by kernel_rfl) ?_ _
  refine NoPanic.normal ?_
  go_wp2_with fail
  go_ret
  exact HE.out

set_option maxRecDepth 100000 in
set_option maxHeartbeats 4000000 in
theorem other_st_5 (cu : Bool) (mo : Int) (sg pa : Bool) (kind c bu ac cl ro : Int) (ds : Value) (b g : Nat) (w : World) (hM : AtL w b [.bool cu, .bool true, .int .i64 mo, .bool sg, .bool pa]) (hE : AtL w g [.int .i64 kind, .int .i64 c, .int .i64 5, .int .i64 bu, .int .i64 ac, .int .i64 cl, .int .i64 ro, ds]) (h : Typed c 5) (hs : special c = true) :
    Calls Tryz.prog 76 #[.pointer (some ⟨b, 0, none⟩), .pointer (some ⟨g, 0, none⟩)] w (NewOwn w (typedE true c 5)) := by
  have hne : plainE c 5 ≠ [] := by
    unfold plainE
    rw [if_pos hs]
    simp
  have hh : plainE c 5 = [] ∨ ((5 : Int) ≠ 0 ∧ (special c = true ∨ (5 : Int) ≠ 4)) := .inr ⟨by omega, .inl hs⟩
  rw [typedE_coded hh (.inl (by omega))]
  clear hh
  have HSL := Lib.hid (fun (W : World) g hg => l5Seq_lit #[.int .i64 (codeE c), .int .i64 6] [codeE c, 6] 117 2 W 2 g hg rfl rfl (inNum2 h.code.1 h.code.2.1 (by omega) (by omega)) (by simp) (by omega) (by omega))
  rw [show byteE 117 = 117 from rfl] at HSL
  rw [show (5 : Int) + 1 = 6 from rfl]
  have HPK := Lib.hid (fun W => l5Code_any c W)
  have hok : (!(plainE c 5).isEmpty) = true := by simp [hne]
  obtain ⟨i0, hi0, hz0, hz1, hz2⟩ := info_parts Tryz.info_u8
  have HI := Lib.hid (And.intro hi0 (And.intro hz0 (And.intro hz1 hz2)))
  clear hi0 hz0 hz1 hz2
  have HP := Lib.hid (l5Plain_any kind c 5 bu ac cl ro ds g w hE h)
  rw [hok] at HP
  have hll := plain_len c 5
  have hcode := h.code
  have HMM := Lib.hid hM
  have HEE := Lib.hid hE
  clear hM hE hok
  generalize plainE c 5 = L at *
  go_enter Tryz.func76, Tryz.ntmps76
  go_wp2_with fail
  refine HP.out.mono ?_
  rintro e w1 ⟨v, rfl, ho, hb⟩
  have HO := Lib.hid ho
  have HB := Lib.hid hb
  have HM1 := Lib.hid (HMM.out.on hb)
  have HE1 := Lib.hid (HEE.out.on hb)
  have m1 := HM1.out.get 1 rfl
  obtain ⟨z0, z1, z2, z3, z4, z5, z6, z7⟩ := AtL.eightS HE1.out
  clear z0 z3 z4 z5 z6 z7 HP HMM HEE ho hb
  go_wp2_with fail
  refine (specIsSpecial_any c _).mono ?_
  rintro e w2 ⟨rfl, rfl⟩
  rw [hs]
  go_wp2_with fail
  refine wp_gen3 (fun W => AtL W g [.int .i64 kind, .int .i64 c, .int .i64 5, .int .i64 bu, .int .i64 ac, .int .i64 cl, .int .i64 ro, ds] ∧ Below w.heap.size w W) ⟨HE1.out, HB.out⟩ (fun W hW => ?_)
  obtain ⟨hk, hb⟩ := hW
  have HK2 := Lib.hid (fun W' (hW : Below W.heap.size W W') => AtL.eightS (hk.on hW))
  have HB2 := Lib.hid hb
  clear hk hb HM1 HE1 HO HB m1 z1 z2
  refine wp_region_noPanic ?_
  refine wp_region_held_drew (S := fun W' => Below (W).heap.size (W) W') (by kernel_rfl) (below_drewN (Below.refl _ _) 1) (fun hHeld => ?_)
  refine takeR 0 61 (.pointer (some ⟨g, 0, none⟩)) (by kernel_rfl) (by kernel_rfl) (by kernel_rfl) (by kernel_rfl) (fun _ _ _ h => h) (by kernel_rfl) (fun w o hSw ho => ?_) hHeld ?_
  · obtain rfl := Option.some.inj ho; go_simp
  simp only [Act.put, List.setIfInBounds_toArray, List.set_cons_zero, List.set_cons_succ]
  refine takeR 5 66 (.pointer (some ⟨g, 0, none⟩)) (by kernel_rfl) (by kernel_rfl) (by kernel_rfl) (by kernel_rfl) (fun _ _ _ h => h) (by kernel_rfl) (fun w o hSw ho => ?_) hHeld ?_
  · obtain rfl := Option.some.inj ho; go_simp
  simp only [Act.put, List.setIfInBounds_toArray, List.set_cons_zero, List.set_cons_succ]
  refine takeR 1 62 (.pointer (some ⟨g, 0, none⟩)) (by kernel_rfl) (by kernel_rfl) (by kernel_rfl) (by kernel_rfl) (fun _ _ _ h => h) (by kernel_rfl) (fun w o hSw ho => ?_) hHeld ?_
  · obtain rfl := Option.some.inj ho; go_simp
  simp only [Act.put, List.setIfInBounds_toArray, List.set_cons_zero, List.set_cons_succ]
  refine takeR 6 67 (.pointer (some ⟨g, 0, none⟩)) (by kernel_rfl) (by kernel_rfl) (by kernel_rfl) (by kernel_rfl) (fun _ _ _ h => h) (by kernel_rfl) (fun w o hSw ho => ?_) hHeld ?_
  · obtain rfl := Option.some.inj ho; go_simp
  simp only [Act.put, List.setIfInBounds_toArray, List.set_cons_zero, List.set_cons_succ]
  refine takeR 2 63 (.pointer (some ⟨g, 1, none⟩)) (by kernel_rfl) (by kernel_rfl) (by kernel_rfl) (by kernel_rfl) (fun _ _ _ h => h) (by kernel_rfl) (fun w o hSw ho => ?_) hHeld ?_
  · obtain rfl := Option.some.inj ho; go_simp
  simp only [Act.put, List.setIfInBounds_toArray, List.set_cons_zero, List.set_cons_succ]
  refine takeR 7 68 (.pointer (some ⟨g, 2, none⟩)) (by kernel_rfl) (by kernel_rfl) (by kernel_rfl) (by kernel_rfl) (fun _ _ _ h => h) (by kernel_rfl) (fun w o hSw ho => ?_) hHeld ?_
  · obtain rfl := Option.some.inj ho; go_simp
  simp only [Act.put, List.setIfInBounds_toArray, List.set_cons_zero, List.set_cons_succ]
  refine takeR 3 64 (.int .i64 c) (by kernel_rfl) (by kernel_rfl) (by kernel_rfl) (by kernel_rfl) (fun _ _ _ h => h) (by kernel_rfl) (fun w o hSw ho => ?_) hHeld ?_
  · obtain rfl := Option.some.inj ho; obtain ⟨z0, z1, z2, z3, z4, z5, z6, z7⟩ := HK2.out _ hSw; go_simp
  simp only [Act.put, List.setIfInBounds_toArray, List.set_cons_zero, List.set_cons_succ]
  refine takeR 8 69 (.int .i64 5) (by kernel_rfl) (by kernel_rfl) (by kernel_rfl) (by kernel_rfl) (fun _ _ _ h => h) (by kernel_rfl) (fun w o hSw ho => ?_) hHeld ?_
  · obtain rfl := Option.some.inj ho; obtain ⟨z0, z1, z2, z3, z4, z5, z6, z7⟩ := HK2.out _ hSw; go_simp
  simp only [Act.put, List.setIfInBounds_toArray, List.set_cons_zero, List.set_cons_succ]
  refine takeR 9 70 (.int .i64 6) (by kernel_rfl) (by kernel_rfl) (by kernel_rfl) (by kernel_rfl) (fun _ _ _ h => h) (by kernel_rfl) (fun w o hSw ho => ?_) hHeld ?_
  · obtain rfl := Option.some.inj ho; go_simp; rfl
  simp only [Act.put, List.setIfInBounds_toArray, List.set_cons_zero, List.set_cons_succ]
  refine oneR 4 (by kernel_rfl) (by kernel_rfl) (fun o ho K' hK => ?_)
  obtain rfl := Option.some.inj ho
  clear ho
  go_simp
  refine (HPK.out _).mono ?_
  rintro e V1 ⟨rfl, rfl⟩
  go_wp2_with fail
  refine hK.out _ _ (hHeld) (fun hHeld => ?_)
  clear hK K'
  try simp only [Act.put, List.setIfInBounds_toArray, List.set_cons_zero, List.set_cons_succ]
  have HV1 := Lib.hid hHeld
  refine oneR 10 (by kernel_rfl) (by kernel_rfl) (fun o ho K' hK => ?_)
  obtain rfl := Option.some.inj ho
  clear ho
  go_simp
  refine hK.out _ _ (below_on hHeld (below_mk _ _)) (fun hHeld => ?_)
  clear hK K'
  try simp only [Act.put, List.setIfInBounds_toArray, List.set_cons_zero, List.set_cons_succ]
  refine oneR 11 (by kernel_rfl) (by kernel_rfl) (fun o ho K' hK => ?_)
  obtain rfl := Option.some.inj ho
  clear ho
  go_simp
  refine (HSL.out W.drew (W.heap.size) (by simp)).mono ?_
  rintro e V2 ⟨v2, rfl, ho2, hb2⟩
  have HV2 := Lib.hid (below_on hHeld hb2)
  have HE := Lib.hid (own_low ho2 (below_on HB2.out HV2.out) (by have h1 := HB2.out.size; have h2 := HV1.out.size; simp at h2 ⊢; omega))
  clear ho2 hb2 hHeld
  go_wp2_with fail
  refine hK.out _ _ (HV2.out) (fun hHeld => ?_)
  clear hK K'
  try simp only [Act.put, List.setIfInBounds_toArray, List.set_cons_zero, List.set_cons_succ]
  refine takeR 12 4 (v2) (by kernel_rfl) (by kernel_rfl) (by kernel_rfl) (by kernel_rfl) (fun _ _ _ h => h) (by kernel_rfl) (fun w o hSw ho => ?_) hHeld ?_
  · obtain rfl := Option.some.inj ho; go_simp
  simp only [Act.put, List.setIfInBounds_toArray, List.set_cons_zero, List.set_cons_succ]
  refine wpAnyH_done (by kernel_rfl) ?_ _
  refine NoPanic.normal ?_
  go_wp2_with fail
  go_ret
  exact HE.out

set_option maxRecDepth 100000 in
set_option maxHeartbeats 4000000 in
theorem other_st_6 (cu : Bool) (mo : Int) (sg pa : Bool) (kind c bu ac cl ro : Int) (ds : Value) (b g : Nat) (w : World) (hM : AtL w b [.bool cu, .bool true, .int .i64 mo, .bool sg, .bool pa]) (hE : AtL w g [.int .i64 kind, .int .i64 c, .int .i64 6, .int .i64 bu, .int .i64 ac, .int .i64 cl, .int .i64 ro, ds]) (h : Typed c 6) (hs : special c = true) :
    Calls Tryz.prog 76 #[.pointer (some ⟨b, 0, none⟩), .pointer (some ⟨g, 0, none⟩)] w (NewOwn w (typedE true c 6)) := by
  have hne : plainE c 6 ≠ [] := by
    unfold plainE
    rw [if_pos hs]
    simp
  have hh : plainE c 6 = [] ∨ ((6 : Int) ≠ 0 ∧ (special c = true ∨ (6 : Int) ≠ 4)) := .inr ⟨by omega, .inl hs⟩
  rw [typedE_coded hh (.inl (by omega))]
  clear hh
  have HSL := Lib.hid (fun (W : World) g hg => l5Seq_lit #[.int .i64 (codeE c), .int .i64 7] [codeE c, 7] 117 2 W 2 g hg rfl rfl (inNum2 h.code.1 h.code.2.1 (by omega) (by omega)) (by simp) (by omega) (by omega))
  rw [show byteE 117 = 117 from rfl] at HSL
  rw [show (6 : Int) + 1 = 7 from rfl]
  have HPK := Lib.hid (fun W => l5Code_any c W)
  have hok : (!(plainE c 6).isEmpty) = true := by simp [hne]
  obtain ⟨i0, hi0, hz0, hz1, hz2⟩ := info_parts Tryz.info_u8
  have HI := Lib.hid (And.intro hi0 (And.intro hz0 (And.intro hz1 hz2)))
  clear hi0 hz0 hz1 hz2
  have HP := Lib.hid (l5Plain_any kind c 6 bu ac cl ro ds g w hE h)
  rw [hok] at HP
  have hll := plain_len c 6
  have hcode := h.code
  have HMM := Lib.hid hM
  have HEE := Lib.hid hE
  clear hM hE hok
  generalize plainE c 6 = L at *
  go_enter Tryz.func76, Tryz.ntmps76
  go_wp2_with fail
  refine HP.out.mono ?_
  rintro e w1 ⟨v, rfl, ho, hb⟩
  have HO := Lib.hid ho
  have HB := Lib.hid hb
  have HM1 := Lib.hid (HMM.out.on hb)
  have HE1 := Lib.hid (HEE.out.on hb)
  have m1 := HM1.out.get 1 rfl
  obtain ⟨z0, z1, z2, z3, z4, z5, z6, z7⟩ := AtL.eightS HE1.out
  clear z0 z3 z4 z5 z6 z7 HP HMM HEE ho hb
  go_wp2_with fail
  refine (specIsSpecial_any c _).mono ?_
  rintro e w2 ⟨rfl, rfl⟩
  rw [hs]
  go_wp2_with fail
  refine wp_gen3 (fun W => AtL W g [.int .i64 kind, .int .i64 c, .int .i64 6, .int .i64 bu, .int .i64 ac, .int .i64 cl, .int .i64 ro, ds] ∧ Below w.heap.size w W) ⟨HE1.out, HB.out⟩ (fun W hW => ?_)
  obtain ⟨hk, hb⟩ := hW
  have HK2 := Lib.hid (fun W' (hW : Below W.heap.size W W') => AtL.eightS (hk.on hW))
  have HB2 := Lib.hid hb
  clear hk hb HM1 HE1 HO HB m1 z1 z2
  refine wp_region_noPanic ?_
  refine wp_region_held_drew (S := fun W' => Below (W).heap.size (W) W') (by kernel_rfl) (below_drewN (Below.refl _ _) 1) (fun hHeld => ?_)
  refine takeR 0 61 (.pointer (some ⟨g, 0, none⟩)) (by kernel_rfl) (by kernel_rfl) (by kernel_rfl) (by kernel_rfl) (fun _ _ _ h => h) (by kernel_rfl) (fun w o hSw ho => ?_) hHeld ?_
  · obtain rfl := Option.some.inj ho; go_simp
  simp only [Act.put, List.setIfInBounds_toArray, List.set_cons_zero, List.set_cons_succ]
  refine takeR 5 66 (.pointer (some ⟨g, 0, none⟩)) (by kernel_rfl) (by kernel_rfl) (by kernel_rfl) (by kernel_rfl) (fun _ _ _ h => h) (by kernel_rfl) (fun w o hSw ho => ?_) hHeld ?_
  · obtain rfl := Option.some.inj ho; go_simp
  simp only [Act.put, List.setIfInBounds_toArray, List.set_cons_zero, List.set_cons_succ]
  refine takeR 1 62 (.pointer (some ⟨g, 0, none⟩)) (by kernel_rfl) (by kernel_rfl) (by kernel_rfl) (by kernel_rfl) (fun _ _ _ h => h) (by kernel_rfl) (fun w o hSw ho => ?_) hHeld ?_
  · obtain rfl := Option.some.inj ho; go_simp
  simp only [Act.put, List.setIfInBounds_toArray, List.set_cons_zero, List.set_cons_succ]
  refine takeR 6 67 (.pointer (some ⟨g, 0, none⟩)) (by kernel_rfl) (by kernel_rfl) (by kernel_rfl) (by kernel_rfl) (fun _ _ _ h => h) (by kernel_rfl) (fun w o hSw ho => ?_) hHeld ?_
  · obtain rfl := Option.some.inj ho; go_simp
  simp only [Act.put, List.setIfInBounds_toArray, List.set_cons_zero, List.set_cons_succ]
  refine takeR 2 63 (.pointer (some ⟨g, 1, none⟩)) (by kernel_rfl) (by kernel_rfl) (by kernel_rfl) (by kernel_rfl) (fun _ _ _ h => h) (by kernel_rfl) (fun w o hSw ho => ?_) hHeld ?_
  · obtain rfl := Option.some.inj ho; go_simp
  simp only [Act.put, List.setIfInBounds_toArray, List.set_cons_zero, List.set_cons_succ]
  refine takeR 7 68 (.pointer (some ⟨g, 2, none⟩)) (by kernel_rfl) (by kernel_rfl) (by kernel_rfl) (by kernel_rfl) (fun _ _ _ h => h) (by kernel_rfl) (fun w o hSw ho => ?_) hHeld ?_
  · obtain rfl := Option.some.inj ho; go_simp
  simp only [Act.put, List.setIfInBounds_toArray, List.set_cons_zero, List.set_cons_succ]
  refine takeR 3 64 (.int .i64 c) (by kernel_rfl) (by kernel_rfl) (by kernel_rfl) (by kernel_rfl) (fun _ _ _ h => h) (by kernel_rfl) (fun w o hSw ho => ?_) hHeld ?_
  · obtain rfl := Option.some.inj ho; obtain ⟨z0, z1, z2, z3, z4, z5, z6, z7⟩ := HK2.out _ hSw; go_simp
  simp only [Act.put, List.setIfInBounds_toArray, List.set_cons_zero, List.set_cons_succ]
  refine takeR 8 69 (.int .i64 6) (by kernel_rfl) (by kernel_rfl) (by kernel_rfl) (by kernel_rfl) (fun _ _ _ h => h) (by kernel_rfl) (fun w o hSw ho => ?_) hHeld ?_
  · obtain rfl := Option.some.inj ho; obtain ⟨z0, z1, z2, z3, z4, z5, z6, z7⟩ := HK2.out _ hSw; go_simp
  simp only [Act.put, List.setIfInBounds_toArray, List.set_cons_zero, List.set_cons_succ]
  refine takeR 9 70 (.int .i64 7) (by kernel_rfl) (by kernel_rfl) (by kernel_rfl) (by kernel_rfl) (fun _ _ _ h => h) (by kernel_rfl) (fun w o hSw ho => ?_) hHeld ?_
  · obtain rfl := Option.some.inj ho; go_simp; rfl
  simp only [Act.put, List.setIfInBounds_toArray, List.set_cons_zero, List.set_cons_succ]
  refine oneR 4 (by kernel_rfl) (by kernel_rfl) (fun o ho K' hK => ?_)
  obtain rfl := Option.some.inj ho
  clear ho
  go_simp
  refine (HPK.out _).mono ?_
  rintro e V1 ⟨rfl, rfl⟩
  go_wp2_with fail
  refine hK.out _ _ (hHeld) (fun hHeld => ?_)
  clear hK K'
  try simp only [Act.put, List.setIfInBounds_toArray, List.set_cons_zero, List.set_cons_succ]
  have HV1 := Lib.hid hHeld
  refine oneR 10 (by kernel_rfl) (by kernel_rfl) (fun o ho K' hK => ?_)
  obtain rfl := Option.some.inj ho
  clear ho
  go_simp
  refine hK.out _ _ (below_on hHeld (below_mk _ _)) (fun hHeld => ?_)
  clear hK K'
  try simp only [Act.put, List.setIfInBounds_toArray, List.set_cons_zero, List.set_cons_succ]
  refine oneR 11 (by kernel_rfl) (by kernel_rfl) (fun o ho K' hK => ?_)
  obtain rfl := Option.some.inj ho
  clear ho
  go_simp
  refine (HSL.out W.drew (W.heap.size) (by simp)).mono ?_
  rintro e V2 ⟨v2, rfl, ho2, hb2⟩
  have HV2 := Lib.hid (below_on hHeld hb2)
  have HE := Lib.hid (own_low ho2 (below_on HB2.out HV2.out) (by have h1 := HB2.out.size; have h2 := HV1.out.size; simp at h2 ⊢; omega))
  clear ho2 hb2 hHeld
  go_wp2_with fail
  refine hK.out _ _ (HV2.out) (fun hHeld => ?_)
  clear hK K'
  try simp only [Act.put, List.setIfInBounds_toArray, List.set_cons_zero, List.set_cons_succ]
  refine takeR 12 4 (v2) (by kernel_rfl) (by kernel_rfl) (by kernel_rfl) (by kernel_rfl) (fun _ _ _ h => h) (by kernel_rfl) (fun w o hSw ho => ?_) hHeld ?_
  · obtain rfl := Option.some.inj ho; go_simp
  simp only [Act.put, List.setIfInBounds_toArray, List.set_cons_zero, List.set_cons_succ]
  refine wpAnyH_done (by kernel_rfl) ?_ _
  refine NoPanic.normal ?_
  go_wp2_with fail
  go_ret
  exact HE.out

set_option maxRecDepth 100000 in
set_option maxHeartbeats 4000000 in
theorem other_st_7 (cu : Bool) (mo : Int) (sg pa : Bool) (kind c bu ac cl ro : Int) (ds : Value) (b g : Nat) (w : World) (hM : AtL w b [.bool cu, .bool true, .int .i64 mo, .bool sg, .bool pa]) (hE : AtL w g [.int .i64 kind, .int .i64 c, .int .i64 7, .int .i64 bu, .int .i64 ac, .int .i64 cl, .int .i64 ro, ds]) (h : Typed c 7) (hs : special c = true) :
    Calls Tryz.prog 76 #[.pointer (some ⟨b, 0, none⟩), .pointer (some ⟨g, 0, none⟩)] w (NewOwn w (typedE true c 7)) := by
  have hne : plainE c 7 ≠ [] := by
    unfold plainE
    rw [if_pos hs]
    simp
  have hh : plainE c 7 = [] ∨ ((7 : Int) ≠ 0 ∧ (special c = true ∨ (7 : Int) ≠ 4)) := .inr ⟨by omega, .inl hs⟩
  rw [typedE_coded hh (.inl (by omega))]
  clear hh
  have HSL := Lib.hid (fun (W : World) g hg => l5Seq_lit #[.int .i64 (codeE c), .int .i64 8] [codeE c, 8] 117 2 W 2 g hg rfl rfl (inNum2 h.code.1 h.code.2.1 (by omega) (by omega)) (by simp) (by omega) (by omega))
  rw [show byteE 117 = 117 from rfl] at HSL
  rw [show (7 : Int) + 1 = 8 from rfl]
  have HPK := Lib.hid (fun W => l5Code_any c W)
  have hok : (!(plainE c 7).isEmpty) = true := by simp [hne]
  obtain ⟨i0, hi0, hz0, hz1, hz2⟩ := info_parts Tryz.info_u8
  have HI := Lib.hid (And.intro hi0 (And.intro hz0 (And.intro hz1 hz2)))
  clear hi0 hz0 hz1 hz2
  have HP := Lib.hid (l5Plain_any kind c 7 bu ac cl ro ds g w hE h)
  rw [hok] at HP
  have hll := plain_len c 7
  have hcode := h.code
  have HMM := Lib.hid hM
  have HEE := Lib.hid hE
  clear hM hE hok
  generalize plainE c 7 = L at *
  go_enter Tryz.func76, Tryz.ntmps76
  go_wp2_with fail
  refine HP.out.mono ?_
  rintro e w1 ⟨v, rfl, ho, hb⟩
  have HO := Lib.hid ho
  have HB := Lib.hid hb
  have HM1 := Lib.hid (HMM.out.on hb)
  have HE1 := Lib.hid (HEE.out.on hb)
  have m1 := HM1.out.get 1 rfl
  obtain ⟨z0, z1, z2, z3, z4, z5, z6, z7⟩ := AtL.eightS HE1.out
  clear z0 z3 z4 z5 z6 z7 HP HMM HEE ho hb
  go_wp2_with fail
  refine (specIsSpecial_any c _).mono ?_
  rintro e w2 ⟨rfl, rfl⟩
  rw [hs]
  go_wp2_with fail
  refine wp_gen3 (fun W => AtL W g [.int .i64 kind, .int .i64 c, .int .i64 7, .int .i64 bu, .int .i64 ac, .int .i64 cl, .int .i64 ro, ds] ∧ Below w.heap.size w W) ⟨HE1.out, HB.out⟩ (fun W hW => ?_)
  obtain ⟨hk, hb⟩ := hW
  have HK2 := Lib.hid (fun W' (hW : Below W.heap.size W W') => AtL.eightS (hk.on hW))
  have HB2 := Lib.hid hb
  clear hk hb HM1 HE1 HO HB m1 z1 z2
  refine wp_region_noPanic ?_
  refine wp_region_held_drew (S := fun W' => Below (W).heap.size (W) W') (by kernel_rfl) (below_drewN (Below.refl _ _) 1) (fun hHeld => ?_)
  refine takeR 0 61 (.pointer (some ⟨g, 0, none⟩)) (by kernel_rfl) (by kernel_rfl) (by kernel_rfl) (by kernel_rfl) (fun _ _ _ h => h) (by kernel_rfl) (fun w o hSw ho => ?_) hHeld ?_
  · obtain rfl := Option.some.inj ho; go_simp
  simp only [Act.put, List.setIfInBounds_toArray, List.set_cons_zero, List.set_cons_succ]
  refine takeR 5 66 (.pointer (some ⟨g, 0, none⟩)) (by kernel_rfl) (by kernel_rfl) (by kernel_rfl) (by kernel_rfl) (fun _ _ _ h => h) (by kernel_rfl) (fun w o hSw ho => ?_) hHeld ?_
  · obtain rfl := Option.some.inj ho; go_simp
  simp only [Act.put, List.setIfInBounds_toArray, List.set_cons_zero, List.set_cons_succ]
  refine takeR 1 62 (.pointer (some ⟨g, 0, none⟩)) (by kernel_rfl) (by kernel_rfl) (by kernel_rfl) (by kernel_rfl) (fun _ _ _ h => h) (by kernel_rfl) (fun w o hSw ho => ?_) hHeld ?_
  · obtain rfl := Option.some.inj ho; go_simp
  simp only [Act.put, List.setIfInBounds_toArray, List.set_cons_zero, List.set_cons_succ]
  refine takeR 6 67 (.pointer (some ⟨g, 0, none⟩)) (by kernel_rfl) (by kernel_rfl) (by kernel_rfl) (by kernel_rfl) (fun _ _ _ h => h) (by kernel_rfl) (fun w o hSw ho => ?_) hHeld ?_
  · obtain rfl := Option.some.inj ho; go_simp
  simp only [Act.put, List.setIfInBounds_toArray, List.set_cons_zero, List.set_cons_succ]
  refine takeR 2 63 (.pointer (some ⟨g, 1, none⟩)) (by kernel_rfl) (by kernel_rfl) (by kernel_rfl) (by kernel_rfl) (fun _ _ _ h => h) (by kernel_rfl) (fun w o hSw ho => ?_) hHeld ?_
  · obtain rfl := Option.some.inj ho; go_simp
  simp only [Act.put, List.setIfInBounds_toArray, List.set_cons_zero, List.set_cons_succ]
  refine takeR 7 68 (.pointer (some ⟨g, 2, none⟩)) (by kernel_rfl) (by kernel_rfl) (by kernel_rfl) (by kernel_rfl) (fun _ _ _ h => h) (by kernel_rfl) (fun w o hSw ho => ?_) hHeld ?_
  · obtain rfl := Option.some.inj ho; go_simp
  simp only [Act.put, List.setIfInBounds_toArray, List.set_cons_zero, List.set_cons_succ]
  refine takeR 3 64 (.int .i64 c) (by kernel_rfl) (by kernel_rfl) (by kernel_rfl) (by kernel_rfl) (fun _ _ _ h => h) (by kernel_rfl) (fun w o hSw ho => ?_) hHeld ?_
  · obtain rfl := Option.some.inj ho; obtain ⟨z0, z1, z2, z3, z4, z5, z6, z7⟩ := HK2.out _ hSw; go_simp
  simp only [Act.put, List.setIfInBounds_toArray, List.set_cons_zero, List.set_cons_succ]
  refine takeR 8 69 (.int .i64 7) (by kernel_rfl) (by kernel_rfl) (by kernel_rfl) (by kernel_rfl) (fun _ _ _ h => h) (by kernel_rfl) (fun w o hSw ho => ?_) hHeld ?_
  · obtain rfl := Option.some.inj ho; obtain ⟨z0, z1, z2, z3, z4, z5, z6, z7⟩ := HK2.out _ hSw; go_simp
  simp only [Act.put, List.setIfInBounds_toArray, List.set_cons_zero, List.set_cons_succ]
  refine takeR 9 70 (.int .i64 8) (by kernel_rfl) (by kernel_rfl) (by kernel_rfl) (by kernel_rfl) (fun _ _ _ h => h) (by kernel_rfl) (fun w o hSw ho => ?_) hHeld ?_
  · obtain rfl := Option.some.inj ho; go_simp; rfl
  simp only [Act.put, List.setIfInBounds_toArray, List.set_cons_zero, List.set_cons_succ]
  refine oneR 4 (by kernel_rfl) (by kernel_rfl) (fun o ho K' hK => ?_)
  obtain rfl := Option.some.inj ho
  clear ho
  go_simp
  refine (HPK.out _).mono ?_
  rintro e V1 ⟨rfl, rfl⟩
  go_wp2_with fail
  refine hK.out _ _ (hHeld) (fun hHeld => ?_)
  clear hK K'
  try simp only [Act.put, List.setIfInBounds_toArray, List.set_cons_zero, List.set_cons_succ]
  have HV1 := Lib.hid hHeld
  refine oneR 10 (by kernel_rfl) (by kernel_rfl) (fun o ho K' hK => ?_)
  obtain rfl := Option.some.inj ho
  clear ho
  go_simp
  refine hK.out _ _ (below_on hHeld (below_mk _ _)) (fun hHeld => ?_)
  clear hK K'
  try simp only [Act.put, List.setIfInBounds_toArray, List.set_cons_zero, List.set_cons_succ]
  refine oneR 11 (by kernel_rfl) (by kernel_rfl) (fun o ho K' hK => ?_)
  obtain rfl := Option.some.inj ho
  clear ho
  go_simp
  refine (HSL.out W.drew (W.heap.size) (by simp)).mono ?_
  rintro e V2 ⟨v2, rfl, ho2, hb2⟩
  have HV2 := Lib.hid (below_on hHeld hb2)
  have HE := Lib.hid (own_low ho2 (below_on HB2.out HV2.out) (by have h1 := HB2.out.size; have h2 := HV1.out.size; simp at h2 ⊢; omega))
  clear ho2 hb2 hHeld
  go_wp2_with fail
  refine hK.out _ _ (HV2.out) (fun hHeld => ?_)
  clear hK K'
  try simp only [Act.put, List.setIfInBounds_toArray, List.set_cons_zero, List.set_cons_succ]
  refine takeR 12 4 (v2) (by kernel_rfl) (by kernel_rfl) (by kernel_rfl) (by kernel_rfl) (fun _ _ _ h => h) (by kernel_rfl) (fun w o hSw ho => ?_) hHeld ?_
  · obtain rfl := Option.some.inj ho; go_simp
  simp only [Act.put, List.setIfInBounds_toArray, List.set_cons_zero, List.set_cons_succ]
  refine wpAnyH_done (by kernel_rfl) ?_ _
  refine NoPanic.normal ?_
  go_wp2_with fail
  go_ret
  exact HE.out

set_option maxRecDepth 100000 in
set_option maxHeartbeats 4000000 in
theorem other_nt_2 (cu : Bool) (mo : Int) (sg pa : Bool) (kind c bu ac cl ro : Int) (ds : Value) (b g : Nat) (w : World) (hM : AtL w b [.bool cu, .bool true, .int .i64 mo, .bool sg, .bool pa]) (hE : AtL w g [.int .i64 kind, .int .i64 c, .int .i64 2, .int .i64 bu, .int .i64 ac, .int .i64 cl, .int .i64 ro, ds]) (h : Typed c 2) (hs : special c = false) (h127 : 126 < c) :
    Calls Tryz.prog 76 #[.pointer (some ⟨b, 0, none⟩), .pointer (some ⟨g, 0, none⟩)] w (NewOwn w (typedE true c 2)) := by
  have hne : plainE c 2 ≠ [] := by
    unfold plainE
    rw [if_neg (by simp [hs])]
    rw [if_pos (.inr rfl)]
    exact putB_ne c
  have hh : plainE c 2 = [] ∨ ((2 : Int) ≠ 0 ∧ (special c = true ∨ (2 : Int) ≠ 4)) := .inr ⟨by omega, .inr (by omega)⟩
  have hin : inR c 32 126 = false := by simp [inR]; omega
  rw [typedE_coded hh (.inr h127)]
  clear hh
  have HSL := Lib.hid (fun (W : World) g hg => l5Seq_lit #[.int .i64 (codeE c), .int .i64 3] [codeE c, 3] 117 2 W 2 g hg rfl rfl (inNum2 h.code.1 h.code.2.1 (by omega) (by omega)) (by simp) (by omega) (by omega))
  rw [show byteE 117 = 117 from rfl] at HSL
  rw [show (2 : Int) + 1 = 3 from rfl]
  have HPK := Lib.hid (fun W => l5Code_any c W)
  have hok : (!(plainE c 2).isEmpty) = true := by simp [hne]
  obtain ⟨i0, hi0, hz0, hz1, hz2⟩ := info_parts Tryz.info_u8
  have HI := Lib.hid (And.intro hi0 (And.intro hz0 (And.intro hz1 hz2)))
  clear hi0 hz0 hz1 hz2
  have HP := Lib.hid (l5Plain_any kind c 2 bu ac cl ro ds g w hE h)
  rw [hok] at HP
  have hll := plain_len c 2
  have hcode := h.code
  have HMM := Lib.hid hM
  have HEE := Lib.hid hE
  clear hM hE hok
  generalize plainE c 2 = L at *
  go_enter Tryz.func76, Tryz.ntmps76
  go_wp2_with fail
  refine HP.out.mono ?_
  rintro e w1 ⟨v, rfl, ho, hb⟩
  have HO := Lib.hid ho
  have HB := Lib.hid hb
  have HM1 := Lib.hid (HMM.out.on hb)
  have HE1 := Lib.hid (HEE.out.on hb)
  have m1 := HM1.out.get 1 rfl
  obtain ⟨z0, z1, z2, z3, z4, z5, z6, z7⟩ := AtL.eightS HE1.out
  clear z0 z3 z4 z5 z6 z7 HP HMM HEE ho hb
  go_wp2_with fail
  refine (specIsSpecial_any c _).mono ?_
  rintro e w2 ⟨rfl, rfl⟩
  rw [hs]
  go_wp2_with (go_at_call 70; refine (l1In_any _ _ _ _).mono ?_; rintro e w' ⟨rfl, rfl⟩; rw [hin])
  refine wp_gen3 (fun W => AtL W g [.int .i64 kind, .int .i64 c, .int .i64 2, .int .i64 bu, .int .i64 ac, .int .i64 cl, .int .i64 ro, ds] ∧ Below w.heap.size w W) ⟨HE1.out, HB.out⟩ (fun W hW => ?_)
  obtain ⟨hk, hb⟩ := hW
  have HK2 := Lib.hid (fun W' (hW : Below W.heap.size W W') => AtL.eightS (hk.on hW))
  have HB2 := Lib.hid hb
  clear hk hb HM1 HE1 HO HB m1 z1 z2
  refine wp_region_noPanic ?_
  refine wp_region_held_drew (S := fun W' => Below (W).heap.size (W) W') (by kernel_rfl) (below_drewN (Below.refl _ _) 1) (fun hHeld => ?_)
  refine takeR 0 61 (.pointer (some ⟨g, 0, none⟩)) (by kernel_rfl) (by kernel_rfl) (by kernel_rfl) (by kernel_rfl) (fun _ _ _ h => h) (by kernel_rfl) (fun w o hSw ho => ?_) hHeld ?_
  · obtain rfl := Option.some.inj ho; go_simp
  simp only [Act.put, List.setIfInBounds_toArray, List.set_cons_zero, List.set_cons_succ]
  refine takeR 5 66 (.pointer (some ⟨g, 0, none⟩)) (by kernel_rfl) (by kernel_rfl) (by kernel_rfl) (by kernel_rfl) (fun _ _ _ h => h) (by kernel_rfl) (fun w o hSw ho => ?_) hHeld ?_
  · obtain rfl := Option.some.inj ho; go_simp
  simp only [Act.put, List.setIfInBounds_toArray, List.set_cons_zero, List.set_cons_succ]
  refine takeR 1 62 (.pointer (some ⟨g, 0, none⟩)) (by kernel_rfl) (by kernel_rfl) (by kernel_rfl) (by kernel_rfl) (fun _ _ _ h => h) (by kernel_rfl) (fun w o hSw ho => ?_) hHeld ?_
  · obtain rfl := Option.some.inj ho; go_simp
  simp only [Act.put, List.setIfInBounds_toArray, List.set_cons_zero, List.set_cons_succ]
  refine takeR 6 67 (.pointer (some ⟨g, 0, none⟩)) (by kernel_rfl) (by kernel_rfl) (by kernel_rfl) (by kernel_rfl) (fun _ _ _ h => h) (by kernel_rfl) (fun w o hSw ho => ?_) hHeld ?_
  · obtain rfl := Option.some.inj ho; go_simp
  simp only [Act.put, List.setIfInBounds_toArray, List.set_cons_zero, List.set_cons_succ]
  refine takeR 2 63 (.pointer (some ⟨g, 1, none⟩)) (by kernel_rfl) (by kernel_rfl) (by kernel_rfl) (by kernel_rfl) (fun _ _ _ h => h) (by kernel_rfl) (fun w o hSw ho => ?_) hHeld ?_
  · obtain rfl := Option.some.inj ho; go_simp
  simp only [Act.put, List.setIfInBounds_toArray, List.set_cons_zero, List.set_cons_succ]
  refine takeR 7 68 (.pointer (some ⟨g, 2, none⟩)) (by kernel_rfl) (by kernel_rfl) (by kernel_rfl) (by kernel_rfl) (fun _ _ _ h => h) (by kernel_rfl) (fun w o hSw ho => ?_) hHeld ?_
  · obtain rfl := Option.some.inj ho; go_simp
  simp only [Act.put, List.setIfInBounds_toArray, List.set_cons_zero, List.set_cons_succ]
  refine takeR 3 64 (.int .i64 c) (by kernel_rfl) (by kernel_rfl) (by kernel_rfl) (by kernel_rfl) (fun _ _ _ h => h) (by kernel_rfl) (fun w o hSw ho => ?_) hHeld ?_
  · obtain rfl := Option.some.inj ho; obtain ⟨z0, z1, z2, z3, z4, z5, z6, z7⟩ := HK2.out _ hSw; go_simp
  simp only [Act.put, List.setIfInBounds_toArray, List.set_cons_zero, List.set_cons_succ]
  refine takeR 8 69 (.int .i64 2) (by kernel_rfl) (by kernel_rfl) (by kernel_rfl) (by kernel_rfl) (fun _ _ _ h => h) (by kernel_rfl) (fun w o hSw ho => ?_) hHeld ?_
  · obtain rfl := Option.some.inj ho; obtain ⟨z0, z1, z2, z3, z4, z5, z6, z7⟩ := HK2.out _ hSw; go_simp
  simp only [Act.put, List.setIfInBounds_toArray, List.set_cons_zero, List.set_cons_succ]
  refine takeR 9 70 (.int .i64 3) (by kernel_rfl) (by kernel_rfl) (by kernel_rfl) (by kernel_rfl) (fun _ _ _ h => h) (by kernel_rfl) (fun w o hSw ho => ?_) hHeld ?_
  · obtain rfl := Option.some.inj ho; go_simp; rfl
  simp only [Act.put, List.setIfInBounds_toArray, List.set_cons_zero, List.set_cons_succ]
  refine oneR 4 (by kernel_rfl) (by kernel_rfl) (fun o ho K' hK => ?_)
  obtain rfl := Option.some.inj ho
  clear ho
  go_simp
  refine (HPK.out _).mono ?_
  rintro e V1 ⟨rfl, rfl⟩
  go_wp2_with fail
  refine hK.out _ _ (hHeld) (fun hHeld => ?_)
  clear hK K'
  try simp only [Act.put, List.setIfInBounds_toArray, List.set_cons_zero, List.set_cons_succ]
  have HV1 := Lib.hid hHeld
  refine oneR 10 (by kernel_rfl) (by kernel_rfl) (fun o ho K' hK => ?_)
  obtain rfl := Option.some.inj ho
  clear ho
  go_simp
  refine hK.out _ _ (below_on hHeld (below_mk _ _)) (fun hHeld => ?_)
  clear hK K'
  try simp only [Act.put, List.setIfInBounds_toArray, List.set_cons_zero, List.set_cons_succ]
  refine oneR 11 (by kernel_rfl) (by kernel_rfl) (fun o ho K' hK => ?_)
  obtain rfl := Option.some.inj ho
  clear ho
  go_simp
  refine (HSL.out W.drew (W.heap.size) (by simp)).mono ?_
  rintro e V2 ⟨v2, rfl, ho2, hb2⟩
  have HV2 := Lib.hid (below_on hHeld hb2)
  have HE := Lib.hid (own_low ho2 (below_on HB2.out HV2.out) (by have h1 := HB2.out.size; have h2 := HV1.out.size; simp at h2 ⊢; omega))
  clear ho2 hb2 hHeld
  go_wp2_with fail
  refine hK.out _ _ (HV2.out) (fun hHeld => ?_)
  clear hK K'
  try simp only [Act.put, List.setIfInBounds_toArray, List.set_cons_zero, List.set_cons_succ]
  refine takeR 12 4 (v2) (by kernel_rfl) (by kernel_rfl) (by kernel_rfl) (by kernel_rfl) (fun _ _ _ h => h) (by kernel_rfl) (fun w o hSw ho => ?_) hHeld ?_
  · obtain rfl := Option.some.inj ho; go_simp
  simp only [Act.put, List.setIfInBounds_toArray, List.set_cons_zero, List.set_cons_succ]
  refine wpAnyH_done (by kernel_rfl) ?_ _
  refine NoPanic.normal ?_
  go_wp2_with fail
  go_ret
  exact HE.out

set_option maxRecDepth 100000 in
set_option maxHeartbeats 4000000 in
theorem other_nt_6 (cu : Bool) (mo : Int) (sg pa : Bool) (kind c bu ac cl ro : Int) (ds : Value) (b g : Nat) (w : World) (hM : AtL w b [.bool cu, .bool true, .int .i64 mo, .bool sg, .bool pa]) (hE : AtL w g [.int .i64 kind, .int .i64 c, .int .i64 6, .int .i64 bu, .int .i64 ac, .int .i64 cl, .int .i64 ro, ds]) (h : Typed c 6) (hs : special c = false) (hp : ctrlE c ≠ []) :
    Calls Tryz.prog 76 #[.pointer (some ⟨b, 0, none⟩), .pointer (some ⟨g, 0, none⟩)] w (NewOwn w (typedE true c 6)) := by
  have hne : plainE c 6 ≠ [] := by
    unfold plainE
    rw [if_neg (by simp [hs])]
    rw [if_neg (by omega), if_pos (by omega)]
    exact hp
  have hh : plainE c 6 = [] ∨ ((6 : Int) ≠ 0 ∧ (special c = true ∨ (6 : Int) ≠ 4)) := .inr ⟨by omega, .inr (by omega)⟩
  rw [typedE_coded hh (.inl (by omega))]
  clear hh
  have HSL := Lib.hid (fun (W : World) g hg => l5Seq_lit #[.int .i64 (codeE c), .int .i64 7] [codeE c, 7] 117 2 W 2 g hg rfl rfl (inNum2 h.code.1 h.code.2.1 (by omega) (by omega)) (by simp) (by omega) (by omega))
  rw [show byteE 117 = 117 from rfl] at HSL
  rw [show (6 : Int) + 1 = 7 from rfl]
  have HPK := Lib.hid (fun W => l5Code_any c W)
  have hok : (!(plainE c 6).isEmpty) = true := by simp [hne]
  obtain ⟨i0, hi0, hz0, hz1, hz2⟩ := info_parts Tryz.info_u8
  have HI := Lib.hid (And.intro hi0 (And.intro hz0 (And.intro hz1 hz2)))
  clear hi0 hz0 hz1 hz2
  have HP := Lib.hid (l5Plain_any kind c 6 bu ac cl ro ds g w hE h)
  rw [hok] at HP
  have hll := plain_len c 6
  have hcode := h.code
  have HMM := Lib.hid hM
  have HEE := Lib.hid hE
  clear hM hE hok
  generalize plainE c 6 = L at *
  go_enter Tryz.func76, Tryz.ntmps76
  go_wp2_with fail
  refine HP.out.mono ?_
  rintro e w1 ⟨v, rfl, ho, hb⟩
  have HO := Lib.hid ho
  have HB := Lib.hid hb
  have HM1 := Lib.hid (HMM.out.on hb)
  have HE1 := Lib.hid (HEE.out.on hb)
  have m1 := HM1.out.get 1 rfl
  obtain ⟨z0, z1, z2, z3, z4, z5, z6, z7⟩ := AtL.eightS HE1.out
  clear z0 z3 z4 z5 z6 z7 HP HMM HEE ho hb
  go_wp2_with fail
  refine (specIsSpecial_any c _).mono ?_
  rintro e w2 ⟨rfl, rfl⟩
  rw [hs]
  go_wp2_with fail
  refine wp_gen3 (fun W => AtL W g [.int .i64 kind, .int .i64 c, .int .i64 6, .int .i64 bu, .int .i64 ac, .int .i64 cl, .int .i64 ro, ds] ∧ Below w.heap.size w W) ⟨HE1.out, HB.out⟩ (fun W hW => ?_)
  obtain ⟨hk, hb⟩ := hW
  have HK2 := Lib.hid (fun W' (hW : Below W.heap.size W W') => AtL.eightS (hk.on hW))
  have HB2 := Lib.hid hb
  clear hk hb HM1 HE1 HO HB m1 z1 z2
  refine wp_region_noPanic ?_
  refine wp_region_held_drew (S := fun W' => Below (W).heap.size (W) W') (by kernel_rfl) (below_drewN (Below.refl _ _) 1) (fun hHeld => ?_)
  refine takeR 0 61 (.pointer (some ⟨g, 0, none⟩)) (by kernel_rfl) (by kernel_rfl) (by kernel_rfl) (by kernel_rfl) (fun _ _ _ h => h) (by kernel_rfl) (fun w o hSw ho => ?_) hHeld ?_
  · obtain rfl := Option.some.inj ho; go_simp
  simp only [Act.put, List.setIfInBounds_toArray, List.set_cons_zero, List.set_cons_succ]
  refine takeR 5 66 (.pointer (some ⟨g, 0, none⟩)) (by kernel_rfl) (by kernel_rfl) (by kernel_rfl) (by kernel_rfl) (fun _ _ _ h => h) (by kernel_rfl) (fun w o hSw ho => ?_) hHeld ?_
  · obtain rfl := Option.some.inj ho; go_simp
  simp only [Act.put, List.setIfInBounds_toArray, List.set_cons_zero, List.set_cons_succ]
  refine takeR 1 62 (.pointer (some ⟨g, 0, none⟩)) (by kernel_rfl) (by kernel_rfl) (by kernel_rfl) (by kernel_rfl) (fun _ _ _ h => h) (by kernel_rfl) (fun w o hSw ho => ?_) hHeld ?_
  · obtain rfl := Option.some.inj ho; go_simp
  simp only [Act.put, List.setIfInBounds_toArray, List.set_cons_zero, List.set_cons_succ]
  refine takeR 6 67 (.pointer (some ⟨g, 0, none⟩)) (by kernel_rfl) (by kernel_rfl) (by kernel_rfl) (by kernel_rfl) (fun _ _ _ h => h) (by kernel_rfl) (fun w o hSw ho => ?_) hHeld ?_
  · obtain rfl := Option.some.inj ho; go_simp
  simp only [Act.put, List.setIfInBounds_toArray, List.set_cons_zero, List.set_cons_succ]
  refine takeR 2 63 (.pointer (some ⟨g, 1, none⟩)) (by kernel_rfl) (by kernel_rfl) (by kernel_rfl) (by kernel_rfl) (fun _ _ _ h => h) (by kernel_rfl) (fun w o hSw ho => ?_) hHeld ?_
  · obtain rfl := Option.some.inj ho; go_simp
  simp only [Act.put, List.setIfInBounds_toArray, List.set_cons_zero, List.set_cons_succ]
  refine takeR 7 68 (.pointer (some ⟨g, 2, none⟩)) (by kernel_rfl) (by kernel_rfl) (by kernel_rfl) (by kernel_rfl) (fun _ _ _ h => h) (by kernel_rfl) (fun w o hSw ho => ?_) hHeld ?_
  · obtain rfl := Option.some.inj ho; go_simp
  simp only [Act.put, List.setIfInBounds_toArray, List.set_cons_zero, List.set_cons_succ]
  refine takeR 3 64 (.int .i64 c) (by kernel_rfl) (by kernel_rfl) (by kernel_rfl) (by kernel_rfl) (fun _ _ _ h => h) (by kernel_rfl) (fun w o hSw ho => ?_) hHeld ?_
  · obtain rfl := Option.some.inj ho; obtain ⟨z0, z1, z2, z3, z4, z5, z6, z7⟩ := HK2.out _ hSw; go_simp
  simp only [Act.put, List.setIfInBounds_toArray, List.set_cons_zero, List.set_cons_succ]
  refine takeR 8 69 (.int .i64 6) (by kernel_rfl) (by kernel_rfl) (by kernel_rfl) (by kernel_rfl) (fun _ _ _ h => h) (by kernel_rfl) (fun w o hSw ho => ?_) hHeld ?_
  · obtain rfl := Option.some.inj ho; obtain ⟨z0, z1, z2, z3, z4, z5, z6, z7⟩ := HK2.out _ hSw; go_simp
  simp only [Act.put, List.setIfInBounds_toArray, List.set_cons_zero, List.set_cons_succ]
  refine takeR 9 70 (.int .i64 7) (by kernel_rfl) (by kernel_rfl) (by kernel_rfl) (by kernel_rfl) (fun _ _ _ h => h) (by kernel_rfl) (fun w o hSw ho => ?_) hHeld ?_
  · obtain rfl := Option.some.inj ho; go_simp; rfl
  simp only [Act.put, List.setIfInBounds_toArray, List.set_cons_zero, List.set_cons_succ]
  refine oneR 4 (by kernel_rfl) (by kernel_rfl) (fun o ho K' hK => ?_)
  obtain rfl := Option.some.inj ho
  clear ho
  go_simp
  refine (HPK.out _).mono ?_
  rintro e V1 ⟨rfl, rfl⟩
  go_wp2_with fail
  refine hK.out _ _ (hHeld) (fun hHeld => ?_)
  clear hK K'
  try simp only [Act.put, List.setIfInBounds_toArray, List.set_cons_zero, List.set_cons_succ]
  have HV1 := Lib.hid hHeld
  refine oneR 10 (by kernel_rfl) (by kernel_rfl) (fun o ho K' hK => ?_)
  obtain rfl := Option.some.inj ho
  clear ho
  go_simp
  refine hK.out _ _ (below_on hHeld (below_mk _ _)) (fun hHeld => ?_)
  clear hK K'
  try simp only [Act.put, List.setIfInBounds_toArray, List.set_cons_zero, List.set_cons_succ]
  refine oneR 11 (by kernel_rfl) (by kernel_rfl) (fun o ho K' hK => ?_)
  obtain rfl := Option.some.inj ho
  clear ho
  go_simp
  refine (HSL.out W.drew (W.heap.size) (by simp)).mono ?_
  rintro e V2 ⟨v2, rfl, ho2, hb2⟩
  have HV2 := Lib.hid (below_on hHeld hb2)
  have HE := Lib.hid (own_low ho2 (below_on HB2.out HV2.out) (by have h1 := HB2.out.size; have h2 := HV1.out.size; simp at h2 ⊢; omega))
  clear ho2 hb2 hHeld
  go_wp2_with fail
  refine hK.out _ _ (HV2.out) (fun hHeld => ?_)
  clear hK K'
  try simp only [Act.put, List.setIfInBounds_toArray, List.set_cons_zero, List.set_cons_succ]
  refine takeR 12 4 (v2) (by kernel_rfl) (by kernel_rfl) (by kernel_rfl) (by kernel_rfl) (fun _ _ _ h => h) (by kernel_rfl) (fun w o hSw ho => ?_) hHeld ?_
  · obtain rfl := Option.some.inj ho; go_simp
  simp only [Act.put, List.setIfInBounds_toArray, List.set_cons_zero, List.set_cons_succ]
  refine wpAnyH_done (by kernel_rfl) ?_ _
  refine NoPanic.normal ?_
  go_wp2_with fail
  go_ret
  exact HE.out

set_option maxRecDepth 100000 in
set_option maxHeartbeats 4000000 in
theorem other_et_1 (cu : Bool) (mo : Int) (sg pa : Bool) (kind c bu ac cl ro : Int) (ds : Value) (b g : Nat) (w : World) (hM : AtL w b [.bool cu, .bool true, .int .i64 mo, .bool sg, .bool pa]) (hE : AtL w g [.int .i64 kind, .int .i64 c, .int .i64 1, .int .i64 bu, .int .i64 ac, .int .i64 cl, .int .i64 ro, ds]) (h : Typed c 1) (hs : special c = false) :
    Calls Tryz.prog 76 #[.pointer (some ⟨b, 0, none⟩), .pointer (some ⟨g, 0, none⟩)] w (NewOwn w (typedE true c 1)) := by
  have hne : plainE c 1 = [] := by
    unfold plainE
    rw [if_neg (by simp [hs]), if_neg (by omega)]
    rw [if_neg (by omega)]
  have hh : plainE c 1 = [] ∨ ((1 : Int) ≠ 0 ∧ (special c = true ∨ (1 : Int) ≠ 4)) := .inl hne
  rw [typedE_coded hh (.inl (by omega))]
  clear hh
  have HSL := Lib.hid (fun (W : World) g hg => l5Seq_lit #[.int .i64 (codeE c), .int .i64 2] [codeE c, 2] 117 2 W 2 g hg rfl rfl (inNum2 h.code.1 h.code.2.1 (by omega) (by omega)) (by simp) (by omega) (by omega))
  rw [show byteE 117 = 117 from rfl] at HSL
  rw [show (1 : Int) + 1 = 2 from rfl]
  have HPK := Lib.hid (fun W => l5Code_any c W)
  have hok : (!(plainE c 1).isEmpty) = false := by simp [hne]
  obtain ⟨i0, hi0, hz0, hz1, hz2⟩ := info_parts Tryz.info_u8
  have HI := Lib.hid (And.intro hi0 (And.intro hz0 (And.intro hz1 hz2)))
  clear hi0 hz0 hz1 hz2
  have HP := Lib.hid (l5Plain_any kind c 1 bu ac cl ro ds g w hE h)
  rw [hok] at HP
  have hll := plain_len c 1
  have hcode := h.code
  have HMM := Lib.hid hM
  have HEE := Lib.hid hE
  clear hM hE hok
  generalize hpl : plainE c 1 = L at *
  obtain rfl : L = [] := hne
  clear hpl
  go_enter Tryz.func76, Tryz.ntmps76
  go_wp2_with fail
  refine HP.out.mono ?_
  rintro e w1 ⟨v, rfl, ho, hb⟩
  have HO := Lib.hid ho
  have HB := Lib.hid hb
  have HM1 := Lib.hid (HMM.out.on hb)
  have HE1 := Lib.hid (HEE.out.on hb)
  have m1 := HM1.out.get 1 rfl
  obtain ⟨z0, z1, z2, z3, z4, z5, z6, z7⟩ := AtL.eightS HE1.out
  clear z0 z3 z4 z5 z6 z7 HP HMM HEE ho hb
  go_wp2_with fail
  refine (specIsSpecial_any c _).mono ?_
  rintro e w2 ⟨rfl, rfl⟩
  rw [hs]
  go_wp2_with fail
  refine wp_gen3 (fun W => AtL W g [.int .i64 kind, .int .i64 c, .int .i64 1, .int .i64 bu, .int .i64 ac, .int .i64 cl, .int .i64 ro, ds] ∧ Below w.heap.size w W) ⟨HE1.out, HB.out⟩ (fun W hW => ?_)
  obtain ⟨hk, hb⟩ := hW
  have HK2 := Lib.hid (fun W' (hW : Below W.heap.size W W') => AtL.eightS (hk.on hW))
  have HB2 := Lib.hid hb
  clear hk hb HM1 HE1 HO HB m1 z1 z2
  refine wp_region_noPanic ?_
  refine wp_region_held_drew (S := fun W' => Below (W).heap.size (W) W') (by kernel_rfl) (below_drewN (Below.refl _ _) 1) (fun hHeld => ?_)
  refine takeR 0 61 (.pointer (some ⟨g, 0, none⟩)) (by kernel_rfl) (by kernel_rfl) (by kernel_rfl) (by kernel_rfl) (fun _ _ _ h => h) (by kernel_rfl) (fun w o hSw ho => ?_) hHeld ?_
  · obtain rfl := Option.some.inj ho; go_simp
  simp only [Act.put, List.setIfInBounds_toArray, List.set_cons_zero, List.set_cons_succ]
  refine takeR 5 66 (.pointer (some ⟨g, 0, none⟩)) (by kernel_rfl) (by kernel_rfl) (by kernel_rfl) (by kernel_rfl) (fun _ _ _ h => h) (by kernel_rfl) (fun w o hSw ho => ?_) hHeld ?_
  · obtain rfl := Option.some.inj ho; go_simp
  simp only [Act.put, List.setIfInBounds_toArray, List.set_cons_zero, List.set_cons_succ]
  refine takeR 1 62 (.pointer (some ⟨g, 0, none⟩)) (by kernel_rfl) (by kernel_rfl) (by kernel_rfl) (by kernel_rfl) (fun _ _ _ h => h) (by kernel_rfl) (fun w o hSw ho => ?_) hHeld ?_
  · obtain rfl := Option.some.inj ho; go_simp
  simp only [Act.put, List.setIfInBounds_toArray, List.set_cons_zero, List.set_cons_succ]
  refine takeR 6 67 (.pointer (some ⟨g, 0, none⟩)) (by kernel_rfl) (by kernel_rfl) (by kernel_rfl) (by kernel_rfl) (fun _ _ _ h => h) (by kernel_rfl) (fun w o hSw ho => ?_) hHeld ?_
  · obtain rfl := Option.some.inj ho; go_simp
  simp only [Act.put, List.setIfInBounds_toArray, List.set_cons_zero, List.set_cons_succ]
  refine takeR 2 63 (.pointer (some ⟨g, 1, none⟩)) (by kernel_rfl) (by kernel_rfl) (by kernel_rfl) (by kernel_rfl) (fun _ _ _ h => h) (by kernel_rfl) (fun w o hSw ho => ?_) hHeld ?_
  · obtain rfl := Option.some.inj ho; go_simp
  simp only [Act.put, List.setIfInBounds_toArray, List.set_cons_zero, List.set_cons_succ]
  refine takeR 7 68 (.pointer (some ⟨g, 2, none⟩)) (by kernel_rfl) (by kernel_rfl) (by kernel_rfl) (by kernel_rfl) (fun _ _ _ h => h) (by kernel_rfl) (fun w o hSw ho => ?_) hHeld ?_
  · obtain rfl := Option.some.inj ho; go_simp
  simp only [Act.put, List.setIfInBounds_toArray, List.set_cons_zero, List.set_cons_succ]
  refine takeR 3 64 (.int .i64 c) (by kernel_rfl) (by kernel_rfl) (by kernel_rfl) (by kernel_rfl) (fun _ _ _ h => h) (by kernel_rfl) (fun w o hSw ho => ?_) hHeld ?_
  · obtain rfl := Option.some.inj ho; obtain ⟨z0, z1, z2, z3, z4, z5, z6, z7⟩ := HK2.out _ hSw; go_simp
  simp only [Act.put, List.setIfInBounds_toArray, List.set_cons_zero, List.set_cons_succ]
  refine takeR 8 69 (.int .i64 1) (by kernel_rfl) (by kernel_rfl) (by kernel_rfl) (by kernel_rfl) (fun _ _ _ h => h) (by kernel_rfl) (fun w o hSw ho => ?_) hHeld ?_
  · obtain rfl := Option.some.inj ho; obtain ⟨z0, z1, z2, z3, z4, z5, z6, z7⟩ := HK2.out _ hSw; go_simp
  simp only [Act.put, List.setIfInBounds_toArray, List.set_cons_zero, List.set_cons_succ]
  refine takeR 9 70 (.int .i64 2) (by kernel_rfl) (by kernel_rfl) (by kernel_rfl) (by kernel_rfl) (fun _ _ _ h => h) (by kernel_rfl) (fun w o hSw ho => ?_) hHeld ?_
  · obtain rfl := Option.some.inj ho; go_simp; rfl
  simp only [Act.put, List.setIfInBounds_toArray, List.set_cons_zero, List.set_cons_succ]
  refine oneR 4 (by kernel_rfl) (by kernel_rfl) (fun o ho K' hK => ?_)
  obtain rfl := Option.some.inj ho
  clear ho
  go_simp
  refine (HPK.out _).mono ?_
  rintro e V1 ⟨rfl, rfl⟩
  go_wp2_with fail
  refine hK.out _ _ (hHeld) (fun hHeld => ?_)
  clear hK K'
  try simp only [Act.put, List.setIfInBounds_toArray, List.set_cons_zero, List.set_cons_succ]
  have HV1 := Lib.hid hHeld
  refine oneR 10 (by kernel_rfl) (by kernel_rfl) (fun o ho K' hK => ?_)
  obtain rfl := Option.some.inj ho
  clear ho
  go_simp
  refine hK.out _ _ (below_on hHeld (below_mk _ _)) (fun hHeld => ?_)
  clear hK K'
  try simp only [Act.put, List.setIfInBounds_toArray, List.set_cons_zero, List.set_cons_succ]
  refine oneR 11 (by kernel_rfl) (by kernel_rfl) (fun o ho K' hK => ?_)
  obtain rfl := Option.some.inj ho
  clear ho
  go_simp
  refine (HSL.out W.drew (W.heap.size) (by simp)).mono ?_
  rintro e V2 ⟨v2, rfl, ho2, hb2⟩
  have HV2 := Lib.hid (below_on hHeld hb2)
  have HE := Lib.hid (own_low ho2 (below_on HB2.out HV2.out) (by have h1 := HB2.out.size; have h2 := HV1.out.size; simp at h2 ⊢; omega))
  clear ho2 hb2 hHeld
  go_wp2_with fail
  refine hK.out _ _ (HV2.out) (fun hHeld => ?_)
  clear hK K'
  try simp only [Act.put, List.setIfInBounds_toArray, List.set_cons_zero, List.set_cons_succ]
  refine takeR 12 4 (v2) (by kernel_rfl) (by kernel_rfl) (by kernel_rfl) (by kernel_rfl) (fun _ _ _ h => h) (by kernel_rfl) (fun w o hSw ho => ?_) hHeld ?_
  · obtain rfl := Option.some.inj ho; go_simp
  simp only [Act.put, List.setIfInBounds_toArray, List.set_cons_zero, List.set_cons_succ]
  refine wpAnyH_done (by kernel_rfl) ?_ _
  refine NoPanic.normal ?_
  go_wp2_with fail
  go_ret
  exact HE.out

set_option maxRecDepth 100000 in
set_option maxHeartbeats 4000000 in
theorem other_et_3 (cu : Bool) (mo : Int) (sg pa : Bool) (kind c bu ac cl ro : Int) (ds : Value) (b g : Nat) (w : World) (hM : AtL w b [.bool cu, .bool true, .int .i64 mo, .bool sg, .bool pa]) (hE : AtL w g [.int .i64 kind, .int .i64 c, .int .i64 3, .int .i64 bu, .int .i64 ac, .int .i64 cl, .int .i64 ro, ds]) (h : Typed c 3) (hs : special c = false) :
    Calls Tryz.prog 76 #[.pointer (some ⟨b, 0, none⟩), .pointer (some ⟨g, 0, none⟩)] w (NewOwn w (typedE true c 3)) := by
  have hne : plainE c 3 = [] := by
    unfold plainE
    rw [if_neg (by simp [hs]), if_neg (by omega)]
    rw [if_neg (by omega)]
  have hh : plainE c 3 = [] ∨ ((3 : Int) ≠ 0 ∧ (special c = true ∨ (3 : Int) ≠ 4)) := .inl hne
  rw [typedE_coded hh (.inl (by omega))]
  clear hh
  have HSL := Lib.hid (fun (W : World) g hg => l5Seq_lit #[.int .i64 (codeE c), .int .i64 4] [codeE c, 4] 117 2 W 2 g hg rfl rfl (inNum2 h.code.1 h.code.2.1 (by omega) (by omega)) (by simp) (by omega) (by omega))
  rw [show byteE 117 = 117 from rfl] at HSL
  rw [show (3 : Int) + 1 = 4 from rfl]
  have HPK := Lib.hid (fun W => l5Code_any c W)
  have hok : (!(plainE c 3).isEmpty) = false := by simp [hne]
  obtain ⟨i0, hi0, hz0, hz1, hz2⟩ := info_parts Tryz.info_u8
  have HI := Lib.hid (And.intro hi0 (And.intro hz0 (And.intro hz1 hz2)))
  clear hi0 hz0 hz1 hz2
  have HP := Lib.hid (l5Plain_any kind c 3 bu ac cl ro ds g w hE h)
  rw [hok] at HP
  have hll := plain_len c 3
  have hcode := h.code
  have HMM := Lib.hid hM
  have HEE := Lib.hid hE
  clear hM hE hok
  generalize hpl : plainE c 3 = L at *
  obtain rfl : L = [] := hne
  clear hpl
  go_enter Tryz.func76, Tryz.ntmps76
  go_wp2_with fail
  refine HP.out.mono ?_
  rintro e w1 ⟨v, rfl, ho, hb⟩
  have HO := Lib.hid ho
  have HB := Lib.hid hb
  have HM1 := Lib.hid (HMM.out.on hb)
  have HE1 := Lib.hid (HEE.out.on hb)
  have m1 := HM1.out.get 1 rfl
  obtain ⟨z0, z1, z2, z3, z4, z5, z6, z7⟩ := AtL.eightS HE1.out
  clear z0 z3 z4 z5 z6 z7 HP HMM HEE ho hb
  go_wp2_with fail
  refine (specIsSpecial_any c _).mono ?_
  rintro e w2 ⟨rfl, rfl⟩
  rw [hs]
  go_wp2_with fail
  refine wp_gen3 (fun W => AtL W g [.int .i64 kind, .int .i64 c, .int .i64 3, .int .i64 bu, .int .i64 ac, .int .i64 cl, .int .i64 ro, ds] ∧ Below w.heap.size w W) ⟨HE1.out, HB.out⟩ (fun W hW => ?_)
  obtain ⟨hk, hb⟩ := hW
  have HK2 := Lib.hid (fun W' (hW : Below W.heap.size W W') => AtL.eightS (hk.on hW))
  have HB2 := Lib.hid hb
  clear hk hb HM1 HE1 HO HB m1 z1 z2
  refine wp_region_noPanic ?_
  refine wp_region_held_drew (S := fun W' => Below (W).heap.size (W) W') (by kernel_rfl) (below_drewN (Below.refl _ _) 1) (fun hHeld => ?_)
  refine takeR 0 61 (.pointer (some ⟨g, 0, none⟩)) (by kernel_rfl) (by kernel_rfl) (by kernel_rfl) (by kernel_rfl) (fun _ _ _ h => h) (by kernel_rfl) (fun w o hSw ho => ?_) hHeld ?_
  · obtain rfl := Option.some.inj ho; go_simp
  simp only [Act.put, List.setIfInBounds_toArray, List.set_cons_zero, List.set_cons_succ]
  refine takeR 5 66 (.pointer (some ⟨g, 0, none⟩)) (by kernel_rfl) (by kernel_rfl) (by kernel_rfl) (by kernel_rfl) (fun _ _ _ h => h) (by kernel_rfl) (fun w o hSw ho => ?_) hHeld ?_
  · obtain rfl := Option.some.inj ho; go_simp
  simp only [Act.put, List.setIfInBounds_toArray, List.set_cons_zero, List.set_cons_succ]
  refine takeR 1 62 (.pointer (some ⟨g, 0, none⟩)) (by kernel_rfl) (by kernel_rfl) (by kernel_rfl) (by kernel_rfl) (fun _ _ _ h => h) (by kernel_rfl) (fun w o hSw ho => ?_) hHeld ?_
  · obtain rfl := Option.some.inj ho; go_simp
  simp only [Act.put, List.setIfInBounds_toArray, List.set_cons_zero, List.set_cons_succ]
  refine takeR 6 67 (.pointer (some ⟨g, 0, none⟩)) (by kernel_rfl) (by kernel_rfl) (by kernel_rfl) (by kernel_rfl) (fun _ _ _ h => h) (by kernel_rfl) (fun w o hSw ho => ?_) hHeld ?_
  · obtain rfl := Option.some.inj ho; go_simp
  simp only [Act.put, List.setIfInBounds_toArray, List.set_cons_zero, List.set_cons_succ]
  refine takeR 2 63 (.pointer (some ⟨g, 1, none⟩)) (by kernel_rfl) (by kernel_rfl) (by kernel_rfl) (by kernel_rfl) (fun _ _ _ h => h) (by kernel_rfl) (fun w o hSw ho => ?_) hHeld ?_
  · obtain rfl := Option.some.inj ho; go_simp
  simp only [Act.put, List.setIfInBounds_toArray, List.set_cons_zero, List.set_cons_succ]
  refine takeR 7 68 (.pointer (some ⟨g, 2, none⟩)) (by kernel_rfl) (by kernel_rfl) (by kernel_rfl) (by kernel_rfl) (fun _ _ _ h => h) (by kernel_rfl) (fun w o hSw ho => ?_) hHeld ?_
  · obtain rfl := Option.some.inj ho; go_simp
  simp only [Act.put, List.setIfInBounds_toArray, List.set_cons_zero, List.set_cons_succ]
  refine takeR 3 64 (.int .i64 c) (by kernel_rfl) (by kernel_rfl) (by kernel_rfl) (by kernel_rfl) (fun _ _ _ h => h) (by kernel_rfl) (fun w o hSw ho => ?_) hHeld ?_
  · obtain rfl := Option.some.inj ho; obtain ⟨z0, z1, z2, z3, z4, z5, z6, z7⟩ := HK2.out _ hSw; go_simp
  simp only [Act.put, List.setIfInBounds_toArray, List.set_cons_zero, List.set_cons_succ]
  refine takeR 8 69 (.int .i64 3) (by kernel_rfl) (by kernel_rfl) (by kernel_rfl) (by kernel_rfl) (fun _ _ _ h => h) (by kernel_rfl) (fun w o hSw ho => ?_) hHeld ?_
  · obtain rfl := Option.some.inj ho; obtain ⟨z0, z1, z2, z3, z4, z5, z6, z7⟩ := HK2.out _ hSw; go_simp
  simp only [Act.put, List.setIfInBounds_toArray, List.set_cons_zero, List.set_cons_succ]
  refine takeR 9 70 (.int .i64 4) (by kernel_rfl) (by kernel_rfl) (by kernel_rfl) (by kernel_rfl) (fun _ _ _ h => h) (by kernel_rfl) (fun w o hSw ho => ?_) hHeld ?_
  · obtain rfl := Option.some.inj ho; go_simp; rfl
  simp only [Act.put, List.setIfInBounds_toArray, List.set_cons_zero, List.set_cons_succ]
  refine oneR 4 (by kernel_rfl) (by kernel_rfl) (fun o ho K' hK => ?_)
  obtain rfl := Option.some.inj ho
  clear ho
  go_simp
  refine (HPK.out _).mono ?_
  rintro e V1 ⟨rfl, rfl⟩
  go_wp2_with fail
  refine hK.out _ _ (hHeld) (fun hHeld => ?_)
  clear hK K'
  try simp only [Act.put, List.setIfInBounds_toArray, List.set_cons_zero, List.set_cons_succ]
  have HV1 := Lib.hid hHeld
  refine oneR 10 (by kernel_rfl) (by kernel_rfl) (fun o ho K' hK => ?_)
  obtain rfl := Option.some.inj ho
  clear ho
  go_simp
  refine hK.out _ _ (below_on hHeld (below_mk _ _)) (fun hHeld => ?_)
  clear hK K'
  try simp only [Act.put, List.setIfInBounds_toArray, List.set_cons_zero, List.set_cons_succ]
  refine oneR 11 (by kernel_rfl) (by kernel_rfl) (fun o ho K' hK => ?_)
  obtain rfl := Option.some.inj ho
  clear ho
  go_simp
  refine (HSL.out W.drew (W.heap.size) (by simp)).mono ?_
  rintro e V2 ⟨v2, rfl, ho2, hb2⟩
  have HV2 := Lib.hid (below_on hHeld hb2)
  have HE := Lib.hid (own_low ho2 (below_on HB2.out HV2.out) (by have h1 := HB2.out.size; have h2 := HV1.out.size; simp at h2 ⊢; omega))
  clear ho2 hb2 hHeld
  go_wp2_with fail
  refine hK.out _ _ (HV2.out) (fun hHeld => ?_)
  clear hK K'
  try simp only [Act.put, List.setIfInBounds_toArray, List.set_cons_zero, List.set_cons_succ]
  refine takeR 12 4 (v2) (by kernel_rfl) (by kernel_rfl) (by kernel_rfl) (by kernel_rfl) (fun _ _ _ h => h) (by kernel_rfl) (fun w o hSw ho => ?_) hHeld ?_
  · obtain rfl := Option.some.inj ho; go_simp
  simp only [Act.put, List.setIfInBounds_toArray, List.set_cons_zero, List.set_cons_succ]
  refine wpAnyH_done (by kernel_rfl) ?_ _
  refine NoPanic.normal ?_
  go_wp2_with fail
  go_ret
  exact HE.out

set_option maxRecDepth 100000 in
set_option maxHeartbeats 4000000 in
theorem other_et_4 (cu : Bool) (mo : Int) (sg pa : Bool) (kind c bu ac cl ro : Int) (ds : Value) (b g : Nat) (w : World) (hM : AtL w b [.bool cu, .bool true, .int .i64 mo, .bool sg, .bool pa]) (hE : AtL w g [.int .i64 kind, .int .i64 c, .int .i64 4, .int .i64 bu, .int .i64 ac, .int .i64 cl, .int .i64 ro, ds]) (h : Typed c 4) (hs : special c = false) (hp : ctrlE c = []) :
    Calls Tryz.prog 76 #[.pointer (some ⟨b, 0, none⟩), .pointer (some ⟨g, 0, none⟩)] w (NewOwn w (typedE true c 4)) := by
  have hne : plainE c 4 = [] := by
    unfold plainE
    rw [if_neg (by simp [hs]), if_neg (by omega)]
    rw [if_pos (by omega)]
    exact hp
  have hh : plainE c 4 = [] ∨ ((4 : Int) ≠ 0 ∧ (special c = true ∨ (4 : Int) ≠ 4)) := .inl hne
  rw [typedE_coded hh (.inl (by omega))]
  clear hh
  have HSL := Lib.hid (fun (W : World) g hg => l5Seq_lit #[.int .i64 (codeE c), .int .i64 5] [codeE c, 5] 117 2 W 2 g hg rfl rfl (inNum2 h.code.1 h.code.2.1 (by omega) (by omega)) (by simp) (by omega) (by omega))
  rw [show byteE 117 = 117 from rfl] at HSL
  rw [show (4 : Int) + 1 = 5 from rfl]
  have HPK := Lib.hid (fun W => l5Code_any c W)
  have hok : (!(plainE c 4).isEmpty) = false := by simp [hne]
  obtain ⟨i0, hi0, hz0, hz1, hz2⟩ := info_parts Tryz.info_u8
  have HI := Lib.hid (And.intro hi0 (And.intro hz0 (And.intro hz1 hz2)))
  clear hi0 hz0 hz1 hz2
  have HP := Lib.hid (l5Plain_any kind c 4 bu ac cl ro ds g w hE h)
  rw [hok] at HP
  have hll := plain_len c 4
  have hcode := h.code
  have HMM := Lib.hid hM
  have HEE := Lib.hid hE
  clear hM hE hok
  generalize hpl : plainE c 4 = L at *
  obtain rfl : L = [] := hne
  clear hpl
  go_enter Tryz.func76, Tryz.ntmps76
  go_wp2_with fail
  refine HP.out.mono ?_
  rintro e w1 ⟨v, rfl, ho, hb⟩
  have HO := Lib.hid ho
  have HB := Lib.hid hb
  have HM1 := Lib.hid (HMM.out.on hb)
  have HE1 := Lib.hid (HEE.out.on hb)
  have m1 := HM1.out.get 1 rfl
  obtain ⟨z0, z1, z2, z3, z4, z5, z6, z7⟩ := AtL.eightS HE1.out
  clear z0 z3 z4 z5 z6 z7 HP HMM HEE ho hb
  go_wp2_with fail
  refine (specIsSpecial_any c _).mono ?_
  rintro e w2 ⟨rfl, rfl⟩
  rw [hs]
  go_wp2_with fail
  refine wp_gen3 (fun W => AtL W g [.int .i64 kind, .int .i64 c, .int .i64 4, .int .i64 bu, .int .i64 ac, .int .i64 cl, .int .i64 ro, ds] ∧ Below w.heap.size w W) ⟨HE1.out, HB.out⟩ (fun W hW => ?_)
  obtain ⟨hk, hb⟩ := hW
  have HK2 := Lib.hid (fun W' (hW : Below W.heap.size W W') => AtL.eightS (hk.on hW))
  have HB2 := Lib.hid hb
  clear hk hb HM1 HE1 HO HB m1 z1 z2
  refine wp_region_noPanic ?_
  refine wp_region_held_drew (S := fun W' => Below (W).heap.size (W) W') (by kernel_rfl) (below_drewN (Below.refl _ _) 1) (fun hHeld => ?_)
  refine takeR 0 61 (.pointer (some ⟨g, 0, none⟩)) (by kernel_rfl) (by kernel_rfl) (by kernel_rfl) (by kernel_rfl) (fun _ _ _ h => h) (by kernel_rfl) (fun w o hSw ho => ?_) hHeld ?_
  · obtain rfl := Option.some.inj ho; go_simp
  simp only [Act.put, List.setIfInBounds_toArray, List.set_cons_zero, List.set_cons_succ]
  refine takeR 5 66 (.pointer (some ⟨g, 0, none⟩)) (by kernel_rfl) (by kernel_rfl) (by kernel_rfl) (by kernel_rfl) (fun _ _ _ h => h) (by kernel_rfl) (fun w o hSw ho => ?_) hHeld ?_
  · obtain rfl := Option.some.inj ho; go_simp
  simp only [Act.put, List.setIfInBounds_toArray, List.set_cons_zero, List.set_cons_succ]
  refine takeR 1 62 (.pointer (some ⟨g, 0, none⟩)) (by kernel_rfl) (by kernel_rfl) (by kernel_rfl) (by kernel_rfl) (fun _ _ _ h => h) (by kernel_rfl) (fun w o hSw ho => ?_) hHeld ?_
  · obtain rfl := Option.some.inj ho; go_simp
  simp only [Act.put, List.setIfInBounds_toArray, List.set_cons_zero, List.set_cons_succ]
  refine takeR 6 67 (.pointer (some ⟨g, 0, none⟩)) (by kernel_rfl) (by kernel_rfl) (by kernel_rfl) (by kernel_rfl) (fun _ _ _ h => h) (by kernel_rfl) (fun w o hSw ho => ?_) hHeld ?_
  · obtain rfl := Option.some.inj ho; go_simp
  simp only [Act.put, List.setIfInBounds_toArray, List.set_cons_zero, List.set_cons_succ]
  refine takeR 2 63 (.pointer (some ⟨g, 1, none⟩)) (by kernel_rfl) (by kernel_rfl) (by kernel_rfl) (by kernel_rfl) (fun _ _ _ h => h) (by kernel_rfl) (fun w o hSw ho => ?_) hHeld ?_
  · obtain rfl := Option.some.inj ho; go_simp
  simp only [Act.put, List.setIfInBounds_toArray, List.set_cons_zero, List.set_cons_succ]
  refine takeR 7 68 (.pointer (some ⟨g, 2, none⟩)) (by kernel_rfl) (by kernel_rfl) (by kernel_rfl) (by kernel_rfl) (fun _ _ _ h => h) (by kernel_rfl) (fun w o hSw ho => ?_) hHeld ?_
  · obtain rfl := Option.some.inj ho; go_simp
  simp only [Act.put, List.setIfInBounds_toArray, List.set_cons_zero, List.set_cons_succ]
  refine takeR 3 64 (.int .i64 c) (by kernel_rfl) (by kernel_rfl) (by kernel_rfl) (by kernel_rfl) (fun _ _ _ h => h) (by kernel_rfl) (fun w o hSw ho => ?_) hHeld ?_
  · obtain rfl := Option.some.inj ho; obtain ⟨z0, z1, z2, z3, z4, z5, z6, z7⟩ := HK2.out _ hSw; go_simp
  simp only [Act.put, List.setIfInBounds_toArray, List.set_cons_zero, List.set_cons_succ]
  refine takeR 8 69 (.int .i64 4) (by kernel_rfl) (by kernel_rfl) (by kernel_rfl) (by kernel_rfl) (fun _ _ _ h => h) (by kernel_rfl) (fun w o hSw ho => ?_) hHeld ?_
  · obtain rfl := Option.some.inj ho; obtain ⟨z0, z1, z2, z3, z4, z5, z6, z7⟩ := HK2.out _ hSw; go_simp
  simp only [Act.put, List.setIfInBounds_toArray, List.set_cons_zero, List.set_cons_succ]
  refine takeR 9 70 (.int .i64 5) (by kernel_rfl) (by kernel_rfl) (by kernel_rfl) (by kernel_rfl) (fun _ _ _ h => h) (by kernel_rfl) (fun w o hSw ho => ?_) hHeld ?_
  · obtain rfl := Option.some.inj ho; go_simp; rfl
  simp only [Act.put, List.setIfInBounds_toArray, List.set_cons_zero, List.set_cons_succ]
  refine oneR 4 (by kernel_rfl) (by kernel_rfl) (fun o ho K' hK => ?_)
  obtain rfl := Option.some.inj ho
  clear ho
  go_simp
  refine (HPK.out _).mono ?_
  rintro e V1 ⟨rfl, rfl⟩
  go_wp2_with fail
  refine hK.out _ _ (hHeld) (fun hHeld => ?_)
  clear hK K'
  try simp only [Act.put, List.setIfInBounds_toArray, List.set_cons_zero, List.set_cons_succ]
  have HV1 := Lib.hid hHeld
  refine oneR 10 (by kernel_rfl) (by kernel_rfl) (fun o ho K' hK => ?_)
  obtain rfl := Option.some.inj ho
  clear ho
  go_simp
  refine hK.out _ _ (below_on hHeld (below_mk _ _)) (fun hHeld => ?_)
  clear hK K'
  try simp only [Act.put, List.setIfInBounds_toArray, List.set_cons_zero, List.set_cons_succ]
  refine oneR 11 (by kernel_rfl) (by kernel_rfl) (fun o ho K' hK => ?_)
  obtain rfl := Option.some.inj ho
  clear ho
  go_simp
  refine (HSL.out W.drew (W.heap.size) (by simp)).mono ?_
  rintro e V2 ⟨v2, rfl, ho2, hb2⟩
  have HV2 := Lib.hid (below_on hHeld hb2)
  have HE := Lib.hid (own_low ho2 (below_on HB2.out HV2.out) (by have h1 := HB2.out.size; have h2 := HV1.out.size; simp at h2 ⊢; omega))
  clear ho2 hb2 hHeld
  go_wp2_with fail
  refine hK.out _ _ (HV2.out) (fun hHeld => ?_)
  clear hK K'
  try simp only [Act.put, List.setIfInBounds_toArray, List.set_cons_zero, List.set_cons_succ]
  refine takeR 12 4 (v2) (by kernel_rfl) (by kernel_rfl) (by kernel_rfl) (by kernel_rfl) (fun _ _ _ h => h) (by kernel_rfl) (fun w o hSw ho => ?_) hHeld ?_
  · obtain rfl := Option.some.inj ho; go_simp
  simp only [Act.put, List.setIfInBounds_toArray, List.set_cons_zero, List.set_cons_succ]
  refine wpAnyH_done (by kernel_rfl) ?_ _
  refine NoPanic.normal ?_
  go_wp2_with fail
  go_ret
  exact HE.out

set_option maxRecDepth 100000 in
set_option maxHeartbeats 4000000 in
theorem other_et_5 (cu : Bool) (mo : Int) (sg pa : Bool) (kind c bu ac cl ro : Int) (ds : Value) (b g : Nat) (w : World) (hM : AtL w b [.bool cu, .bool true, .int .i64 mo, .bool sg, .bool pa]) (hE : AtL w g [.int .i64 kind, .int .i64 c, .int .i64 5, .int .i64 bu, .int .i64 ac, .int .i64 cl, .int .i64 ro, ds]) (h : Typed c 5) (hs : special c = false) :
    Calls Tryz.prog 76 #[.pointer (some ⟨b, 0, none⟩), .pointer (some ⟨g, 0, none⟩)] w (NewOwn w (typedE true c 5)) := by
  have hne : plainE c 5 = [] := by
    unfold plainE
    rw [if_neg (by simp [hs]), if_neg (by omega)]
    rw [if_neg (by omega)]
  have hh : plainE c 5 = [] ∨ ((5 : Int) ≠ 0 ∧ (special c = true ∨ (5 : Int) ≠ 4)) := .inl hne
  rw [typedE_coded hh (.inl (by omega))]
  clear hh
  have HSL := Lib.hid (fun (W : World) g hg => l5Seq_lit #[.int .i64 (codeE c), .int .i64 6] [codeE c, 6] 117 2 W 2 g hg rfl rfl (inNum2 h.code.1 h.code.2.1 (by omega) (by omega)) (by simp) (by omega) (by omega))
  rw [show byteE 117 = 117 from rfl] at HSL
  rw [show (5 : Int) + 1 = 6 from rfl]
  have HPK := Lib.hid (fun W => l5Code_any c W)
  have hok : (!(plainE c 5).isEmpty) = false := by simp [hne]
  obtain ⟨i0, hi0, hz0, hz1, hz2⟩ := info_parts Tryz.info_u8
  have HI := Lib.hid (And.intro hi0 (And.intro hz0 (And.intro hz1 hz2)))
  clear hi0 hz0 hz1 hz2
  have HP := Lib.hid (l5Plain_any kind c 5 bu ac cl ro ds g w hE h)
  rw [hok] at HP
  have hll := plain_len c 5
  have hcode := h.code
  have HMM := Lib.hid hM
  have HEE := Lib.hid hE
  clear hM hE hok
  generalize hpl : plainE c 5 = L at *
  obtain rfl : L = [] := hne
  clear hpl
  go_enter Tryz.func76, Tryz.ntmps76
  go_wp2_with fail
  refine HP.out.mono ?_
  rintro e w1 ⟨v, rfl, ho, hb⟩
  have HO := Lib.hid ho
  have HB := Lib.hid hb
  have HM1 := Lib.hid (HMM.out.on hb)
  have HE1 := Lib.hid (HEE.out.on hb)
  have m1 := HM1.out.get 1 rfl
  obtain ⟨z0, z1, z2, z3, z4, z5, z6, z7⟩ := AtL.eightS HE1.out
  clear z0 z3 z4 z5 z6 z7 HP HMM HEE ho hb
  go_wp2_with fail
  refine (specIsSpecial_any c _).mono ?_
  rintro e w2 ⟨rfl, rfl⟩
  rw [hs]
  go_wp2_with fail
  refine wp_gen3 (fun W => AtL W g [.int .i64 kind, .int .i64 c, .int .i64 5, .int .i64 bu, .int .i64 ac, .int .i64 cl, .int .i64 ro, ds] ∧ Below w.heap.size w W) ⟨HE1.out, HB.out⟩ (fun W hW => ?_)
  obtain ⟨hk, hb⟩ := hW
  have HK2 := Lib.hid (fun W' (hW : Below W.heap.size W W') => AtL.eightS (hk.on hW))
  have HB2 := Lib.hid hb
  clear hk hb HM1 HE1 HO HB m1 z1 z2
  refine wp_region_noPanic ?_
  refine wp_region_held_drew (S := fun W' => Below (W).heap.size (W) W') (by kernel_rfl) (below_drewN (Below.refl _ _) 1) (fun hHeld => ?_)
  refine takeR 0 61 (.pointer (some ⟨g, 0, none⟩)) (by kernel_rfl) (by kernel_rfl) (by kernel_rfl) (by kernel_rfl) (fun _ _ _ h => h) (by kernel_rfl) (fun w o hSw ho => ?_) hHeld ?_
  · obtain rfl := Option.some.inj ho; go_simp
  simp only [Act.put, List.setIfInBounds_toArray, List.set_cons_zero, List.set_cons_succ]
  refine takeR 5 66 (.pointer (some ⟨g, 0, none⟩)) (by kernel_rfl) (by kernel_rfl) (by kernel_rfl) (by kernel_rfl) (fun _ _ _ h => h) (by kernel_rfl) (fun w o hSw ho => ?_) hHeld ?_
  · obtain rfl := Option.some.inj ho; go_simp
  simp only [Act.put, List.setIfInBounds_toArray, List.set_cons_zero, List.set_cons_succ]
  refine takeR 1 62 (.pointer (some ⟨g, 0, none⟩)) (by kernel_rfl) (by kernel_rfl) (by kernel_rfl) (by kernel_rfl) (fun _ _ _ h => h) (by kernel_rfl) (fun w o hSw ho => ?_) hHeld ?_
  · obtain rfl := Option.some.inj ho; go_simp
  simp only [Act.put, List.setIfInBounds_toArray, List.set_cons_zero, List.set_cons_succ]
  refine takeR 6 67 (.pointer (some ⟨g, 0, none⟩)) (by kernel_rfl) (by kernel_rfl) (by kernel_rfl) (by kernel_rfl) (fun _ _ _ h => h) (by kernel_rfl) (fun w o hSw ho => ?_) hHeld ?_
  · obtain rfl := Option.some.inj ho; go_simp
  simp only [Act.put, List.setIfInBounds_toArray, List.set_cons_zero, List.set_cons_succ]
  refine takeR 2 63 (.pointer (some ⟨g, 1, none⟩)) (by kernel_rfl) (by kernel_rfl) (by kernel_rfl) (by kernel_rfl) (fun _ _ _ h => h) (by kernel_rfl) (fun w o hSw ho => ?_) hHeld ?_
  · obtain rfl := Option.some.inj ho; go_simp
  simp only [Act.put, List.setIfInBounds_toArray, List.set_cons_zero, List.set_cons_succ]
  refine takeR 7 68 (.pointer (some ⟨g, 2, none⟩)) (by kernel_rfl) (by kernel_rfl) (by kernel_rfl) (by kernel_rfl) (fun _ _ _ h => h) (by kernel_rfl) (fun w o hSw ho => ?_) hHeld ?_
  · obtain rfl := Option.some.inj ho; go_simp
  simp only [Act.put, List.setIfInBounds_toArray, List.set_cons_zero, List.set_cons_succ]
  refine takeR 3 64 (.int .i64 c) (by kernel_rfl) (by kernel_rfl) (by kernel_rfl) (by kernel_rfl) (fun _ _ _ h => h) (by kernel_rfl) (fun w o hSw ho => ?_) hHeld ?_
  · obtain rfl := Option.some.inj ho; obtain ⟨z0, z1, z2, z3, z4, z5, z6, z7⟩ := HK2.out _ hSw; go_simp
  simp only [Act.put, List.setIfInBounds_toArray, List.set_cons_zero, List.set_cons_succ]
  refine takeR 8 69 (.int .i64 5) (by kernel_rfl) (by kernel_rfl) (by kernel_rfl) (by kernel_rfl) (fun _ _ _ h => h) (by kernel_rfl) (fun w o hSw ho => ?_) hHeld ?_
  · obtain rfl := Option.some.inj ho; obtain ⟨z0, z1, z2, z3, z4, z5, z6, z7⟩ := HK2.out _ hSw; go_simp
  simp only [Act.put, List.setIfInBounds_toArray, List.set_cons_zero, List.set_cons_succ]
  refine takeR 9 70 (.int .i64 6) (by kernel_rfl) (by kernel_rfl) (by kernel_rfl) (by kernel_rfl) (fun _ _ _ h => h) (by kernel_rfl) (fun w o hSw ho => ?_) hHeld ?_
  · obtain rfl := Option.some.inj ho; go_simp; rfl
  simp only [Act.put, List.setIfInBounds_toArray, List.set_cons_zero, List.set_cons_succ]
  refine oneR 4 (by kernel_rfl) (by kernel_rfl) (fun o ho K' hK => ?_)
  obtain rfl := Option.some.inj ho
  clear ho
  go_simp
  refine (HPK.out _).mono ?_
  rintro e V1 ⟨rfl, rfl⟩
  go_wp2_with fail
  refine hK.out _ _ (hHeld) (fun hHeld => ?_)
  clear hK K'
  try simp only [Act.put, List.setIfInBounds_toArray, List.set_cons_zero, List.set_cons_succ]
  have HV1 := Lib.hid hHeld
  refine oneR 10 (by kernel_rfl) (by kernel_rfl) (fun o ho K' hK => ?_)
  obtain rfl := Option.some.inj ho
  clear ho
  go_simp
  refine hK.out _ _ (below_on hHeld (below_mk _ _)) (fun hHeld => ?_)
  clear hK K'
  try simp only [Act.put, List.setIfInBounds_toArray, List.set_cons_zero, List.set_cons_succ]
  refine oneR 11 (by kernel_rfl) (by kernel_rfl) (fun o ho K' hK => ?_)
  obtain rfl := Option.some.inj ho
  clear ho
  go_simp
  refine (HSL.out W.drew (W.heap.size) (by simp)).mono ?_
  rintro e V2 ⟨v2, rfl, ho2, hb2⟩
  have HV2 := Lib.hid (below_on hHeld hb2)
  have HE := Lib.hid (own_low ho2 (below_on HB2.out HV2.out) (by have h1 := HB2.out.size; have h2 := HV1.out.size; simp at h2 ⊢; omega))
  clear ho2 hb2 hHeld
  go_wp2_with fail
  refine hK.out _ _ (HV2.out) (fun hHeld => ?_)
  clear hK K'
  try simp only [Act.put, List.setIfInBounds_toArray, List.set_cons_zero, List.set_cons_succ]
  refine takeR 12 4 (v2) (by kernel_rfl) (by kernel_rfl) (by kernel_rfl) (by kernel_rfl) (fun _ _ _ h => h) (by kernel_rfl) (fun w o hSw ho => ?_) hHeld ?_
  · obtain rfl := Option.some.inj ho; go_simp
  simp only [Act.put, List.setIfInBounds_toArray, List.set_cons_zero, List.set_cons_succ]
  refine wpAnyH_done (by kernel_rfl) ?_ _
  refine NoPanic.normal ?_
  go_wp2_with fail
  go_ret
  exact HE.out

set_option maxRecDepth 100000 in
set_option maxHeartbeats 4000000 in
theorem other_et_6 (cu : Bool) (mo : Int) (sg pa : Bool) (kind c bu ac cl ro : Int) (ds : Value) (b g : Nat) (w : World) (hM : AtL w b [.bool cu, .bool true, .int .i64 mo, .bool sg, .bool pa]) (hE : AtL w g [.int .i64 kind, .int .i64 c, .int .i64 6, .int .i64 bu, .int .i64 ac, .int .i64 cl, .int .i64 ro, ds]) (h : Typed c 6) (hs : special c = false) (hp : ctrlE c = []) :
    Calls Tryz.prog 76 #[.pointer (some ⟨b, 0, none⟩), .pointer (some ⟨g, 0, none⟩)] w (NewOwn w (typedE true c 6)) := by
  have hne : plainE c 6 = [] := by
    unfold plainE
    rw [if_neg (by simp [hs]), if_neg (by omega)]
    rw [if_pos (by omega)]
    exact hp
  have hh : plainE c 6 = [] ∨ ((6 : Int) ≠ 0 ∧ (special c = true ∨ (6 : Int) ≠ 4)) := .inl hne
  rw [typedE_coded hh (.inl (by omega))]
  clear hh
  have HSL := Lib.hid (fun (W : World) g hg => l5Seq_lit #[.int .i64 (codeE c), .int .i64 7] [codeE c, 7] 117 2 W 2 g hg rfl rfl (inNum2 h.code.1 h.code.2.1 (by omega) (by omega)) (by simp) (by omega) (by omega))
  rw [show byteE 117 = 117 from rfl] at HSL
  rw [show (6 : Int) + 1 = 7 from rfl]
  have HPK := Lib.hid (fun W => l5Code_any c W)
  have hok : (!(plainE c 6).isEmpty) = false := by simp [hne]
  obtain ⟨i0, hi0, hz0, hz1, hz2⟩ := info_parts Tryz.info_u8
  have HI := Lib.hid (And.intro hi0 (And.intro hz0 (And.intro hz1 hz2)))
  clear hi0 hz0 hz1 hz2
  have HP := Lib.hid (l5Plain_any kind c 6 bu ac cl ro ds g w hE h)
  rw [hok] at HP
  have hll := plain_len c 6
  have hcode := h.code
  have HMM := Lib.hid hM
  have HEE := Lib.hid hE
  clear hM hE hok
  generalize hpl : plainE c 6 = L at *
  obtain rfl : L = [] := hne
  clear hpl
  go_enter Tryz.func76, Tryz.ntmps76
  go_wp2_with fail
  refine HP.out.mono ?_
  rintro e w1 ⟨v, rfl, ho, hb⟩
  have HO := Lib.hid ho
  have HB := Lib.hid hb
  have HM1 := Lib.hid (HMM.out.on hb)
  have HE1 := Lib.hid (HEE.out.on hb)
  have m1 := HM1.out.get 1 rfl
  obtain ⟨z0, z1, z2, z3, z4, z5, z6, z7⟩ := AtL.eightS HE1.out
  clear z0 z3 z4 z5 z6 z7 HP HMM HEE ho hb
  go_wp2_with fail
  refine (specIsSpecial_any c _).mono ?_
  rintro e w2 ⟨rfl, rfl⟩
  rw [hs]
  go_wp2_with fail
  refine wp_gen3 (fun W => AtL W g [.int .i64 kind, .int .i64 c, .int .i64 6, .int .i64 bu, .int .i64 ac, .int .i64 cl, .int .i64 ro, ds] ∧ Below w.heap.size w W) ⟨HE1.out, HB.out⟩ (fun W hW => ?_)
  obtain ⟨hk, hb⟩ := hW
  have HK2 := Lib.hid (fun W' (hW : Below W.heap.size W W') => AtL.eightS (hk.on hW))
  have HB2 := Lib.hid hb
  clear hk hb HM1 HE1 HO HB m1 z1 z2
  refine wp_region_noPanic ?_
  refine wp_region_held_drew (S := fun W' => Below (W).heap.size (W) W') (by kernel_rfl) (below_drewN (Below.refl _ _) 1) (fun hHeld => ?_)
  refine takeR 0 61 (.pointer (some ⟨g, 0, none⟩)) (by kernel_rfl) (by kernel_rfl) (by kernel_rfl) (by kernel_rfl) (fun _ _ _ h => h) (by kernel_rfl) (fun w o hSw ho => ?_) hHeld ?_
  · obtain rfl := Option.some.inj ho; go_simp
  simp only [Act.put, List.setIfInBounds_toArray, List.set_cons_zero, List.set_cons_succ]
  refine takeR 5 66 (.pointer (some ⟨g, 0, none⟩)) (by kernel_rfl) (by kernel_rfl) (by kernel_rfl) (by kernel_rfl) (fun _ _ _ h => h) (by kernel_rfl) (fun w o hSw ho => ?_) hHeld ?_
  · obtain rfl := Option.some.inj ho; go_simp
  simp only [Act.put, List.setIfInBounds_toArray, List.set_cons_zero, List.set_cons_succ]
  refine takeR 1 62 (.pointer (some ⟨g, 0, none⟩)) (by kernel_rfl) (by kernel_rfl) (by kernel_rfl) (by kernel_rfl) (fun _ _ _ h => h) (by kernel_rfl) (fun w o hSw ho => ?_) hHeld ?_
  · obtain rfl := Option.some.inj ho; go_simp
  simp only [Act.put, List.setIfInBounds_toArray, List.set_cons_zero, List.set_cons_succ]
  refine takeR 6 67 (.pointer (some ⟨g, 0, none⟩)) (by kernel_rfl) (by kernel_rfl) (by kernel_rfl) (by kernel_rfl) (fun _ _ _ h => h) (by kernel_rfl) (fun w o hSw ho => ?_) hHeld ?_
  · obtain rfl := Option.some.inj ho; go_simp
  simp only [Act.put, List.setIfInBounds_toArray, List.set_cons_zero, List.set_cons_succ]
  refine takeR 2 63 (.pointer (some ⟨g, 1, none⟩)) (by kernel_rfl) (by kernel_rfl) (by kernel_rfl) (by kernel_rfl) (fun _ _ _ h => h) (by kernel_rfl) (fun w o hSw ho => ?_) hHeld ?_
  · obtain rfl := Option.some.inj ho; go_simp
  simp only [Act.put, List.setIfInBounds_toArray, List.set_cons_zero, List.set_cons_succ]
  refine takeR 7 68 (.pointer (some ⟨g, 2, none⟩)) (by kernel_rfl) (by kernel_rfl) (by kernel_rfl) (by kernel_rfl) (fun _ _ _ h => h) (by kernel_rfl) (fun w o hSw ho => ?_) hHeld ?_
  · obtain rfl := Option.some.inj ho; go_simp
  simp only [Act.put, List.setIfInBounds_toArray, List.set_cons_zero, List.set_cons_succ]
  refine takeR 3 64 (.int .i64 c) (by kernel_rfl) (by kernel_rfl) (by kernel_rfl) (by kernel_rfl) (fun _ _ _ h => h) (by kernel_rfl) (fun w o hSw ho => ?_) hHeld ?_
  · obtain rfl := Option.some.inj ho; obtain ⟨z0, z1, z2, z3, z4, z5, z6, z7⟩ := HK2.out _ hSw; go_simp
  simp only [Act.put, List.setIfInBounds_toArray, List.set_cons_zero, List.set_cons_succ]
  refine takeR 8 69 (.int .i64 6) (by kernel_rfl) (by kernel_rfl) (by kernel_rfl) (by kernel_rfl) (fun _ _ _ h => h) (by kernel_rfl) (fun w o hSw ho => ?_) hHeld ?_
  · obtain rfl := Option.some.inj ho; obtain ⟨z0, z1, z2, z3, z4, z5, z6, z7⟩ := HK2.out _ hSw; go_simp
  simp only [Act.put, List.setIfInBounds_toArray, List.set_cons_zero, List.set_cons_succ]
  refine takeR 9 70 (.int .i64 7) (by kernel_rfl) (by kernel_rfl) (by kernel_rfl) (by kernel_rfl) (fun _ _ _ h => h) (by kernel_rfl) (fun w o hSw ho => ?_) hHeld ?_
  · obtain rfl := Option.some.inj ho; go_simp; rfl
  simp only [Act.put, List.setIfInBounds_toArray, List.set_cons_zero, List.set_cons_succ]
  refine oneR 4 (by kernel_rfl) (by kernel_rfl) (fun o ho K' hK => ?_)
  obtain rfl := Option.some.inj ho
  clear ho
  go_simp
  refine (HPK.out _).mono ?_
  rintro e V1 ⟨rfl, rfl⟩
  go_wp2_with fail
  refine hK.out _ _ (hHeld) (fun hHeld => ?_)
  clear hK K'
  try simp only [Act.put, List.setIfInBounds_toArray, List.set_cons_zero, List.set_cons_succ]
  have HV1 := Lib.hid hHeld
  refine oneR 10 (by kernel_rfl) (by kernel_rfl) (fun o ho K' hK => ?_)
  obtain rfl := Option.some.inj ho
  clear ho
  go_simp
  refine hK.out _ _ (below_on hHeld (below_mk _ _)) (fun hHeld => ?_)
  clear hK K'
  try simp only [Act.put, List.setIfInBounds_toArray, List.set_cons_zero, List.set_cons_succ]
  refine oneR 11 (by kernel_rfl) (by kernel_rfl) (fun o ho K' hK => ?_)
  obtain rfl := Option.some.inj ho
  clear ho
  go_simp
  refine (HSL.out W.drew (W.heap.size) (by simp)).mono ?_
  rintro e V2 ⟨v2, rfl, ho2, hb2⟩
  have HV2 := Lib.hid (below_on hHeld hb2)
  have HE := Lib.hid (own_low ho2 (below_on HB2.out HV2.out) (by have h1 := HB2.out.size; have h2 := HV1.out.size; simp at h2 ⊢; omega))
  clear ho2 hb2 hHeld
  go_wp2_with fail
  refine hK.out _ _ (HV2.out) (fun hHeld => ?_)
  clear hK K'
  try simp only [Act.put, List.setIfInBounds_toArray, List.set_cons_zero, List.set_cons_succ]
  refine takeR 12 4 (v2) (by kernel_rfl) (by kernel_rfl) (by kernel_rfl) (by kernel_rfl) (fun _ _ _ h => h) (by kernel_rfl) (fun w o hSw ho => ?_) hHeld ?_
  · obtain rfl := Option.some.inj ho; go_simp
  simp only [Act.put, List.setIfInBounds_toArray, List.set_cons_zero, List.set_cons_succ]
  refine wpAnyH_done (by kernel_rfl) ?_ _
  refine NoPanic.normal ?_
  go_wp2_with fail
  go_ret
  exact HE.out

set_option maxRecDepth 100000 in
set_option maxHeartbeats 4000000 in
theorem other_et_7 (cu : Bool) (mo : Int) (sg pa : Bool) (kind c bu ac cl ro : Int) (ds : Value) (b g : Nat) (w : World) (hM : AtL w b [.bool cu, .bool true, .int .i64 mo, .bool sg, .bool pa]) (hE : AtL w g [.int .i64 kind, .int .i64 c, .int .i64 7, .int .i64 bu, .int .i64 ac, .int .i64 cl, .int .i64 ro, ds]) (h : Typed c 7) (hs : special c = false) :
    Calls Tryz.prog 76 #[.pointer (some ⟨b, 0, none⟩), .pointer (some ⟨g, 0, none⟩)] w (NewOwn w (typedE true c 7)) := by
  have hne : plainE c 7 = [] := by
    unfold plainE
    rw [if_neg (by simp [hs]), if_neg (by omega)]
    rw [if_neg (by omega)]
  have hh : plainE c 7 = [] ∨ ((7 : Int) ≠ 0 ∧ (special c = true ∨ (7 : Int) ≠ 4)) := .inl hne
  rw [typedE_coded hh (.inl (by omega))]
  clear hh
  have HSL := Lib.hid (fun (W : World) g hg => l5Seq_lit #[.int .i64 (codeE c), .int .i64 8] [codeE c, 8] 117 2 W 2 g hg rfl rfl (inNum2 h.code.1 h.code.2.1 (by omega) (by omega)) (by simp) (by omega) (by omega))
  rw [show byteE 117 = 117 from rfl] at HSL
  rw [show (7 : Int) + 1 = 8 from rfl]
  have HPK := Lib.hid (fun W => l5Code_any c W)
  have hok : (!(plainE c 7).isEmpty) = false := by simp [hne]
  obtain ⟨i0, hi0, hz0, hz1, hz2⟩ := info_parts Tryz.info_u8
  have HI := Lib.hid (And.intro hi0 (And.intro hz0 (And.intro hz1 hz2)))
  clear hi0 hz0 hz1 hz2
  have HP := Lib.hid (l5Plain_any kind c 7 bu ac cl ro ds g w hE h)
  rw [hok] at HP
  have hll := plain_len c 7
  have hcode := h.code
  have HMM := Lib.hid hM
  have HEE := Lib.hid hE
  clear hM hE hok
  generalize hpl : plainE c 7 = L at *
  obtain rfl : L = [] := hne
  clear hpl
  go_enter Tryz.func76, Tryz.ntmps76
  go_wp2_with fail
  refine HP.out.mono ?_
  rintro e w1 ⟨v, rfl, ho, hb⟩
  have HO := Lib.hid ho
  have HB := Lib.hid hb
  have HM1 := Lib.hid (HMM.out.on hb)
  have HE1 := Lib.hid (HEE.out.on hb)
  have m1 := HM1.out.get 1 rfl
  obtain ⟨z0, z1, z2, z3, z4, z5, z6, z7⟩ := AtL.eightS HE1.out
  clear z0 z3 z4 z5 z6 z7 HP HMM HEE ho hb
  go_wp2_with fail
  refine (specIsSpecial_any c _).mono ?_
  rintro e w2 ⟨rfl, rfl⟩
  rw [hs]
  go_wp2_with fail
  refine wp_gen3 (fun W => AtL W g [.int .i64 kind, .int .i64 c, .int .i64 7, .int .i64 bu, .int .i64 ac, .int .i64 cl, .int .i64 ro, ds] ∧ Below w.heap.size w W) ⟨HE1.out, HB.out⟩ (fun W hW => ?_)
  obtain ⟨hk, hb⟩ := hW
  have HK2 := Lib.hid (fun W' (hW : Below W.heap.size W W') => AtL.eightS (hk.on hW))
  have HB2 := Lib.hid hb
  clear hk hb HM1 HE1 HO HB m1 z1 z2
  refine wp_region_noPanic ?_
  refine wp_region_held_drew (S := fun W' => Below (W).heap.size (W) W') (by kernel_rfl) (below_drewN (Below.refl _ _) 1) (fun hHeld => ?_)
  refine takeR 0 61 (.pointer (some ⟨g, 0, none⟩)) (by kernel_rfl) (by kernel_rfl) (by kernel_rfl) (by kernel_rfl) (fun _ _ _ h => h) (by kernel_rfl) (fun w o hSw ho => ?_) hHeld ?_
  · obtain rfl := Option.some.inj ho; go_simp
  simp only [Act.put, List.setIfInBounds_toArray, List.set_cons_zero, List.set_cons_succ]
  refine takeR 5 66 (.pointer (some ⟨g, 0, none⟩)) (by kernel_rfl) (by kernel_rfl) (by kernel_rfl) (by kernel_rfl) (fun _ _ _ h => h) (by kernel_rfl) (fun w o hSw ho => ?_) hHeld ?_
  · obtain rfl := Option.some.inj ho; go_simp
  simp only [Act.put, List.setIfInBounds_toArray, List.set_cons_zero, List.set_cons_succ]
  refine takeR 1 62 (.pointer (some ⟨g, 0, none⟩)) (by kernel_rfl) (by kernel_rfl) (by kernel_rfl) (by kernel_rfl) (fun _ _ _ h => h) (by kernel_rfl) (fun w o hSw ho => ?_) hHeld ?_
  · obtain rfl := Option.some.inj ho; go_simp
  simp only [Act.put, List.setIfInBounds_toArray, List.set_cons_zero, List.set_cons_succ]
  refine takeR 6 67 (.pointer (some ⟨g, 0, none⟩)) (by kernel_rfl) (by kernel_rfl) (by kernel_rfl) (by kernel_rfl) (fun _ _ _ h => h) (by kernel_rfl) (fun w o hSw ho => ?_) hHeld ?_
  · obtain rfl := Option.some.inj ho; go_simp
  simp only [Act.put, List.setIfInBounds_toArray, List.set_cons_zero, List.set_cons_succ]
  refine takeR 2 63 (.pointer (some ⟨g, 1, none⟩)) (by kernel_rfl) (by kernel_rfl) (by kernel_rfl) (by kernel_rfl) (fun _ _ _ h => h) (by kernel_rfl) (fun w o hSw ho => ?_) hHeld ?_
  · obtain rfl := Option.some.inj ho; go_simp
  simp only [Act.put, List.setIfInBounds_toArray, List.set_cons_zero, List.set_cons_succ]
  refine takeR 7 68 (.pointer (some ⟨g, 2, none⟩)) (by kernel_rfl) (by kernel_rfl) (by kernel_rfl) (by kernel_rfl) (fun _ _ _ h => h) (by kernel_rfl) (fun w o hSw ho => ?_) hHeld ?_
  · obtain rfl := Option.some.inj ho; go_simp
  simp only [Act.put, List.setIfInBounds_toArray, List.set_cons_zero, List.set_cons_succ]
  refine takeR 3 64 (.int .i64 c) (by kernel_rfl) (by kernel_rfl) (by kernel_rfl) (by kernel_rfl) (fun _ _ _ h => h) (by kernel_rfl) (fun w o hSw ho => ?_) hHeld ?_
  · obtain rfl := Option.some.inj ho; obtain ⟨z0, z1, z2, z3, z4, z5, z6, z7⟩ := HK2.out _ hSw; go_simp
  simp only [Act.put, List.setIfInBounds_toArray, List.set_cons_zero, List.set_cons_succ]
  refine takeR 8 69 (.int .i64 7) (by kernel_rfl) (by kernel_rfl) (by kernel_rfl) (by kernel_rfl) (fun _ _ _ h => h) (by kernel_rfl) (fun w o hSw ho => ?_) hHeld ?_
  · obtain rfl := Option.some.inj ho; obtain ⟨z0, z1, z2, z3, z4, z5, z6, z7⟩ := HK2.out _ hSw; go_simp
  simp only [Act.put, List.setIfInBounds_toArray, List.set_cons_zero, List.set_cons_succ]
  refine takeR 9 70 (.int .i64 8) (by kernel_rfl) (by kernel_rfl) (by kernel_rfl) (by kernel_rfl) (fun _ _ _ h => h) (by kernel_rfl) (fun w o hSw ho => ?_) hHeld ?_
  · obtain rfl := Option.some.inj ho; go_simp; rfl
  simp only [Act.put, List.setIfInBounds_toArray, List.set_cons_zero, List.set_cons_succ]
  refine oneR 4 (by kernel_rfl) (by kernel_rfl) (fun o ho K' hK => ?_)
  obtain rfl := Option.some.inj ho
  clear ho
  go_simp
  refine (HPK.out _).mono ?_
  rintro e V1 ⟨rfl, rfl⟩
  go_wp2_with fail
  refine hK.out _ _ (hHeld) (fun hHeld => ?_)
  clear hK K'
  try simp only [Act.put, List.setIfInBounds_toArray, List.set_cons_zero, List.set_cons_succ]
  have HV1 := Lib.hid hHeld
  refine oneR 10 (by kernel_rfl) (by kernel_rfl) (fun o ho K' hK => ?_)
  obtain rfl := Option.some.inj ho
  clear ho
  go_simp
  refine hK.out _ _ (below_on hHeld (below_mk _ _)) (fun hHeld => ?_)
  clear hK K'
  try simp only [Act.put, List.setIfInBounds_toArray, List.set_cons_zero, List.set_cons_succ]
  refine oneR 11 (by kernel_rfl) (by kernel_rfl) (fun o ho K' hK => ?_)
  obtain rfl := Option.some.inj ho
  clear ho
  go_simp
  refine (HSL.out W.drew (W.heap.size) (by simp)).mono ?_
  rintro e V2 ⟨v2, rfl, ho2, hb2⟩
  have HV2 := Lib.hid (below_on hHeld hb2)
  have HE := Lib.hid (own_low ho2 (below_on HB2.out HV2.out) (by have h1 := HB2.out.size; have h2 := HV1.out.size; simp at h2 ⊢; omega))
  clear ho2 hb2 hHeld
  go_wp2_with fail
  refine hK.out _ _ (HV2.out) (fun hHeld => ?_)
  clear hK K'
  try simp only [Act.put, List.setIfInBounds_toArray, List.set_cons_zero, List.set_cons_succ]
  refine takeR 12 4 (v2) (by kernel_rfl) (by kernel_rfl) (by kernel_rfl) (by kernel_rfl) (fun _ _ _ h => h) (by kernel_rfl) (fun w o hSw ho => ?_) hHeld ?_
  · obtain rfl := Option.some.inj ho; go_simp
  simp only [Act.put, List.setIfInBounds_toArray, List.set_cons_zero, List.set_cons_succ]
  refine wpAnyH_done (by kernel_rfl) ?_ _
  refine NoPanic.normal ?_
  go_wp2_with fail
  go_ret
  exact HE.out

end Go.Proofs.YtjopjddhgaiddabGreatDoor

/- The model's encoder: l5Other where the modes don't ask for codes. (Written by wip/gen_other.py.) -/
namespace Go.Proofs.YtjopjddhgaiddabGreatDoor
open Go.RowKit
set_option linter.unusedVariables false
set_option linter.unusedSimpArgs false

set_option maxRecDepth 100000 in
set_option maxHeartbeats 4000000 in
theorem other_sf_1 (cu : Bool) (mo : Int) (sg pa : Bool) (kind c bu ac cl ro : Int) (ds : Value) (b g : Nat) (w : World) (hM : AtL w b [.bool cu, .bool false, .int .i64 mo, .bool sg, .bool pa]) (hE : AtL w g [.int .i64 kind, .int .i64 c, .int .i64 1, .int .i64 bu, .int .i64 ac, .int .i64 cl, .int .i64 ro, ds]) (h : Typed c 1) (hs : special c = true) :
    Calls Tryz.prog 76 #[.pointer (some ⟨b, 0, none⟩), .pointer (some ⟨g, 0, none⟩)] w (NewOwn w (typedE false c 1)) := by
  have hne : plainE c 1 ≠ [] := by
    unfold plainE
    rw [if_pos hs]
    simp
  have hh : plainE c 1 = [] ∨ ((1 : Int) ≠ 0 ∧ (special c = true ∨ (1 : Int) ≠ 4)) := .inr ⟨by omega, .inl hs⟩
  rw [(typedE_last (L := plainE c 1) hh (.inl (by omega)) (by rw [if_neg hne])).trans (if_neg (by decide))]
  clear hh
  have hok : (!(plainE c 1).isEmpty) = true := by simp [hne]
  obtain ⟨i0, hi0, hz0, hz1, hz2⟩ := info_parts Tryz.info_u8
  have HI := Lib.hid (And.intro hi0 (And.intro hz0 (And.intro hz1 hz2)))
  clear hi0 hz0 hz1 hz2
  have HP := Lib.hid (l5Plain_any kind c 1 bu ac cl ro ds g w hE h)
  rw [hok] at HP
  have hll := plain_len c 1
  have hcode := h.code
  have HMM := Lib.hid hM
  have HEE := Lib.hid hE
  clear hM hE hok
  generalize plainE c 1 = L at *
  go_enter Tryz.func76, Tryz.ntmps76
  go_wp2_with fail
  refine HP.out.mono ?_
  rintro e w1 ⟨v, rfl, ho, hb⟩
  have HO := Lib.hid ho
  have HB := Lib.hid hb
  have HM1 := Lib.hid (HMM.out.on hb)
  have HE1 := Lib.hid (HEE.out.on hb)
  have m1 := HM1.out.get 1 rfl
  obtain ⟨z0, z1, z2, z3, z4, z5, z6, z7⟩ := AtL.eightS HE1.out
  clear z0 z3 z4 z5 z6 z7 HP HMM HEE ho hb
  go_wp2_with fail
  refine (specIsSpecial_any c _).mono ?_
  rintro e w2 ⟨rfl, rfl⟩
  rw [hs]
  go_wp2_with fail
  go_ret
  exact ⟨_, rfl, HO.out, HB.out⟩

set_option maxRecDepth 100000 in
set_option maxHeartbeats 4000000 in
theorem other_sf_2 (cu : Bool) (mo : Int) (sg pa : Bool) (kind c bu ac cl ro : Int) (ds : Value) (b g : Nat) (w : World) (hM : AtL w b [.bool cu, .bool false, .int .i64 mo, .bool sg, .bool pa]) (hE : AtL w g [.int .i64 kind, .int .i64 c, .int .i64 2, .int .i64 bu, .int .i64 ac, .int .i64 cl, .int .i64 ro, ds]) (h : Typed c 2) (hs : special c = true) :
    Calls Tryz.prog 76 #[.pointer (some ⟨b, 0, none⟩), .pointer (some ⟨g, 0, none⟩)] w (NewOwn w (typedE false c 2)) := by
  have hne : plainE c 2 ≠ [] := by
    unfold plainE
    rw [if_pos hs]
    simp
  have hh : plainE c 2 = [] ∨ ((2 : Int) ≠ 0 ∧ (special c = true ∨ (2 : Int) ≠ 4)) := .inr ⟨by omega, .inl hs⟩
  have h127 : 126 < c := by simp [special, inR] at hs; omega
  have hin : inR c 32 126 = false := by simp [inR]; omega
  rw [(typedE_last (L := plainE c 2) hh (.inr h127) (by rw [if_neg hne])).trans (if_pos (by decide))]
  clear hh
  have hok : (!(plainE c 2).isEmpty) = true := by simp [hne]
  obtain ⟨i0, hi0, hz0, hz1, hz2⟩ := info_parts Tryz.info_u8
  have HI := Lib.hid (And.intro hi0 (And.intro hz0 (And.intro hz1 hz2)))
  clear hi0 hz0 hz1 hz2
  have HP := Lib.hid (l5Plain_any kind c 2 bu ac cl ro ds g w hE h)
  rw [hok] at HP
  have hll := plain_len c 2
  have hcode := h.code
  have HMM := Lib.hid hM
  have HEE := Lib.hid hE
  clear hM hE hok
  generalize plainE c 2 = L at *
  go_enter Tryz.func76, Tryz.ntmps76
  go_wp2_with fail
  refine HP.out.mono ?_
  rintro e w1 ⟨v, rfl, ho, hb⟩
  have HO := Lib.hid ho
  have HB := Lib.hid hb
  have HM1 := Lib.hid (HMM.out.on hb)
  have HE1 := Lib.hid (HEE.out.on hb)
  have m1 := HM1.out.get 1 rfl
  obtain ⟨z0, z1, z2, z3, z4, z5, z6, z7⟩ := AtL.eightS HE1.out
  clear z0 z3 z4 z5 z6 z7 HP HMM HEE ho hb
  go_wp2_with fail
  refine (specIsSpecial_any c _).mono ?_
  rintro e w2 ⟨rfl, rfl⟩
  rw [hs]
  obtain ⟨g1, cap1, hv, hlc⟩ := own_room HO.out hne
  subst hv
  have HL1 := Lib.hid ((own_lit w1 [27] #[.int .u8 27] w1.heap.size 1 rfl rfl rfl (by simp)).lower (base' := w.heap.size) HB.out.size)
  have HS1 := Lib.hid ((HO.out.on (below_mk w1 (.cells #[.int .u8 27] 5))).bs.2)
  have HB1 := Lib.hid (below_on HB.out (below_mk w1 (.cells #[.int .u8 27] 5)))
  go_wp2_with (first | (go_at_call 70; refine (l1In_any _ _ _ _).mono ?_; rintro e w' ⟨rfl, rfl⟩; rw [hin]) | (at_builtin; refine wpList_append_own _ rfl _ _ 24 rfl w.heap.size 5 i0 (.int .u8 0) 1 1 Tryz.underlying24 HI.out.1 HI.out.2.1 HI.out.2.2.1 HI.out.2.2.2 rfl (by decide) _ _ _ rfl HL1.out ⟨g1, 0, none⟩ L.length cap1 (L.map (fun x : UInt8 => Value.int .u8 (x.toNat : Int))) rfl (by simp) (news_bs HS1.out) (one_cells _) (by unfold maxLen; simp; omega) (by simp; omega) HB1.out.size ?_; intro v4 wA hownA hgrowA _))
  have HA := Lib.hid (grew2 (l := [27]) HL1.out HB1.out hownA hgrowA)
  clear hownA hgrowA
  go_ret
  exact ⟨_, rfl, HA.out.1, HA.out.2⟩

set_option maxRecDepth 100000 in
set_option maxHeartbeats 4000000 in
theorem other_sf_3 (cu : Bool) (mo : Int) (sg pa : Bool) (kind c bu ac cl ro : Int) (ds : Value) (b g : Nat) (w : World) (hM : AtL w b [.bool cu, .bool false, .int .i64 mo, .bool sg, .bool pa]) (hE : AtL w g [.int .i64 kind, .int .i64 c, .int .i64 3, .int .i64 bu, .int .i64 ac, .int .i64 cl, .int .i64 ro, ds]) (h : Typed c 3) (hs : special c = true) :
    Calls Tryz.prog 76 #[.pointer (some ⟨b, 0, none⟩), .pointer (some ⟨g, 0, none⟩)] w (NewOwn w (typedE false c 3)) := by
  have hne : plainE c 3 ≠ [] := by
    unfold plainE
    rw [if_pos hs]
    simp
  have hh : plainE c 3 = [] ∨ ((3 : Int) ≠ 0 ∧ (special c = true ∨ (3 : Int) ≠ 4)) := .inr ⟨by omega, .inl hs⟩
  rw [(typedE_last (L := plainE c 3) hh (.inl (by omega)) (by rw [if_neg hne])).trans (if_pos (by decide))]
  clear hh
  have hok : (!(plainE c 3).isEmpty) = true := by simp [hne]
  obtain ⟨i0, hi0, hz0, hz1, hz2⟩ := info_parts Tryz.info_u8
  have HI := Lib.hid (And.intro hi0 (And.intro hz0 (And.intro hz1 hz2)))
  clear hi0 hz0 hz1 hz2
  have HP := Lib.hid (l5Plain_any kind c 3 bu ac cl ro ds g w hE h)
  rw [hok] at HP
  have hll := plain_len c 3
  have hcode := h.code
  have HMM := Lib.hid hM
  have HEE := Lib.hid hE
  clear hM hE hok
  generalize plainE c 3 = L at *
  go_enter Tryz.func76, Tryz.ntmps76
  go_wp2_with fail
  refine HP.out.mono ?_
  rintro e w1 ⟨v, rfl, ho, hb⟩
  have HO := Lib.hid ho
  have HB := Lib.hid hb
  have HM1 := Lib.hid (HMM.out.on hb)
  have HE1 := Lib.hid (HEE.out.on hb)
  have m1 := HM1.out.get 1 rfl
  obtain ⟨z0, z1, z2, z3, z4, z5, z6, z7⟩ := AtL.eightS HE1.out
  clear z0 z3 z4 z5 z6 z7 HP HMM HEE ho hb
  go_wp2_with fail
  refine (specIsSpecial_any c _).mono ?_
  rintro e w2 ⟨rfl, rfl⟩
  rw [hs]
  obtain ⟨g1, cap1, hv, hlc⟩ := own_room HO.out hne
  subst hv
  have HL1 := Lib.hid ((own_lit w1 [27] #[.int .u8 27] w1.heap.size 1 rfl rfl rfl (by simp)).lower (base' := w.heap.size) HB.out.size)
  have HS1 := Lib.hid ((HO.out.on (below_mk w1 (.cells #[.int .u8 27] 5))).bs.2)
  have HB1 := Lib.hid (below_on HB.out (below_mk w1 (.cells #[.int .u8 27] 5)))
  go_wp2_with (first | (fail) | (at_builtin; refine wpList_append_own _ rfl _ _ 24 rfl w.heap.size 5 i0 (.int .u8 0) 1 1 Tryz.underlying24 HI.out.1 HI.out.2.1 HI.out.2.2.1 HI.out.2.2.2 rfl (by decide) _ _ _ rfl HL1.out ⟨g1, 0, none⟩ L.length cap1 (L.map (fun x : UInt8 => Value.int .u8 (x.toNat : Int))) rfl (by simp) (news_bs HS1.out) (one_cells _) (by unfold maxLen; simp; omega) (by simp; omega) HB1.out.size ?_; intro v4 wA hownA hgrowA _))
  have HA := Lib.hid (grew2 (l := [27]) HL1.out HB1.out hownA hgrowA)
  clear hownA hgrowA
  go_ret
  exact ⟨_, rfl, HA.out.1, HA.out.2⟩

set_option maxRecDepth 100000 in
set_option maxHeartbeats 4000000 in
theorem other_sf_4 (cu : Bool) (mo : Int) (sg pa : Bool) (kind c bu ac cl ro : Int) (ds : Value) (b g : Nat) (w : World) (hM : AtL w b [.bool cu, .bool false, .int .i64 mo, .bool sg, .bool pa]) (hE : AtL w g [.int .i64 kind, .int .i64 c, .int .i64 4, .int .i64 bu, .int .i64 ac, .int .i64 cl, .int .i64 ro, ds]) (h : Typed c 4) (hs : special c = true) :
    Calls Tryz.prog 76 #[.pointer (some ⟨b, 0, none⟩), .pointer (some ⟨g, 0, none⟩)] w (NewOwn w (typedE false c 4)) := by
  have hne : plainE c 4 ≠ [] := by
    unfold plainE
    rw [if_pos hs]
    simp
  have hh : plainE c 4 = [] ∨ ((4 : Int) ≠ 0 ∧ (special c = true ∨ (4 : Int) ≠ 4)) := .inr ⟨by omega, .inl hs⟩
  rw [(typedE_last (L := plainE c 4) hh (.inl (by omega)) (by rw [if_neg hne])).trans (if_neg (by decide))]
  clear hh
  have hok : (!(plainE c 4).isEmpty) = true := by simp [hne]
  obtain ⟨i0, hi0, hz0, hz1, hz2⟩ := info_parts Tryz.info_u8
  have HI := Lib.hid (And.intro hi0 (And.intro hz0 (And.intro hz1 hz2)))
  clear hi0 hz0 hz1 hz2
  have HP := Lib.hid (l5Plain_any kind c 4 bu ac cl ro ds g w hE h)
  rw [hok] at HP
  have hll := plain_len c 4
  have hcode := h.code
  have HMM := Lib.hid hM
  have HEE := Lib.hid hE
  clear hM hE hok
  generalize plainE c 4 = L at *
  go_enter Tryz.func76, Tryz.ntmps76
  go_wp2_with fail
  refine HP.out.mono ?_
  rintro e w1 ⟨v, rfl, ho, hb⟩
  have HO := Lib.hid ho
  have HB := Lib.hid hb
  have HM1 := Lib.hid (HMM.out.on hb)
  have HE1 := Lib.hid (HEE.out.on hb)
  have m1 := HM1.out.get 1 rfl
  obtain ⟨z0, z1, z2, z3, z4, z5, z6, z7⟩ := AtL.eightS HE1.out
  clear z0 z3 z4 z5 z6 z7 HP HMM HEE ho hb
  go_wp2_with fail
  refine (specIsSpecial_any c _).mono ?_
  rintro e w2 ⟨rfl, rfl⟩
  rw [hs]
  go_wp2_with fail
  go_ret
  exact ⟨_, rfl, HO.out, HB.out⟩

set_option maxRecDepth 100000 in
set_option maxHeartbeats 4000000 in
theorem other_sf_5 (cu : Bool) (mo : Int) (sg pa : Bool) (kind c bu ac cl ro : Int) (ds : Value) (b g : Nat) (w : World) (hM : AtL w b [.bool cu, .bool false, .int .i64 mo, .bool sg, .bool pa]) (hE : AtL w g [.int .i64 kind, .int .i64 c, .int .i64 5, .int .i64 bu, .int .i64 ac, .int .i64 cl, .int .i64 ro, ds]) (h : Typed c 5) (hs : special c = true) :
    Calls Tryz.prog 76 #[.pointer (some ⟨b, 0, none⟩), .pointer (some ⟨g, 0, none⟩)] w (NewOwn w (typedE false c 5)) := by
  have hne : plainE c 5 ≠ [] := by
    unfold plainE
    rw [if_pos hs]
    simp
  have hh : plainE c 5 = [] ∨ ((5 : Int) ≠ 0 ∧ (special c = true ∨ (5 : Int) ≠ 4)) := .inr ⟨by omega, .inl hs⟩
  rw [(typedE_last (L := plainE c 5) hh (.inl (by omega)) (by rw [if_neg hne])).trans (if_neg (by decide))]
  clear hh
  have hok : (!(plainE c 5).isEmpty) = true := by simp [hne]
  obtain ⟨i0, hi0, hz0, hz1, hz2⟩ := info_parts Tryz.info_u8
  have HI := Lib.hid (And.intro hi0 (And.intro hz0 (And.intro hz1 hz2)))
  clear hi0 hz0 hz1 hz2
  have HP := Lib.hid (l5Plain_any kind c 5 bu ac cl ro ds g w hE h)
  rw [hok] at HP
  have hll := plain_len c 5
  have hcode := h.code
  have HMM := Lib.hid hM
  have HEE := Lib.hid hE
  clear hM hE hok
  generalize plainE c 5 = L at *
  go_enter Tryz.func76, Tryz.ntmps76
  go_wp2_with fail
  refine HP.out.mono ?_
  rintro e w1 ⟨v, rfl, ho, hb⟩
  have HO := Lib.hid ho
  have HB := Lib.hid hb
  have HM1 := Lib.hid (HMM.out.on hb)
  have HE1 := Lib.hid (HEE.out.on hb)
  have m1 := HM1.out.get 1 rfl
  obtain ⟨z0, z1, z2, z3, z4, z5, z6, z7⟩ := AtL.eightS HE1.out
  clear z0 z3 z4 z5 z6 z7 HP HMM HEE ho hb
  go_wp2_with fail
  refine (specIsSpecial_any c _).mono ?_
  rintro e w2 ⟨rfl, rfl⟩
  rw [hs]
  go_wp2_with fail
  go_ret
  exact ⟨_, rfl, HO.out, HB.out⟩

set_option maxRecDepth 100000 in
set_option maxHeartbeats 4000000 in
theorem other_sf_6 (cu : Bool) (mo : Int) (sg pa : Bool) (kind c bu ac cl ro : Int) (ds : Value) (b g : Nat) (w : World) (hM : AtL w b [.bool cu, .bool false, .int .i64 mo, .bool sg, .bool pa]) (hE : AtL w g [.int .i64 kind, .int .i64 c, .int .i64 6, .int .i64 bu, .int .i64 ac, .int .i64 cl, .int .i64 ro, ds]) (h : Typed c 6) (hs : special c = true) :
    Calls Tryz.prog 76 #[.pointer (some ⟨b, 0, none⟩), .pointer (some ⟨g, 0, none⟩)] w (NewOwn w (typedE false c 6)) := by
  have hne : plainE c 6 ≠ [] := by
    unfold plainE
    rw [if_pos hs]
    simp
  have hh : plainE c 6 = [] ∨ ((6 : Int) ≠ 0 ∧ (special c = true ∨ (6 : Int) ≠ 4)) := .inr ⟨by omega, .inl hs⟩
  rw [(typedE_last (L := plainE c 6) hh (.inl (by omega)) (by rw [if_neg hne])).trans (if_pos (by decide))]
  clear hh
  have hok : (!(plainE c 6).isEmpty) = true := by simp [hne]
  obtain ⟨i0, hi0, hz0, hz1, hz2⟩ := info_parts Tryz.info_u8
  have HI := Lib.hid (And.intro hi0 (And.intro hz0 (And.intro hz1 hz2)))
  clear hi0 hz0 hz1 hz2
  have HP := Lib.hid (l5Plain_any kind c 6 bu ac cl ro ds g w hE h)
  rw [hok] at HP
  have hll := plain_len c 6
  have hcode := h.code
  have HMM := Lib.hid hM
  have HEE := Lib.hid hE
  clear hM hE hok
  generalize plainE c 6 = L at *
  go_enter Tryz.func76, Tryz.ntmps76
  go_wp2_with fail
  refine HP.out.mono ?_
  rintro e w1 ⟨v, rfl, ho, hb⟩
  have HO := Lib.hid ho
  have HB := Lib.hid hb
  have HM1 := Lib.hid (HMM.out.on hb)
  have HE1 := Lib.hid (HEE.out.on hb)
  have m1 := HM1.out.get 1 rfl
  obtain ⟨z0, z1, z2, z3, z4, z5, z6, z7⟩ := AtL.eightS HE1.out
  clear z0 z3 z4 z5 z6 z7 HP HMM HEE ho hb
  go_wp2_with fail
  refine (specIsSpecial_any c _).mono ?_
  rintro e w2 ⟨rfl, rfl⟩
  rw [hs]
  obtain ⟨g1, cap1, hv, hlc⟩ := own_room HO.out hne
  subst hv
  have HL1 := Lib.hid ((own_lit w1 [27] #[.int .u8 27] w1.heap.size 1 rfl rfl rfl (by simp)).lower (base' := w.heap.size) HB.out.size)
  have HS1 := Lib.hid ((HO.out.on (below_mk w1 (.cells #[.int .u8 27] 5))).bs.2)
  have HB1 := Lib.hid (below_on HB.out (below_mk w1 (.cells #[.int .u8 27] 5)))
  go_wp2_with (first | (fail) | (at_builtin; refine wpList_append_own _ rfl _ _ 24 rfl w.heap.size 5 i0 (.int .u8 0) 1 1 Tryz.underlying24 HI.out.1 HI.out.2.1 HI.out.2.2.1 HI.out.2.2.2 rfl (by decide) _ _ _ rfl HL1.out ⟨g1, 0, none⟩ L.length cap1 (L.map (fun x : UInt8 => Value.int .u8 (x.toNat : Int))) rfl (by simp) (news_bs HS1.out) (one_cells _) (by unfold maxLen; simp; omega) (by simp; omega) HB1.out.size ?_; intro v4 wA hownA hgrowA _))
  have HA := Lib.hid (grew2 (l := [27]) HL1.out HB1.out hownA hgrowA)
  clear hownA hgrowA
  go_ret
  exact ⟨_, rfl, HA.out.1, HA.out.2⟩

set_option maxRecDepth 100000 in
set_option maxHeartbeats 4000000 in
theorem other_sf_7 (cu : Bool) (mo : Int) (sg pa : Bool) (kind c bu ac cl ro : Int) (ds : Value) (b g : Nat) (w : World) (hM : AtL w b [.bool cu, .bool false, .int .i64 mo, .bool sg, .bool pa]) (hE : AtL w g [.int .i64 kind, .int .i64 c, .int .i64 7, .int .i64 bu, .int .i64 ac, .int .i64 cl, .int .i64 ro, ds]) (h : Typed c 7) (hs : special c = true) :
    Calls Tryz.prog 76 #[.pointer (some ⟨b, 0, none⟩), .pointer (some ⟨g, 0, none⟩)] w (NewOwn w (typedE false c 7)) := by
  have hne : plainE c 7 ≠ [] := by
    unfold plainE
    rw [if_pos hs]
    simp
  have hh : plainE c 7 = [] ∨ ((7 : Int) ≠ 0 ∧ (special c = true ∨ (7 : Int) ≠ 4)) := .inr ⟨by omega, .inl hs⟩
  rw [(typedE_last (L := plainE c 7) hh (.inl (by omega)) (by rw [if_neg hne])).trans (if_pos (by decide))]
  clear hh
  have hok : (!(plainE c 7).isEmpty) = true := by simp [hne]
  obtain ⟨i0, hi0, hz0, hz1, hz2⟩ := info_parts Tryz.info_u8
  have HI := Lib.hid (And.intro hi0 (And.intro hz0 (And.intro hz1 hz2)))
  clear hi0 hz0 hz1 hz2
  have HP := Lib.hid (l5Plain_any kind c 7 bu ac cl ro ds g w hE h)
  rw [hok] at HP
  have hll := plain_len c 7
  have hcode := h.code
  have HMM := Lib.hid hM
  have HEE := Lib.hid hE
  clear hM hE hok
  generalize plainE c 7 = L at *
  go_enter Tryz.func76, Tryz.ntmps76
  go_wp2_with fail
  refine HP.out.mono ?_
  rintro e w1 ⟨v, rfl, ho, hb⟩
  have HO := Lib.hid ho
  have HB := Lib.hid hb
  have HM1 := Lib.hid (HMM.out.on hb)
  have HE1 := Lib.hid (HEE.out.on hb)
  have m1 := HM1.out.get 1 rfl
  obtain ⟨z0, z1, z2, z3, z4, z5, z6, z7⟩ := AtL.eightS HE1.out
  clear z0 z3 z4 z5 z6 z7 HP HMM HEE ho hb
  go_wp2_with fail
  refine (specIsSpecial_any c _).mono ?_
  rintro e w2 ⟨rfl, rfl⟩
  rw [hs]
  obtain ⟨g1, cap1, hv, hlc⟩ := own_room HO.out hne
  subst hv
  have HL1 := Lib.hid ((own_lit w1 [27] #[.int .u8 27] w1.heap.size 1 rfl rfl rfl (by simp)).lower (base' := w.heap.size) HB.out.size)
  have HS1 := Lib.hid ((HO.out.on (below_mk w1 (.cells #[.int .u8 27] 5))).bs.2)
  have HB1 := Lib.hid (below_on HB.out (below_mk w1 (.cells #[.int .u8 27] 5)))
  go_wp2_with (first | (fail) | (at_builtin; refine wpList_append_own _ rfl _ _ 24 rfl w.heap.size 5 i0 (.int .u8 0) 1 1 Tryz.underlying24 HI.out.1 HI.out.2.1 HI.out.2.2.1 HI.out.2.2.2 rfl (by decide) _ _ _ rfl HL1.out ⟨g1, 0, none⟩ L.length cap1 (L.map (fun x : UInt8 => Value.int .u8 (x.toNat : Int))) rfl (by simp) (news_bs HS1.out) (one_cells _) (by unfold maxLen; simp; omega) (by simp; omega) HB1.out.size ?_; intro v4 wA hownA hgrowA _))
  have HA := Lib.hid (grew2 (l := [27]) HL1.out HB1.out hownA hgrowA)
  clear hownA hgrowA
  go_ret
  exact ⟨_, rfl, HA.out.1, HA.out.2⟩

set_option maxRecDepth 100000 in
set_option maxHeartbeats 4000000 in
theorem other_nf_2 (cu : Bool) (mo : Int) (sg pa : Bool) (kind c bu ac cl ro : Int) (ds : Value) (b g : Nat) (w : World) (hM : AtL w b [.bool cu, .bool false, .int .i64 mo, .bool sg, .bool pa]) (hE : AtL w g [.int .i64 kind, .int .i64 c, .int .i64 2, .int .i64 bu, .int .i64 ac, .int .i64 cl, .int .i64 ro, ds]) (h : Typed c 2) (hs : special c = false) (h127 : 126 < c) :
    Calls Tryz.prog 76 #[.pointer (some ⟨b, 0, none⟩), .pointer (some ⟨g, 0, none⟩)] w (NewOwn w (typedE false c 2)) := by
  have hne : plainE c 2 ≠ [] := by
    unfold plainE
    rw [if_neg (by simp [hs])]
    rw [if_pos (.inr rfl)]
    exact putB_ne c
  have hh : plainE c 2 = [] ∨ ((2 : Int) ≠ 0 ∧ (special c = true ∨ (2 : Int) ≠ 4)) := .inr ⟨by omega, .inr (by omega)⟩
  have hin : inR c 32 126 = false := by simp [inR]; omega
  rw [(typedE_last (L := plainE c 2) hh (.inr h127) (by rw [if_neg hne])).trans (if_pos (by decide))]
  clear hh
  have hok : (!(plainE c 2).isEmpty) = true := by simp [hne]
  obtain ⟨i0, hi0, hz0, hz1, hz2⟩ := info_parts Tryz.info_u8
  have HI := Lib.hid (And.intro hi0 (And.intro hz0 (And.intro hz1 hz2)))
  clear hi0 hz0 hz1 hz2
  have HP := Lib.hid (l5Plain_any kind c 2 bu ac cl ro ds g w hE h)
  rw [hok] at HP
  have hll := plain_len c 2
  have hcode := h.code
  have HMM := Lib.hid hM
  have HEE := Lib.hid hE
  clear hM hE hok
  generalize plainE c 2 = L at *
  go_enter Tryz.func76, Tryz.ntmps76
  go_wp2_with fail
  refine HP.out.mono ?_
  rintro e w1 ⟨v, rfl, ho, hb⟩
  have HO := Lib.hid ho
  have HB := Lib.hid hb
  have HM1 := Lib.hid (HMM.out.on hb)
  have HE1 := Lib.hid (HEE.out.on hb)
  have m1 := HM1.out.get 1 rfl
  obtain ⟨z0, z1, z2, z3, z4, z5, z6, z7⟩ := AtL.eightS HE1.out
  clear z0 z3 z4 z5 z6 z7 HP HMM HEE ho hb
  go_wp2_with fail
  refine (specIsSpecial_any c _).mono ?_
  rintro e w2 ⟨rfl, rfl⟩
  rw [hs]
  obtain ⟨g1, cap1, hv, hlc⟩ := own_room HO.out hne
  subst hv
  have HL1 := Lib.hid ((own_lit w1 [27] #[.int .u8 27] w1.heap.size 1 rfl rfl rfl (by simp)).lower (base' := w.heap.size) HB.out.size)
  have HS1 := Lib.hid ((HO.out.on (below_mk w1 (.cells #[.int .u8 27] 5))).bs.2)
  have HB1 := Lib.hid (below_on HB.out (below_mk w1 (.cells #[.int .u8 27] 5)))
  go_wp2_with (first | (go_at_call 70; refine (l1In_any _ _ _ _).mono ?_; rintro e w' ⟨rfl, rfl⟩; rw [hin]) | (at_builtin; refine wpList_append_own _ rfl _ _ 24 rfl w.heap.size 5 i0 (.int .u8 0) 1 1 Tryz.underlying24 HI.out.1 HI.out.2.1 HI.out.2.2.1 HI.out.2.2.2 rfl (by decide) _ _ _ rfl HL1.out ⟨g1, 0, none⟩ L.length cap1 (L.map (fun x : UInt8 => Value.int .u8 (x.toNat : Int))) rfl (by simp) (news_bs HS1.out) (one_cells _) (by unfold maxLen; simp; omega) (by simp; omega) HB1.out.size ?_; intro v4 wA hownA hgrowA _))
  have HA := Lib.hid (grew2 (l := [27]) HL1.out HB1.out hownA hgrowA)
  clear hownA hgrowA
  go_ret
  exact ⟨_, rfl, HA.out.1, HA.out.2⟩

set_option maxRecDepth 100000 in
set_option maxHeartbeats 4000000 in
theorem other_nf_6 (cu : Bool) (mo : Int) (sg pa : Bool) (kind c bu ac cl ro : Int) (ds : Value) (b g : Nat) (w : World) (hM : AtL w b [.bool cu, .bool false, .int .i64 mo, .bool sg, .bool pa]) (hE : AtL w g [.int .i64 kind, .int .i64 c, .int .i64 6, .int .i64 bu, .int .i64 ac, .int .i64 cl, .int .i64 ro, ds]) (h : Typed c 6) (hs : special c = false) (hp : ctrlE c ≠ []) :
    Calls Tryz.prog 76 #[.pointer (some ⟨b, 0, none⟩), .pointer (some ⟨g, 0, none⟩)] w (NewOwn w (typedE false c 6)) := by
  have hne : plainE c 6 ≠ [] := by
    unfold plainE
    rw [if_neg (by simp [hs])]
    rw [if_neg (by omega), if_pos (by omega)]
    exact hp
  have hh : plainE c 6 = [] ∨ ((6 : Int) ≠ 0 ∧ (special c = true ∨ (6 : Int) ≠ 4)) := .inr ⟨by omega, .inr (by omega)⟩
  rw [(typedE_last (L := plainE c 6) hh (.inl (by omega)) (by rw [if_neg hne])).trans (if_pos (by decide))]
  clear hh
  have hok : (!(plainE c 6).isEmpty) = true := by simp [hne]
  obtain ⟨i0, hi0, hz0, hz1, hz2⟩ := info_parts Tryz.info_u8
  have HI := Lib.hid (And.intro hi0 (And.intro hz0 (And.intro hz1 hz2)))
  clear hi0 hz0 hz1 hz2
  have HP := Lib.hid (l5Plain_any kind c 6 bu ac cl ro ds g w hE h)
  rw [hok] at HP
  have hll := plain_len c 6
  have hcode := h.code
  have HMM := Lib.hid hM
  have HEE := Lib.hid hE
  clear hM hE hok
  generalize plainE c 6 = L at *
  go_enter Tryz.func76, Tryz.ntmps76
  go_wp2_with fail
  refine HP.out.mono ?_
  rintro e w1 ⟨v, rfl, ho, hb⟩
  have HO := Lib.hid ho
  have HB := Lib.hid hb
  have HM1 := Lib.hid (HMM.out.on hb)
  have HE1 := Lib.hid (HEE.out.on hb)
  have m1 := HM1.out.get 1 rfl
  obtain ⟨z0, z1, z2, z3, z4, z5, z6, z7⟩ := AtL.eightS HE1.out
  clear z0 z3 z4 z5 z6 z7 HP HMM HEE ho hb
  go_wp2_with fail
  refine (specIsSpecial_any c _).mono ?_
  rintro e w2 ⟨rfl, rfl⟩
  rw [hs]
  obtain ⟨g1, cap1, hv, hlc⟩ := own_room HO.out hne
  subst hv
  have HL1 := Lib.hid ((own_lit w1 [27] #[.int .u8 27] w1.heap.size 1 rfl rfl rfl (by simp)).lower (base' := w.heap.size) HB.out.size)
  have HS1 := Lib.hid ((HO.out.on (below_mk w1 (.cells #[.int .u8 27] 5))).bs.2)
  have HB1 := Lib.hid (below_on HB.out (below_mk w1 (.cells #[.int .u8 27] 5)))
  go_wp2_with (first | (fail) | (at_builtin; refine wpList_append_own _ rfl _ _ 24 rfl w.heap.size 5 i0 (.int .u8 0) 1 1 Tryz.underlying24 HI.out.1 HI.out.2.1 HI.out.2.2.1 HI.out.2.2.2 rfl (by decide) _ _ _ rfl HL1.out ⟨g1, 0, none⟩ L.length cap1 (L.map (fun x : UInt8 => Value.int .u8 (x.toNat : Int))) rfl (by simp) (news_bs HS1.out) (one_cells _) (by unfold maxLen; simp; omega) (by simp; omega) HB1.out.size ?_; intro v4 wA hownA hgrowA _))
  have HA := Lib.hid (grew2 (l := [27]) HL1.out HB1.out hownA hgrowA)
  clear hownA hgrowA
  go_ret
  exact ⟨_, rfl, HA.out.1, HA.out.2⟩

set_option maxRecDepth 100000 in
set_option maxHeartbeats 4000000 in
theorem other_ef_1 (cu : Bool) (mo : Int) (sg pa : Bool) (kind c bu ac cl ro : Int) (ds : Value) (b g : Nat) (w : World) (hM : AtL w b [.bool cu, .bool false, .int .i64 mo, .bool sg, .bool pa]) (hE : AtL w g [.int .i64 kind, .int .i64 c, .int .i64 1, .int .i64 bu, .int .i64 ac, .int .i64 cl, .int .i64 ro, ds]) (h : Typed c 1) (hs : special c = false) :
    Calls Tryz.prog 76 #[.pointer (some ⟨b, 0, none⟩), .pointer (some ⟨g, 0, none⟩)] w (NewOwn w (typedE false c 1)) := by
  have hne : plainE c 1 = [] := by
    unfold plainE
    rw [if_neg (by simp [hs]), if_neg (by omega)]
    rw [if_neg (by omega)]
  have hh : plainE c 1 = [] ∨ ((1 : Int) ≠ 0 ∧ (special c = true ∨ (1 : Int) ≠ 4)) := .inl hne
  rw [(typedE_last (L := putB c) hh (.inl (by omega)) (by rw [if_pos hne])).trans (if_neg (by decide))]
  clear hh
  have hr := point_range (h.pt hs).1
  have HU := Lib.hid (fun W => l1Put_any c W hr.1 hr.2.1)
  have hul : (putB c).length ≤ 4 := by have := put_small c; rw [put_len]; omega
  have hneU := putB_ne c
  generalize putB c = U at *
  have hok : (!(plainE c 1).isEmpty) = false := by simp [hne]
  obtain ⟨i0, hi0, hz0, hz1, hz2⟩ := info_parts Tryz.info_u8
  have HI := Lib.hid (And.intro hi0 (And.intro hz0 (And.intro hz1 hz2)))
  clear hi0 hz0 hz1 hz2
  have HP := Lib.hid (l5Plain_any kind c 1 bu ac cl ro ds g w hE h)
  rw [hok] at HP
  have hll := plain_len c 1
  have hcode := h.code
  have HMM := Lib.hid hM
  have HEE := Lib.hid hE
  clear hM hE hok
  generalize hpl : plainE c 1 = L at *
  obtain rfl : L = [] := hne
  clear hpl
  go_enter Tryz.func76, Tryz.ntmps76
  go_wp2_with fail
  refine HP.out.mono ?_
  rintro e w1 ⟨v, rfl, ho, hb⟩
  have HO := Lib.hid ho
  have HB := Lib.hid hb
  have HM1 := Lib.hid (HMM.out.on hb)
  have HE1 := Lib.hid (HEE.out.on hb)
  have m1 := HM1.out.get 1 rfl
  obtain ⟨z0, z1, z2, z3, z4, z5, z6, z7⟩ := AtL.eightS HE1.out
  clear z0 z3 z4 z5 z6 z7 HP HMM HEE ho hb
  go_wp2_with fail
  refine (specIsSpecial_any c _).mono ?_
  rintro e w2 ⟨rfl, rfl⟩
  rw [hs]
  go_wp2_with fail
  refine (HU.out _).mono ?_
  rintro e w3 ⟨v3, rfl, ho3, hb3⟩
  have HO3 := Lib.hid (ho3.lower (base' := w.heap.size) HB.out.size)
  have HB3 := Lib.hid (below_on HB.out hb3)
  have HE3 := Lib.hid (HE1.out.on hb3)
  clear ho3 hb3 m1 z1 z2
  obtain ⟨z0, z1, z2, z3, z4, z5, z6, z7⟩ := AtL.eightS HE3.out
  clear z0 z3 z4 z5 z6 z7
  go_wp2_with fail
  go_ret
  exact ⟨_, rfl, HO3.out, HB3.out⟩

set_option maxRecDepth 100000 in
set_option maxHeartbeats 4000000 in
theorem other_ef_3 (cu : Bool) (mo : Int) (sg pa : Bool) (kind c bu ac cl ro : Int) (ds : Value) (b g : Nat) (w : World) (hM : AtL w b [.bool cu, .bool false, .int .i64 mo, .bool sg, .bool pa]) (hE : AtL w g [.int .i64 kind, .int .i64 c, .int .i64 3, .int .i64 bu, .int .i64 ac, .int .i64 cl, .int .i64 ro, ds]) (h : Typed c 3) (hs : special c = false) :
    Calls Tryz.prog 76 #[.pointer (some ⟨b, 0, none⟩), .pointer (some ⟨g, 0, none⟩)] w (NewOwn w (typedE false c 3)) := by
  have hne : plainE c 3 = [] := by
    unfold plainE
    rw [if_neg (by simp [hs]), if_neg (by omega)]
    rw [if_neg (by omega)]
  have hh : plainE c 3 = [] ∨ ((3 : Int) ≠ 0 ∧ (special c = true ∨ (3 : Int) ≠ 4)) := .inl hne
  rw [(typedE_last (L := putB c) hh (.inl (by omega)) (by rw [if_pos hne])).trans (if_pos (by decide))]
  clear hh
  have hr := point_range (h.pt hs).1
  have HU := Lib.hid (fun W => l1Put_any c W hr.1 hr.2.1)
  have hul : (putB c).length ≤ 4 := by have := put_small c; rw [put_len]; omega
  have hneU := putB_ne c
  generalize putB c = U at *
  have hok : (!(plainE c 3).isEmpty) = false := by simp [hne]
  obtain ⟨i0, hi0, hz0, hz1, hz2⟩ := info_parts Tryz.info_u8
  have HI := Lib.hid (And.intro hi0 (And.intro hz0 (And.intro hz1 hz2)))
  clear hi0 hz0 hz1 hz2
  have HP := Lib.hid (l5Plain_any kind c 3 bu ac cl ro ds g w hE h)
  rw [hok] at HP
  have hll := plain_len c 3
  have hcode := h.code
  have HMM := Lib.hid hM
  have HEE := Lib.hid hE
  clear hM hE hok
  generalize hpl : plainE c 3 = L at *
  obtain rfl : L = [] := hne
  clear hpl
  go_enter Tryz.func76, Tryz.ntmps76
  go_wp2_with fail
  refine HP.out.mono ?_
  rintro e w1 ⟨v, rfl, ho, hb⟩
  have HO := Lib.hid ho
  have HB := Lib.hid hb
  have HM1 := Lib.hid (HMM.out.on hb)
  have HE1 := Lib.hid (HEE.out.on hb)
  have m1 := HM1.out.get 1 rfl
  obtain ⟨z0, z1, z2, z3, z4, z5, z6, z7⟩ := AtL.eightS HE1.out
  clear z0 z3 z4 z5 z6 z7 HP HMM HEE ho hb
  go_wp2_with fail
  refine (specIsSpecial_any c _).mono ?_
  rintro e w2 ⟨rfl, rfl⟩
  rw [hs]
  go_wp2_with fail
  refine (HU.out _).mono ?_
  rintro e w3 ⟨v3, rfl, ho3, hb3⟩
  have HO3 := Lib.hid (ho3.lower (base' := w.heap.size) HB.out.size)
  have HB3 := Lib.hid (below_on HB.out hb3)
  have HE3 := Lib.hid (HE1.out.on hb3)
  clear ho3 hb3 m1 z1 z2
  obtain ⟨z0, z1, z2, z3, z4, z5, z6, z7⟩ := AtL.eightS HE3.out
  clear z0 z3 z4 z5 z6 z7
  obtain ⟨g1, cap1, hv, hlc⟩ := own_room HO3.out hneU
  subst hv
  have HL1 := Lib.hid ((own_lit w3 [27] #[.int .u8 27] w3.heap.size 1 rfl rfl rfl (by simp)).lower (base' := w.heap.size) HB3.out.size)
  have HS1 := Lib.hid ((HO3.out.on (below_mk w3 (.cells #[.int .u8 27] 5))).bs.2)
  have HB1 := Lib.hid (below_on HB3.out (below_mk w3 (.cells #[.int .u8 27] 5)))
  go_wp2_with (at_builtin; refine wpList_append_own _ rfl _ _ 24 rfl w.heap.size 5 i0 (.int .u8 0) 1 1 Tryz.underlying24 HI.out.1 HI.out.2.1 HI.out.2.2.1 HI.out.2.2.2 rfl (by decide) _ _ _ rfl HL1.out ⟨g1, 0, none⟩ U.length cap1 (U.map (fun x : UInt8 => Value.int .u8 (x.toNat : Int))) rfl (by simp) (news_bs HS1.out) (one_cells _) (by unfold maxLen; simp; omega) (by simp; omega) HB1.out.size ?_; intro v4 wA hownA hgrowA _)
  have HA := Lib.hid (grew2 (l := [27]) HL1.out HB1.out hownA hgrowA)
  clear hownA hgrowA
  go_ret
  exact ⟨_, rfl, HA.out.1, HA.out.2⟩

set_option maxRecDepth 100000 in
set_option maxHeartbeats 4000000 in
theorem other_ef_4 (cu : Bool) (mo : Int) (sg pa : Bool) (kind c bu ac cl ro : Int) (ds : Value) (b g : Nat) (w : World) (hM : AtL w b [.bool cu, .bool false, .int .i64 mo, .bool sg, .bool pa]) (hE : AtL w g [.int .i64 kind, .int .i64 c, .int .i64 4, .int .i64 bu, .int .i64 ac, .int .i64 cl, .int .i64 ro, ds]) (h : Typed c 4) (hs : special c = false) (hp : ctrlE c = []) :
    Calls Tryz.prog 76 #[.pointer (some ⟨b, 0, none⟩), .pointer (some ⟨g, 0, none⟩)] w (NewOwn w (typedE false c 4)) := by
  have hne : plainE c 4 = [] := by
    unfold plainE
    rw [if_neg (by simp [hs]), if_neg (by omega)]
    rw [if_pos (by omega)]
    exact hp
  have hh : plainE c 4 = [] ∨ ((4 : Int) ≠ 0 ∧ (special c = true ∨ (4 : Int) ≠ 4)) := .inl hne
  rw [(typedE_last (L := putB c) hh (.inl (by omega)) (by rw [if_pos hne])).trans (if_neg (by decide))]
  clear hh
  have hr := point_range (h.pt hs).1
  have HU := Lib.hid (fun W => l1Put_any c W hr.1 hr.2.1)
  have hul : (putB c).length ≤ 4 := by have := put_small c; rw [put_len]; omega
  have hneU := putB_ne c
  generalize putB c = U at *
  have hok : (!(plainE c 4).isEmpty) = false := by simp [hne]
  obtain ⟨i0, hi0, hz0, hz1, hz2⟩ := info_parts Tryz.info_u8
  have HI := Lib.hid (And.intro hi0 (And.intro hz0 (And.intro hz1 hz2)))
  clear hi0 hz0 hz1 hz2
  have HP := Lib.hid (l5Plain_any kind c 4 bu ac cl ro ds g w hE h)
  rw [hok] at HP
  have hll := plain_len c 4
  have hcode := h.code
  have HMM := Lib.hid hM
  have HEE := Lib.hid hE
  clear hM hE hok
  generalize hpl : plainE c 4 = L at *
  obtain rfl : L = [] := hne
  clear hpl
  go_enter Tryz.func76, Tryz.ntmps76
  go_wp2_with fail
  refine HP.out.mono ?_
  rintro e w1 ⟨v, rfl, ho, hb⟩
  have HO := Lib.hid ho
  have HB := Lib.hid hb
  have HM1 := Lib.hid (HMM.out.on hb)
  have HE1 := Lib.hid (HEE.out.on hb)
  have m1 := HM1.out.get 1 rfl
  obtain ⟨z0, z1, z2, z3, z4, z5, z6, z7⟩ := AtL.eightS HE1.out
  clear z0 z3 z4 z5 z6 z7 HP HMM HEE ho hb
  go_wp2_with fail
  refine (specIsSpecial_any c _).mono ?_
  rintro e w2 ⟨rfl, rfl⟩
  rw [hs]
  go_wp2_with fail
  refine (HU.out _).mono ?_
  rintro e w3 ⟨v3, rfl, ho3, hb3⟩
  have HO3 := Lib.hid (ho3.lower (base' := w.heap.size) HB.out.size)
  have HB3 := Lib.hid (below_on HB.out hb3)
  have HE3 := Lib.hid (HE1.out.on hb3)
  clear ho3 hb3 m1 z1 z2
  obtain ⟨z0, z1, z2, z3, z4, z5, z6, z7⟩ := AtL.eightS HE3.out
  clear z0 z3 z4 z5 z6 z7
  go_wp2_with fail
  go_ret
  exact ⟨_, rfl, HO3.out, HB3.out⟩

set_option maxRecDepth 100000 in
set_option maxHeartbeats 4000000 in
theorem other_ef_5 (cu : Bool) (mo : Int) (sg pa : Bool) (kind c bu ac cl ro : Int) (ds : Value) (b g : Nat) (w : World) (hM : AtL w b [.bool cu, .bool false, .int .i64 mo, .bool sg, .bool pa]) (hE : AtL w g [.int .i64 kind, .int .i64 c, .int .i64 5, .int .i64 bu, .int .i64 ac, .int .i64 cl, .int .i64 ro, ds]) (h : Typed c 5) (hs : special c = false) :
    Calls Tryz.prog 76 #[.pointer (some ⟨b, 0, none⟩), .pointer (some ⟨g, 0, none⟩)] w (NewOwn w (typedE false c 5)) := by
  have hne : plainE c 5 = [] := by
    unfold plainE
    rw [if_neg (by simp [hs]), if_neg (by omega)]
    rw [if_neg (by omega)]
  have hh : plainE c 5 = [] ∨ ((5 : Int) ≠ 0 ∧ (special c = true ∨ (5 : Int) ≠ 4)) := .inl hne
  rw [(typedE_last (L := putB c) hh (.inl (by omega)) (by rw [if_pos hne])).trans (if_neg (by decide))]
  clear hh
  have hr := point_range (h.pt hs).1
  have HU := Lib.hid (fun W => l1Put_any c W hr.1 hr.2.1)
  have hul : (putB c).length ≤ 4 := by have := put_small c; rw [put_len]; omega
  have hneU := putB_ne c
  generalize putB c = U at *
  have hok : (!(plainE c 5).isEmpty) = false := by simp [hne]
  obtain ⟨i0, hi0, hz0, hz1, hz2⟩ := info_parts Tryz.info_u8
  have HI := Lib.hid (And.intro hi0 (And.intro hz0 (And.intro hz1 hz2)))
  clear hi0 hz0 hz1 hz2
  have HP := Lib.hid (l5Plain_any kind c 5 bu ac cl ro ds g w hE h)
  rw [hok] at HP
  have hll := plain_len c 5
  have hcode := h.code
  have HMM := Lib.hid hM
  have HEE := Lib.hid hE
  clear hM hE hok
  generalize hpl : plainE c 5 = L at *
  obtain rfl : L = [] := hne
  clear hpl
  go_enter Tryz.func76, Tryz.ntmps76
  go_wp2_with fail
  refine HP.out.mono ?_
  rintro e w1 ⟨v, rfl, ho, hb⟩
  have HO := Lib.hid ho
  have HB := Lib.hid hb
  have HM1 := Lib.hid (HMM.out.on hb)
  have HE1 := Lib.hid (HEE.out.on hb)
  have m1 := HM1.out.get 1 rfl
  obtain ⟨z0, z1, z2, z3, z4, z5, z6, z7⟩ := AtL.eightS HE1.out
  clear z0 z3 z4 z5 z6 z7 HP HMM HEE ho hb
  go_wp2_with fail
  refine (specIsSpecial_any c _).mono ?_
  rintro e w2 ⟨rfl, rfl⟩
  rw [hs]
  go_wp2_with fail
  refine (HU.out _).mono ?_
  rintro e w3 ⟨v3, rfl, ho3, hb3⟩
  have HO3 := Lib.hid (ho3.lower (base' := w.heap.size) HB.out.size)
  have HB3 := Lib.hid (below_on HB.out hb3)
  have HE3 := Lib.hid (HE1.out.on hb3)
  clear ho3 hb3 m1 z1 z2
  obtain ⟨z0, z1, z2, z3, z4, z5, z6, z7⟩ := AtL.eightS HE3.out
  clear z0 z3 z4 z5 z6 z7
  go_wp2_with fail
  go_ret
  exact ⟨_, rfl, HO3.out, HB3.out⟩

set_option maxRecDepth 100000 in
set_option maxHeartbeats 4000000 in
theorem other_ef_6 (cu : Bool) (mo : Int) (sg pa : Bool) (kind c bu ac cl ro : Int) (ds : Value) (b g : Nat) (w : World) (hM : AtL w b [.bool cu, .bool false, .int .i64 mo, .bool sg, .bool pa]) (hE : AtL w g [.int .i64 kind, .int .i64 c, .int .i64 6, .int .i64 bu, .int .i64 ac, .int .i64 cl, .int .i64 ro, ds]) (h : Typed c 6) (hs : special c = false) (hp : ctrlE c = []) :
    Calls Tryz.prog 76 #[.pointer (some ⟨b, 0, none⟩), .pointer (some ⟨g, 0, none⟩)] w (NewOwn w (typedE false c 6)) := by
  have hne : plainE c 6 = [] := by
    unfold plainE
    rw [if_neg (by simp [hs]), if_neg (by omega)]
    rw [if_pos (by omega)]
    exact hp
  have hh : plainE c 6 = [] ∨ ((6 : Int) ≠ 0 ∧ (special c = true ∨ (6 : Int) ≠ 4)) := .inl hne
  rw [(typedE_last (L := putB c) hh (.inl (by omega)) (by rw [if_pos hne])).trans (if_pos (by decide))]
  clear hh
  have hr := point_range (h.pt hs).1
  have HU := Lib.hid (fun W => l1Put_any c W hr.1 hr.2.1)
  have hul : (putB c).length ≤ 4 := by have := put_small c; rw [put_len]; omega
  have hneU := putB_ne c
  generalize putB c = U at *
  have hok : (!(plainE c 6).isEmpty) = false := by simp [hne]
  obtain ⟨i0, hi0, hz0, hz1, hz2⟩ := info_parts Tryz.info_u8
  have HI := Lib.hid (And.intro hi0 (And.intro hz0 (And.intro hz1 hz2)))
  clear hi0 hz0 hz1 hz2
  have HP := Lib.hid (l5Plain_any kind c 6 bu ac cl ro ds g w hE h)
  rw [hok] at HP
  have hll := plain_len c 6
  have hcode := h.code
  have HMM := Lib.hid hM
  have HEE := Lib.hid hE
  clear hM hE hok
  generalize hpl : plainE c 6 = L at *
  obtain rfl : L = [] := hne
  clear hpl
  go_enter Tryz.func76, Tryz.ntmps76
  go_wp2_with fail
  refine HP.out.mono ?_
  rintro e w1 ⟨v, rfl, ho, hb⟩
  have HO := Lib.hid ho
  have HB := Lib.hid hb
  have HM1 := Lib.hid (HMM.out.on hb)
  have HE1 := Lib.hid (HEE.out.on hb)
  have m1 := HM1.out.get 1 rfl
  obtain ⟨z0, z1, z2, z3, z4, z5, z6, z7⟩ := AtL.eightS HE1.out
  clear z0 z3 z4 z5 z6 z7 HP HMM HEE ho hb
  go_wp2_with fail
  refine (specIsSpecial_any c _).mono ?_
  rintro e w2 ⟨rfl, rfl⟩
  rw [hs]
  go_wp2_with fail
  refine (HU.out _).mono ?_
  rintro e w3 ⟨v3, rfl, ho3, hb3⟩
  have HO3 := Lib.hid (ho3.lower (base' := w.heap.size) HB.out.size)
  have HB3 := Lib.hid (below_on HB.out hb3)
  have HE3 := Lib.hid (HE1.out.on hb3)
  clear ho3 hb3 m1 z1 z2
  obtain ⟨z0, z1, z2, z3, z4, z5, z6, z7⟩ := AtL.eightS HE3.out
  clear z0 z3 z4 z5 z6 z7
  obtain ⟨g1, cap1, hv, hlc⟩ := own_room HO3.out hneU
  subst hv
  have HL1 := Lib.hid ((own_lit w3 [27] #[.int .u8 27] w3.heap.size 1 rfl rfl rfl (by simp)).lower (base' := w.heap.size) HB3.out.size)
  have HS1 := Lib.hid ((HO3.out.on (below_mk w3 (.cells #[.int .u8 27] 5))).bs.2)
  have HB1 := Lib.hid (below_on HB3.out (below_mk w3 (.cells #[.int .u8 27] 5)))
  go_wp2_with (at_builtin; refine wpList_append_own _ rfl _ _ 24 rfl w.heap.size 5 i0 (.int .u8 0) 1 1 Tryz.underlying24 HI.out.1 HI.out.2.1 HI.out.2.2.1 HI.out.2.2.2 rfl (by decide) _ _ _ rfl HL1.out ⟨g1, 0, none⟩ U.length cap1 (U.map (fun x : UInt8 => Value.int .u8 (x.toNat : Int))) rfl (by simp) (news_bs HS1.out) (one_cells _) (by unfold maxLen; simp; omega) (by simp; omega) HB1.out.size ?_; intro v4 wA hownA hgrowA _)
  have HA := Lib.hid (grew2 (l := [27]) HL1.out HB1.out hownA hgrowA)
  clear hownA hgrowA
  go_ret
  exact ⟨_, rfl, HA.out.1, HA.out.2⟩

set_option maxRecDepth 100000 in
set_option maxHeartbeats 4000000 in
theorem other_ef_7 (cu : Bool) (mo : Int) (sg pa : Bool) (kind c bu ac cl ro : Int) (ds : Value) (b g : Nat) (w : World) (hM : AtL w b [.bool cu, .bool false, .int .i64 mo, .bool sg, .bool pa]) (hE : AtL w g [.int .i64 kind, .int .i64 c, .int .i64 7, .int .i64 bu, .int .i64 ac, .int .i64 cl, .int .i64 ro, ds]) (h : Typed c 7) (hs : special c = false) :
    Calls Tryz.prog 76 #[.pointer (some ⟨b, 0, none⟩), .pointer (some ⟨g, 0, none⟩)] w (NewOwn w (typedE false c 7)) := by
  have hne : plainE c 7 = [] := by
    unfold plainE
    rw [if_neg (by simp [hs]), if_neg (by omega)]
    rw [if_neg (by omega)]
  have hh : plainE c 7 = [] ∨ ((7 : Int) ≠ 0 ∧ (special c = true ∨ (7 : Int) ≠ 4)) := .inl hne
  rw [(typedE_last (L := putB c) hh (.inl (by omega)) (by rw [if_pos hne])).trans (if_pos (by decide))]
  clear hh
  have hr := point_range (h.pt hs).1
  have HU := Lib.hid (fun W => l1Put_any c W hr.1 hr.2.1)
  have hul : (putB c).length ≤ 4 := by have := put_small c; rw [put_len]; omega
  have hneU := putB_ne c
  generalize putB c = U at *
  have hok : (!(plainE c 7).isEmpty) = false := by simp [hne]
  obtain ⟨i0, hi0, hz0, hz1, hz2⟩ := info_parts Tryz.info_u8
  have HI := Lib.hid (And.intro hi0 (And.intro hz0 (And.intro hz1 hz2)))
  clear hi0 hz0 hz1 hz2
  have HP := Lib.hid (l5Plain_any kind c 7 bu ac cl ro ds g w hE h)
  rw [hok] at HP
  have hll := plain_len c 7
  have hcode := h.code
  have HMM := Lib.hid hM
  have HEE := Lib.hid hE
  clear hM hE hok
  generalize hpl : plainE c 7 = L at *
  obtain rfl : L = [] := hne
  clear hpl
  go_enter Tryz.func76, Tryz.ntmps76
  go_wp2_with fail
  refine HP.out.mono ?_
  rintro e w1 ⟨v, rfl, ho, hb⟩
  have HO := Lib.hid ho
  have HB := Lib.hid hb
  have HM1 := Lib.hid (HMM.out.on hb)
  have HE1 := Lib.hid (HEE.out.on hb)
  have m1 := HM1.out.get 1 rfl
  obtain ⟨z0, z1, z2, z3, z4, z5, z6, z7⟩ := AtL.eightS HE1.out
  clear z0 z3 z4 z5 z6 z7 HP HMM HEE ho hb
  go_wp2_with fail
  refine (specIsSpecial_any c _).mono ?_
  rintro e w2 ⟨rfl, rfl⟩
  rw [hs]
  go_wp2_with fail
  refine (HU.out _).mono ?_
  rintro e w3 ⟨v3, rfl, ho3, hb3⟩
  have HO3 := Lib.hid (ho3.lower (base' := w.heap.size) HB.out.size)
  have HB3 := Lib.hid (below_on HB.out hb3)
  have HE3 := Lib.hid (HE1.out.on hb3)
  clear ho3 hb3 m1 z1 z2
  obtain ⟨z0, z1, z2, z3, z4, z5, z6, z7⟩ := AtL.eightS HE3.out
  clear z0 z3 z4 z5 z6 z7
  obtain ⟨g1, cap1, hv, hlc⟩ := own_room HO3.out hneU
  subst hv
  have HL1 := Lib.hid ((own_lit w3 [27] #[.int .u8 27] w3.heap.size 1 rfl rfl rfl (by simp)).lower (base' := w.heap.size) HB3.out.size)
  have HS1 := Lib.hid ((HO3.out.on (below_mk w3 (.cells #[.int .u8 27] 5))).bs.2)
  have HB1 := Lib.hid (below_on HB3.out (below_mk w3 (.cells #[.int .u8 27] 5)))
  go_wp2_with (at_builtin; refine wpList_append_own _ rfl _ _ 24 rfl w.heap.size 5 i0 (.int .u8 0) 1 1 Tryz.underlying24 HI.out.1 HI.out.2.1 HI.out.2.2.1 HI.out.2.2.2 rfl (by decide) _ _ _ rfl HL1.out ⟨g1, 0, none⟩ U.length cap1 (U.map (fun x : UInt8 => Value.int .u8 (x.toNat : Int))) rfl (by simp) (news_bs HS1.out) (one_cells _) (by unfold maxLen; simp; omega) (by simp; omega) HB1.out.size ?_; intro v4 wA hownA hgrowA _)
  have HA := Lib.hid (grew2 (l := [27]) HL1.out HB1.out hownA hgrowA)
  clear hownA hgrowA
  go_ret
  exact ⟨_, rfl, HA.out.1, HA.out.2⟩

end Go.Proofs.YtjopjddhgaiddabGreatDoor
