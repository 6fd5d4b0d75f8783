/- The program's encoder: typedBytes, keyBytes. (Written by wip/gen_typed.py.) -/
import Derived.Test.YtjopjddhgaiddabGreatDoorQEncImplToEncMouse2
namespace Go.Proofs.YtjopjddhgaiddabGreatDoor
open Go.RowKit
set_option linter.unusedVariables false
set_option linter.unusedSimpArgs false

theorem putB_ne (c : Int) : putB c ≠ [] := by
  intro h
  have h1 := put_small c
  have h2 := put_len (p := c)
  rw [h] at h2
  simp only [List.length_nil] at h2
  omega
theorem plain_len (c m : Int) : (plainE c m).length ≤ 4 := by
  have h1 := put_small c
  have h2 := put_len (p := c)
  unfold plainE ctrlE
  repeat' split
  all_goals simp
  all_goals omega
theorem putRes_key {c m : Int} (h : Typed c m) (hs : special c = false) : putRes c = putB c := by simp [putRes, (h.pt hs).1]
theorem typedE_plain {co : Bool} {c m : Int} (hL : plainE c m ≠ []) (h : m = 0 ∨ (special c = false ∧ m = 4)) : typedE co c m = plainE c m := by
  unfold typedE
  rw [if_pos ⟨hL, h⟩]
theorem typedE_alt {co : Bool} {c : Int} (h1 : 32 ≤ c) (h2 : c ≤ 126) : typedE co c 2 = 27 :: plainE c 2 := by
  unfold typedE
  rw [if_neg (by omega), if_pos ⟨rfl, h1, h2⟩]
theorem typedE_coded {c m : Int} (h : plainE c m = [] ∨ (m ≠ 0 ∧ (special c = true ∨ m ≠ 4))) (h2 : m ≠ 2 ∨ 126 < c) : typedE true c m = seqB false [codeE c, m + 1] 117 := by
  unfold typedE
  rw [if_neg, if_neg (by omega), if_pos rfl]
  rintro ⟨ha, hb⟩
  rcases h with h | ⟨h, h'⟩
  · exact ha h
  · rcases hb with hb | ⟨hb, hc⟩
    · exact h hb
    · rcases h' with h' | h'
      · rw [hb] at h'; cases h'
      · exact h' hc
theorem typedE_last {c m : Int} {L : List UInt8} (h : plainE c m = [] ∨ (m ≠ 0 ∧ (special c = true ∨ m ≠ 4))) (h2 : m ≠ 2 ∨ 126 < c) (hL : (if plainE c m = [] then putB c else plainE c m) = L) : typedE false c m = if m / 2 % 2 = 1 then 27 :: L else L := by
  subst hL
  unfold typedE
  rw [if_neg, if_neg (by omega), if_neg (by simp)]
  rintro ⟨ha, hb⟩
  rcases h with h | ⟨h, h'⟩
  · exact ha h
  · rcases hb with hb | ⟨hb, hc⟩
    · exact h hb
    · rcases h' with h' | h'
      · rw [hb] at h'; cases h'
      · exact h' hc

set_option maxRecDepth 100000 in
set_option maxHeartbeats 4000000 in
theorem typed_x0 (md : Md) (c : Int) (w : World) (hT : Pow w) (h : Typed c 0) :
    Calls Tryz.prog 57 #[mdV md, .agg #[.int .i64 c, .int .i64 0]] w (NewOwn w (typedE md.coded c 0)) := by
  obtain ⟨cu, co, mo, sg, pa⟩ := md
  unfold mdV
  dsimp only
  have hne : plainE c 0 ≠ [] := by
    unfold plainE
    split
    · simp
    · rw [if_pos (.inl rfl)]; exact putB_ne c
  have HC := Lib.hid (typedE_plain (co := co) hne (.inl rfl))
  rw [HC.out]
  clear HC
  cases hs : special c
  all_goals
    have hll := plain_len c 0
    have HP := Lib.hid (fun W => plainBytes_any c 0 W h)
    have hcode := h.code
    generalize plainE c 0 = L at *
    have HT := Lib.hid hT
    clear hT
    go_enter Tryz.func57, Tryz.ntmps57
    go_wp2_with fail
    refine (HP.out _).mono ?_
    rintro e w1 ⟨v, rfl, ho, hb⟩
    obtain ⟨p1, c1, hv⟩ := ho.slice
    subst hv
    have k1 := (AtL.new (w.alloc (.cells #[.bool cu, .bool co, .int .i64 mo, .bool sg, .bool pa] 29)) [.int .i64 c, .int .i64 0] 66).on hb
    rw [World.size_alloc] at k1
    have m1 := ((AtL.new w [.bool cu, .bool co, .int .i64 mo, .bool sg, .bool pa] 29).on (below_mk _ (.cells #[.int .i64 c, .int .i64 0] 66))).on hb
    have b1 := below_on (below_on (below_mk w (.cells #[.bool cu, .bool co, .int .i64 mo, .bool sg, .bool pa] 29)) (below_mk _ (.cells #[.int .i64 c, .int .i64 0] 66))) hb
    have o1 := ho.lower (base' := w.heap.size) (by simp; omega)
    have r0 := k1.get 0 rfl
    have r1 := k1.get 1 rfl
    clear ho hb HP
    go_wp2_with fail
    refine (implIsSpecial_any c _).mono ?_
    rintro e w2 ⟨rfl, hb2⟩
    rw [hs]
    have HK := Lib.hid (k1.on hb2)
    have HM := Lib.hid (m1.on hb2)
    have HO := Lib.hid (o1.on hb2)
    have HB := Lib.hid (below_on b1 hb2)
    clear k1 m1 o1 b1 hb2 r0 r1
    have r0 := HK.out.get 0 rfl
    have r1 := HK.out.get 1 rfl
    have r2 := HM.out.get 1 rfl
    have hpos : 0 < L.length := List.length_pos_iff.2 hne
    clear hne hcode
    go_wp2_with fail
    go_ret
    exact ⟨_, rfl, HO.out, HB.out⟩

set_option maxRecDepth 100000 in
set_option maxHeartbeats 4000000 in
theorem typed_x4 (md : Md) (c : Int) (hp : ctrlE c ≠ []) (hs0 : special c = false) (w : World) (hT : Pow w) (h : Typed c 4) :
    Calls Tryz.prog 57 #[mdV md, .agg #[.int .i64 c, .int .i64 4]] w (NewOwn w (typedE md.coded c 4)) := by
  obtain ⟨cu, co, mo, sg, pa⟩ := md
  unfold mdV
  dsimp only
  have hs := hs0
  have hne : plainE c 4 ≠ [] := by
    unfold plainE
    rw [if_neg (by simp [hs]), if_neg (by omega), if_pos (.inl rfl)]
    exact hp
  have HC := Lib.hid (typedE_plain (co := co) hne (.inr ⟨hs, rfl⟩))
  rw [HC.out]
  clear HC
  have hll := plain_len c 4
  have HP := Lib.hid (fun W => plainBytes_any c 4 W h)
  have hcode := h.code
  generalize plainE c 4 = L at *
  have HT := Lib.hid hT
  clear hT
  go_enter Tryz.func57, Tryz.ntmps57
  go_wp2_with fail
  refine (HP.out _).mono ?_
  rintro e w1 ⟨v, rfl, ho, hb⟩
  obtain ⟨p1, c1, hv⟩ := ho.slice
  subst hv
  have k1 := (AtL.new (w.alloc (.cells #[.bool cu, .bool co, .int .i64 mo, .bool sg, .bool pa] 29)) [.int .i64 c, .int .i64 4] 66).on hb
  rw [World.size_alloc] at k1
  have m1 := ((AtL.new w [.bool cu, .bool co, .int .i64 mo, .bool sg, .bool pa] 29).on (below_mk _ (.cells #[.int .i64 c, .int .i64 4] 66))).on hb
  have b1 := below_on (below_on (below_mk w (.cells #[.bool cu, .bool co, .int .i64 mo, .bool sg, .bool pa] 29)) (below_mk _ (.cells #[.int .i64 c, .int .i64 4] 66))) hb
  have o1 := ho.lower (base' := w.heap.size) (by simp; omega)
  have r0 := k1.get 0 rfl
  have r1 := k1.get 1 rfl
  clear ho hb HP
  go_wp2_with fail
  refine (implIsSpecial_any c _).mono ?_
  rintro e w2 ⟨rfl, hb2⟩
  rw [hs]
  have HK := Lib.hid (k1.on hb2)
  have HM := Lib.hid (m1.on hb2)
  have HO := Lib.hid (o1.on hb2)
  have HB := Lib.hid (below_on b1 hb2)
  clear k1 m1 o1 b1 hb2 r0 r1
  have r0 := HK.out.get 0 rfl
  have r1 := HK.out.get 1 rfl
  have r2 := HM.out.get 1 rfl
  have hpos : 0 < L.length := List.length_pos_iff.2 hne
  clear hne hcode
  go_wp2_with fail
  go_ret
  exact ⟨_, rfl, HO.out, HB.out⟩

set_option maxRecDepth 100000 in
set_option maxHeartbeats 4000000 in
theorem typed_y (md : Md) (c : Int) (hs : special c = false) (h126 : c ≤ 126) (w : World) (hT : Pow w) (h : Typed c 2) :
    Calls Tryz.prog 57 #[mdV md, .agg #[.int .i64 c, .int .i64 2]] w (NewOwn w (typedE md.coded c 2)) := by
  obtain ⟨cu, co, mo, sg, pa⟩ := md
  unfold mdV
  dsimp only
  have h32 := (h.pt hs).2.1
  have HC := Lib.hid (typedE_alt (co := co) h32 h126)
  have hin : inR c 32 126 = true := by simp [inR, h32, h126]
  have hne : plainE c 2 ≠ [] := by
    unfold plainE
    rw [if_neg (by simp [hs]), if_pos (.inr rfl)]
    exact putB_ne c
  rw [HC.out]
  clear HC h32
  have hll := plain_len c 2
  have HP := Lib.hid (fun W => plainBytes_any c 2 W h)
  have hcode := h.code
  generalize plainE c 2 = L at *
  have HT := Lib.hid hT
  clear hT
  go_enter Tryz.func57, Tryz.ntmps57
  go_wp2_with fail
  refine (HP.out _).mono ?_
  rintro e w1 ⟨v, rfl, ho, hb⟩
  obtain ⟨p1, c1, hv⟩ := ho.slice
  subst hv
  have k1 := (AtL.new (w.alloc (.cells #[.bool cu, .bool co, .int .i64 mo, .bool sg, .bool pa] 29)) [.int .i64 c, .int .i64 2] 66).on hb
  rw [World.size_alloc] at k1
  have m1 := ((AtL.new w [.bool cu, .bool co, .int .i64 mo, .bool sg, .bool pa] 29).on (below_mk _ (.cells #[.int .i64 c, .int .i64 2] 66))).on hb
  have b1 := below_on (below_on (below_mk w (.cells #[.bool cu, .bool co, .int .i64 mo, .bool sg, .bool pa] 29)) (below_mk _ (.cells #[.int .i64 c, .int .i64 2] 66))) hb
  have o1 := ho.lower (base' := w.heap.size) (by simp; omega)
  have r0 := k1.get 0 rfl
  have r1 := k1.get 1 rfl
  clear ho hb HP
  go_wp2_with fail
  refine (implIsSpecial_any c _).mono ?_
  rintro e w2 ⟨rfl, hb2⟩
  rw [hs]
  have HK := Lib.hid (k1.on hb2)
  have HM := Lib.hid (m1.on hb2)
  have HO := Lib.hid (o1.on hb2)
  have HB := Lib.hid (below_on b1 hb2)
  clear k1 m1 o1 b1 hb2 r0 r1
  have r0 := HK.out.get 0 rfl
  have r1 := HK.out.get 1 rfl
  have r2 := HM.out.get 1 rfl
  have hpos : 0 < L.length := List.length_pos_iff.2 hne
  clear hne hcode
  go_wp2_with (go_at_call 62; refine (isWithin_two _ _ _ _ _ _ (by simp)).mono ?_; rintro e w' ⟨rfl, rfl⟩; rw [hin])
  refine (escaped_any p1 c1 L _ ((HO.out.on (below_mk w2 _)).bs.2) HO.out.capz (by omega)).mono ?_
  rintro e w3 ⟨v3, rfl, ho3, hb3⟩
  have hsz := HB.out.size
  have HE := Lib.hid (own_low ho3 (below_on (below_on HB.out (below_mk _ _)) hb3) (by simp; omega))
  clear ho3 hb3 HO
  go_wp2_with fail
  go_ret
  exact HE.out

theorem wp_gen3 {P : Program} {code : Code} {Q : Exit → Act → World → Prop} {a : Act} {W : World} (C : World → Prop) (h : C W) (k : ∀ W', C W' → Code.wp P code Q a W') : Code.wp P code Q a W := k W h

set_option maxRecDepth 100000 in
set_option maxHeartbeats 4000000 in
theorem typed_st_1 (cu : Bool) (mo : Int) (sg pa : Bool) (c : Int) (hs : special c = true) (w : World) (hT : Pow w) (h : Typed c 1) :
    Calls Tryz.prog 57 #[.agg #[.bool cu, .bool true, .int .i64 mo, .bool sg, .bool pa], .agg #[.int .i64 c, .int .i64 1]] w (NewOwn w (typedE true c 1)) := by
  have hne : plainE c 1 ≠ [] := by
    unfold plainE
    rw [if_pos hs]
    simp
  have hh : plainE c 1 = [] ∨ ((1 : Int) ≠ 0 ∧ (special c = true ∨ (1 : Int) ≠ 4)) := .inr ⟨by omega, .inl hs⟩
  have HC := Lib.hid (typedE_coded hh (.inl (by omega)))
  rw [HC.out]
  clear HC hh
  have HSL := Lib.hid (fun (W : World) (hW : Pow W) g hg => sequence_lit false #[.int .i64 (codeE c), .int .i64 2] [codeE c, 2] 117 2 W 2 g hg rfl rfl hW (inNum2 h.code.1 h.code.2.1 (by omega) (by omega)) (by simp) (by omega) (by omega))
  have HPK := Lib.hid (fun W => pointOfKey_any c W)
  rw [show byteE 117 = 117 from rfl] at HSL
  rw [show (1 : Int) + 1 = 2 from rfl]
  have hll := plain_len c 1
  have HP := Lib.hid (fun W => plainBytes_any c 1 W h)
  have hcode := h.code
  generalize plainE c 1 = L at *
  have HT := Lib.hid hT
  clear hT
  go_enter Tryz.func57, Tryz.ntmps57
  go_wp2_with fail
  refine (HP.out _).mono ?_
  rintro e w1 ⟨v, rfl, ho, hb⟩
  obtain ⟨p1, c1, hv⟩ := ho.slice
  subst hv
  have k1 := (AtL.new (w.alloc (.cells #[.bool cu, .bool true, .int .i64 mo, .bool sg, .bool pa] 29)) [.int .i64 c, .int .i64 1] 66).on hb
  rw [World.size_alloc] at k1
  have m1 := ((AtL.new w [.bool cu, .bool true, .int .i64 mo, .bool sg, .bool pa] 29).on (below_mk _ (.cells #[.int .i64 c, .int .i64 1] 66))).on hb
  have b1 := below_on (below_on (below_mk w (.cells #[.bool cu, .bool true, .int .i64 mo, .bool sg, .bool pa] 29)) (below_mk _ (.cells #[.int .i64 c, .int .i64 1] 66))) hb
  have o1 := ho.lower (base' := w.heap.size) (by simp; omega)
  have r0 := k1.get 0 rfl
  have r1 := k1.get 1 rfl
  clear ho hb HP
  go_wp2_with fail
  refine (implIsSpecial_any c _).mono ?_
  rintro e w2 ⟨rfl, hb2⟩
  rw [hs]
  have HK := Lib.hid (k1.on hb2)
  have HM := Lib.hid (m1.on hb2)
  have HO := Lib.hid (o1.on hb2)
  have HB := Lib.hid (below_on b1 hb2)
  clear k1 m1 o1 b1 hb2 r0 r1
  have r0 := HK.out.get 0 rfl
  have r1 := HK.out.get 1 rfl
  have r2 := HM.out.get 1 rfl
  have hpos : 0 < L.length := List.length_pos_iff.2 hne
  clear hne
  go_wp2_with (fail)
  refine wp_gen3 (fun W => AtL W (w.heap.size + 1) [.int .i64 c, .int .i64 1] ∧ Below w.heap.size w W ∧ Pow W) ⟨HK.out, HB.out, HT.out.on HB.out⟩ (fun W hW => ?_)
  obtain ⟨hk, hb, ht⟩ := hW
  have HK2 := Lib.hid (fun W' (hW : Below W.heap.size W W') => hk.on hW)
  have HB2 := Lib.hid hb
  have HT2 := Lib.hid ht
  clear hk hb ht HK HM HO HB HT r0 r1 r2
  refine wp_region_noPanic ?_
  refine wp_region_held_drew (S := fun W' => Below (W).heap.size (W) W') (by kernel_rfl) (below_drewN (Below.refl _ _) 1) (fun hHeld => ?_)
  refine takeR 0 46 (.pointer (some ⟨w.heap.size + 1, 0, none⟩)) (by kernel_rfl) (by kernel_rfl) (by kernel_rfl) (by kernel_rfl) (fun _ _ _ h => h) (by kernel_rfl) (fun w o hSw ho => ?_) hHeld ?_
  · obtain rfl := Option.some.inj ho; go_simp
  simp only [Act.put, List.setIfInBounds_toArray, List.set_cons_zero, List.set_cons_succ]
  refine takeR 3 49 (.pointer (some ⟨w.heap.size + 1, 1, none⟩)) (by kernel_rfl) (by kernel_rfl) (by kernel_rfl) (by kernel_rfl) (fun _ _ _ h => h) (by kernel_rfl) (fun w o hSw ho => ?_) hHeld ?_
  · obtain rfl := Option.some.inj ho; go_simp
  simp only [Act.put, List.setIfInBounds_toArray, List.set_cons_zero, List.set_cons_succ]
  refine takeR 1 47 (.int .i64 c) (by kernel_rfl) (by kernel_rfl) (by kernel_rfl) (by kernel_rfl) (fun _ _ _ h => h) (by kernel_rfl) (fun w o hSw ho => ?_) hHeld ?_
  · obtain rfl := Option.some.inj ho; have r0 := (HK2.out _ hSw).get 0 rfl; go_simp
  simp only [Act.put, List.setIfInBounds_toArray, List.set_cons_zero, List.set_cons_succ]
  refine takeR 4 50 (.int .i64 1) (by kernel_rfl) (by kernel_rfl) (by kernel_rfl) (by kernel_rfl) (fun _ _ _ h => h) (by kernel_rfl) (fun w o hSw ho => ?_) hHeld ?_
  · obtain rfl := Option.some.inj ho; have r1 := (HK2.out _ hSw).get 1 rfl; go_simp
  simp only [Act.put, List.setIfInBounds_toArray, List.set_cons_zero, List.set_cons_succ]
  refine takeR 5 51 (.int .i64 2) (by kernel_rfl) (by kernel_rfl) (by kernel_rfl) (by kernel_rfl) (fun _ _ _ h => h) (by kernel_rfl) (fun w o hSw ho => ?_) hHeld ?_
  · obtain rfl := Option.some.inj ho; go_simp; rfl
  simp only [Act.put, List.setIfInBounds_toArray, List.set_cons_zero, List.set_cons_succ]
  refine oneR 2 (by kernel_rfl) (by kernel_rfl) (fun o ho K' hK => ?_)
  obtain rfl := Option.some.inj ho
  clear ho
  go_simp
  refine (HPK.out _).mono ?_
  rintro e V1 ⟨rfl, rfl⟩
  go_wp2_with fail
  refine hK.out _ _ (hHeld) (fun hHeld => ?_)
  clear hK K'
  try simp only [Act.put, List.setIfInBounds_toArray, List.set_cons_zero, List.set_cons_succ]
  have HV1 := Lib.hid hHeld
  refine oneR 6 (by kernel_rfl) (by kernel_rfl) (fun o ho K' hK => ?_)
  obtain rfl := Option.some.inj ho
  clear ho
  go_simp
  refine hK.out _ _ (below_on hHeld (below_mk _ _)) (fun hHeld => ?_)
  clear hK K'
  try simp only [Act.put, List.setIfInBounds_toArray, List.set_cons_zero, List.set_cons_succ]
  refine oneR 7 (by kernel_rfl) (by kernel_rfl) (fun o ho K' hK => ?_)
  obtain rfl := Option.some.inj ho
  clear ho
  go_simp
  refine (HSL.out _ (HT2.out.on HV1.out) _ rfl).mono ?_
  rintro e V2 ⟨v2, rfl, ho2, hb2⟩
  have HV2 := Lib.hid (below_on hHeld hb2)
  have HE := Lib.hid (own_low ho2 (below_on HB2.out HV2.out) (by have h1 := HB2.out.size; have h2 := HV1.out.size; simp at h2 ⊢; omega))
  clear ho2 hb2 hHeld
  go_wp2_with fail
  refine hK.out _ _ (HV2.out) (fun hHeld => ?_)
  clear hK K'
  try simp only [Act.put, List.setIfInBounds_toArray, List.set_cons_zero, List.set_cons_succ]
  refine takeR 8 4 (v2) (by kernel_rfl) (by kernel_rfl) (by kernel_rfl) (by kernel_rfl) (fun _ _ _ h => h) (by kernel_rfl) (fun w o hSw ho => ?_) hHeld ?_
  · obtain rfl := Option.some.inj ho; go_simp
  simp only [Act.put, List.setIfInBounds_toArray, List.set_cons_zero, List.set_cons_succ]
  refine wpAnyH_done (by kernel_rfl) ?_ _
  refine NoPanic.normal ?_
  go_wp2_with fail
  go_ret
  exact HE.out

set_option maxRecDepth 100000 in
set_option maxHeartbeats 4000000 in
theorem typed_st_2 (cu : Bool) (mo : Int) (sg pa : Bool) (c : Int) (hs : special c = true) (w : World) (hT : Pow w) (h : Typed c 2) :
    Calls Tryz.prog 57 #[.agg #[.bool cu, .bool true, .int .i64 mo, .bool sg, .bool pa], .agg #[.int .i64 c, .int .i64 2]] w (NewOwn w (typedE true c 2)) := by
  have hne : plainE c 2 ≠ [] := by
    unfold plainE
    rw [if_pos hs]
    simp
  have hh : plainE c 2 = [] ∨ ((2 : Int) ≠ 0 ∧ (special c = true ∨ (2 : Int) ≠ 4)) := .inr ⟨by omega, .inl hs⟩
  have h127 : 126 < c := by simp [special, inR] at hs; omega
  have hin : inR c 32 126 = false := by simp [inR]; omega
  have HC := Lib.hid (typedE_coded hh (.inr h127))
  rw [HC.out]
  clear HC hh
  have HSL := Lib.hid (fun (W : World) (hW : Pow W) g hg => sequence_lit false #[.int .i64 (codeE c), .int .i64 3] [codeE c, 3] 117 2 W 2 g hg rfl rfl hW (inNum2 h.code.1 h.code.2.1 (by omega) (by omega)) (by simp) (by omega) (by omega))
  have HPK := Lib.hid (fun W => pointOfKey_any c W)
  rw [show byteE 117 = 117 from rfl] at HSL
  rw [show (2 : Int) + 1 = 3 from rfl]
  have hll := plain_len c 2
  have HP := Lib.hid (fun W => plainBytes_any c 2 W h)
  have hcode := h.code
  generalize plainE c 2 = L at *
  have HT := Lib.hid hT
  clear hT
  go_enter Tryz.func57, Tryz.ntmps57
  go_wp2_with fail
  refine (HP.out _).mono ?_
  rintro e w1 ⟨v, rfl, ho, hb⟩
  obtain ⟨p1, c1, hv⟩ := ho.slice
  subst hv
  have k1 := (AtL.new (w.alloc (.cells #[.bool cu, .bool true, .int .i64 mo, .bool sg, .bool pa] 29)) [.int .i64 c, .int .i64 2] 66).on hb
  rw [World.size_alloc] at k1
  have m1 := ((AtL.new w [.bool cu, .bool true, .int .i64 mo, .bool sg, .bool pa] 29).on (below_mk _ (.cells #[.int .i64 c, .int .i64 2] 66))).on hb
  have b1 := below_on (below_on (below_mk w (.cells #[.bool cu, .bool true, .int .i64 mo, .bool sg, .bool pa] 29)) (below_mk _ (.cells #[.int .i64 c, .int .i64 2] 66))) hb
  have o1 := ho.lower (base' := w.heap.size) (by simp; omega)
  have r0 := k1.get 0 rfl
  have r1 := k1.get 1 rfl
  clear ho hb HP
  go_wp2_with fail
  refine (implIsSpecial_any c _).mono ?_
  rintro e w2 ⟨rfl, hb2⟩
  rw [hs]
  have HK := Lib.hid (k1.on hb2)
  have HM := Lib.hid (m1.on hb2)
  have HO := Lib.hid (o1.on hb2)
  have HB := Lib.hid (below_on b1 hb2)
  clear k1 m1 o1 b1 hb2 r0 r1
  have r0 := HK.out.get 0 rfl
  have r1 := HK.out.get 1 rfl
  have r2 := HM.out.get 1 rfl
  have hpos : 0 < L.length := List.length_pos_iff.2 hne
  clear hne
  have r2 := (HM.out.on (below_mk w2 (.cells #[.int .i64 32, .int .i64 126] 2))).get 1 rfl
  go_wp2_with (go_at_call 62; refine (isWithin_two _ _ _ _ _ _ (by simp)).mono ?_; rintro e w' ⟨rfl, rfl⟩; rw [hin])
  refine wp_gen3 (fun W => AtL W (w.heap.size + 1) [.int .i64 c, .int .i64 2] ∧ Below w.heap.size w W ∧ Pow W) ⟨HK.out.on (below_mk _ _), below_on HB.out (below_mk _ _), HT.out.on (below_on HB.out (below_mk _ _))⟩ (fun W hW => ?_)
  obtain ⟨hk, hb, ht⟩ := hW
  have HK2 := Lib.hid (fun W' (hW : Below W.heap.size W W') => hk.on hW)
  have HB2 := Lib.hid hb
  have HT2 := Lib.hid ht
  clear hk hb ht HK HM HO HB HT r0 r1 r2
  refine wp_region_noPanic ?_
  refine wp_region_held_drew (S := fun W' => Below (W).heap.size (W) W') (by kernel_rfl) (below_drewN (Below.refl _ _) 1) (fun hHeld => ?_)
  refine takeR 0 46 (.pointer (some ⟨w.heap.size + 1, 0, none⟩)) (by kernel_rfl) (by kernel_rfl) (by kernel_rfl) (by kernel_rfl) (fun _ _ _ h => h) (by kernel_rfl) (fun w o hSw ho => ?_) hHeld ?_
  · obtain rfl := Option.some.inj ho; go_simp
  simp only [Act.put, List.setIfInBounds_toArray, List.set_cons_zero, List.set_cons_succ]
  refine takeR 3 49 (.pointer (some ⟨w.heap.size + 1, 1, none⟩)) (by kernel_rfl) (by kernel_rfl) (by kernel_rfl) (by kernel_rfl) (fun _ _ _ h => h) (by kernel_rfl) (fun w o hSw ho => ?_) hHeld ?_
  · obtain rfl := Option.some.inj ho; go_simp
  simp only [Act.put, List.setIfInBounds_toArray, List.set_cons_zero, List.set_cons_succ]
  refine takeR 1 47 (.int .i64 c) (by kernel_rfl) (by kernel_rfl) (by kernel_rfl) (by kernel_rfl) (fun _ _ _ h => h) (by kernel_rfl) (fun w o hSw ho => ?_) hHeld ?_
  · obtain rfl := Option.some.inj ho; have r0 := (HK2.out _ hSw).get 0 rfl; go_simp
  simp only [Act.put, List.setIfInBounds_toArray, List.set_cons_zero, List.set_cons_succ]
  refine takeR 4 50 (.int .i64 2) (by kernel_rfl) (by kernel_rfl) (by kernel_rfl) (by kernel_rfl) (fun _ _ _ h => h) (by kernel_rfl) (fun w o hSw ho => ?_) hHeld ?_
  · obtain rfl := Option.some.inj ho; have r1 := (HK2.out _ hSw).get 1 rfl; go_simp
  simp only [Act.put, List.setIfInBounds_toArray, List.set_cons_zero, List.set_cons_succ]
  refine takeR 5 51 (.int .i64 3) (by kernel_rfl) (by kernel_rfl) (by kernel_rfl) (by kernel_rfl) (fun _ _ _ h => h) (by kernel_rfl) (fun w o hSw ho => ?_) hHeld ?_
  · obtain rfl := Option.some.inj ho; go_simp; rfl
  simp only [Act.put, List.setIfInBounds_toArray, List.set_cons_zero, List.set_cons_succ]
  refine oneR 2 (by kernel_rfl) (by kernel_rfl) (fun o ho K' hK => ?_)
  obtain rfl := Option.some.inj ho
  clear ho
  go_simp
  refine (HPK.out _).mono ?_
  rintro e V1 ⟨rfl, rfl⟩
  go_wp2_with fail
  refine hK.out _ _ (hHeld) (fun hHeld => ?_)
  clear hK K'
  try simp only [Act.put, List.setIfInBounds_toArray, List.set_cons_zero, List.set_cons_succ]
  have HV1 := Lib.hid hHeld
  refine oneR 6 (by kernel_rfl) (by kernel_rfl) (fun o ho K' hK => ?_)
  obtain rfl := Option.some.inj ho
  clear ho
  go_simp
  refine hK.out _ _ (below_on hHeld (below_mk _ _)) (fun hHeld => ?_)
  clear hK K'
  try simp only [Act.put, List.setIfInBounds_toArray, List.set_cons_zero, List.set_cons_succ]
  refine oneR 7 (by kernel_rfl) (by kernel_rfl) (fun o ho K' hK => ?_)
  obtain rfl := Option.some.inj ho
  clear ho
  go_simp
  refine (HSL.out _ (HT2.out.on HV1.out) _ rfl).mono ?_
  rintro e V2 ⟨v2, rfl, ho2, hb2⟩
  have HV2 := Lib.hid (below_on hHeld hb2)
  have HE := Lib.hid (own_low ho2 (below_on HB2.out HV2.out) (by have h1 := HB2.out.size; have h2 := HV1.out.size; simp at h2 ⊢; omega))
  clear ho2 hb2 hHeld
  go_wp2_with fail
  refine hK.out _ _ (HV2.out) (fun hHeld => ?_)
  clear hK K'
  try simp only [Act.put, List.setIfInBounds_toArray, List.set_cons_zero, List.set_cons_succ]
  refine takeR 8 4 (v2) (by kernel_rfl) (by kernel_rfl) (by kernel_rfl) (by kernel_rfl) (fun _ _ _ h => h) (by kernel_rfl) (fun w o hSw ho => ?_) hHeld ?_
  · obtain rfl := Option.some.inj ho; go_simp
  simp only [Act.put, List.setIfInBounds_toArray, List.set_cons_zero, List.set_cons_succ]
  refine wpAnyH_done (by kernel_rfl) ?_ _
  refine NoPanic.normal ?_
  go_wp2_with fail
  go_ret
  exact HE.out

set_option maxRecDepth 100000 in
set_option maxHeartbeats 4000000 in
theorem typed_st_3 (cu : Bool) (mo : Int) (sg pa : Bool) (c : Int) (hs : special c = true) (w : World) (hT : Pow w) (h : Typed c 3) :
    Calls Tryz.prog 57 #[.agg #[.bool cu, .bool true, .int .i64 mo, .bool sg, .bool pa], .agg #[.int .i64 c, .int .i64 3]] w (NewOwn w (typedE true c 3)) := by
  have hne : plainE c 3 ≠ [] := by
    unfold plainE
    rw [if_pos hs]
    simp
  have hh : plainE c 3 = [] ∨ ((3 : Int) ≠ 0 ∧ (special c = true ∨ (3 : Int) ≠ 4)) := .inr ⟨by omega, .inl hs⟩
  have HC := Lib.hid (typedE_coded hh (.inl (by omega)))
  rw [HC.out]
  clear HC hh
  have HSL := Lib.hid (fun (W : World) (hW : Pow W) g hg => sequence_lit false #[.int .i64 (codeE c), .int .i64 4] [codeE c, 4] 117 2 W 2 g hg rfl rfl hW (inNum2 h.code.1 h.code.2.1 (by omega) (by omega)) (by simp) (by omega) (by omega))
  have HPK := Lib.hid (fun W => pointOfKey_any c W)
  rw [show byteE 117 = 117 from rfl] at HSL
  rw [show (3 : Int) + 1 = 4 from rfl]
  have hll := plain_len c 3
  have HP := Lib.hid (fun W => plainBytes_any c 3 W h)
  have hcode := h.code
  generalize plainE c 3 = L at *
  have HT := Lib.hid hT
  clear hT
  go_enter Tryz.func57, Tryz.ntmps57
  go_wp2_with fail
  refine (HP.out _).mono ?_
  rintro e w1 ⟨v, rfl, ho, hb⟩
  obtain ⟨p1, c1, hv⟩ := ho.slice
  subst hv
  have k1 := (AtL.new (w.alloc (.cells #[.bool cu, .bool true, .int .i64 mo, .bool sg, .bool pa] 29)) [.int .i64 c, .int .i64 3] 66).on hb
  rw [World.size_alloc] at k1
  have m1 := ((AtL.new w [.bool cu, .bool true, .int .i64 mo, .bool sg, .bool pa] 29).on (below_mk _ (.cells #[.int .i64 c, .int .i64 3] 66))).on hb
  have b1 := below_on (below_on (below_mk w (.cells #[.bool cu, .bool true, .int .i64 mo, .bool sg, .bool pa] 29)) (below_mk _ (.cells #[.int .i64 c, .int .i64 3] 66))) hb
  have o1 := ho.lower (base' := w.heap.size) (by simp; omega)
  have r0 := k1.get 0 rfl
  have r1 := k1.get 1 rfl
  clear ho hb HP
  go_wp2_with fail
  refine (implIsSpecial_any c _).mono ?_
  rintro e w2 ⟨rfl, hb2⟩
  rw [hs]
  have HK := Lib.hid (k1.on hb2)
  have HM := Lib.hid (m1.on hb2)
  have HO := Lib.hid (o1.on hb2)
  have HB := Lib.hid (below_on b1 hb2)
  clear k1 m1 o1 b1 hb2 r0 r1
  have r0 := HK.out.get 0 rfl
  have r1 := HK.out.get 1 rfl
  have r2 := HM.out.get 1 rfl
  have hpos : 0 < L.length := List.length_pos_iff.2 hne
  clear hne
  go_wp2_with (fail)
  refine wp_gen3 (fun W => AtL W (w.heap.size + 1) [.int .i64 c, .int .i64 3] ∧ Below w.heap.size w W ∧ Pow W) ⟨HK.out, HB.out, HT.out.on HB.out⟩ (fun W hW => ?_)
  obtain ⟨hk, hb, ht⟩ := hW
  have HK2 := Lib.hid (fun W' (hW : Below W.heap.size W W') => hk.on hW)
  have HB2 := Lib.hid hb
  have HT2 := Lib.hid ht
  clear hk hb ht HK HM HO HB HT r0 r1 r2
  refine wp_region_noPanic ?_
  refine wp_region_held_drew (S := fun W' => Below (W).heap.size (W) W') (by kernel_rfl) (below_drewN (Below.refl _ _) 1) (fun hHeld => ?_)
  refine takeR 0 46 (.pointer (some ⟨w.heap.size + 1, 0, none⟩)) (by kernel_rfl) (by kernel_rfl) (by kernel_rfl) (by kernel_rfl) (fun _ _ _ h => h) (by kernel_rfl) (fun w o hSw ho => ?_) hHeld ?_
  · obtain rfl := Option.some.inj ho; go_simp
  simp only [Act.put, List.setIfInBounds_toArray, List.set_cons_zero, List.set_cons_succ]
  refine takeR 3 49 (.pointer (some ⟨w.heap.size + 1, 1, none⟩)) (by kernel_rfl) (by kernel_rfl) (by kernel_rfl) (by kernel_rfl) (fun _ _ _ h => h) (by kernel_rfl) (fun w o hSw ho => ?_) hHeld ?_
  · obtain rfl := Option.some.inj ho; go_simp
  simp only [Act.put, List.setIfInBounds_toArray, List.set_cons_zero, List.set_cons_succ]
  refine takeR 1 47 (.int .i64 c) (by kernel_rfl) (by kernel_rfl) (by kernel_rfl) (by kernel_rfl) (fun _ _ _ h => h) (by kernel_rfl) (fun w o hSw ho => ?_) hHeld ?_
  · obtain rfl := Option.some.inj ho; have r0 := (HK2.out _ hSw).get 0 rfl; go_simp
  simp only [Act.put, List.setIfInBounds_toArray, List.set_cons_zero, List.set_cons_succ]
  refine takeR 4 50 (.int .i64 3) (by kernel_rfl) (by kernel_rfl) (by kernel_rfl) (by kernel_rfl) (fun _ _ _ h => h) (by kernel_rfl) (fun w o hSw ho => ?_) hHeld ?_
  · obtain rfl := Option.some.inj ho; have r1 := (HK2.out _ hSw).get 1 rfl; go_simp
  simp only [Act.put, List.setIfInBounds_toArray, List.set_cons_zero, List.set_cons_succ]
  refine takeR 5 51 (.int .i64 4) (by kernel_rfl) (by kernel_rfl) (by kernel_rfl) (by kernel_rfl) (fun _ _ _ h => h) (by kernel_rfl) (fun w o hSw ho => ?_) hHeld ?_
  · obtain rfl := Option.some.inj ho; go_simp; rfl
  simp only [Act.put, List.setIfInBounds_toArray, List.set_cons_zero, List.set_cons_succ]
  refine oneR 2 (by kernel_rfl) (by kernel_rfl) (fun o ho K' hK => ?_)
  obtain rfl := Option.some.inj ho
  clear ho
  go_simp
  refine (HPK.out _).mono ?_
  rintro e V1 ⟨rfl, rfl⟩
  go_wp2_with fail
  refine hK.out _ _ (hHeld) (fun hHeld => ?_)
  clear hK K'
  try simp only [Act.put, List.setIfInBounds_toArray, List.set_cons_zero, List.set_cons_succ]
  have HV1 := Lib.hid hHeld
  refine oneR 6 (by kernel_rfl) (by kernel_rfl) (fun o ho K' hK => ?_)
  obtain rfl := Option.some.inj ho
  clear ho
  go_simp
  refine hK.out _ _ (below_on hHeld (below_mk _ _)) (fun hHeld => ?_)
  clear hK K'
  try simp only [Act.put, List.setIfInBounds_toArray, List.set_cons_zero, List.set_cons_succ]
  refine oneR 7 (by kernel_rfl) (by kernel_rfl) (fun o ho K' hK => ?_)
  obtain rfl := Option.some.inj ho
  clear ho
  go_simp
  refine (HSL.out _ (HT2.out.on HV1.out) _ rfl).mono ?_
  rintro e V2 ⟨v2, rfl, ho2, hb2⟩
  have HV2 := Lib.hid (below_on hHeld hb2)
  have HE := Lib.hid (own_low ho2 (below_on HB2.out HV2.out) (by have h1 := HB2.out.size; have h2 := HV1.out.size; simp at h2 ⊢; omega))
  clear ho2 hb2 hHeld
  go_wp2_with fail
  refine hK.out _ _ (HV2.out) (fun hHeld => ?_)
  clear hK K'
  try simp only [Act.put, List.setIfInBounds_toArray, List.set_cons_zero, List.set_cons_succ]
  refine takeR 8 4 (v2) (by kernel_rfl) (by kernel_rfl) (by kernel_rfl) (by kernel_rfl) (fun _ _ _ h => h) (by kernel_rfl) (fun w o hSw ho => ?_) hHeld ?_
  · obtain rfl := Option.some.inj ho; go_simp
  simp only [Act.put, List.setIfInBounds_toArray, List.set_cons_zero, List.set_cons_succ]
  refine wpAnyH_done (by kernel_rfl) ?_ _
  refine NoPanic.normal ?_
  go_wp2_with fail
  go_ret
  exact HE.out

set_option maxRecDepth 100000 in
set_option maxHeartbeats 4000000 in
theorem typed_st_4 (cu : Bool) (mo : Int) (sg pa : Bool) (c : Int) (hs : special c = true) (w : World) (hT : Pow w) (h : Typed c 4) :
    Calls Tryz.prog 57 #[.agg #[.bool cu, .bool true, .int .i64 mo, .bool sg, .bool pa], .agg #[.int .i64 c, .int .i64 4]] w (NewOwn w (typedE true c 4)) := by
  have hne : plainE c 4 ≠ [] := by
    unfold plainE
    rw [if_pos hs]
    simp
  have hh : plainE c 4 = [] ∨ ((4 : Int) ≠ 0 ∧ (special c = true ∨ (4 : Int) ≠ 4)) := .inr ⟨by omega, .inl hs⟩
  have HC := Lib.hid (typedE_coded hh (.inl (by omega)))
  rw [HC.out]
  clear HC hh
  have HSL := Lib.hid (fun (W : World) (hW : Pow W) g hg => sequence_lit false #[.int .i64 (codeE c), .int .i64 5] [codeE c, 5] 117 2 W 2 g hg rfl rfl hW (inNum2 h.code.1 h.code.2.1 (by omega) (by omega)) (by simp) (by omega) (by omega))
  have HPK := Lib.hid (fun W => pointOfKey_any c W)
  rw [show byteE 117 = 117 from rfl] at HSL
  rw [show (4 : Int) + 1 = 5 from rfl]
  have hll := plain_len c 4
  have HP := Lib.hid (fun W => plainBytes_any c 4 W h)
  have hcode := h.code
  generalize plainE c 4 = L at *
  have HT := Lib.hid hT
  clear hT
  go_enter Tryz.func57, Tryz.ntmps57
  go_wp2_with fail
  refine (HP.out _).mono ?_
  rintro e w1 ⟨v, rfl, ho, hb⟩
  obtain ⟨p1, c1, hv⟩ := ho.slice
  subst hv
  have k1 := (AtL.new (w.alloc (.cells #[.bool cu, .bool true, .int .i64 mo, .bool sg, .bool pa] 29)) [.int .i64 c, .int .i64 4] 66).on hb
  rw [World.size_alloc] at k1
  have m1 := ((AtL.new w [.bool cu, .bool true, .int .i64 mo, .bool sg, .bool pa] 29).on (below_mk _ (.cells #[.int .i64 c, .int .i64 4] 66))).on hb
  have b1 := below_on (below_on (below_mk w (.cells #[.bool cu, .bool true, .int .i64 mo, .bool sg, .bool pa] 29)) (below_mk _ (.cells #[.int .i64 c, .int .i64 4] 66))) hb
  have o1 := ho.lower (base' := w.heap.size) (by simp; omega)
  have r0 := k1.get 0 rfl
  have r1 := k1.get 1 rfl
  clear ho hb HP
  go_wp2_with fail
  refine (implIsSpecial_any c _).mono ?_
  rintro e w2 ⟨rfl, hb2⟩
  rw [hs]
  have HK := Lib.hid (k1.on hb2)
  have HM := Lib.hid (m1.on hb2)
  have HO := Lib.hid (o1.on hb2)
  have HB := Lib.hid (below_on b1 hb2)
  clear k1 m1 o1 b1 hb2 r0 r1
  have r0 := HK.out.get 0 rfl
  have r1 := HK.out.get 1 rfl
  have r2 := HM.out.get 1 rfl
  have hpos : 0 < L.length := List.length_pos_iff.2 hne
  clear hne
  go_wp2_with (fail)
  refine wp_gen3 (fun W => AtL W (w.heap.size + 1) [.int .i64 c, .int .i64 4] ∧ Below w.heap.size w W ∧ Pow W) ⟨HK.out, HB.out, HT.out.on HB.out⟩ (fun W hW => ?_)
  obtain ⟨hk, hb, ht⟩ := hW
  have HK2 := Lib.hid (fun W' (hW : Below W.heap.size W W') => hk.on hW)
  have HB2 := Lib.hid hb
  have HT2 := Lib.hid ht
  clear hk hb ht HK HM HO HB HT r0 r1 r2
  refine wp_region_noPanic ?_
  refine wp_region_held_drew (S := fun W' => Below (W).heap.size (W) W') (by kernel_rfl) (below_drewN (Below.refl _ _) 1) (fun hHeld => ?_)
  refine takeR 0 46 (.pointer (some ⟨w.heap.size + 1, 0, none⟩)) (by kernel_rfl) (by kernel_rfl) (by kernel_rfl) (by kernel_rfl) (fun _ _ _ h => h) (by kernel_rfl) (fun w o hSw ho => ?_) hHeld ?_
  · obtain rfl := Option.some.inj ho; go_simp
  simp only [Act.put, List.setIfInBounds_toArray, List.set_cons_zero, List.set_cons_succ]
  refine takeR 3 49 (.pointer (some ⟨w.heap.size + 1, 1, none⟩)) (by kernel_rfl) (by kernel_rfl) (by kernel_rfl) (by kernel_rfl) (fun _ _ _ h => h) (by kernel_rfl) (fun w o hSw ho => ?_) hHeld ?_
  · obtain rfl := Option.some.inj ho; go_simp
  simp only [Act.put, List.setIfInBounds_toArray, List.set_cons_zero, List.set_cons_succ]
  refine takeR 1 47 (.int .i64 c) (by kernel_rfl) (by kernel_rfl) (by kernel_rfl) (by kernel_rfl) (fun _ _ _ h => h) (by kernel_rfl) (fun w o hSw ho => ?_) hHeld ?_
  · obtain rfl := Option.some.inj ho; have r0 := (HK2.out _ hSw).get 0 rfl; go_simp
  simp only [Act.put, List.setIfInBounds_toArray, List.set_cons_zero, List.set_cons_succ]
  refine takeR 4 50 (.int .i64 4) (by kernel_rfl) (by kernel_rfl) (by kernel_rfl) (by kernel_rfl) (fun _ _ _ h => h) (by kernel_rfl) (fun w o hSw ho => ?_) hHeld ?_
  · obtain rfl := Option.some.inj ho; have r1 := (HK2.out _ hSw).get 1 rfl; go_simp
  simp only [Act.put, List.setIfInBounds_toArray, List.set_cons_zero, List.set_cons_succ]
  refine takeR 5 51 (.int .i64 5) (by kernel_rfl) (by kernel_rfl) (by kernel_rfl) (by kernel_rfl) (fun _ _ _ h => h) (by kernel_rfl) (fun w o hSw ho => ?_) hHeld ?_
  · obtain rfl := Option.some.inj ho; go_simp; rfl
  simp only [Act.put, List.setIfInBounds_toArray, List.set_cons_zero, List.set_cons_succ]
  refine oneR 2 (by kernel_rfl) (by kernel_rfl) (fun o ho K' hK => ?_)
  obtain rfl := Option.some.inj ho
  clear ho
  go_simp
  refine (HPK.out _).mono ?_
  rintro e V1 ⟨rfl, rfl⟩
  go_wp2_with fail
  refine hK.out _ _ (hHeld) (fun hHeld => ?_)
  clear hK K'
  try simp only [Act.put, List.setIfInBounds_toArray, List.set_cons_zero, List.set_cons_succ]
  have HV1 := Lib.hid hHeld
  refine oneR 6 (by kernel_rfl) (by kernel_rfl) (fun o ho K' hK => ?_)
  obtain rfl := Option.some.inj ho
  clear ho
  go_simp
  refine hK.out _ _ (below_on hHeld (below_mk _ _)) (fun hHeld => ?_)
  clear hK K'
  try simp only [Act.put, List.setIfInBounds_toArray, List.set_cons_zero, List.set_cons_succ]
  refine oneR 7 (by kernel_rfl) (by kernel_rfl) (fun o ho K' hK => ?_)
  obtain rfl := Option.some.inj ho
  clear ho
  go_simp
  refine (HSL.out _ (HT2.out.on HV1.out) _ rfl).mono ?_
  rintro e V2 ⟨v2, rfl, ho2, hb2⟩
  have HV2 := Lib.hid (below_on hHeld hb2)
  have HE := Lib.hid (own_low ho2 (below_on HB2.out HV2.out) (by have h1 := HB2.out.size; have h2 := HV1.out.size; simp at h2 ⊢; omega))
  clear ho2 hb2 hHeld
  go_wp2_with fail
  refine hK.out _ _ (HV2.out) (fun hHeld => ?_)
  clear hK K'
  try simp only [Act.put, List.setIfInBounds_toArray, List.set_cons_zero, List.set_cons_succ]
  refine takeR 8 4 (v2) (by kernel_rfl) (by kernel_rfl) (by kernel_rfl) (by kernel_rfl) (fun _ _ _ h => h) (by kernel_rfl) (fun w o hSw ho => ?_) hHeld ?_
  · obtain rfl := Option.some.inj ho; go_simp
  simp only [Act.put, List.setIfInBounds_toArray, List.set_cons_zero, List.set_cons_succ]
  refine wpAnyH_done (by kernel_rfl) ?_ _
  refine NoPanic.normal ?_
  go_wp2_with fail
  go_ret
  exact HE.out

set_option maxRecDepth 100000 in
set_option maxHeartbeats 4000000 in
theorem typed_st_5 (cu : Bool) (mo : Int) (sg pa : Bool) (c : Int) (hs : special c = true) (w : World) (hT : Pow w) (h : Typed c 5) :
    Calls Tryz.prog 57 #[.agg #[.bool cu, .bool true, .int .i64 mo, .bool sg, .bool pa], .agg #[.int .i64 c, .int .i64 5]] w (NewOwn w (typedE true c 5)) := by
  have hne : plainE c 5 ≠ [] := by
    unfold plainE
    rw [if_pos hs]
    simp
  have hh : plainE c 5 = [] ∨ ((5 : Int) ≠ 0 ∧ (special c = true ∨ (5 : Int) ≠ 4)) := .inr ⟨by omega, .inl hs⟩
  have HC := Lib.hid (typedE_coded hh (.inl (by omega)))
  rw [HC.out]
  clear HC hh
  have HSL := Lib.hid (fun (W : World) (hW : Pow W) g hg => sequence_lit false #[.int .i64 (codeE c), .int .i64 6] [codeE c, 6] 117 2 W 2 g hg rfl rfl hW (inNum2 h.code.1 h.code.2.1 (by omega) (by omega)) (by simp) (by omega) (by omega))
  have HPK := Lib.hid (fun W => pointOfKey_any c W)
  rw [show byteE 117 = 117 from rfl] at HSL
  rw [show (5 : Int) + 1 = 6 from rfl]
  have hll := plain_len c 5
  have HP := Lib.hid (fun W => plainBytes_any c 5 W h)
  have hcode := h.code
  generalize plainE c 5 = L at *
  have HT := Lib.hid hT
  clear hT
  go_enter Tryz.func57, Tryz.ntmps57
  go_wp2_with fail
  refine (HP.out _).mono ?_
  rintro e w1 ⟨v, rfl, ho, hb⟩
  obtain ⟨p1, c1, hv⟩ := ho.slice
  subst hv
  have k1 := (AtL.new (w.alloc (.cells #[.bool cu, .bool true, .int .i64 mo, .bool sg, .bool pa] 29)) [.int .i64 c, .int .i64 5] 66).on hb
  rw [World.size_alloc] at k1
  have m1 := ((AtL.new w [.bool cu, .bool true, .int .i64 mo, .bool sg, .bool pa] 29).on (below_mk _ (.cells #[.int .i64 c, .int .i64 5] 66))).on hb
  have b1 := below_on (below_on (below_mk w (.cells #[.bool cu, .bool true, .int .i64 mo, .bool sg, .bool pa] 29)) (below_mk _ (.cells #[.int .i64 c, .int .i64 5] 66))) hb
  have o1 := ho.lower (base' := w.heap.size) (by simp; omega)
  have r0 := k1.get 0 rfl
  have r1 := k1.get 1 rfl
  clear ho hb HP
  go_wp2_with fail
  refine (implIsSpecial_any c _).mono ?_
  rintro e w2 ⟨rfl, hb2⟩
  rw [hs]
  have HK := Lib.hid (k1.on hb2)
  have HM := Lib.hid (m1.on hb2)
  have HO := Lib.hid (o1.on hb2)
  have HB := Lib.hid (below_on b1 hb2)
  clear k1 m1 o1 b1 hb2 r0 r1
  have r0 := HK.out.get 0 rfl
  have r1 := HK.out.get 1 rfl
  have r2 := HM.out.get 1 rfl
  have hpos : 0 < L.length := List.length_pos_iff.2 hne
  clear hne
  go_wp2_with (fail)
  refine wp_gen3 (fun W => AtL W (w.heap.size + 1) [.int .i64 c, .int .i64 5] ∧ Below w.heap.size w W ∧ Pow W) ⟨HK.out, HB.out, HT.out.on HB.out⟩ (fun W hW => ?_)
  obtain ⟨hk, hb, ht⟩ := hW
  have HK2 := Lib.hid (fun W' (hW : Below W.heap.size W W') => hk.on hW)
  have HB2 := Lib.hid hb
  have HT2 := Lib.hid ht
  clear hk hb ht HK HM HO HB HT r0 r1 r2
  refine wp_region_noPanic ?_
  refine wp_region_held_drew (S := fun W' => Below (W).heap.size (W) W') (by kernel_rfl) (below_drewN (Below.refl _ _) 1) (fun hHeld => ?_)
  refine takeR 0 46 (.pointer (some ⟨w.heap.size + 1, 0, none⟩)) (by kernel_rfl) (by kernel_rfl) (by kernel_rfl) (by kernel_rfl) (fun _ _ _ h => h) (by kernel_rfl) (fun w o hSw ho => ?_) hHeld ?_
  · obtain rfl := Option.some.inj ho; go_simp
  simp only [Act.put, List.setIfInBounds_toArray, List.set_cons_zero, List.set_cons_succ]
  refine takeR 3 49 (.pointer (some ⟨w.heap.size + 1, 1, none⟩)) (by kernel_rfl) (by kernel_rfl) (by kernel_rfl) (by kernel_rfl) (fun _ _ _ h => h) (by kernel_rfl) (fun w o hSw ho => ?_) hHeld ?_
  · obtain rfl := Option.some.inj ho; go_simp
  simp only [Act.put, List.setIfInBounds_toArray, List.set_cons_zero, List.set_cons_succ]
  refine takeR 1 47 (.int .i64 c) (by kernel_rfl) (by kernel_rfl) (by kernel_rfl) (by kernel_rfl) (fun _ _ _ h => h) (by kernel_rfl) (fun w o hSw ho => ?_) hHeld ?_
  · obtain rfl := Option.some.inj ho; have r0 := (HK2.out _ hSw).get 0 rfl; go_simp
  simp only [Act.put, List.setIfInBounds_toArray, List.set_cons_zero, List.set_cons_succ]
  refine takeR 4 50 (.int .i64 5) (by kernel_rfl) (by kernel_rfl) (by kernel_rfl) (by kernel_rfl) (fun _ _ _ h => h) (by kernel_rfl) (fun w o hSw ho => ?_) hHeld ?_
  · obtain rfl := Option.some.inj ho; have r1 := (HK2.out _ hSw).get 1 rfl; go_simp
  simp only [Act.put, List.setIfInBounds_toArray, List.set_cons_zero, List.set_cons_succ]
  refine takeR 5 51 (.int .i64 6) (by kernel_rfl) (by kernel_rfl) (by kernel_rfl) (by kernel_rfl) (fun _ _ _ h => h) (by kernel_rfl) (fun w o hSw ho => ?_) hHeld ?_
  · obtain rfl := Option.some.inj ho; go_simp; rfl
  simp only [Act.put, List.setIfInBounds_toArray, List.set_cons_zero, List.set_cons_succ]
  refine oneR 2 (by kernel_rfl) (by kernel_rfl) (fun o ho K' hK => ?_)
  obtain rfl := Option.some.inj ho
  clear ho
  go_simp
  refine (HPK.out _).mono ?_
  rintro e V1 ⟨rfl, rfl⟩
  go_wp2_with fail
  refine hK.out _ _ (hHeld) (fun hHeld => ?_)
  clear hK K'
  try simp only [Act.put, List.setIfInBounds_toArray, List.set_cons_zero, List.set_cons_succ]
  have HV1 := Lib.hid hHeld
  refine oneR 6 (by kernel_rfl) (by kernel_rfl) (fun o ho K' hK => ?_)
  obtain rfl := Option.some.inj ho
  clear ho
  go_simp
  refine hK.out _ _ (below_on hHeld (below_mk _ _)) (fun hHeld => ?_)
  clear hK K'
  try simp only [Act.put, List.setIfInBounds_toArray, List.set_cons_zero, List.set_cons_succ]
  refine oneR 7 (by kernel_rfl) (by kernel_rfl) (fun o ho K' hK => ?_)
  obtain rfl := Option.some.inj ho
  clear ho
  go_simp
  refine (HSL.out _ (HT2.out.on HV1.out) _ rfl).mono ?_
  rintro e V2 ⟨v2, rfl, ho2, hb2⟩
  have HV2 := Lib.hid (below_on hHeld hb2)
  have HE := Lib.hid (own_low ho2 (below_on HB2.out HV2.out) (by have h1 := HB2.out.size; have h2 := HV1.out.size; simp at h2 ⊢; omega))
  clear ho2 hb2 hHeld
  go_wp2_with fail
  refine hK.out _ _ (HV2.out) (fun hHeld => ?_)
  clear hK K'
  try simp only [Act.put, List.setIfInBounds_toArray, List.set_cons_zero, List.set_cons_succ]
  refine takeR 8 4 (v2) (by kernel_rfl) (by kernel_rfl) (by kernel_rfl) (by kernel_rfl) (fun _ _ _ h => h) (by kernel_rfl) (fun w o hSw ho => ?_) hHeld ?_
  · obtain rfl := Option.some.inj ho; go_simp
  simp only [Act.put, List.setIfInBounds_toArray, List.set_cons_zero, List.set_cons_succ]
  refine wpAnyH_done (by kernel_rfl) ?_ _
  refine NoPanic.normal ?_
  go_wp2_with fail
  go_ret
  exact HE.out

set_option maxRecDepth 100000 in
set_option maxHeartbeats 4000000 in
theorem typed_st_6 (cu : Bool) (mo : Int) (sg pa : Bool) (c : Int) (hs : special c = true) (w : World) (hT : Pow w) (h : Typed c 6) :
    Calls Tryz.prog 57 #[.agg #[.bool cu, .bool true, .int .i64 mo, .bool sg, .bool pa], .agg #[.int .i64 c, .int .i64 6]] w (NewOwn w (typedE true c 6)) := by
  have hne : plainE c 6 ≠ [] := by
    unfold plainE
    rw [if_pos hs]
    simp
  have hh : plainE c 6 = [] ∨ ((6 : Int) ≠ 0 ∧ (special c = true ∨ (6 : Int) ≠ 4)) := .inr ⟨by omega, .inl hs⟩
  have HC := Lib.hid (typedE_coded hh (.inl (by omega)))
  rw [HC.out]
  clear HC hh
  have HSL := Lib.hid (fun (W : World) (hW : Pow W) g hg => sequence_lit false #[.int .i64 (codeE c), .int .i64 7] [codeE c, 7] 117 2 W 2 g hg rfl rfl hW (inNum2 h.code.1 h.code.2.1 (by omega) (by omega)) (by simp) (by omega) (by omega))
  have HPK := Lib.hid (fun W => pointOfKey_any c W)
  rw [show byteE 117 = 117 from rfl] at HSL
  rw [show (6 : Int) + 1 = 7 from rfl]
  have hll := plain_len c 6
  have HP := Lib.hid (fun W => plainBytes_any c 6 W h)
  have hcode := h.code
  generalize plainE c 6 = L at *
  have HT := Lib.hid hT
  clear hT
  go_enter Tryz.func57, Tryz.ntmps57
  go_wp2_with fail
  refine (HP.out _).mono ?_
  rintro e w1 ⟨v, rfl, ho, hb⟩
  obtain ⟨p1, c1, hv⟩ := ho.slice
  subst hv
  have k1 := (AtL.new (w.alloc (.cells #[.bool cu, .bool true, .int .i64 mo, .bool sg, .bool pa] 29)) [.int .i64 c, .int .i64 6] 66).on hb
  rw [World.size_alloc] at k1
  have m1 := ((AtL.new w [.bool cu, .bool true, .int .i64 mo, .bool sg, .bool pa] 29).on (below_mk _ (.cells #[.int .i64 c, .int .i64 6] 66))).on hb
  have b1 := below_on (below_on (below_mk w (.cells #[.bool cu, .bool true, .int .i64 mo, .bool sg, .bool pa] 29)) (below_mk _ (.cells #[.int .i64 c, .int .i64 6] 66))) hb
  have o1 := ho.lower (base' := w.heap.size) (by simp; omega)
  have r0 := k1.get 0 rfl
  have r1 := k1.get 1 rfl
  clear ho hb HP
  go_wp2_with fail
  refine (implIsSpecial_any c _).mono ?_
  rintro e w2 ⟨rfl, hb2⟩
  rw [hs]
  have HK := Lib.hid (k1.on hb2)
  have HM := Lib.hid (m1.on hb2)
  have HO := Lib.hid (o1.on hb2)
  have HB := Lib.hid (below_on b1 hb2)
  clear k1 m1 o1 b1 hb2 r0 r1
  have r0 := HK.out.get 0 rfl
  have r1 := HK.out.get 1 rfl
  have r2 := HM.out.get 1 rfl
  have hpos : 0 < L.length := List.length_pos_iff.2 hne
  clear hne
  go_wp2_with (fail)
  refine wp_gen3 (fun W => AtL W (w.heap.size + 1) [.int .i64 c, .int .i64 6] ∧ Below w.heap.size w W ∧ Pow W) ⟨HK.out, HB.out, HT.out.on HB.out⟩ (fun W hW => ?_)
  obtain ⟨hk, hb, ht⟩ := hW
  have HK2 := Lib.hid (fun W' (hW : Below W.heap.size W W') => hk.on hW)
  have HB2 := Lib.hid hb
  have HT2 := Lib.hid ht
  clear hk hb ht HK HM HO HB HT r0 r1 r2
  refine wp_region_noPanic ?_
  refine wp_region_held_drew (S := fun W' => Below (W).heap.size (W) W') (by kernel_rfl) (below_drewN (Below.refl _ _) 1) (fun hHeld => ?_)
  refine takeR 0 46 (.pointer (some ⟨w.heap.size + 1, 0, none⟩)) (by kernel_rfl) (by kernel_rfl) (by kernel_rfl) (by kernel_rfl) (fun _ _ _ h => h) (by kernel_rfl) (fun w o hSw ho => ?_) hHeld ?_
  · obtain rfl := Option.some.inj ho; go_simp
  simp only [Act.put, List.setIfInBounds_toArray, List.set_cons_zero, List.set_cons_succ]
  refine takeR 3 49 (.pointer (some ⟨w.heap.size + 1, 1, none⟩)) (by kernel_rfl) (by kernel_rfl) (by kernel_rfl) (by kernel_rfl) (fun _ _ _ h => h) (by kernel_rfl) (fun w o hSw ho => ?_) hHeld ?_
  · obtain rfl := Option.some.inj ho; go_simp
  simp only [Act.put, List.setIfInBounds_toArray, List.set_cons_zero, List.set_cons_succ]
  refine takeR 1 47 (.int .i64 c) (by kernel_rfl) (by kernel_rfl) (by kernel_rfl) (by kernel_rfl) (fun _ _ _ h => h) (by kernel_rfl) (fun w o hSw ho => ?_) hHeld ?_
  · obtain rfl := Option.some.inj ho; have r0 := (HK2.out _ hSw).get 0 rfl; go_simp
  simp only [Act.put, List.setIfInBounds_toArray, List.set_cons_zero, List.set_cons_succ]
  refine takeR 4 50 (.int .i64 6) (by kernel_rfl) (by kernel_rfl) (by kernel_rfl) (by kernel_rfl) (fun _ _ _ h => h) (by kernel_rfl) (fun w o hSw ho => ?_) hHeld ?_
  · obtain rfl := Option.some.inj ho; have r1 := (HK2.out _ hSw).get 1 rfl; go_simp
  simp only [Act.put, List.setIfInBounds_toArray, List.set_cons_zero, List.set_cons_succ]
  refine takeR 5 51 (.int .i64 7) (by kernel_rfl) (by kernel_rfl) (by kernel_rfl) (by kernel_rfl) (fun _ _ _ h => h) (by kernel_rfl) (fun w o hSw ho => ?_) hHeld ?_
  · obtain rfl := Option.some.inj ho; go_simp; rfl
  simp only [Act.put, List.setIfInBounds_toArray, List.set_cons_zero, List.set_cons_succ]
  refine oneR 2 (by kernel_rfl) (by kernel_rfl) (fun o ho K' hK => ?_)
  obtain rfl := Option.some.inj ho
  clear ho
  go_simp
  refine (HPK.out _).mono ?_
  rintro e V1 ⟨rfl, rfl⟩
  go_wp2_with fail
  refine hK.out _ _ (hHeld) (fun hHeld => ?_)
  clear hK K'
  try simp only [Act.put, List.setIfInBounds_toArray, List.set_cons_zero, List.set_cons_succ]
  have HV1 := Lib.hid hHeld
  refine oneR 6 (by kernel_rfl) (by kernel_rfl) (fun o ho K' hK => ?_)
  obtain rfl := Option.some.inj ho
  clear ho
  go_simp
  refine hK.out _ _ (below_on hHeld (below_mk _ _)) (fun hHeld => ?_)
  clear hK K'
  try simp only [Act.put, List.setIfInBounds_toArray, List.set_cons_zero, List.set_cons_succ]
  refine oneR 7 (by kernel_rfl) (by kernel_rfl) (fun o ho K' hK => ?_)
  obtain rfl := Option.some.inj ho
  clear ho
  go_simp
  refine (HSL.out _ (HT2.out.on HV1.out) _ rfl).mono ?_
  rintro e V2 ⟨v2, rfl, ho2, hb2⟩
  have HV2 := Lib.hid (below_on hHeld hb2)
  have HE := Lib.hid (own_low ho2 (below_on HB2.out HV2.out) (by have h1 := HB2.out.size; have h2 := HV1.out.size; simp at h2 ⊢; omega))
  clear ho2 hb2 hHeld
  go_wp2_with fail
  refine hK.out _ _ (HV2.out) (fun hHeld => ?_)
  clear hK K'
  try simp only [Act.put, List.setIfInBounds_toArray, List.set_cons_zero, List.set_cons_succ]
  refine takeR 8 4 (v2) (by kernel_rfl) (by kernel_rfl) (by kernel_rfl) (by kernel_rfl) (fun _ _ _ h => h) (by kernel_rfl) (fun w o hSw ho => ?_) hHeld ?_
  · obtain rfl := Option.some.inj ho; go_simp
  simp only [Act.put, List.setIfInBounds_toArray, List.set_cons_zero, List.set_cons_succ]
  refine wpAnyH_done (by kernel_rfl) ?_ _
  refine NoPanic.normal ?_
  go_wp2_with fail
  go_ret
  exact HE.out

set_option maxRecDepth 100000 in
set_option maxHeartbeats 4000000 in
theorem typed_st_7 (cu : Bool) (mo : Int) (sg pa : Bool) (c : Int) (hs : special c = true) (w : World) (hT : Pow w) (h : Typed c 7) :
    Calls Tryz.prog 57 #[.agg #[.bool cu, .bool true, .int .i64 mo, .bool sg, .bool pa], .agg #[.int .i64 c, .int .i64 7]] w (NewOwn w (typedE true c 7)) := by
  have hne : plainE c 7 ≠ [] := by
    unfold plainE
    rw [if_pos hs]
    simp
  have hh : plainE c 7 = [] ∨ ((7 : Int) ≠ 0 ∧ (special c = true ∨ (7 : Int) ≠ 4)) := .inr ⟨by omega, .inl hs⟩
  have HC := Lib.hid (typedE_coded hh (.inl (by omega)))
  rw [HC.out]
  clear HC hh
  have HSL := Lib.hid (fun (W : World) (hW : Pow W) g hg => sequence_lit false #[.int .i64 (codeE c), .int .i64 8] [codeE c, 8] 117 2 W 2 g hg rfl rfl hW (inNum2 h.code.1 h.code.2.1 (by omega) (by omega)) (by simp) (by omega) (by omega))
  have HPK := Lib.hid (fun W => pointOfKey_any c W)
  rw [show byteE 117 = 117 from rfl] at HSL
  rw [show (7 : Int) + 1 = 8 from rfl]
  have hll := plain_len c 7
  have HP := Lib.hid (fun W => plainBytes_any c 7 W h)
  have hcode := h.code
  generalize plainE c 7 = L at *
  have HT := Lib.hid hT
  clear hT
  go_enter Tryz.func57, Tryz.ntmps57
  go_wp2_with fail
  refine (HP.out _).mono ?_
  rintro e w1 ⟨v, rfl, ho, hb⟩
  obtain ⟨p1, c1, hv⟩ := ho.slice
  subst hv
  have k1 := (AtL.new (w.alloc (.cells #[.bool cu, .bool true, .int .i64 mo, .bool sg, .bool pa] 29)) [.int .i64 c, .int .i64 7] 66).on hb
  rw [World.size_alloc] at k1
  have m1 := ((AtL.new w [.bool cu, .bool true, .int .i64 mo, .bool sg, .bool pa] 29).on (below_mk _ (.cells #[.int .i64 c, .int .i64 7] 66))).on hb
  have b1 := below_on (below_on (below_mk w (.cells #[.bool cu, .bool true, .int .i64 mo, .bool sg, .bool pa] 29)) (below_mk _ (.cells #[.int .i64 c, .int .i64 7] 66))) hb
  have o1 := ho.lower (base' := w.heap.size) (by simp; omega)
  have r0 := k1.get 0 rfl
  have r1 := k1.get 1 rfl
  clear ho hb HP
  go_wp2_with fail
  refine (implIsSpecial_any c _).mono ?_
  rintro e w2 ⟨rfl, hb2⟩
  rw [hs]
  have HK := Lib.hid (k1.on hb2)
  have HM := Lib.hid (m1.on hb2)
  have HO := Lib.hid (o1.on hb2)
  have HB := Lib.hid (below_on b1 hb2)
  clear k1 m1 o1 b1 hb2 r0 r1
  have r0 := HK.out.get 0 rfl
  have r1 := HK.out.get 1 rfl
  have r2 := HM.out.get 1 rfl
  have hpos : 0 < L.length := List.length_pos_iff.2 hne
  clear hne
  go_wp2_with (fail)
  refine wp_gen3 (fun W => AtL W (w.heap.size + 1) [.int .i64 c, .int .i64 7] ∧ Below w.heap.size w W ∧ Pow W) ⟨HK.out, HB.out, HT.out.on HB.out⟩ (fun W hW => ?_)
  obtain ⟨hk, hb, ht⟩ := hW
  have HK2 := Lib.hid (fun W' (hW : Below W.heap.size W W') => hk.on hW)
  have HB2 := Lib.hid hb
  have HT2 := Lib.hid ht
  clear hk hb ht HK HM HO HB HT r0 r1 r2
  refine wp_region_noPanic ?_
  refine wp_region_held_drew (S := fun W' => Below (W).heap.size (W) W') (by kernel_rfl) (below_drewN (Below.refl _ _) 1) (fun hHeld => ?_)
  refine takeR 0 46 (.pointer (some ⟨w.heap.size + 1, 0, none⟩)) (by kernel_rfl) (by kernel_rfl) (by kernel_rfl) (by kernel_rfl) (fun _ _ _ h => h) (by kernel_rfl) (fun w o hSw ho => ?_) hHeld ?_
  · obtain rfl := Option.some.inj ho; go_simp
  simp only [Act.put, List.setIfInBounds_toArray, List.set_cons_zero, List.set_cons_succ]
  refine takeR 3 49 (.pointer (some ⟨w.heap.size + 1, 1, none⟩)) (by kernel_rfl) (by kernel_rfl) (by kernel_rfl) (by kernel_rfl) (fun _ _ _ h => h) (by kernel_rfl) (fun w o hSw ho => ?_) hHeld ?_
  · obtain rfl := Option.some.inj ho; go_simp
  simp only [Act.put, List.setIfInBounds_toArray, List.set_cons_zero, List.set_cons_succ]
  refine takeR 1 47 (.int .i64 c) (by kernel_rfl) (by kernel_rfl) (by kernel_rfl) (by kernel_rfl) (fun _ _ _ h => h) (by kernel_rfl) (fun w o hSw ho => ?_) hHeld ?_
  · obtain rfl := Option.some.inj ho; have r0 := (HK2.out _ hSw).get 0 rfl; go_simp
  simp only [Act.put, List.setIfInBounds_toArray, List.set_cons_zero, List.set_cons_succ]
  refine takeR 4 50 (.int .i64 7) (by kernel_rfl) (by kernel_rfl) (by kernel_rfl) (by kernel_rfl) (fun _ _ _ h => h) (by kernel_rfl) (fun w o hSw ho => ?_) hHeld ?_
  · obtain rfl := Option.some.inj ho; have r1 := (HK2.out _ hSw).get 1 rfl; go_simp
  simp only [Act.put, List.setIfInBounds_toArray, List.set_cons_zero, List.set_cons_succ]
  refine takeR 5 51 (.int .i64 8) (by kernel_rfl) (by kernel_rfl) (by kernel_rfl) (by kernel_rfl) (fun _ _ _ h => h) (by kernel_rfl) (fun w o hSw ho => ?_) hHeld ?_
  · obtain rfl := Option.some.inj ho; go_simp; rfl
  simp only [Act.put, List.setIfInBounds_toArray, List.set_cons_zero, List.set_cons_succ]
  refine oneR 2 (by kernel_rfl) (by kernel_rfl) (fun o ho K' hK => ?_)
  obtain rfl := Option.some.inj ho
  clear ho
  go_simp
  refine (HPK.out _).mono ?_
  rintro e V1 ⟨rfl, rfl⟩
  go_wp2_with fail
  refine hK.out _ _ (hHeld) (fun hHeld => ?_)
  clear hK K'
  try simp only [Act.put, List.setIfInBounds_toArray, List.set_cons_zero, List.set_cons_succ]
  have HV1 := Lib.hid hHeld
  refine oneR 6 (by kernel_rfl) (by kernel_rfl) (fun o ho K' hK => ?_)
  obtain rfl := Option.some.inj ho
  clear ho
  go_simp
  refine hK.out _ _ (below_on hHeld (below_mk _ _)) (fun hHeld => ?_)
  clear hK K'
  try simp only [Act.put, List.setIfInBounds_toArray, List.set_cons_zero, List.set_cons_succ]
  refine oneR 7 (by kernel_rfl) (by kernel_rfl) (fun o ho K' hK => ?_)
  obtain rfl := Option.some.inj ho
  clear ho
  go_simp
  refine (HSL.out _ (HT2.out.on HV1.out) _ rfl).mono ?_
  rintro e V2 ⟨v2, rfl, ho2, hb2⟩
  have HV2 := Lib.hid (below_on hHeld hb2)
  have HE := Lib.hid (own_low ho2 (below_on HB2.out HV2.out) (by have h1 := HB2.out.size; have h2 := HV1.out.size; simp at h2 ⊢; omega))
  clear ho2 hb2 hHeld
  go_wp2_with fail
  refine hK.out _ _ (HV2.out) (fun hHeld => ?_)
  clear hK K'
  try simp only [Act.put, List.setIfInBounds_toArray, List.set_cons_zero, List.set_cons_succ]
  refine takeR 8 4 (v2) (by kernel_rfl) (by kernel_rfl) (by kernel_rfl) (by kernel_rfl) (fun _ _ _ h => h) (by kernel_rfl) (fun w o hSw ho => ?_) hHeld ?_
  · obtain rfl := Option.some.inj ho; go_simp
  simp only [Act.put, List.setIfInBounds_toArray, List.set_cons_zero, List.set_cons_succ]
  refine wpAnyH_done (by kernel_rfl) ?_ _
  refine NoPanic.normal ?_
  go_wp2_with fail
  go_ret
  exact HE.out

set_option maxRecDepth 100000 in
set_option maxHeartbeats 4000000 in
theorem typed_nt_2 (cu : Bool) (mo : Int) (sg pa : Bool) (c : Int) (hs : special c = false) (h127 : 126 < c) (w : World) (hT : Pow w) (h : Typed c 2) :
    Calls Tryz.prog 57 #[.agg #[.bool cu, .bool true, .int .i64 mo, .bool sg, .bool pa], .agg #[.int .i64 c, .int .i64 2]] w (NewOwn w (typedE true c 2)) := by
  have hne : plainE c 2 ≠ [] := by
    unfold plainE
    rw [if_neg (by simp [hs])]
    rw [if_pos (.inr rfl)]
    exact putB_ne c
  have hh : plainE c 2 = [] ∨ ((2 : Int) ≠ 0 ∧ (special c = true ∨ (2 : Int) ≠ 4)) := .inr ⟨by omega, .inr (by omega)⟩
  have hin : inR c 32 126 = false := by simp [inR]; omega
  have HC := Lib.hid (typedE_coded hh (.inr h127))
  rw [HC.out]
  clear HC hh
  have HSL := Lib.hid (fun (W : World) (hW : Pow W) g hg => sequence_lit false #[.int .i64 (codeE c), .int .i64 3] [codeE c, 3] 117 2 W 2 g hg rfl rfl hW (inNum2 h.code.1 h.code.2.1 (by omega) (by omega)) (by simp) (by omega) (by omega))
  have HPK := Lib.hid (fun W => pointOfKey_any c W)
  rw [show byteE 117 = 117 from rfl] at HSL
  rw [show (2 : Int) + 1 = 3 from rfl]
  have hll := plain_len c 2
  have HP := Lib.hid (fun W => plainBytes_any c 2 W h)
  have hcode := h.code
  generalize plainE c 2 = L at *
  have HT := Lib.hid hT
  clear hT
  go_enter Tryz.func57, Tryz.ntmps57
  go_wp2_with fail
  refine (HP.out _).mono ?_
  rintro e w1 ⟨v, rfl, ho, hb⟩
  obtain ⟨p1, c1, hv⟩ := ho.slice
  subst hv
  have k1 := (AtL.new (w.alloc (.cells #[.bool cu, .bool true, .int .i64 mo, .bool sg, .bool pa] 29)) [.int .i64 c, .int .i64 2] 66).on hb
  rw [World.size_alloc] at k1
  have m1 := ((AtL.new w [.bool cu, .bool true, .int .i64 mo, .bool sg, .bool pa] 29).on (below_mk _ (.cells #[.int .i64 c, .int .i64 2] 66))).on hb
  have b1 := below_on (below_on (below_mk w (.cells #[.bool cu, .bool true, .int .i64 mo, .bool sg, .bool pa] 29)) (below_mk _ (.cells #[.int .i64 c, .int .i64 2] 66))) hb
  have o1 := ho.lower (base' := w.heap.size) (by simp; omega)
  have r0 := k1.get 0 rfl
  have r1 := k1.get 1 rfl
  clear ho hb HP
  go_wp2_with fail
  refine (implIsSpecial_any c _).mono ?_
  rintro e w2 ⟨rfl, hb2⟩
  rw [hs]
  have HK := Lib.hid (k1.on hb2)
  have HM := Lib.hid (m1.on hb2)
  have HO := Lib.hid (o1.on hb2)
  have HB := Lib.hid (below_on b1 hb2)
  clear k1 m1 o1 b1 hb2 r0 r1
  have r0 := HK.out.get 0 rfl
  have r1 := HK.out.get 1 rfl
  have r2 := HM.out.get 1 rfl
  have hpos : 0 < L.length := List.length_pos_iff.2 hne
  clear hne
  have r2 := (HM.out.on (below_mk w2 (.cells #[.int .i64 32, .int .i64 126] 2))).get 1 rfl
  go_wp2_with (go_at_call 62; refine (isWithin_two _ _ _ _ _ _ (by simp)).mono ?_; rintro e w' ⟨rfl, rfl⟩; rw [hin])
  refine wp_gen3 (fun W => AtL W (w.heap.size + 1) [.int .i64 c, .int .i64 2] ∧ Below w.heap.size w W ∧ Pow W) ⟨HK.out.on (below_mk _ _), below_on HB.out (below_mk _ _), HT.out.on (below_on HB.out (below_mk _ _))⟩ (fun W hW => ?_)
  obtain ⟨hk, hb, ht⟩ := hW
  have HK2 := Lib.hid (fun W' (hW : Below W.heap.size W W') => hk.on hW)
  have HB2 := Lib.hid hb
  have HT2 := Lib.hid ht
  clear hk hb ht HK HM HO HB HT r0 r1 r2
  refine wp_region_noPanic ?_
  refine wp_region_held_drew (S := fun W' => Below (W).heap.size (W) W') (by kernel_rfl) (below_drewN (Below.refl _ _) 1) (fun hHeld => ?_)
  refine takeR 0 46 (.pointer (some ⟨w.heap.size + 1, 0, none⟩)) (by kernel_rfl) (by kernel_rfl) (by kernel_rfl) (by kernel_rfl) (fun _ _ _ h => h) (by kernel_rfl) (fun w o hSw ho => ?_) hHeld ?_
  · obtain rfl := Option.some.inj ho; go_simp
  simp only [Act.put, List.setIfInBounds_toArray, List.set_cons_zero, List.set_cons_succ]
  refine takeR 3 49 (.pointer (some ⟨w.heap.size + 1, 1, none⟩)) (by kernel_rfl) (by kernel_rfl) (by kernel_rfl) (by kernel_rfl) (fun _ _ _ h => h) (by kernel_rfl) (fun w o hSw ho => ?_) hHeld ?_
  · obtain rfl := Option.some.inj ho; go_simp
  simp only [Act.put, List.setIfInBounds_toArray, List.set_cons_zero, List.set_cons_succ]
  refine takeR 1 47 (.int .i64 c) (by kernel_rfl) (by kernel_rfl) (by kernel_rfl) (by kernel_rfl) (fun _ _ _ h => h) (by kernel_rfl) (fun w o hSw ho => ?_) hHeld ?_
  · obtain rfl := Option.some.inj ho; have r0 := (HK2.out _ hSw).get 0 rfl; go_simp
  simp only [Act.put, List.setIfInBounds_toArray, List.set_cons_zero, List.set_cons_succ]
  refine takeR 4 50 (.int .i64 2) (by kernel_rfl) (by kernel_rfl) (by kernel_rfl) (by kernel_rfl) (fun _ _ _ h => h) (by kernel_rfl) (fun w o hSw ho => ?_) hHeld ?_
  · obtain rfl := Option.some.inj ho; have r1 := (HK2.out _ hSw).get 1 rfl; go_simp
  simp only [Act.put, List.setIfInBounds_toArray, List.set_cons_zero, List.set_cons_succ]
  refine takeR 5 51 (.int .i64 3) (by kernel_rfl) (by kernel_rfl) (by kernel_rfl) (by kernel_rfl) (fun _ _ _ h => h) (by kernel_rfl) (fun w o hSw ho => ?_) hHeld ?_
  · obtain rfl := Option.some.inj ho; go_simp; rfl
  simp only [Act.put, List.setIfInBounds_toArray, List.set_cons_zero, List.set_cons_succ]
  refine oneR 2 (by kernel_rfl) (by kernel_rfl) (fun o ho K' hK => ?_)
  obtain rfl := Option.some.inj ho
  clear ho
  go_simp
  refine (HPK.out _).mono ?_
  rintro e V1 ⟨rfl, rfl⟩
  go_wp2_with fail
  refine hK.out _ _ (hHeld) (fun hHeld => ?_)
  clear hK K'
  try simp only [Act.put, List.setIfInBounds_toArray, List.set_cons_zero, List.set_cons_succ]
  have HV1 := Lib.hid hHeld
  refine oneR 6 (by kernel_rfl) (by kernel_rfl) (fun o ho K' hK => ?_)
  obtain rfl := Option.some.inj ho
  clear ho
  go_simp
  refine hK.out _ _ (below_on hHeld (below_mk _ _)) (fun hHeld => ?_)
  clear hK K'
  try simp only [Act.put, List.setIfInBounds_toArray, List.set_cons_zero, List.set_cons_succ]
  refine oneR 7 (by kernel_rfl) (by kernel_rfl) (fun o ho K' hK => ?_)
  obtain rfl := Option.some.inj ho
  clear ho
  go_simp
  refine (HSL.out _ (HT2.out.on HV1.out) _ rfl).mono ?_
  rintro e V2 ⟨v2, rfl, ho2, hb2⟩
  have HV2 := Lib.hid (below_on hHeld hb2)
  have HE := Lib.hid (own_low ho2 (below_on HB2.out HV2.out) (by have h1 := HB2.out.size; have h2 := HV1.out.size; simp at h2 ⊢; omega))
  clear ho2 hb2 hHeld
  go_wp2_with fail
  refine hK.out _ _ (HV2.out) (fun hHeld => ?_)
  clear hK K'
  try simp only [Act.put, List.setIfInBounds_toArray, List.set_cons_zero, List.set_cons_succ]
  refine takeR 8 4 (v2) (by kernel_rfl) (by kernel_rfl) (by kernel_rfl) (by kernel_rfl) (fun _ _ _ h => h) (by kernel_rfl) (fun w o hSw ho => ?_) hHeld ?_
  · obtain rfl := Option.some.inj ho; go_simp
  simp only [Act.put, List.setIfInBounds_toArray, List.set_cons_zero, List.set_cons_succ]
  refine wpAnyH_done (by kernel_rfl) ?_ _
  refine NoPanic.normal ?_
  go_wp2_with fail
  go_ret
  exact HE.out

set_option maxRecDepth 100000 in
set_option maxHeartbeats 4000000 in
theorem typed_nt_6 (cu : Bool) (mo : Int) (sg pa : Bool) (c : Int) (hs : special c = false) (hp : ctrlE c ≠ []) (w : World) (hT : Pow w) (h : Typed c 6) :
    Calls Tryz.prog 57 #[.agg #[.bool cu, .bool true, .int .i64 mo, .bool sg, .bool pa], .agg #[.int .i64 c, .int .i64 6]] w (NewOwn w (typedE true c 6)) := by
  have hne : plainE c 6 ≠ [] := by
    unfold plainE
    rw [if_neg (by simp [hs])]
    rw [if_neg (by omega), if_pos (by omega)]
    exact hp
  have hh : plainE c 6 = [] ∨ ((6 : Int) ≠ 0 ∧ (special c = true ∨ (6 : Int) ≠ 4)) := .inr ⟨by omega, .inr (by omega)⟩
  have HC := Lib.hid (typedE_coded hh (.inl (by omega)))
  rw [HC.out]
  clear HC hh
  have HSL := Lib.hid (fun (W : World) (hW : Pow W) g hg => sequence_lit false #[.int .i64 (codeE c), .int .i64 7] [codeE c, 7] 117 2 W 2 g hg rfl rfl hW (inNum2 h.code.1 h.code.2.1 (by omega) (by omega)) (by simp) (by omega) (by omega))
  have HPK := Lib.hid (fun W => pointOfKey_any c W)
  rw [show byteE 117 = 117 from rfl] at HSL
  rw [show (6 : Int) + 1 = 7 from rfl]
  have hll := plain_len c 6
  have HP := Lib.hid (fun W => plainBytes_any c 6 W h)
  have hcode := h.code
  generalize plainE c 6 = L at *
  have HT := Lib.hid hT
  clear hT
  go_enter Tryz.func57, Tryz.ntmps57
  go_wp2_with fail
  refine (HP.out _).mono ?_
  rintro e w1 ⟨v, rfl, ho, hb⟩
  obtain ⟨p1, c1, hv⟩ := ho.slice
  subst hv
  have k1 := (AtL.new (w.alloc (.cells #[.bool cu, .bool true, .int .i64 mo, .bool sg, .bool pa] 29)) [.int .i64 c, .int .i64 6] 66).on hb
  rw [World.size_alloc] at k1
  have m1 := ((AtL.new w [.bool cu, .bool true, .int .i64 mo, .bool sg, .bool pa] 29).on (below_mk _ (.cells #[.int .i64 c, .int .i64 6] 66))).on hb
  have b1 := below_on (below_on (below_mk w (.cells #[.bool cu, .bool true, .int .i64 mo, .bool sg, .bool pa] 29)) (below_mk _ (.cells #[.int .i64 c, .int .i64 6] 66))) hb
  have o1 := ho.lower (base' := w.heap.size) (by simp; omega)
  have r0 := k1.get 0 rfl
  have r1 := k1.get 1 rfl
  clear ho hb HP
  go_wp2_with fail
  refine (implIsSpecial_any c _).mono ?_
  rintro e w2 ⟨rfl, hb2⟩
  rw [hs]
  have HK := Lib.hid (k1.on hb2)
  have HM := Lib.hid (m1.on hb2)
  have HO := Lib.hid (o1.on hb2)
  have HB := Lib.hid (below_on b1 hb2)
  clear k1 m1 o1 b1 hb2 r0 r1
  have r0 := HK.out.get 0 rfl
  have r1 := HK.out.get 1 rfl
  have r2 := HM.out.get 1 rfl
  have hpos : 0 < L.length := List.length_pos_iff.2 hne
  clear hne
  go_wp2_with (fail)
  refine wp_gen3 (fun W => AtL W (w.heap.size + 1) [.int .i64 c, .int .i64 6] ∧ Below w.heap.size w W ∧ Pow W) ⟨HK.out, HB.out, HT.out.on HB.out⟩ (fun W hW => ?_)
  obtain ⟨hk, hb, ht⟩ := hW
  have HK2 := Lib.hid (fun W' (hW : Below W.heap.size W W') => hk.on hW)
  have HB2 := Lib.hid hb
  have HT2 := Lib.hid ht
  clear hk hb ht HK HM HO HB HT r0 r1 r2
  refine wp_region_noPanic ?_
  refine wp_region_held_drew (S := fun W' => Below (W).heap.size (W) W') (by kernel_rfl) (below_drewN (Below.refl _ _) 1) (fun hHeld => ?_)
  refine takeR 0 46 (.pointer (some ⟨w.heap.size + 1, 0, none⟩)) (by kernel_rfl) (by kernel_rfl) (by kernel_rfl) (by kernel_rfl) (fun _ _ _ h => h) (by kernel_rfl) (fun w o hSw ho => ?_) hHeld ?_
  · obtain rfl := Option.some.inj ho; go_simp
  simp only [Act.put, List.setIfInBounds_toArray, List.set_cons_zero, List.set_cons_succ]
  refine takeR 3 49 (.pointer (some ⟨w.heap.size + 1, 1, none⟩)) (by kernel_rfl) (by kernel_rfl) (by kernel_rfl) (by kernel_rfl) (fun _ _ _ h => h) (by kernel_rfl) (fun w o hSw ho => ?_) hHeld ?_
  · obtain rfl := Option.some.inj ho; go_simp
  simp only [Act.put, List.setIfInBounds_toArray, List.set_cons_zero, List.set_cons_succ]
  refine takeR 1 47 (.int .i64 c) (by kernel_rfl) (by kernel_rfl) (by kernel_rfl) (by kernel_rfl) (fun _ _ _ h => h) (by kernel_rfl) (fun w o hSw ho => ?_) hHeld ?_
  · obtain rfl := Option.some.inj ho; have r0 := (HK2.out _ hSw).get 0 rfl; go_simp
  simp only [Act.put, List.setIfInBounds_toArray, List.set_cons_zero, List.set_cons_succ]
  refine takeR 4 50 (.int .i64 6) (by kernel_rfl) (by kernel_rfl) (by kernel_rfl) (by kernel_rfl) (fun _ _ _ h => h) (by kernel_rfl) (fun w o hSw ho => ?_) hHeld ?_
  · obtain rfl := Option.some.inj ho; have r1 := (HK2.out _ hSw).get 1 rfl; go_simp
  simp only [Act.put, List.setIfInBounds_toArray, List.set_cons_zero, List.set_cons_succ]
  refine takeR 5 51 (.int .i64 7) (by kernel_rfl) (by kernel_rfl) (by kernel_rfl) (by kernel_rfl) (fun _ _ _ h => h) (by kernel_rfl) (fun w o hSw ho => ?_) hHeld ?_
  · obtain rfl := Option.some.inj ho; go_simp; rfl
  simp only [Act.put, List.setIfInBounds_toArray, List.set_cons_zero, List.set_cons_succ]
  refine oneR 2 (by kernel_rfl) (by kernel_rfl) (fun o ho K' hK => ?_)
  obtain rfl := Option.some.inj ho
  clear ho
  go_simp
  refine (HPK.out _).mono ?_
  rintro e V1 ⟨rfl, rfl⟩
  go_wp2_with fail
  refine hK.out _ _ (hHeld) (fun hHeld => ?_)
  clear hK K'
  try simp only [Act.put, List.setIfInBounds_toArray, List.set_cons_zero, List.set_cons_succ]
  have HV1 := Lib.hid hHeld
  refine oneR 6 (by kernel_rfl) (by kernel_rfl) (fun o ho K' hK => ?_)
  obtain rfl := Option.some.inj ho
  clear ho
  go_simp
  refine hK.out _ _ (below_on hHeld (below_mk _ _)) (fun hHeld => ?_)
  clear hK K'
  try simp only [Act.put, List.setIfInBounds_toArray, List.set_cons_zero, List.set_cons_succ]
  refine oneR 7 (by kernel_rfl) (by kernel_rfl) (fun o ho K' hK => ?_)
  obtain rfl := Option.some.inj ho
  clear ho
  go_simp
  refine (HSL.out _ (HT2.out.on HV1.out) _ rfl).mono ?_
  rintro e V2 ⟨v2, rfl, ho2, hb2⟩
  have HV2 := Lib.hid (below_on hHeld hb2)
  have HE := Lib.hid (own_low ho2 (below_on HB2.out HV2.out) (by have h1 := HB2.out.size; have h2 := HV1.out.size; simp at h2 ⊢; omega))
  clear ho2 hb2 hHeld
  go_wp2_with fail
  refine hK.out _ _ (HV2.out) (fun hHeld => ?_)
  clear hK K'
  try simp only [Act.put, List.setIfInBounds_toArray, List.set_cons_zero, List.set_cons_succ]
  refine takeR 8 4 (v2) (by kernel_rfl) (by kernel_rfl) (by kernel_rfl) (by kernel_rfl) (fun _ _ _ h => h) (by kernel_rfl) (fun w o hSw ho => ?_) hHeld ?_
  · obtain rfl := Option.some.inj ho; go_simp
  simp only [Act.put, List.setIfInBounds_toArray, List.set_cons_zero, List.set_cons_succ]
  refine wpAnyH_done (by kernel_rfl) ?_ _
  refine NoPanic.normal ?_
  go_wp2_with fail
  go_ret
  exact HE.out

set_option maxRecDepth 100000 in
set_option maxHeartbeats 4000000 in
theorem typed_et_1 (cu : Bool) (mo : Int) (sg pa : Bool) (c : Int) (hs : special c = false) (w : World) (hT : Pow w) (h : Typed c 1) :
    Calls Tryz.prog 57 #[.agg #[.bool cu, .bool true, .int .i64 mo, .bool sg, .bool pa], .agg #[.int .i64 c, .int .i64 1]] w (NewOwn w (typedE true c 1)) := by
  have hne : plainE c 1 = [] := by
    unfold plainE
    rw [if_neg (by simp [hs]), if_neg (by omega)]
    rw [if_neg (by omega)]
  have hh : plainE c 1 = [] ∨ ((1 : Int) ≠ 0 ∧ (special c = true ∨ (1 : Int) ≠ 4)) := .inl hne
  have HC := Lib.hid (typedE_coded hh (.inl (by omega)))
  rw [HC.out]
  clear HC hh
  have HSL := Lib.hid (fun (W : World) (hW : Pow W) g hg => sequence_lit false #[.int .i64 (codeE c), .int .i64 2] [codeE c, 2] 117 2 W 2 g hg rfl rfl hW (inNum2 h.code.1 h.code.2.1 (by omega) (by omega)) (by simp) (by omega) (by omega))
  have HPK := Lib.hid (fun W => pointOfKey_any c W)
  rw [show byteE 117 = 117 from rfl] at HSL
  rw [show (1 : Int) + 1 = 2 from rfl]
  have hll := plain_len c 1
  have HP := Lib.hid (fun W => plainBytes_any c 1 W h)
  have hcode := h.code
  generalize plainE c 1 = L at *
  subst hne
  have HT := Lib.hid hT
  clear hT
  go_enter Tryz.func57, Tryz.ntmps57
  go_wp2_with fail
  refine (HP.out _).mono ?_
  rintro e w1 ⟨v, rfl, ho, hb⟩
  obtain ⟨p1, c1, hv⟩ := ho.slice
  subst hv
  have k1 := (AtL.new (w.alloc (.cells #[.bool cu, .bool true, .int .i64 mo, .bool sg, .bool pa] 29)) [.int .i64 c, .int .i64 1] 66).on hb
  rw [World.size_alloc] at k1
  have m1 := ((AtL.new w [.bool cu, .bool true, .int .i64 mo, .bool sg, .bool pa] 29).on (below_mk _ (.cells #[.int .i64 c, .int .i64 1] 66))).on hb
  have b1 := below_on (below_on (below_mk w (.cells #[.bool cu, .bool true, .int .i64 mo, .bool sg, .bool pa] 29)) (below_mk _ (.cells #[.int .i64 c, .int .i64 1] 66))) hb
  have o1 := ho.lower (base' := w.heap.size) (by simp; omega)
  have r0 := k1.get 0 rfl
  have r1 := k1.get 1 rfl
  clear ho hb HP
  go_wp2_with fail
  refine (implIsSpecial_any c _).mono ?_
  rintro e w2 ⟨rfl, hb2⟩
  rw [hs]
  have HK := Lib.hid (k1.on hb2)
  have HM := Lib.hid (m1.on hb2)
  have HO := Lib.hid (o1.on hb2)
  have HB := Lib.hid (below_on b1 hb2)
  clear k1 m1 o1 b1 hb2 r0 r1
  have r0 := HK.out.get 0 rfl
  have r1 := HK.out.get 1 rfl
  have r2 := HM.out.get 1 rfl
  go_wp2_with (fail)
  refine wp_gen3 (fun W => AtL W (w.heap.size + 1) [.int .i64 c, .int .i64 1] ∧ Below w.heap.size w W ∧ Pow W) ⟨HK.out, HB.out, HT.out.on HB.out⟩ (fun W hW => ?_)
  obtain ⟨hk, hb, ht⟩ := hW
  have HK2 := Lib.hid (fun W' (hW : Below W.heap.size W W') => hk.on hW)
  have HB2 := Lib.hid hb
  have HT2 := Lib.hid ht
  clear hk hb ht HK HM HO HB HT r0 r1 r2
  refine wp_region_noPanic ?_
  refine wp_region_held_drew (S := fun W' => Below (W).heap.size (W) W') (by kernel_rfl) (below_drewN (Below.refl _ _) 1) (fun hHeld => ?_)
  refine takeR 0 46 (.pointer (some ⟨w.heap.size + 1, 0, none⟩)) (by kernel_rfl) (by kernel_rfl) (by kernel_rfl) (by kernel_rfl) (fun _ _ _ h => h) (by kernel_rfl) (fun w o hSw ho => ?_) hHeld ?_
  · obtain rfl := Option.some.inj ho; go_simp
  simp only [Act.put, List.setIfInBounds_toArray, List.set_cons_zero, List.set_cons_succ]
  refine takeR 3 49 (.pointer (some ⟨w.heap.size + 1, 1, none⟩)) (by kernel_rfl) (by kernel_rfl) (by kernel_rfl) (by kernel_rfl) (fun _ _ _ h => h) (by kernel_rfl) (fun w o hSw ho => ?_) hHeld ?_
  · obtain rfl := Option.some.inj ho; go_simp
  simp only [Act.put, List.setIfInBounds_toArray, List.set_cons_zero, List.set_cons_succ]
  refine takeR 1 47 (.int .i64 c) (by kernel_rfl) (by kernel_rfl) (by kernel_rfl) (by kernel_rfl) (fun _ _ _ h => h) (by kernel_rfl) (fun w o hSw ho => ?_) hHeld ?_
  · obtain rfl := Option.some.inj ho; have r0 := (HK2.out _ hSw).get 0 rfl; go_simp
  simp only [Act.put, List.setIfInBounds_toArray, List.set_cons_zero, List.set_cons_succ]
  refine takeR 4 50 (.int .i64 1) (by kernel_rfl) (by kernel_rfl) (by kernel_rfl) (by kernel_rfl) (fun _ _ _ h => h) (by kernel_rfl) (fun w o hSw ho => ?_) hHeld ?_
  · obtain rfl := Option.some.inj ho; have r1 := (HK2.out _ hSw).get 1 rfl; go_simp
  simp only [Act.put, List.setIfInBounds_toArray, List.set_cons_zero, List.set_cons_succ]
  refine takeR 5 51 (.int .i64 2) (by kernel_rfl) (by kernel_rfl) (by kernel_rfl) (by kernel_rfl) (fun _ _ _ h => h) (by kernel_rfl) (fun w o hSw ho => ?_) hHeld ?_
  · obtain rfl := Option.some.inj ho; go_simp; rfl
  simp only [Act.put, List.setIfInBounds_toArray, List.set_cons_zero, List.set_cons_succ]
  refine oneR 2 (by kernel_rfl) (by kernel_rfl) (fun o ho K' hK => ?_)
  obtain rfl := Option.some.inj ho
  clear ho
  go_simp
  refine (HPK.out _).mono ?_
  rintro e V1 ⟨rfl, rfl⟩
  go_wp2_with fail
  refine hK.out _ _ (hHeld) (fun hHeld => ?_)
  clear hK K'
  try simp only [Act.put, List.setIfInBounds_toArray, List.set_cons_zero, List.set_cons_succ]
  have HV1 := Lib.hid hHeld
  refine oneR 6 (by kernel_rfl) (by kernel_rfl) (fun o ho K' hK => ?_)
  obtain rfl := Option.some.inj ho
  clear ho
  go_simp
  refine hK.out _ _ (below_on hHeld (below_mk _ _)) (fun hHeld => ?_)
  clear hK K'
  try simp only [Act.put, List.setIfInBounds_toArray, List.set_cons_zero, List.set_cons_succ]
  refine oneR 7 (by kernel_rfl) (by kernel_rfl) (fun o ho K' hK => ?_)
  obtain rfl := Option.some.inj ho
  clear ho
  go_simp
  refine (HSL.out _ (HT2.out.on HV1.out) _ rfl).mono ?_
  rintro e V2 ⟨v2, rfl, ho2, hb2⟩
  have HV2 := Lib.hid (below_on hHeld hb2)
  have HE := Lib.hid (own_low ho2 (below_on HB2.out HV2.out) (by have h1 := HB2.out.size; have h2 := HV1.out.size; simp at h2 ⊢; omega))
  clear ho2 hb2 hHeld
  go_wp2_with fail
  refine hK.out _ _ (HV2.out) (fun hHeld => ?_)
  clear hK K'
  try simp only [Act.put, List.setIfInBounds_toArray, List.set_cons_zero, List.set_cons_succ]
  refine takeR 8 4 (v2) (by kernel_rfl) (by kernel_rfl) (by kernel_rfl) (by kernel_rfl) (fun _ _ _ h => h) (by kernel_rfl) (fun w o hSw ho => ?_) hHeld ?_
  · obtain rfl := Option.some.inj ho; go_simp
  simp only [Act.put, List.setIfInBounds_toArray, List.set_cons_zero, List.set_cons_succ]
  refine wpAnyH_done (by kernel_rfl) ?_ _
  refine NoPanic.normal ?_
  go_wp2_with fail
  go_ret
  exact HE.out

set_option maxRecDepth 100000 in
set_option maxHeartbeats 4000000 in
theorem typed_et_3 (cu : Bool) (mo : Int) (sg pa : Bool) (c : Int) (hs : special c = false) (w : World) (hT : Pow w) (h : Typed c 3) :
    Calls Tryz.prog 57 #[.agg #[.bool cu, .bool true, .int .i64 mo, .bool sg, .bool pa], .agg #[.int .i64 c, .int .i64 3]] w (NewOwn w (typedE true c 3)) := by
  have hne : plainE c 3 = [] := by
    unfold plainE
    rw [if_neg (by simp [hs]), if_neg (by omega)]
    rw [if_neg (by omega)]
  have hh : plainE c 3 = [] ∨ ((3 : Int) ≠ 0 ∧ (special c = true ∨ (3 : Int) ≠ 4)) := .inl hne
  have HC := Lib.hid (typedE_coded hh (.inl (by omega)))
  rw [HC.out]
  clear HC hh
  have HSL := Lib.hid (fun (W : World) (hW : Pow W) g hg => sequence_lit false #[.int .i64 (codeE c), .int .i64 4] [codeE c, 4] 117 2 W 2 g hg rfl rfl hW (inNum2 h.code.1 h.code.2.1 (by omega) (by omega)) (by simp) (by omega) (by omega))
  have HPK := Lib.hid (fun W => pointOfKey_any c W)
  rw [show byteE 117 = 117 from rfl] at HSL
  rw [show (3 : Int) + 1 = 4 from rfl]
  have hll := plain_len c 3
  have HP := Lib.hid (fun W => plainBytes_any c 3 W h)
  have hcode := h.code
  generalize plainE c 3 = L at *
  subst hne
  have HT := Lib.hid hT
  clear hT
  go_enter Tryz.func57, Tryz.ntmps57
  go_wp2_with fail
  refine (HP.out _).mono ?_
  rintro e w1 ⟨v, rfl, ho, hb⟩
  obtain ⟨p1, c1, hv⟩ := ho.slice
  subst hv
  have k1 := (AtL.new (w.alloc (.cells #[.bool cu, .bool true, .int .i64 mo, .bool sg, .bool pa] 29)) [.int .i64 c, .int .i64 3] 66).on hb
  rw [World.size_alloc] at k1
  have m1 := ((AtL.new w [.bool cu, .bool true, .int .i64 mo, .bool sg, .bool pa] 29).on (below_mk _ (.cells #[.int .i64 c, .int .i64 3] 66))).on hb
  have b1 := below_on (below_on (below_mk w (.cells #[.bool cu, .bool true, .int .i64 mo, .bool sg, .bool pa] 29)) (below_mk _ (.cells #[.int .i64 c, .int .i64 3] 66))) hb
  have o1 := ho.lower (base' := w.heap.size) (by simp; omega)
  have r0 := k1.get 0 rfl
  have r1 := k1.get 1 rfl
  clear ho hb HP
  go_wp2_with fail
  refine (implIsSpecial_any c _).mono ?_
  rintro e w2 ⟨rfl, hb2⟩
  rw [hs]
  have HK := Lib.hid (k1.on hb2)
  have HM := Lib.hid (m1.on hb2)
  have HO := Lib.hid (o1.on hb2)
  have HB := Lib.hid (below_on b1 hb2)
  clear k1 m1 o1 b1 hb2 r0 r1
  have r0 := HK.out.get 0 rfl
  have r1 := HK.out.get 1 rfl
  have r2 := HM.out.get 1 rfl
  go_wp2_with (fail)
  refine wp_gen3 (fun W => AtL W (w.heap.size + 1) [.int .i64 c, .int .i64 3] ∧ Below w.heap.size w W ∧ Pow W) ⟨HK.out, HB.out, HT.out.on HB.out⟩ (fun W hW => ?_)
  obtain ⟨hk, hb, ht⟩ := hW
  have HK2 := Lib.hid (fun W' (hW : Below W.heap.size W W') => hk.on hW)
  have HB2 := Lib.hid hb
  have HT2 := Lib.hid ht
  clear hk hb ht HK HM HO HB HT r0 r1 r2
  refine wp_region_noPanic ?_
  refine wp_region_held_drew (S := fun W' => Below (W).heap.size (W) W') (by kernel_rfl) (below_drewN (Below.refl _ _) 1) (fun hHeld => ?_)
  refine takeR 0 46 (.pointer (some ⟨w.heap.size + 1, 0, none⟩)) (by kernel_rfl) (by kernel_rfl) (by kernel_rfl) (by kernel_rfl) (fun _ _ _ h => h) (by kernel_rfl) (fun w o hSw ho => ?_) hHeld ?_
  · obtain rfl := Option.some.inj ho; go_simp
  simp only [Act.put, List.setIfInBounds_toArray, List.set_cons_zero, List.set_cons_succ]
  refine takeR 3 49 (.pointer (some ⟨w.heap.size + 1, 1, none⟩)) (by kernel_rfl) (by kernel_rfl) (by kernel_rfl) (by kernel_rfl) (fun _ _ _ h => h) (by kernel_rfl) (fun w o hSw ho => ?_) hHeld ?_
  · obtain rfl := Option.some.inj ho; go_simp
  simp only [Act.put, List.setIfInBounds_toArray, List.set_cons_zero, List.set_cons_succ]
  refine takeR 1 47 (.int .i64 c) (by kernel_rfl) (by kernel_rfl) (by kernel_rfl) (by kernel_rfl) (fun _ _ _ h => h) (by kernel_rfl) (fun w o hSw ho => ?_) hHeld ?_
  · obtain rfl := Option.some.inj ho; have r0 := (HK2.out _ hSw).get 0 rfl; go_simp
  simp only [Act.put, List.setIfInBounds_toArray, List.set_cons_zero, List.set_cons_succ]
  refine takeR 4 50 (.int .i64 3) (by kernel_rfl) (by kernel_rfl) (by kernel_rfl) (by kernel_rfl) (fun _ _ _ h => h) (by kernel_rfl) (fun w o hSw ho => ?_) hHeld ?_
  · obtain rfl := Option.some.inj ho; have r1 := (HK2.out _ hSw).get 1 rfl; go_simp
  simp only [Act.put, List.setIfInBounds_toArray, List.set_cons_zero, List.set_cons_succ]
  refine takeR 5 51 (.int .i64 4) (by kernel_rfl) (by kernel_rfl) (by kernel_rfl) (by kernel_rfl) (fun _ _ _ h => h) (by kernel_rfl) (fun w o hSw ho => ?_) hHeld ?_
  · obtain rfl := Option.some.inj ho; go_simp; rfl
  simp only [Act.put, List.setIfInBounds_toArray, List.set_cons_zero, List.set_cons_succ]
  refine oneR 2 (by kernel_rfl) (by kernel_rfl) (fun o ho K' hK => ?_)
  obtain rfl := Option.some.inj ho
  clear ho
  go_simp
  refine (HPK.out _).mono ?_
  rintro e V1 ⟨rfl, rfl⟩
  go_wp2_with fail
  refine hK.out _ _ (hHeld) (fun hHeld => ?_)
  clear hK K'
  try simp only [Act.put, List.setIfInBounds_toArray, List.set_cons_zero, List.set_cons_succ]
  have HV1 := Lib.hid hHeld
  refine oneR 6 (by kernel_rfl) (by kernel_rfl) (fun o ho K' hK => ?_)
  obtain rfl := Option.some.inj ho
  clear ho
  go_simp
  refine hK.out _ _ (below_on hHeld (below_mk _ _)) (fun hHeld => ?_)
  clear hK K'
  try simp only [Act.put, List.setIfInBounds_toArray, List.set_cons_zero, List.set_cons_succ]
  refine oneR 7 (by kernel_rfl) (by kernel_rfl) (fun o ho K' hK => ?_)
  obtain rfl := Option.some.inj ho
  clear ho
  go_simp
  refine (HSL.out _ (HT2.out.on HV1.out) _ rfl).mono ?_
  rintro e V2 ⟨v2, rfl, ho2, hb2⟩
  have HV2 := Lib.hid (below_on hHeld hb2)
  have HE := Lib.hid (own_low ho2 (below_on HB2.out HV2.out) (by have h1 := HB2.out.size; have h2 := HV1.out.size; simp at h2 ⊢; omega))
  clear ho2 hb2 hHeld
  go_wp2_with fail
  refine hK.out _ _ (HV2.out) (fun hHeld => ?_)
  clear hK K'
  try simp only [Act.put, List.setIfInBounds_toArray, List.set_cons_zero, List.set_cons_succ]
  refine takeR 8 4 (v2) (by kernel_rfl) (by kernel_rfl) (by kernel_rfl) (by kernel_rfl) (fun _ _ _ h => h) (by kernel_rfl) (fun w o hSw ho => ?_) hHeld ?_
  · obtain rfl := Option.some.inj ho; go_simp
  simp only [Act.put, List.setIfInBounds_toArray, List.set_cons_zero, List.set_cons_succ]
  refine wpAnyH_done (by kernel_rfl) ?_ _
  refine NoPanic.normal ?_
  go_wp2_with fail
  go_ret
  exact HE.out

set_option maxRecDepth 100000 in
set_option maxHeartbeats 4000000 in
theorem typed_et_4 (cu : Bool) (mo : Int) (sg pa : Bool) (c : Int) (hs : special c = false) (hp : ctrlE c = []) (w : World) (hT : Pow w) (h : Typed c 4) :
    Calls Tryz.prog 57 #[.agg #[.bool cu, .bool true, .int .i64 mo, .bool sg, .bool pa], .agg #[.int .i64 c, .int .i64 4]] w (NewOwn w (typedE true c 4)) := by
  have hne : plainE c 4 = [] := by
    unfold plainE
    rw [if_neg (by simp [hs]), if_neg (by omega)]
    rw [if_pos (by omega)]
    exact hp
  have hh : plainE c 4 = [] ∨ ((4 : Int) ≠ 0 ∧ (special c = true ∨ (4 : Int) ≠ 4)) := .inl hne
  have HC := Lib.hid (typedE_coded hh (.inl (by omega)))
  rw [HC.out]
  clear HC hh
  have HSL := Lib.hid (fun (W : World) (hW : Pow W) g hg => sequence_lit false #[.int .i64 (codeE c), .int .i64 5] [codeE c, 5] 117 2 W 2 g hg rfl rfl hW (inNum2 h.code.1 h.code.2.1 (by omega) (by omega)) (by simp) (by omega) (by omega))
  have HPK := Lib.hid (fun W => pointOfKey_any c W)
  rw [show byteE 117 = 117 from rfl] at HSL
  rw [show (4 : Int) + 1 = 5 from rfl]
  have hll := plain_len c 4
  have HP := Lib.hid (fun W => plainBytes_any c 4 W h)
  have hcode := h.code
  generalize plainE c 4 = L at *
  subst hne
  have HT := Lib.hid hT
  clear hT
  go_enter Tryz.func57, Tryz.ntmps57
  go_wp2_with fail
  refine (HP.out _).mono ?_
  rintro e w1 ⟨v, rfl, ho, hb⟩
  obtain ⟨p1, c1, hv⟩ := ho.slice
  subst hv
  have k1 := (AtL.new (w.alloc (.cells #[.bool cu, .bool true, .int .i64 mo, .bool sg, .bool pa] 29)) [.int .i64 c, .int .i64 4] 66).on hb
  rw [World.size_alloc] at k1
  have m1 := ((AtL.new w [.bool cu, .bool true, .int .i64 mo, .bool sg, .bool pa] 29).on (below_mk _ (.cells #[.int .i64 c, .int .i64 4] 66))).on hb
  have b1 := below_on (below_on (below_mk w (.cells #[.bool cu, .bool true, .int .i64 mo, .bool sg, .bool pa] 29)) (below_mk _ (.cells #[.int .i64 c, .int .i64 4] 66))) hb
  have o1 := ho.lower (base' := w.heap.size) (by simp; omega)
  have r0 := k1.get 0 rfl
  have r1 := k1.get 1 rfl
  clear ho hb HP
  go_wp2_with fail
  refine (implIsSpecial_any c _).mono ?_
  rintro e w2 ⟨rfl, hb2⟩
  rw [hs]
  have HK := Lib.hid (k1.on hb2)
  have HM := Lib.hid (m1.on hb2)
  have HO := Lib.hid (o1.on hb2)
  have HB := Lib.hid (below_on b1 hb2)
  clear k1 m1 o1 b1 hb2 r0 r1
  have r0 := HK.out.get 0 rfl
  have r1 := HK.out.get 1 rfl
  have r2 := HM.out.get 1 rfl
  go_wp2_with (fail)
  refine wp_gen3 (fun W => AtL W (w.heap.size + 1) [.int .i64 c, .int .i64 4] ∧ Below w.heap.size w W ∧ Pow W) ⟨HK.out, HB.out, HT.out.on HB.out⟩ (fun W hW => ?_)
  obtain ⟨hk, hb, ht⟩ := hW
  have HK2 := Lib.hid (fun W' (hW : Below W.heap.size W W') => hk.on hW)
  have HB2 := Lib.hid hb
  have HT2 := Lib.hid ht
  clear hk hb ht HK HM HO HB HT r0 r1 r2
  refine wp_region_noPanic ?_
  refine wp_region_held_drew (S := fun W' => Below (W).heap.size (W) W') (by kernel_rfl) (below_drewN (Below.refl _ _) 1) (fun hHeld => ?_)
  refine takeR 0 46 (.pointer (some ⟨w.heap.size + 1, 0, none⟩)) (by kernel_rfl) (by kernel_rfl) (by kernel_rfl) (by kernel_rfl) (fun _ _ _ h => h) (by kernel_rfl) (fun w o hSw ho => ?_) hHeld ?_
  · obtain rfl := Option.some.inj ho; go_simp
  simp only [Act.put, List.setIfInBounds_toArray, List.set_cons_zero, List.set_cons_succ]
  refine takeR 3 49 (.pointer (some ⟨w.heap.size + 1, 1, none⟩)) (by kernel_rfl) (by kernel_rfl) (by kernel_rfl) (by kernel_rfl) (fun _ _ _ h => h) (by kernel_rfl) (fun w o hSw ho => ?_) hHeld ?_
  · obtain rfl := Option.some.inj ho; go_simp
  simp only [Act.put, List.setIfInBounds_toArray, List.set_cons_zero, List.set_cons_succ]
  refine takeR 1 47 (.int .i64 c) (by kernel_rfl) (by kernel_rfl) (by kernel_rfl) (by kernel_rfl) (fun _ _ _ h => h) (by kernel_rfl) (fun w o hSw ho => ?_) hHeld ?_
  · obtain rfl := Option.some.inj ho; have r0 := (HK2.out _ hSw).get 0 rfl; go_simp
  simp only [Act.put, List.setIfInBounds_toArray, List.set_cons_zero, List.set_cons_succ]
  refine takeR 4 50 (.int .i64 4) (by kernel_rfl) (by kernel_rfl) (by kernel_rfl) (by kernel_rfl) (fun _ _ _ h => h) (by kernel_rfl) (fun w o hSw ho => ?_) hHeld ?_
  · obtain rfl := Option.some.inj ho; have r1 := (HK2.out _ hSw).get 1 rfl; go_simp
  simp only [Act.put, List.setIfInBounds_toArray, List.set_cons_zero, List.set_cons_succ]
  refine takeR 5 51 (.int .i64 5) (by kernel_rfl) (by kernel_rfl) (by kernel_rfl) (by kernel_rfl) (fun _ _ _ h => h) (by kernel_rfl) (fun w o hSw ho => ?_) hHeld ?_
  · obtain rfl := Option.some.inj ho; go_simp; rfl
  simp only [Act.put, List.setIfInBounds_toArray, List.set_cons_zero, List.set_cons_succ]
  refine oneR 2 (by kernel_rfl) (by kernel_rfl) (fun o ho K' hK => ?_)
  obtain rfl := Option.some.inj ho
  clear ho
  go_simp
  refine (HPK.out _).mono ?_
  rintro e V1 ⟨rfl, rfl⟩
  go_wp2_with fail
  refine hK.out _ _ (hHeld) (fun hHeld => ?_)
  clear hK K'
  try simp only [Act.put, List.setIfInBounds_toArray, List.set_cons_zero, List.set_cons_succ]
  have HV1 := Lib.hid hHeld
  refine oneR 6 (by kernel_rfl) (by kernel_rfl) (fun o ho K' hK => ?_)
  obtain rfl := Option.some.inj ho
  clear ho
  go_simp
  refine hK.out _ _ (below_on hHeld (below_mk _ _)) (fun hHeld => ?_)
  clear hK K'
  try simp only [Act.put, List.setIfInBounds_toArray, List.set_cons_zero, List.set_cons_succ]
  refine oneR 7 (by kernel_rfl) (by kernel_rfl) (fun o ho K' hK => ?_)
  obtain rfl := Option.some.inj ho
  clear ho
  go_simp
  refine (HSL.out _ (HT2.out.on HV1.out) _ rfl).mono ?_
  rintro e V2 ⟨v2, rfl, ho2, hb2⟩
  have HV2 := Lib.hid (below_on hHeld hb2)
  have HE := Lib.hid (own_low ho2 (below_on HB2.out HV2.out) (by have h1 := HB2.out.size; have h2 := HV1.out.size; simp at h2 ⊢; omega))
  clear ho2 hb2 hHeld
  go_wp2_with fail
  refine hK.out _ _ (HV2.out) (fun hHeld => ?_)
  clear hK K'
  try simp only [Act.put, List.setIfInBounds_toArray, List.set_cons_zero, List.set_cons_succ]
  refine takeR 8 4 (v2) (by kernel_rfl) (by kernel_rfl) (by kernel_rfl) (by kernel_rfl) (fun _ _ _ h => h) (by kernel_rfl) (fun w o hSw ho => ?_) hHeld ?_
  · obtain rfl := Option.some.inj ho; go_simp
  simp only [Act.put, List.setIfInBounds_toArray, List.set_cons_zero, List.set_cons_succ]
  refine wpAnyH_done (by kernel_rfl) ?_ _
  refine NoPanic.normal ?_
  go_wp2_with fail
  go_ret
  exact HE.out

set_option maxRecDepth 100000 in
set_option maxHeartbeats 4000000 in
theorem typed_et_5 (cu : Bool) (mo : Int) (sg pa : Bool) (c : Int) (hs : special c = false) (w : World) (hT : Pow w) (h : Typed c 5) :
    Calls Tryz.prog 57 #[.agg #[.bool cu, .bool true, .int .i64 mo, .bool sg, .bool pa], .agg #[.int .i64 c, .int .i64 5]] w (NewOwn w (typedE true c 5)) := by
  have hne : plainE c 5 = [] := by
    unfold plainE
    rw [if_neg (by simp [hs]), if_neg (by omega)]
    rw [if_neg (by omega)]
  have hh : plainE c 5 = [] ∨ ((5 : Int) ≠ 0 ∧ (special c = true ∨ (5 : Int) ≠ 4)) := .inl hne
  have HC := Lib.hid (typedE_coded hh (.inl (by omega)))
  rw [HC.out]
  clear HC hh
  have HSL := Lib.hid (fun (W : World) (hW : Pow W) g hg => sequence_lit false #[.int .i64 (codeE c), .int .i64 6] [codeE c, 6] 117 2 W 2 g hg rfl rfl hW (inNum2 h.code.1 h.code.2.1 (by omega) (by omega)) (by simp) (by omega) (by omega))
  have HPK := Lib.hid (fun W => pointOfKey_any c W)
  rw [show byteE 117 = 117 from rfl] at HSL
  rw [show (5 : Int) + 1 = 6 from rfl]
  have hll := plain_len c 5
  have HP := Lib.hid (fun W => plainBytes_any c 5 W h)
  have hcode := h.code
  generalize plainE c 5 = L at *
  subst hne
  have HT := Lib.hid hT
  clear hT
  go_enter Tryz.func57, Tryz.ntmps57
  go_wp2_with fail
  refine (HP.out _).mono ?_
  rintro e w1 ⟨v, rfl, ho, hb⟩
  obtain ⟨p1, c1, hv⟩ := ho.slice
  subst hv
  have k1 := (AtL.new (w.alloc (.cells #[.bool cu, .bool true, .int .i64 mo, .bool sg, .bool pa] 29)) [.int .i64 c, .int .i64 5] 66).on hb
  rw [World.size_alloc] at k1
  have m1 := ((AtL.new w [.bool cu, .bool true, .int .i64 mo, .bool sg, .bool pa] 29).on (below_mk _ (.cells #[.int .i64 c, .int .i64 5] 66))).on hb
  have b1 := below_on (below_on (below_mk w (.cells #[.bool cu, .bool true, .int .i64 mo, .bool sg, .bool pa] 29)) (below_mk _ (.cells #[.int .i64 c, .int .i64 5] 66))) hb
  have o1 := ho.lower (base' := w.heap.size) (by simp; omega)
  have r0 := k1.get 0 rfl
  have r1 := k1.get 1 rfl
  clear ho hb HP
  go_wp2_with fail
  refine (implIsSpecial_any c _).mono ?_
  rintro e w2 ⟨rfl, hb2⟩
  rw [hs]
  have HK := Lib.hid (k1.on hb2)
  have HM := Lib.hid (m1.on hb2)
  have HO := Lib.hid (o1.on hb2)
  have HB := Lib.hid (below_on b1 hb2)
  clear k1 m1 o1 b1 hb2 r0 r1
  have r0 := HK.out.get 0 rfl
  have r1 := HK.out.get 1 rfl
  have r2 := HM.out.get 1 rfl
  go_wp2_with (fail)
  refine wp_gen3 (fun W => AtL W (w.heap.size + 1) [.int .i64 c, .int .i64 5] ∧ Below w.heap.size w W ∧ Pow W) ⟨HK.out, HB.out, HT.out.on HB.out⟩ (fun W hW => ?_)
  obtain ⟨hk, hb, ht⟩ := hW
  have HK2 := Lib.hid (fun W' (hW : Below W.heap.size W W') => hk.on hW)
  have HB2 := Lib.hid hb
  have HT2 := Lib.hid ht
  clear hk hb ht HK HM HO HB HT r0 r1 r2
  refine wp_region_noPanic ?_
  refine wp_region_held_drew (S := fun W' => Below (W).heap.size (W) W') (by kernel_rfl) (below_drewN (Below.refl _ _) 1) (fun hHeld => ?_)
  refine takeR 0 46 (.pointer (some ⟨w.heap.size + 1, 0, none⟩)) (by kernel_rfl) (by kernel_rfl) (by kernel_rfl) (by kernel_rfl) (fun _ _ _ h => h) (by kernel_rfl) (fun w o hSw ho => ?_) hHeld ?_
  · obtain rfl := Option.some.inj ho; go_simp
  simp only [Act.put, List.setIfInBounds_toArray, List.set_cons_zero, List.set_cons_succ]
  refine takeR 3 49 (.pointer (some ⟨w.heap.size + 1, 1, none⟩)) (by kernel_rfl) (by kernel_rfl) (by kernel_rfl) (by kernel_rfl) (fun _ _ _ h => h) (by kernel_rfl) (fun w o hSw ho => ?_) hHeld ?_
  · obtain rfl := Option.some.inj ho; go_simp
  simp only [Act.put, List.setIfInBounds_toArray, List.set_cons_zero, List.set_cons_succ]
  refine takeR 1 47 (.int .i64 c) (by kernel_rfl) (by kernel_rfl) (by kernel_rfl) (by kernel_rfl) (fun _ _ _ h => h) (by kernel_rfl) (fun w o hSw ho => ?_) hHeld ?_
  · obtain rfl := Option.some.inj ho; have r0 := (HK2.out _ hSw).get 0 rfl; go_simp
  simp only [Act.put, List.setIfInBounds_toArray, List.set_cons_zero, List.set_cons_succ]
  refine takeR 4 50 (.int .i64 5) (by kernel_rfl) (by kernel_rfl) (by kernel_rfl) (by kernel_rfl) (fun _ _ _ h => h) (by kernel_rfl) (fun w o hSw ho => ?_) hHeld ?_
  · obtain rfl := Option.some.inj ho; have r1 := (HK2.out _ hSw).get 1 rfl; go_simp
  simp only [Act.put, List.setIfInBounds_toArray, List.set_cons_zero, List.set_cons_succ]
  refine takeR 5 51 (.int .i64 6) (by kernel_rfl) (by kernel_rfl) (by kernel_rfl) (by kernel_rfl) (fun _ _ _ h => h) (by kernel_rfl) (fun w o hSw ho => ?_) hHeld ?_
  · obtain rfl := Option.some.inj ho; go_simp; rfl
  simp only [Act.put, List.setIfInBounds_toArray, List.set_cons_zero, List.set_cons_succ]
  refine oneR 2 (by kernel_rfl) (by kernel_rfl) (fun o ho K' hK => ?_)
  obtain rfl := Option.some.inj ho
  clear ho
  go_simp
  refine (HPK.out _).mono ?_
  rintro e V1 ⟨rfl, rfl⟩
  go_wp2_with fail
  refine hK.out _ _ (hHeld) (fun hHeld => ?_)
  clear hK K'
  try simp only [Act.put, List.setIfInBounds_toArray, List.set_cons_zero, List.set_cons_succ]
  have HV1 := Lib.hid hHeld
  refine oneR 6 (by kernel_rfl) (by kernel_rfl) (fun o ho K' hK => ?_)
  obtain rfl := Option.some.inj ho
  clear ho
  go_simp
  refine hK.out _ _ (below_on hHeld (below_mk _ _)) (fun hHeld => ?_)
  clear hK K'
  try simp only [Act.put, List.setIfInBounds_toArray, List.set_cons_zero, List.set_cons_succ]
  refine oneR 7 (by kernel_rfl) (by kernel_rfl) (fun o ho K' hK => ?_)
  obtain rfl := Option.some.inj ho
  clear ho
  go_simp
  refine (HSL.out _ (HT2.out.on HV1.out) _ rfl).mono ?_
  rintro e V2 ⟨v2, rfl, ho2, hb2⟩
  have HV2 := Lib.hid (below_on hHeld hb2)
  have HE := Lib.hid (own_low ho2 (below_on HB2.out HV2.out) (by have h1 := HB2.out.size; have h2 := HV1.out.size; simp at h2 ⊢; omega))
  clear ho2 hb2 hHeld
  go_wp2_with fail
  refine hK.out _ _ (HV2.out) (fun hHeld => ?_)
  clear hK K'
  try simp only [Act.put, List.setIfInBounds_toArray, List.set_cons_zero, List.set_cons_succ]
  refine takeR 8 4 (v2) (by kernel_rfl) (by kernel_rfl) (by kernel_rfl) (by kernel_rfl) (fun _ _ _ h => h) (by kernel_rfl) (fun w o hSw ho => ?_) hHeld ?_
  · obtain rfl := Option.some.inj ho; go_simp
  simp only [Act.put, List.setIfInBounds_toArray, List.set_cons_zero, List.set_cons_succ]
  refine wpAnyH_done (by kernel_rfl) ?_ _
  refine NoPanic.normal ?_
  go_wp2_with fail
  go_ret
  exact HE.out

set_option maxRecDepth 100000 in
set_option maxHeartbeats 4000000 in
theorem typed_et_6 (cu : Bool) (mo : Int) (sg pa : Bool) (c : Int) (hs : special c = false) (hp : ctrlE c = []) (w : World) (hT : Pow w) (h : Typed c 6) :
    Calls Tryz.prog 57 #[.agg #[.bool cu, .bool true, .int .i64 mo, .bool sg, .bool pa], .agg #[.int .i64 c, .int .i64 6]] w (NewOwn w (typedE true c 6)) := by
  have hne : plainE c 6 = [] := by
    unfold plainE
    rw [if_neg (by simp [hs]), if_neg (by omega)]
    rw [if_pos (by omega)]
    exact hp
  have hh : plainE c 6 = [] ∨ ((6 : Int) ≠ 0 ∧ (special c = true ∨ (6 : Int) ≠ 4)) := .inl hne
  have HC := Lib.hid (typedE_coded hh (.inl (by omega)))
  rw [HC.out]
  clear HC hh
  have HSL := Lib.hid (fun (W : World) (hW : Pow W) g hg => sequence_lit false #[.int .i64 (codeE c), .int .i64 7] [codeE c, 7] 117 2 W 2 g hg rfl rfl hW (inNum2 h.code.1 h.code.2.1 (by omega) (by omega)) (by simp) (by omega) (by omega))
  have HPK := Lib.hid (fun W => pointOfKey_any c W)
  rw [show byteE 117 = 117 from rfl] at HSL
  rw [show (6 : Int) + 1 = 7 from rfl]
  have hll := plain_len c 6
  have HP := Lib.hid (fun W => plainBytes_any c 6 W h)
  have hcode := h.code
  generalize plainE c 6 = L at *
  subst hne
  have HT := Lib.hid hT
  clear hT
  go_enter Tryz.func57, Tryz.ntmps57
  go_wp2_with fail
  refine (HP.out _).mono ?_
  rintro e w1 ⟨v, rfl, ho, hb⟩
  obtain ⟨p1, c1, hv⟩ := ho.slice
  subst hv
  have k1 := (AtL.new (w.alloc (.cells #[.bool cu, .bool true, .int .i64 mo, .bool sg, .bool pa] 29)) [.int .i64 c, .int .i64 6] 66).on hb
  rw [World.size_alloc] at k1
  have m1 := ((AtL.new w [.bool cu, .bool true, .int .i64 mo, .bool sg, .bool pa] 29).on (below_mk _ (.cells #[.int .i64 c, .int .i64 6] 66))).on hb
  have b1 := below_on (below_on (below_mk w (.cells #[.bool cu, .bool true, .int .i64 mo, .bool sg, .bool pa] 29)) (below_mk _ (.cells #[.int .i64 c, .int .i64 6] 66))) hb
  have o1 := ho.lower (base' := w.heap.size) (by simp; omega)
  have r0 := k1.get 0 rfl
  have r1 := k1.get 1 rfl
  clear ho hb HP
  go_wp2_with fail
  refine (implIsSpecial_any c _).mono ?_
  rintro e w2 ⟨rfl, hb2⟩
  rw [hs]
  have HK := Lib.hid (k1.on hb2)
  have HM := Lib.hid (m1.on hb2)
  have HO := Lib.hid (o1.on hb2)
  have HB := Lib.hid (below_on b1 hb2)
  clear k1 m1 o1 b1 hb2 r0 r1
  have r0 := HK.out.get 0 rfl
  have r1 := HK.out.get 1 rfl
  have r2 := HM.out.get 1 rfl
  go_wp2_with (fail)
  refine wp_gen3 (fun W => AtL W (w.heap.size + 1) [.int .i64 c, .int .i64 6] ∧ Below w.heap.size w W ∧ Pow W) ⟨HK.out, HB.out, HT.out.on HB.out⟩ (fun W hW => ?_)
  obtain ⟨hk, hb, ht⟩ := hW
  have HK2 := Lib.hid (fun W' (hW : Below W.heap.size W W') => hk.on hW)
  have HB2 := Lib.hid hb
  have HT2 := Lib.hid ht
  clear hk hb ht HK HM HO HB HT r0 r1 r2
  refine wp_region_noPanic ?_
  refine wp_region_held_drew (S := fun W' => Below (W).heap.size (W) W') (by kernel_rfl) (below_drewN (Below.refl _ _) 1) (fun hHeld => ?_)
  refine takeR 0 46 (.pointer (some ⟨w.heap.size + 1, 0, none⟩)) (by kernel_rfl) (by kernel_rfl) (by kernel_rfl) (by kernel_rfl) (fun _ _ _ h => h) (by kernel_rfl) (fun w o hSw ho => ?_) hHeld ?_
  · obtain rfl := Option.some.inj ho; go_simp
  simp only [Act.put, List.setIfInBounds_toArray, List.set_cons_zero, List.set_cons_succ]
  refine takeR 3 49 (.pointer (some ⟨w.heap.size + 1, 1, none⟩)) (by kernel_rfl) (by kernel_rfl) (by kernel_rfl) (by kernel_rfl) (fun _ _ _ h => h) (by kernel_rfl) (fun w o hSw ho => ?_) hHeld ?_
  · obtain rfl := Option.some.inj ho; go_simp
  simp only [Act.put, List.setIfInBounds_toArray, List.set_cons_zero, List.set_cons_succ]
  refine takeR 1 47 (.int .i64 c) (by kernel_rfl) (by kernel_rfl) (by kernel_rfl) (by kernel_rfl) (fun _ _ _ h => h) (by kernel_rfl) (fun w o hSw ho => ?_) hHeld ?_
  · obtain rfl := Option.some.inj ho; have r0 := (HK2.out _ hSw).get 0 rfl; go_simp
  simp only [Act.put, List.setIfInBounds_toArray, List.set_cons_zero, List.set_cons_succ]
  refine takeR 4 50 (.int .i64 6) (by kernel_rfl) (by kernel_rfl) (by kernel_rfl) (by kernel_rfl) (fun _ _ _ h => h) (by kernel_rfl) (fun w o hSw ho => ?_) hHeld ?_
  · obtain rfl := Option.some.inj ho; have r1 := (HK2.out _ hSw).get 1 rfl; go_simp
  simp only [Act.put, List.setIfInBounds_toArray, List.set_cons_zero, List.set_cons_succ]
  refine takeR 5 51 (.int .i64 7) (by kernel_rfl) (by kernel_rfl) (by kernel_rfl) (by kernel_rfl) (fun _ _ _ h => h) (by kernel_rfl) (fun w o hSw ho => ?_) hHeld ?_
  · obtain rfl := Option.some.inj ho; go_simp; rfl
  simp only [Act.put, List.setIfInBounds_toArray, List.set_cons_zero, List.set_cons_succ]
  refine oneR 2 (by kernel_rfl) (by kernel_rfl) (fun o ho K' hK => ?_)
  obtain rfl := Option.some.inj ho
  clear ho
  go_simp
  refine (HPK.out _).mono ?_
  rintro e V1 ⟨rfl, rfl⟩
  go_wp2_with fail
  refine hK.out _ _ (hHeld) (fun hHeld => ?_)
  clear hK K'
  try simp only [Act.put, List.setIfInBounds_toArray, List.set_cons_zero, List.set_cons_succ]
  have HV1 := Lib.hid hHeld
  refine oneR 6 (by kernel_rfl) (by kernel_rfl) (fun o ho K' hK => ?_)
  obtain rfl := Option.some.inj ho
  clear ho
  go_simp
  refine hK.out _ _ (below_on hHeld (below_mk _ _)) (fun hHeld => ?_)
  clear hK K'
  try simp only [Act.put, List.setIfInBounds_toArray, List.set_cons_zero, List.set_cons_succ]
  refine oneR 7 (by kernel_rfl) (by kernel_rfl) (fun o ho K' hK => ?_)
  obtain rfl := Option.some.inj ho
  clear ho
  go_simp
  refine (HSL.out _ (HT2.out.on HV1.out) _ rfl).mono ?_
  rintro e V2 ⟨v2, rfl, ho2, hb2⟩
  have HV2 := Lib.hid (below_on hHeld hb2)
  have HE := Lib.hid (own_low ho2 (below_on HB2.out HV2.out) (by have h1 := HB2.out.size; have h2 := HV1.out.size; simp at h2 ⊢; omega))
  clear ho2 hb2 hHeld
  go_wp2_with fail
  refine hK.out _ _ (HV2.out) (fun hHeld => ?_)
  clear hK K'
  try simp only [Act.put, List.setIfInBounds_toArray, List.set_cons_zero, List.set_cons_succ]
  refine takeR 8 4 (v2) (by kernel_rfl) (by kernel_rfl) (by kernel_rfl) (by kernel_rfl) (fun _ _ _ h => h) (by kernel_rfl) (fun w o hSw ho => ?_) hHeld ?_
  · obtain rfl := Option.some.inj ho; go_simp
  simp only [Act.put, List.setIfInBounds_toArray, List.set_cons_zero, List.set_cons_succ]
  refine wpAnyH_done (by kernel_rfl) ?_ _
  refine NoPanic.normal ?_
  go_wp2_with fail
  go_ret
  exact HE.out

set_option maxRecDepth 100000 in
set_option maxHeartbeats 4000000 in
theorem typed_et_7 (cu : Bool) (mo : Int) (sg pa : Bool) (c : Int) (hs : special c = false) (w : World) (hT : Pow w) (h : Typed c 7) :
    Calls Tryz.prog 57 #[.agg #[.bool cu, .bool true, .int .i64 mo, .bool sg, .bool pa], .agg #[.int .i64 c, .int .i64 7]] w (NewOwn w (typedE true c 7)) := by
  have hne : plainE c 7 = [] := by
    unfold plainE
    rw [if_neg (by simp [hs]), if_neg (by omega)]
    rw [if_neg (by omega)]
  have hh : plainE c 7 = [] ∨ ((7 : Int) ≠ 0 ∧ (special c = true ∨ (7 : Int) ≠ 4)) := .inl hne
  have HC := Lib.hid (typedE_coded hh (.inl (by omega)))
  rw [HC.out]
  clear HC hh
  have HSL := Lib.hid (fun (W : World) (hW : Pow W) g hg => sequence_lit false #[.int .i64 (codeE c), .int .i64 8] [codeE c, 8] 117 2 W 2 g hg rfl rfl hW (inNum2 h.code.1 h.code.2.1 (by omega) (by omega)) (by simp) (by omega) (by omega))
  have HPK := Lib.hid (fun W => pointOfKey_any c W)
  rw [show byteE 117 = 117 from rfl] at HSL
  rw [show (7 : Int) + 1 = 8 from rfl]
  have hll := plain_len c 7
  have HP := Lib.hid (fun W => plainBytes_any c 7 W h)
  have hcode := h.code
  generalize plainE c 7 = L at *
  subst hne
  have HT := Lib.hid hT
  clear hT
  go_enter Tryz.func57, Tryz.ntmps57
  go_wp2_with fail
  refine (HP.out _).mono ?_
  rintro e w1 ⟨v, rfl, ho, hb⟩
  obtain ⟨p1, c1, hv⟩ := ho.slice
  subst hv
  have k1 := (AtL.new (w.alloc (.cells #[.bool cu, .bool true, .int .i64 mo, .bool sg, .bool pa] 29)) [.int .i64 c, .int .i64 7] 66).on hb
  rw [World.size_alloc] at k1
  have m1 := ((AtL.new w [.bool cu, .bool true, .int .i64 mo, .bool sg, .bool pa] 29).on (below_mk _ (.cells #[.int .i64 c, .int .i64 7] 66))).on hb
  have b1 := below_on (below_on (below_mk w (.cells #[.bool cu, .bool true, .int .i64 mo, .bool sg, .bool pa] 29)) (below_mk _ (.cells #[.int .i64 c, .int .i64 7] 66))) hb
  have o1 := ho.lower (base' := w.heap.size) (by simp; omega)
  have r0 := k1.get 0 rfl
  have r1 := k1.get 1 rfl
  clear ho hb HP
  go_wp2_with fail
  refine (implIsSpecial_any c _).mono ?_
  rintro e w2 ⟨rfl, hb2⟩
  rw [hs]
  have HK := Lib.hid (k1.on hb2)
  have HM := Lib.hid (m1.on hb2)
  have HO := Lib.hid (o1.on hb2)
  have HB := Lib.hid (below_on b1 hb2)
  clear k1 m1 o1 b1 hb2 r0 r1
  have r0 := HK.out.get 0 rfl
  have r1 := HK.out.get 1 rfl
  have r2 := HM.out.get 1 rfl
  go_wp2_with (fail)
  refine wp_gen3 (fun W => AtL W (w.heap.size + 1) [.int .i64 c, .int .i64 7] ∧ Below w.heap.size w W ∧ Pow W) ⟨HK.out, HB.out, HT.out.on HB.out⟩ (fun W hW => ?_)
  obtain ⟨hk, hb, ht⟩ := hW
  have HK2 := Lib.hid (fun W' (hW : Below W.heap.size W W') => hk.on hW)
  have HB2 := Lib.hid hb
  have HT2 := Lib.hid ht
  clear hk hb ht HK HM HO HB HT r0 r1 r2
  refine wp_region_noPanic ?_
  refine wp_region_held_drew (S := fun W' => Below (W).heap.size (W) W') (by kernel_rfl) (below_drewN (Below.refl _ _) 1) (fun hHeld => ?_)
  refine takeR 0 46 (.pointer (some ⟨w.heap.size + 1, 0, none⟩)) (by kernel_rfl) (by kernel_rfl) (by kernel_rfl) (by kernel_rfl) (fun _ _ _ h => h) (by kernel_rfl) (fun w o hSw ho => ?_) hHeld ?_
  · obtain rfl := Option.some.inj ho; go_simp
  simp only [Act.put, List.setIfInBounds_toArray, List.set_cons_zero, List.set_cons_succ]
  refine takeR 3 49 (.pointer (some ⟨w.heap.size + 1, 1, none⟩)) (by kernel_rfl) (by kernel_rfl) (by kernel_rfl) (by kernel_rfl) (fun _ _ _ h => h) (by kernel_rfl) (fun w o hSw ho => ?_) hHeld ?_
  · obtain rfl := Option.some.inj ho; go_simp
  simp only [Act.put, List.setIfInBounds_toArray, List.set_cons_zero, List.set_cons_succ]
  refine takeR 1 47 (.int .i64 c) (by kernel_rfl) (by kernel_rfl) (by kernel_rfl) (by kernel_rfl) (fun _ _ _ h => h) (by kernel_rfl) (fun w o hSw ho => ?_) hHeld ?_
  · obtain rfl := Option.some.inj ho; have r0 := (HK2.out _ hSw).get 0 rfl; go_simp
  simp only [Act.put, List.setIfInBounds_toArray, List.set_cons_zero, List.set_cons_succ]
  refine takeR 4 50 (.int .i64 7) (by kernel_rfl) (by kernel_rfl) (by kernel_rfl) (by kernel_rfl) (fun _ _ _ h => h) (by kernel_rfl) (fun w o hSw ho => ?_) hHeld ?_
  · obtain rfl := Option.some.inj ho; have r1 := (HK2.out _ hSw).get 1 rfl; go_simp
  simp only [Act.put, List.setIfInBounds_toArray, List.set_cons_zero, List.set_cons_succ]
  refine takeR 5 51 (.int .i64 8) (by kernel_rfl) (by kernel_rfl) (by kernel_rfl) (by kernel_rfl) (fun _ _ _ h => h) (by kernel_rfl) (fun w o hSw ho => ?_) hHeld ?_
  · obtain rfl := Option.some.inj ho; go_simp; rfl
  simp only [Act.put, List.setIfInBounds_toArray, List.set_cons_zero, List.set_cons_succ]
  refine oneR 2 (by kernel_rfl) (by kernel_rfl) (fun o ho K' hK => ?_)
  obtain rfl := Option.some.inj ho
  clear ho
  go_simp
  refine (HPK.out _).mono ?_
  rintro e V1 ⟨rfl, rfl⟩
  go_wp2_with fail
  refine hK.out _ _ (hHeld) (fun hHeld => ?_)
  clear hK K'
  try simp only [Act.put, List.setIfInBounds_toArray, List.set_cons_zero, List.set_cons_succ]
  have HV1 := Lib.hid hHeld
  refine oneR 6 (by kernel_rfl) (by kernel_rfl) (fun o ho K' hK => ?_)
  obtain rfl := Option.some.inj ho
  clear ho
  go_simp
  refine hK.out _ _ (below_on hHeld (below_mk _ _)) (fun hHeld => ?_)
  clear hK K'
  try simp only [Act.put, List.setIfInBounds_toArray, List.set_cons_zero, List.set_cons_succ]
  refine oneR 7 (by kernel_rfl) (by kernel_rfl) (fun o ho K' hK => ?_)
  obtain rfl := Option.some.inj ho
  clear ho
  go_simp
  refine (HSL.out _ (HT2.out.on HV1.out) _ rfl).mono ?_
  rintro e V2 ⟨v2, rfl, ho2, hb2⟩
  have HV2 := Lib.hid (below_on hHeld hb2)
  have HE := Lib.hid (own_low ho2 (below_on HB2.out HV2.out) (by have h1 := HB2.out.size; have h2 := HV1.out.size; simp at h2 ⊢; omega))
  clear ho2 hb2 hHeld
  go_wp2_with fail
  refine hK.out _ _ (HV2.out) (fun hHeld => ?_)
  clear hK K'
  try simp only [Act.put, List.setIfInBounds_toArray, List.set_cons_zero, List.set_cons_succ]
  refine takeR 8 4 (v2) (by kernel_rfl) (by kernel_rfl) (by kernel_rfl) (by kernel_rfl) (fun _ _ _ h => h) (by kernel_rfl) (fun w o hSw ho => ?_) hHeld ?_
  · obtain rfl := Option.some.inj ho; go_simp
  simp only [Act.put, List.setIfInBounds_toArray, List.set_cons_zero, List.set_cons_succ]
  refine wpAnyH_done (by kernel_rfl) ?_ _
  refine NoPanic.normal ?_
  go_wp2_with fail
  go_ret
  exact HE.out

end Go.Proofs.YtjopjddhgaiddabGreatDoor

/- The program's encoder: typedBytes where the modes don't ask for codes. (Written by wip/gen_typed.py.) -/
namespace Go.Proofs.YtjopjddhgaiddabGreatDoor
open Go.RowKit
set_option linter.unusedVariables false
set_option linter.unusedSimpArgs false

set_option maxRecDepth 100000 in
set_option maxHeartbeats 4000000 in
theorem typed_sf_1 (cu : Bool) (mo : Int) (sg pa : Bool) (c : Int) (hs : special c = true) (w : World) (hT : Pow w) (h : Typed c 1) :
    Calls Tryz.prog 57 #[.agg #[.bool cu, .bool false, .int .i64 mo, .bool sg, .bool pa], .agg #[.int .i64 c, .int .i64 1]] w (NewOwn w (typedE false c 1)) := by
  have hne : plainE c 1 ≠ [] := by
    unfold plainE
    rw [if_pos hs]
    simp
  have hh : plainE c 1 = [] ∨ ((1 : Int) ≠ 0 ∧ (special c = true ∨ (1 : Int) ≠ 4)) := .inr ⟨by omega, .inl hs⟩
  have HC := Lib.hid ((typedE_last (L := plainE c 1) hh (.inl (by omega)) (by rw [if_neg hne])).trans (if_neg (by decide)))
  rw [HC.out]
  clear HC hh
  have hll := plain_len c 1
  have HP := Lib.hid (fun W => plainBytes_any c 1 W h)
  have hcode := h.code
  generalize plainE c 1 = L at *
  have HT := Lib.hid hT
  clear hT
  go_enter Tryz.func57, Tryz.ntmps57
  go_wp2_with fail
  refine (HP.out _).mono ?_
  rintro e w1 ⟨v, rfl, ho, hb⟩
  obtain ⟨p1, c1, hv⟩ := ho.slice
  subst hv
  have k1 := (AtL.new (w.alloc (.cells #[.bool cu, .bool false, .int .i64 mo, .bool sg, .bool pa] 29)) [.int .i64 c, .int .i64 1] 66).on hb
  rw [World.size_alloc] at k1
  have m1 := ((AtL.new w [.bool cu, .bool false, .int .i64 mo, .bool sg, .bool pa] 29).on (below_mk _ (.cells #[.int .i64 c, .int .i64 1] 66))).on hb
  have b1 := below_on (below_on (below_mk w (.cells #[.bool cu, .bool false, .int .i64 mo, .bool sg, .bool pa] 29)) (below_mk _ (.cells #[.int .i64 c, .int .i64 1] 66))) hb
  have o1 := ho.lower (base' := w.heap.size) (by simp; omega)
  have r0 := k1.get 0 rfl
  have r1 := k1.get 1 rfl
  clear ho hb HP
  go_wp2_with fail
  refine (implIsSpecial_any c _).mono ?_
  rintro e w2 ⟨rfl, hb2⟩
  rw [hs]
  have HK := Lib.hid (k1.on hb2)
  have HM := Lib.hid (m1.on hb2)
  have HO := Lib.hid (o1.on hb2)
  have HB := Lib.hid (below_on b1 hb2)
  clear k1 m1 o1 b1 hb2 r0 r1
  have r0 := HK.out.get 0 rfl
  have r1 := HK.out.get 1 rfl
  have r2 := HM.out.get 1 rfl
  have hpos : 0 < L.length := List.length_pos_iff.2 hne
  clear hne
  have hpn : ¬ (L.length : Int) = 0 := by omega
  go_wp2_with fail
  go_ret
  exact ⟨_, rfl, HO.out, HB.out⟩

set_option maxRecDepth 100000 in
set_option maxHeartbeats 4000000 in
theorem typed_sf_2 (cu : Bool) (mo : Int) (sg pa : Bool) (c : Int) (hs : special c = true) (w : World) (hT : Pow w) (h : Typed c 2) :
    Calls Tryz.prog 57 #[.agg #[.bool cu, .bool false, .int .i64 mo, .bool sg, .bool pa], .agg #[.int .i64 c, .int .i64 2]] w (NewOwn w (typedE false c 2)) := by
  have hne : plainE c 2 ≠ [] := by
    unfold plainE
    rw [if_pos hs]
    simp
  have hh : plainE c 2 = [] ∨ ((2 : Int) ≠ 0 ∧ (special c = true ∨ (2 : Int) ≠ 4)) := .inr ⟨by omega, .inl hs⟩
  have h127 : 126 < c := by simp [special, inR] at hs; omega
  have hin : inR c 32 126 = false := by simp [inR]; omega
  have HC := Lib.hid ((typedE_last (L := plainE c 2) hh (.inr h127) (by rw [if_neg hne])).trans (if_pos (by decide)))
  rw [HC.out]
  clear HC hh
  have hll := plain_len c 2
  have HP := Lib.hid (fun W => plainBytes_any c 2 W h)
  have hcode := h.code
  generalize plainE c 2 = L at *
  have HT := Lib.hid hT
  clear hT
  go_enter Tryz.func57, Tryz.ntmps57
  go_wp2_with fail
  refine (HP.out _).mono ?_
  rintro e w1 ⟨v, rfl, ho, hb⟩
  obtain ⟨p1, c1, hv⟩ := ho.slice
  subst hv
  have k1 := (AtL.new (w.alloc (.cells #[.bool cu, .bool false, .int .i64 mo, .bool sg, .bool pa] 29)) [.int .i64 c, .int .i64 2] 66).on hb
  rw [World.size_alloc] at k1
  have m1 := ((AtL.new w [.bool cu, .bool false, .int .i64 mo, .bool sg, .bool pa] 29).on (below_mk _ (.cells #[.int .i64 c, .int .i64 2] 66))).on hb
  have b1 := below_on (below_on (below_mk w (.cells #[.bool cu, .bool false, .int .i64 mo, .bool sg, .bool pa] 29)) (below_mk _ (.cells #[.int .i64 c, .int .i64 2] 66))) hb
  have o1 := ho.lower (base' := w.heap.size) (by simp; omega)
  have r0 := k1.get 0 rfl
  have r1 := k1.get 1 rfl
  clear ho hb HP
  go_wp2_with fail
  refine (implIsSpecial_any c _).mono ?_
  rintro e w2 ⟨rfl, hb2⟩
  rw [hs]
  have HK := Lib.hid (k1.on hb2)
  have HM := Lib.hid (m1.on hb2)
  have HO := Lib.hid (o1.on hb2)
  have HB := Lib.hid (below_on b1 hb2)
  clear k1 m1 o1 b1 hb2 r0 r1
  have r0 := HK.out.get 0 rfl
  have r1 := HK.out.get 1 rfl
  have r2 := HM.out.get 1 rfl
  have hpos : 0 < L.length := List.length_pos_iff.2 hne
  clear hne
  have r2 := (HM.out.on (below_mk w2 (.cells #[.int .i64 32, .int .i64 126] 2))).get 1 rfl
  have hpn : ¬ (L.length : Int) = 0 := by omega
  go_wp2_with (go_at_call 62; refine (isWithin_two _ _ _ _ _ _ (by simp)).mono ?_; rintro e w' ⟨rfl, rfl⟩; rw [hin]; have r1 := (HK.out.on (below_mk w2 (.cells #[.int .i64 32, .int .i64 126] 2))).get 1 rfl)
  refine (escaped_any p1 c1 L _ (HO.out.on (below_mk w2 (.cells #[.int .i64 32, .int .i64 126] 2))).bs.2 HO.out.capz (by omega)).mono ?_
  rintro e w3 ⟨v3, rfl, ho3, hb3⟩
  have hsz := HB.out.size
  have HE := Lib.hid (own_low ho3 (below_on (below_on HB.out (below_mk w2 (.cells #[.int .i64 32, .int .i64 126] 2))) hb3) (by first | omega | (simp; omega)))
  clear ho3 hb3 HO
  go_wp2_with fail
  go_ret
  exact HE.out

set_option maxRecDepth 100000 in
set_option maxHeartbeats 4000000 in
theorem typed_sf_3 (cu : Bool) (mo : Int) (sg pa : Bool) (c : Int) (hs : special c = true) (w : World) (hT : Pow w) (h : Typed c 3) :
    Calls Tryz.prog 57 #[.agg #[.bool cu, .bool false, .int .i64 mo, .bool sg, .bool pa], .agg #[.int .i64 c, .int .i64 3]] w (NewOwn w (typedE false c 3)) := by
  have hne : plainE c 3 ≠ [] := by
    unfold plainE
    rw [if_pos hs]
    simp
  have hh : plainE c 3 = [] ∨ ((3 : Int) ≠ 0 ∧ (special c = true ∨ (3 : Int) ≠ 4)) := .inr ⟨by omega, .inl hs⟩
  have HC := Lib.hid ((typedE_last (L := plainE c 3) hh (.inl (by omega)) (by rw [if_neg hne])).trans (if_pos (by decide)))
  rw [HC.out]
  clear HC hh
  have hll := plain_len c 3
  have HP := Lib.hid (fun W => plainBytes_any c 3 W h)
  have hcode := h.code
  generalize plainE c 3 = L at *
  have HT := Lib.hid hT
  clear hT
  go_enter Tryz.func57, Tryz.ntmps57
  go_wp2_with fail
  refine (HP.out _).mono ?_
  rintro e w1 ⟨v, rfl, ho, hb⟩
  obtain ⟨p1, c1, hv⟩ := ho.slice
  subst hv
  have k1 := (AtL.new (w.alloc (.cells #[.bool cu, .bool false, .int .i64 mo, .bool sg, .bool pa] 29)) [.int .i64 c, .int .i64 3] 66).on hb
  rw [World.size_alloc] at k1
  have m1 := ((AtL.new w [.bool cu, .bool false, .int .i64 mo, .bool sg, .bool pa] 29).on (below_mk _ (.cells #[.int .i64 c, .int .i64 3] 66))).on hb
  have b1 := below_on (below_on (below_mk w (.cells #[.bool cu, .bool false, .int .i64 mo, .bool sg, .bool pa] 29)) (below_mk _ (.cells #[.int .i64 c, .int .i64 3] 66))) hb
  have o1 := ho.lower (base' := w.heap.size) (by simp; omega)
  have r0 := k1.get 0 rfl
  have r1 := k1.get 1 rfl
  clear ho hb HP
  go_wp2_with fail
  refine (implIsSpecial_any c _).mono ?_
  rintro e w2 ⟨rfl, hb2⟩
  rw [hs]
  have HK := Lib.hid (k1.on hb2)
  have HM := Lib.hid (m1.on hb2)
  have HO := Lib.hid (o1.on hb2)
  have HB := Lib.hid (below_on b1 hb2)
  clear k1 m1 o1 b1 hb2 r0 r1
  have r0 := HK.out.get 0 rfl
  have r1 := HK.out.get 1 rfl
  have r2 := HM.out.get 1 rfl
  have hpos : 0 < L.length := List.length_pos_iff.2 hne
  clear hne
  have hpn : ¬ (L.length : Int) = 0 := by omega
  go_wp2_with fail
  refine (escaped_any p1 c1 L _ HO.out.bs.2 HO.out.capz (by omega)).mono ?_
  rintro e w3 ⟨v3, rfl, ho3, hb3⟩
  have hsz := HB.out.size
  have HE := Lib.hid (own_low ho3 (below_on HB.out hb3) (by first | omega | (simp; omega)))
  clear ho3 hb3 HO
  go_wp2_with fail
  go_ret
  exact HE.out

set_option maxRecDepth 100000 in
set_option maxHeartbeats 4000000 in
theorem typed_sf_4 (cu : Bool) (mo : Int) (sg pa : Bool) (c : Int) (hs : special c = true) (w : World) (hT : Pow w) (h : Typed c 4) :
    Calls Tryz.prog 57 #[.agg #[.bool cu, .bool false, .int .i64 mo, .bool sg, .bool pa], .agg #[.int .i64 c, .int .i64 4]] w (NewOwn w (typedE false c 4)) := by
  have hne : plainE c 4 ≠ [] := by
    unfold plainE
    rw [if_pos hs]
    simp
  have hh : plainE c 4 = [] ∨ ((4 : Int) ≠ 0 ∧ (special c = true ∨ (4 : Int) ≠ 4)) := .inr ⟨by omega, .inl hs⟩
  have HC := Lib.hid ((typedE_last (L := plainE c 4) hh (.inl (by omega)) (by rw [if_neg hne])).trans (if_neg (by decide)))
  rw [HC.out]
  clear HC hh
  have hll := plain_len c 4
  have HP := Lib.hid (fun W => plainBytes_any c 4 W h)
  have hcode := h.code
  generalize plainE c 4 = L at *
  have HT := Lib.hid hT
  clear hT
  go_enter Tryz.func57, Tryz.ntmps57
  go_wp2_with fail
  refine (HP.out _).mono ?_
  rintro e w1 ⟨v, rfl, ho, hb⟩
  obtain ⟨p1, c1, hv⟩ := ho.slice
  subst hv
  have k1 := (AtL.new (w.alloc (.cells #[.bool cu, .bool false, .int .i64 mo, .bool sg, .bool pa] 29)) [.int .i64 c, .int .i64 4] 66).on hb
  rw [World.size_alloc] at k1
  have m1 := ((AtL.new w [.bool cu, .bool false, .int .i64 mo, .bool sg, .bool pa] 29).on (below_mk _ (.cells #[.int .i64 c, .int .i64 4] 66))).on hb
  have b1 := below_on (below_on (below_mk w (.cells #[.bool cu, .bool false, .int .i64 mo, .bool sg, .bool pa] 29)) (below_mk _ (.cells #[.int .i64 c, .int .i64 4] 66))) hb
  have o1 := ho.lower (base' := w.heap.size) (by simp; omega)
  have r0 := k1.get 0 rfl
  have r1 := k1.get 1 rfl
  clear ho hb HP
  go_wp2_with fail
  refine (implIsSpecial_any c _).mono ?_
  rintro e w2 ⟨rfl, hb2⟩
  rw [hs]
  have HK := Lib.hid (k1.on hb2)
  have HM := Lib.hid (m1.on hb2)
  have HO := Lib.hid (o1.on hb2)
  have HB := Lib.hid (below_on b1 hb2)
  clear k1 m1 o1 b1 hb2 r0 r1
  have r0 := HK.out.get 0 rfl
  have r1 := HK.out.get 1 rfl
  have r2 := HM.out.get 1 rfl
  have hpos : 0 < L.length := List.length_pos_iff.2 hne
  clear hne
  have hpn : ¬ (L.length : Int) = 0 := by omega
  go_wp2_with fail
  go_ret
  exact ⟨_, rfl, HO.out, HB.out⟩

set_option maxRecDepth 100000 in
set_option maxHeartbeats 4000000 in
theorem typed_sf_5 (cu : Bool) (mo : Int) (sg pa : Bool) (c : Int) (hs : special c = true) (w : World) (hT : Pow w) (h : Typed c 5) :
    Calls Tryz.prog 57 #[.agg #[.bool cu, .bool false, .int .i64 mo, .bool sg, .bool pa], .agg #[.int .i64 c, .int .i64 5]] w (NewOwn w (typedE false c 5)) := by
  have hne : plainE c 5 ≠ [] := by
    unfold plainE
    rw [if_pos hs]
    simp
  have hh : plainE c 5 = [] ∨ ((5 : Int) ≠ 0 ∧ (special c = true ∨ (5 : Int) ≠ 4)) := .inr ⟨by omega, .inl hs⟩
  have HC := Lib.hid ((typedE_last (L := plainE c 5) hh (.inl (by omega)) (by rw [if_neg hne])).trans (if_neg (by decide)))
  rw [HC.out]
  clear HC hh
  have hll := plain_len c 5
  have HP := Lib.hid (fun W => plainBytes_any c 5 W h)
  have hcode := h.code
  generalize plainE c 5 = L at *
  have HT := Lib.hid hT
  clear hT
  go_enter Tryz.func57, Tryz.ntmps57
  go_wp2_with fail
  refine (HP.out _).mono ?_
  rintro e w1 ⟨v, rfl, ho, hb⟩
  obtain ⟨p1, c1, hv⟩ := ho.slice
  subst hv
  have k1 := (AtL.new (w.alloc (.cells #[.bool cu, .bool false, .int .i64 mo, .bool sg, .bool pa] 29)) [.int .i64 c, .int .i64 5] 66).on hb
  rw [World.size_alloc] at k1
  have m1 := ((AtL.new w [.bool cu, .bool false, .int .i64 mo, .bool sg, .bool pa] 29).on (below_mk _ (.cells #[.int .i64 c, .int .i64 5] 66))).on hb
  have b1 := below_on (below_on (below_mk w (.cells #[.bool cu, .bool false, .int .i64 mo, .bool sg, .bool pa] 29)) (below_mk _ (.cells #[.int .i64 c, .int .i64 5] 66))) hb
  have o1 := ho.lower (base' := w.heap.size) (by simp; omega)
  have r0 := k1.get 0 rfl
  have r1 := k1.get 1 rfl
  clear ho hb HP
  go_wp2_with fail
  refine (implIsSpecial_any c _).mono ?_
  rintro e w2 ⟨rfl, hb2⟩
  rw [hs]
  have HK := Lib.hid (k1.on hb2)
  have HM := Lib.hid (m1.on hb2)
  have HO := Lib.hid (o1.on hb2)
  have HB := Lib.hid (below_on b1 hb2)
  clear k1 m1 o1 b1 hb2 r0 r1
  have r0 := HK.out.get 0 rfl
  have r1 := HK.out.get 1 rfl
  have r2 := HM.out.get 1 rfl
  have hpos : 0 < L.length := List.length_pos_iff.2 hne
  clear hne
  have hpn : ¬ (L.length : Int) = 0 := by omega
  go_wp2_with fail
  go_ret
  exact ⟨_, rfl, HO.out, HB.out⟩

set_option maxRecDepth 100000 in
set_option maxHeartbeats 4000000 in
theorem typed_sf_6 (cu : Bool) (mo : Int) (sg pa : Bool) (c : Int) (hs : special c = true) (w : World) (hT : Pow w) (h : Typed c 6) :
    Calls Tryz.prog 57 #[.agg #[.bool cu, .bool false, .int .i64 mo, .bool sg, .bool pa], .agg #[.int .i64 c, .int .i64 6]] w (NewOwn w (typedE false c 6)) := by
  have hne : plainE c 6 ≠ [] := by
    unfold plainE
    rw [if_pos hs]
    simp
  have hh : plainE c 6 = [] ∨ ((6 : Int) ≠ 0 ∧ (special c = true ∨ (6 : Int) ≠ 4)) := .inr ⟨by omega, .inl hs⟩
  have HC := Lib.hid ((typedE_last (L := plainE c 6) hh (.inl (by omega)) (by rw [if_neg hne])).trans (if_pos (by decide)))
  rw [HC.out]
  clear HC hh
  have hll := plain_len c 6
  have HP := Lib.hid (fun W => plainBytes_any c 6 W h)
  have hcode := h.code
  generalize plainE c 6 = L at *
  have HT := Lib.hid hT
  clear hT
  go_enter Tryz.func57, Tryz.ntmps57
  go_wp2_with fail
  refine (HP.out _).mono ?_
  rintro e w1 ⟨v, rfl, ho, hb⟩
  obtain ⟨p1, c1, hv⟩ := ho.slice
  subst hv
  have k1 := (AtL.new (w.alloc (.cells #[.bool cu, .bool false, .int .i64 mo, .bool sg, .bool pa] 29)) [.int .i64 c, .int .i64 6] 66).on hb
  rw [World.size_alloc] at k1
  have m1 := ((AtL.new w [.bool cu, .bool false, .int .i64 mo, .bool sg, .bool pa] 29).on (below_mk _ (.cells #[.int .i64 c, .int .i64 6] 66))).on hb
  have b1 := below_on (below_on (below_mk w (.cells #[.bool cu, .bool false, .int .i64 mo, .bool sg, .bool pa] 29)) (below_mk _ (.cells #[.int .i64 c, .int .i64 6] 66))) hb
  have o1 := ho.lower (base' := w.heap.size) (by simp; omega)
  have r0 := k1.get 0 rfl
  have r1 := k1.get 1 rfl
  clear ho hb HP
  go_wp2_with fail
  refine (implIsSpecial_any c _).mono ?_
  rintro e w2 ⟨rfl, hb2⟩
  rw [hs]
  have HK := Lib.hid (k1.on hb2)
  have HM := Lib.hid (m1.on hb2)
  have HO := Lib.hid (o1.on hb2)
  have HB := Lib.hid (below_on b1 hb2)
  clear k1 m1 o1 b1 hb2 r0 r1
  have r0 := HK.out.get 0 rfl
  have r1 := HK.out.get 1 rfl
  have r2 := HM.out.get 1 rfl
  have hpos : 0 < L.length := List.length_pos_iff.2 hne
  clear hne
  have hpn : ¬ (L.length : Int) = 0 := by omega
  go_wp2_with fail
  refine (escaped_any p1 c1 L _ HO.out.bs.2 HO.out.capz (by omega)).mono ?_
  rintro e w3 ⟨v3, rfl, ho3, hb3⟩
  have hsz := HB.out.size
  have HE := Lib.hid (own_low ho3 (below_on HB.out hb3) (by first | omega | (simp; omega)))
  clear ho3 hb3 HO
  go_wp2_with fail
  go_ret
  exact HE.out

set_option maxRecDepth 100000 in
set_option maxHeartbeats 4000000 in
theorem typed_sf_7 (cu : Bool) (mo : Int) (sg pa : Bool) (c : Int) (hs : special c = true) (w : World) (hT : Pow w) (h : Typed c 7) :
    Calls Tryz.prog 57 #[.agg #[.bool cu, .bool false, .int .i64 mo, .bool sg, .bool pa], .agg #[.int .i64 c, .int .i64 7]] w (NewOwn w (typedE false c 7)) := by
  have hne : plainE c 7 ≠ [] := by
    unfold plainE
    rw [if_pos hs]
    simp
  have hh : plainE c 7 = [] ∨ ((7 : Int) ≠ 0 ∧ (special c = true ∨ (7 : Int) ≠ 4)) := .inr ⟨by omega, .inl hs⟩
  have HC := Lib.hid ((typedE_last (L := plainE c 7) hh (.inl (by omega)) (by rw [if_neg hne])).trans (if_pos (by decide)))
  rw [HC.out]
  clear HC hh
  have hll := plain_len c 7
  have HP := Lib.hid (fun W => plainBytes_any c 7 W h)
  have hcode := h.code
  generalize plainE c 7 = L at *
  have HT := Lib.hid hT
  clear hT
  go_enter Tryz.func57, Tryz.ntmps57
  go_wp2_with fail
  refine (HP.out _).mono ?_
  rintro e w1 ⟨v, rfl, ho, hb⟩
  obtain ⟨p1, c1, hv⟩ := ho.slice
  subst hv
  have k1 := (AtL.new (w.alloc (.cells #[.bool cu, .bool false, .int .i64 mo, .bool sg, .bool pa] 29)) [.int .i64 c, .int .i64 7] 66).on hb
  rw [World.size_alloc] at k1
  have m1 := ((AtL.new w [.bool cu, .bool false, .int .i64 mo, .bool sg, .bool pa] 29).on (below_mk _ (.cells #[.int .i64 c, .int .i64 7] 66))).on hb
  have b1 := below_on (below_on (below_mk w (.cells #[.bool cu, .bool false, .int .i64 mo, .bool sg, .bool pa] 29)) (below_mk _ (.cells #[.int .i64 c, .int .i64 7] 66))) hb
  have o1 := ho.lower (base' := w.heap.size) (by simp; omega)
  have r0 := k1.get 0 rfl
  have r1 := k1.get 1 rfl
  clear ho hb HP
  go_wp2_with fail
  refine (implIsSpecial_any c _).mono ?_
  rintro e w2 ⟨rfl, hb2⟩
  rw [hs]
  have HK := Lib.hid (k1.on hb2)
  have HM := Lib.hid (m1.on hb2)
  have HO := Lib.hid (o1.on hb2)
  have HB := Lib.hid (below_on b1 hb2)
  clear k1 m1 o1 b1 hb2 r0 r1
  have r0 := HK.out.get 0 rfl
  have r1 := HK.out.get 1 rfl
  have r2 := HM.out.get 1 rfl
  have hpos : 0 < L.length := List.length_pos_iff.2 hne
  clear hne
  have hpn : ¬ (L.length : Int) = 0 := by omega
  go_wp2_with fail
  refine (escaped_any p1 c1 L _ HO.out.bs.2 HO.out.capz (by omega)).mono ?_
  rintro e w3 ⟨v3, rfl, ho3, hb3⟩
  have hsz := HB.out.size
  have HE := Lib.hid (own_low ho3 (below_on HB.out hb3) (by first | omega | (simp; omega)))
  clear ho3 hb3 HO
  go_wp2_with fail
  go_ret
  exact HE.out

set_option maxRecDepth 100000 in
set_option maxHeartbeats 4000000 in
theorem typed_nf_2 (cu : Bool) (mo : Int) (sg pa : Bool) (c : Int) (hs : special c = false) (h127 : 126 < c) (w : World) (hT : Pow w) (h : Typed c 2) :
    Calls Tryz.prog 57 #[.agg #[.bool cu, .bool false, .int .i64 mo, .bool sg, .bool pa], .agg #[.int .i64 c, .int .i64 2]] w (NewOwn w (typedE false c 2)) := by
  have hne : plainE c 2 ≠ [] := by
    unfold plainE
    rw [if_neg (by simp [hs])]
    rw [if_pos (.inr rfl)]
    exact putB_ne c
  have hh : plainE c 2 = [] ∨ ((2 : Int) ≠ 0 ∧ (special c = true ∨ (2 : Int) ≠ 4)) := .inr ⟨by omega, .inr (by omega)⟩
  have hin : inR c 32 126 = false := by simp [inR]; omega
  have HC := Lib.hid ((typedE_last (L := plainE c 2) hh (.inr h127) (by rw [if_neg hne])).trans (if_pos (by decide)))
  rw [HC.out]
  clear HC hh
  have hll := plain_len c 2
  have HP := Lib.hid (fun W => plainBytes_any c 2 W h)
  have hcode := h.code
  generalize plainE c 2 = L at *
  have HT := Lib.hid hT
  clear hT
  go_enter Tryz.func57, Tryz.ntmps57
  go_wp2_with fail
  refine (HP.out _).mono ?_
  rintro e w1 ⟨v, rfl, ho, hb⟩
  obtain ⟨p1, c1, hv⟩ := ho.slice
  subst hv
  have k1 := (AtL.new (w.alloc (.cells #[.bool cu, .bool false, .int .i64 mo, .bool sg, .bool pa] 29)) [.int .i64 c, .int .i64 2] 66).on hb
  rw [World.size_alloc] at k1
  have m1 := ((AtL.new w [.bool cu, .bool false, .int .i64 mo, .bool sg, .bool pa] 29).on (below_mk _ (.cells #[.int .i64 c, .int .i64 2] 66))).on hb
  have b1 := below_on (below_on (below_mk w (.cells #[.bool cu, .bool false, .int .i64 mo, .bool sg, .bool pa] 29)) (below_mk _ (.cells #[.int .i64 c, .int .i64 2] 66))) hb
  have o1 := ho.lower (base' := w.heap.size) (by simp; omega)
  have r0 := k1.get 0 rfl
  have r1 := k1.get 1 rfl
  clear ho hb HP
  go_wp2_with fail
  refine (implIsSpecial_any c _).mono ?_
  rintro e w2 ⟨rfl, hb2⟩
  rw [hs]
  have HK := Lib.hid (k1.on hb2)
  have HM := Lib.hid (m1.on hb2)
  have HO := Lib.hid (o1.on hb2)
  have HB := Lib.hid (below_on b1 hb2)
  clear k1 m1 o1 b1 hb2 r0 r1
  have r0 := HK.out.get 0 rfl
  have r1 := HK.out.get 1 rfl
  have r2 := HM.out.get 1 rfl
  have hpos : 0 < L.length := List.length_pos_iff.2 hne
  clear hne
  have r2 := (HM.out.on (below_mk w2 (.cells #[.int .i64 32, .int .i64 126] 2))).get 1 rfl
  have hpn : ¬ (L.length : Int) = 0 := by omega
  go_wp2_with (go_at_call 62; refine (isWithin_two _ _ _ _ _ _ (by simp)).mono ?_; rintro e w' ⟨rfl, rfl⟩; rw [hin]; have r1 := (HK.out.on (below_mk w2 (.cells #[.int .i64 32, .int .i64 126] 2))).get 1 rfl)
  refine (escaped_any p1 c1 L _ (HO.out.on (below_mk w2 (.cells #[.int .i64 32, .int .i64 126] 2))).bs.2 HO.out.capz (by omega)).mono ?_
  rintro e w3 ⟨v3, rfl, ho3, hb3⟩
  have hsz := HB.out.size
  have HE := Lib.hid (own_low ho3 (below_on (below_on HB.out (below_mk w2 (.cells #[.int .i64 32, .int .i64 126] 2))) hb3) (by first | omega | (simp; omega)))
  clear ho3 hb3 HO
  go_wp2_with fail
  go_ret
  exact HE.out

set_option maxRecDepth 100000 in
set_option maxHeartbeats 4000000 in
theorem typed_nf_6 (cu : Bool) (mo : Int) (sg pa : Bool) (c : Int) (hs : special c = false) (hp : ctrlE c ≠ []) (w : World) (hT : Pow w) (h : Typed c 6) :
    Calls Tryz.prog 57 #[.agg #[.bool cu, .bool false, .int .i64 mo, .bool sg, .bool pa], .agg #[.int .i64 c, .int .i64 6]] w (NewOwn w (typedE false c 6)) := by
  have hne : plainE c 6 ≠ [] := by
    unfold plainE
    rw [if_neg (by simp [hs])]
    rw [if_neg (by omega), if_pos (by omega)]
    exact hp
  have hh : plainE c 6 = [] ∨ ((6 : Int) ≠ 0 ∧ (special c = true ∨ (6 : Int) ≠ 4)) := .inr ⟨by omega, .inr (by omega)⟩
  have HC := Lib.hid ((typedE_last (L := plainE c 6) hh (.inl (by omega)) (by rw [if_neg hne])).trans (if_pos (by decide)))
  rw [HC.out]
  clear HC hh
  have hll := plain_len c 6
  have HP := Lib.hid (fun W => plainBytes_any c 6 W h)
  have hcode := h.code
  generalize plainE c 6 = L at *
  have HT := Lib.hid hT
  clear hT
  go_enter Tryz.func57, Tryz.ntmps57
  go_wp2_with fail
  refine (HP.out _).mono ?_
  rintro e w1 ⟨v, rfl, ho, hb⟩
  obtain ⟨p1, c1, hv⟩ := ho.slice
  subst hv
  have k1 := (AtL.new (w.alloc (.cells #[.bool cu, .bool false, .int .i64 mo, .bool sg, .bool pa] 29)) [.int .i64 c, .int .i64 6] 66).on hb
  rw [World.size_alloc] at k1
  have m1 := ((AtL.new w [.bool cu, .bool false, .int .i64 mo, .bool sg, .bool pa] 29).on (below_mk _ (.cells #[.int .i64 c, .int .i64 6] 66))).on hb
  have b1 := below_on (below_on (below_mk w (.cells #[.bool cu, .bool false, .int .i64 mo, .bool sg, .bool pa] 29)) (below_mk _ (.cells #[.int .i64 c, .int .i64 6] 66))) hb
  have o1 := ho.lower (base' := w.heap.size) (by simp; omega)
  have r0 := k1.get 0 rfl
  have r1 := k1.get 1 rfl
  clear ho hb HP
  go_wp2_with fail
  refine (implIsSpecial_any c _).mono ?_
  rintro e w2 ⟨rfl, hb2⟩
  rw [hs]
  have HK := Lib.hid (k1.on hb2)
  have HM := Lib.hid (m1.on hb2)
  have HO := Lib.hid (o1.on hb2)
  have HB := Lib.hid (below_on b1 hb2)
  clear k1 m1 o1 b1 hb2 r0 r1
  have r0 := HK.out.get 0 rfl
  have r1 := HK.out.get 1 rfl
  have r2 := HM.out.get 1 rfl
  have hpos : 0 < L.length := List.length_pos_iff.2 hne
  clear hne
  have hpn : ¬ (L.length : Int) = 0 := by omega
  go_wp2_with fail
  refine (escaped_any p1 c1 L _ HO.out.bs.2 HO.out.capz (by omega)).mono ?_
  rintro e w3 ⟨v3, rfl, ho3, hb3⟩
  have hsz := HB.out.size
  have HE := Lib.hid (own_low ho3 (below_on HB.out hb3) (by first | omega | (simp; omega)))
  clear ho3 hb3 HO
  go_wp2_with fail
  go_ret
  exact HE.out

set_option maxRecDepth 100000 in
set_option maxHeartbeats 4000000 in
theorem typed_ef_1 (cu : Bool) (mo : Int) (sg pa : Bool) (c : Int) (hs : special c = false) (w : World) (hT : Pow w) (h : Typed c 1) :
    Calls Tryz.prog 57 #[.agg #[.bool cu, .bool false, .int .i64 mo, .bool sg, .bool pa], .agg #[.int .i64 c, .int .i64 1]] w (NewOwn w (typedE false c 1)) := by
  have hne : plainE c 1 = [] := by
    unfold plainE
    rw [if_neg (by simp [hs]), if_neg (by omega)]
    rw [if_neg (by omega)]
  have hh : plainE c 1 = [] ∨ ((1 : Int) ≠ 0 ∧ (special c = true ∨ (1 : Int) ≠ 4)) := .inl hne
  have HC := Lib.hid ((typedE_last (L := putB c) hh (.inl (by omega)) (by rw [if_pos hne])).trans (if_neg (by decide)))
  rw [HC.out]
  clear HC hh
  have hpr := putRes_key h hs
  have HU := Lib.hid (fun W => implPutPoint_any c W)
  rw [hpr] at HU
  have hul : (putB c).length ≤ 4 := by have := put_small c; rw [put_len]; omega
  generalize putB c = U at *
  clear hpr
  have hll := plain_len c 1
  have HP := Lib.hid (fun W => plainBytes_any c 1 W h)
  have hcode := h.code
  generalize plainE c 1 = L at *
  subst hne
  have HT := Lib.hid hT
  clear hT
  go_enter Tryz.func57, Tryz.ntmps57
  go_wp2_with fail
  refine (HP.out _).mono ?_
  rintro e w1 ⟨v, rfl, ho, hb⟩
  obtain ⟨p1, c1, hv⟩ := ho.slice
  subst hv
  have k1 := (AtL.new (w.alloc (.cells #[.bool cu, .bool false, .int .i64 mo, .bool sg, .bool pa] 29)) [.int .i64 c, .int .i64 1] 66).on hb
  rw [World.size_alloc] at k1
  have m1 := ((AtL.new w [.bool cu, .bool false, .int .i64 mo, .bool sg, .bool pa] 29).on (below_mk _ (.cells #[.int .i64 c, .int .i64 1] 66))).on hb
  have b1 := below_on (below_on (below_mk w (.cells #[.bool cu, .bool false, .int .i64 mo, .bool sg, .bool pa] 29)) (below_mk _ (.cells #[.int .i64 c, .int .i64 1] 66))) hb
  have o1 := ho.lower (base' := w.heap.size) (by simp; omega)
  have r0 := k1.get 0 rfl
  have r1 := k1.get 1 rfl
  clear ho hb HP
  go_wp2_with fail
  refine (implIsSpecial_any c _).mono ?_
  rintro e w2 ⟨rfl, hb2⟩
  rw [hs]
  have HK := Lib.hid (k1.on hb2)
  have HM := Lib.hid (m1.on hb2)
  have HO := Lib.hid (o1.on hb2)
  have HB := Lib.hid (below_on b1 hb2)
  clear k1 m1 o1 b1 hb2 r0 r1
  have r0 := HK.out.get 0 rfl
  have r1 := HK.out.get 1 rfl
  have r2 := HM.out.get 1 rfl
  have hfd : ∀ (a b : Value) (w : World), (Instr.field 37 (.agg #[a, b]) 1).run Tryz.prog w = .ok b w := by intros; kernel_rfl
  go_wp2_with fail
  refine (HU.out _).mono ?_
  rintro e w3 ⟨v3, rfl, ho3, hb3⟩
  obtain ⟨p3, c3, hv⟩ := ho3.slice
  subst hv
  have hsz := HB.out.size
  have HO3 := Lib.hid ho3
  have HB3 := Lib.hid (below_on HB.out hb3)
  have r1 := (HK.out.on hb3).get 1 rfl
  clear hb3 ho3
  unfold brV
  go_wp2_with fail
  go_ret
  exact ⟨_, rfl, HO3.out.lower (by omega), HB3.out⟩

set_option maxRecDepth 100000 in
set_option maxHeartbeats 4000000 in
theorem typed_ef_3 (cu : Bool) (mo : Int) (sg pa : Bool) (c : Int) (hs : special c = false) (w : World) (hT : Pow w) (h : Typed c 3) :
    Calls Tryz.prog 57 #[.agg #[.bool cu, .bool false, .int .i64 mo, .bool sg, .bool pa], .agg #[.int .i64 c, .int .i64 3]] w (NewOwn w (typedE false c 3)) := by
  have hne : plainE c 3 = [] := by
    unfold plainE
    rw [if_neg (by simp [hs]), if_neg (by omega)]
    rw [if_neg (by omega)]
  have hh : plainE c 3 = [] ∨ ((3 : Int) ≠ 0 ∧ (special c = true ∨ (3 : Int) ≠ 4)) := .inl hne
  have HC := Lib.hid ((typedE_last (L := putB c) hh (.inl (by omega)) (by rw [if_pos hne])).trans (if_pos (by decide)))
  rw [HC.out]
  clear HC hh
  have hpr := putRes_key h hs
  have HU := Lib.hid (fun W => implPutPoint_any c W)
  rw [hpr] at HU
  have hul : (putB c).length ≤ 4 := by have := put_small c; rw [put_len]; omega
  generalize putB c = U at *
  clear hpr
  have hll := plain_len c 3
  have HP := Lib.hid (fun W => plainBytes_any c 3 W h)
  have hcode := h.code
  generalize plainE c 3 = L at *
  subst hne
  have HT := Lib.hid hT
  clear hT
  go_enter Tryz.func57, Tryz.ntmps57
  go_wp2_with fail
  refine (HP.out _).mono ?_
  rintro e w1 ⟨v, rfl, ho, hb⟩
  obtain ⟨p1, c1, hv⟩ := ho.slice
  subst hv
  have k1 := (AtL.new (w.alloc (.cells #[.bool cu, .bool false, .int .i64 mo, .bool sg, .bool pa] 29)) [.int .i64 c, .int .i64 3] 66).on hb
  rw [World.size_alloc] at k1
  have m1 := ((AtL.new w [.bool cu, .bool false, .int .i64 mo, .bool sg, .bool pa] 29).on (below_mk _ (.cells #[.int .i64 c, .int .i64 3] 66))).on hb
  have b1 := below_on (below_on (below_mk w (.cells #[.bool cu, .bool false, .int .i64 mo, .bool sg, .bool pa] 29)) (below_mk _ (.cells #[.int .i64 c, .int .i64 3] 66))) hb
  have o1 := ho.lower (base' := w.heap.size) (by simp; omega)
  have r0 := k1.get 0 rfl
  have r1 := k1.get 1 rfl
  clear ho hb HP
  go_wp2_with fail
  refine (implIsSpecial_any c _).mono ?_
  rintro e w2 ⟨rfl, hb2⟩
  rw [hs]
  have HK := Lib.hid (k1.on hb2)
  have HM := Lib.hid (m1.on hb2)
  have HO := Lib.hid (o1.on hb2)
  have HB := Lib.hid (below_on b1 hb2)
  clear k1 m1 o1 b1 hb2 r0 r1
  have r0 := HK.out.get 0 rfl
  have r1 := HK.out.get 1 rfl
  have r2 := HM.out.get 1 rfl
  have hfd : ∀ (a b : Value) (w : World), (Instr.field 37 (.agg #[a, b]) 1).run Tryz.prog w = .ok b w := by intros; kernel_rfl
  go_wp2_with fail
  refine (HU.out _).mono ?_
  rintro e w3 ⟨v3, rfl, ho3, hb3⟩
  obtain ⟨p3, c3, hv⟩ := ho3.slice
  subst hv
  have hsz := HB.out.size
  have HO3 := Lib.hid ho3
  have HB3 := Lib.hid (below_on HB.out hb3)
  have r1 := (HK.out.on hb3).get 1 rfl
  clear hb3 ho3
  unfold brV
  go_wp2_with fail
  refine (escaped_any p3 c3 U _ HO3.out.bs.2 HO3.out.capz (by omega)).mono ?_
  rintro e w4 ⟨v4, rfl, ho4, hb4⟩
  have hsz3 := HB3.out.size
  have HE := Lib.hid (own_low ho4 (below_on HB3.out hb4) (by omega))
  clear ho4 hb4
  go_wp2_with fail
  go_ret
  exact HE.out

set_option maxRecDepth 100000 in
set_option maxHeartbeats 4000000 in
theorem typed_ef_4 (cu : Bool) (mo : Int) (sg pa : Bool) (c : Int) (hs : special c = false) (hp : ctrlE c = []) (w : World) (hT : Pow w) (h : Typed c 4) :
    Calls Tryz.prog 57 #[.agg #[.bool cu, .bool false, .int .i64 mo, .bool sg, .bool pa], .agg #[.int .i64 c, .int .i64 4]] w (NewOwn w (typedE false c 4)) := by
  have hne : plainE c 4 = [] := by
    unfold plainE
    rw [if_neg (by simp [hs]), if_neg (by omega)]
    rw [if_pos (by omega)]
    exact hp
  have hh : plainE c 4 = [] ∨ ((4 : Int) ≠ 0 ∧ (special c = true ∨ (4 : Int) ≠ 4)) := .inl hne
  have HC := Lib.hid ((typedE_last (L := putB c) hh (.inl (by omega)) (by rw [if_pos hne])).trans (if_neg (by decide)))
  rw [HC.out]
  clear HC hh
  have hpr := putRes_key h hs
  have HU := Lib.hid (fun W => implPutPoint_any c W)
  rw [hpr] at HU
  have hul : (putB c).length ≤ 4 := by have := put_small c; rw [put_len]; omega
  generalize putB c = U at *
  clear hpr
  have hll := plain_len c 4
  have HP := Lib.hid (fun W => plainBytes_any c 4 W h)
  have hcode := h.code
  generalize plainE c 4 = L at *
  subst hne
  have HT := Lib.hid hT
  clear hT
  go_enter Tryz.func57, Tryz.ntmps57
  go_wp2_with fail
  refine (HP.out _).mono ?_
  rintro e w1 ⟨v, rfl, ho, hb⟩
  obtain ⟨p1, c1, hv⟩ := ho.slice
  subst hv
  have k1 := (AtL.new (w.alloc (.cells #[.bool cu, .bool false, .int .i64 mo, .bool sg, .bool pa] 29)) [.int .i64 c, .int .i64 4] 66).on hb
  rw [World.size_alloc] at k1
  have m1 := ((AtL.new w [.bool cu, .bool false, .int .i64 mo, .bool sg, .bool pa] 29).on (below_mk _ (.cells #[.int .i64 c, .int .i64 4] 66))).on hb
  have b1 := below_on (below_on (below_mk w (.cells #[.bool cu, .bool false, .int .i64 mo, .bool sg, .bool pa] 29)) (below_mk _ (.cells #[.int .i64 c, .int .i64 4] 66))) hb
  have o1 := ho.lower (base' := w.heap.size) (by simp; omega)
  have r0 := k1.get 0 rfl
  have r1 := k1.get 1 rfl
  clear ho hb HP
  go_wp2_with fail
  refine (implIsSpecial_any c _).mono ?_
  rintro e w2 ⟨rfl, hb2⟩
  rw [hs]
  have HK := Lib.hid (k1.on hb2)
  have HM := Lib.hid (m1.on hb2)
  have HO := Lib.hid (o1.on hb2)
  have HB := Lib.hid (below_on b1 hb2)
  clear k1 m1 o1 b1 hb2 r0 r1
  have r0 := HK.out.get 0 rfl
  have r1 := HK.out.get 1 rfl
  have r2 := HM.out.get 1 rfl
  have hfd : ∀ (a b : Value) (w : World), (Instr.field 37 (.agg #[a, b]) 1).run Tryz.prog w = .ok b w := by intros; kernel_rfl
  go_wp2_with fail
  refine (HU.out _).mono ?_
  rintro e w3 ⟨v3, rfl, ho3, hb3⟩
  obtain ⟨p3, c3, hv⟩ := ho3.slice
  subst hv
  have hsz := HB.out.size
  have HO3 := Lib.hid ho3
  have HB3 := Lib.hid (below_on HB.out hb3)
  have r1 := (HK.out.on hb3).get 1 rfl
  clear hb3 ho3
  unfold brV
  go_wp2_with fail
  go_ret
  exact ⟨_, rfl, HO3.out.lower (by omega), HB3.out⟩

set_option maxRecDepth 100000 in
set_option maxHeartbeats 4000000 in
theorem typed_ef_5 (cu : Bool) (mo : Int) (sg pa : Bool) (c : Int) (hs : special c = false) (w : World) (hT : Pow w) (h : Typed c 5) :
    Calls Tryz.prog 57 #[.agg #[.bool cu, .bool false, .int .i64 mo, .bool sg, .bool pa], .agg #[.int .i64 c, .int .i64 5]] w (NewOwn w (typedE false c 5)) := by
  have hne : plainE c 5 = [] := by
    unfold plainE
    rw [if_neg (by simp [hs]), if_neg (by omega)]
    rw [if_neg (by omega)]
  have hh : plainE c 5 = [] ∨ ((5 : Int) ≠ 0 ∧ (special c = true ∨ (5 : Int) ≠ 4)) := .inl hne
  have HC := Lib.hid ((typedE_last (L := putB c) hh (.inl (by omega)) (by rw [if_pos hne])).trans (if_neg (by decide)))
  rw [HC.out]
  clear HC hh
  have hpr := putRes_key h hs
  have HU := Lib.hid (fun W => implPutPoint_any c W)
  rw [hpr] at HU
  have hul : (putB c).length ≤ 4 := by have := put_small c; rw [put_len]; omega
  generalize putB c = U at *
  clear hpr
  have hll := plain_len c 5
  have HP := Lib.hid (fun W => plainBytes_any c 5 W h)
  have hcode := h.code
  generalize plainE c 5 = L at *
  subst hne
  have HT := Lib.hid hT
  clear hT
  go_enter Tryz.func57, Tryz.ntmps57
  go_wp2_with fail
  refine (HP.out _).mono ?_
  rintro e w1 ⟨v, rfl, ho, hb⟩
  obtain ⟨p1, c1, hv⟩ := ho.slice
  subst hv
  have k1 := (AtL.new (w.alloc (.cells #[.bool cu, .bool false, .int .i64 mo, .bool sg, .bool pa] 29)) [.int .i64 c, .int .i64 5] 66).on hb
  rw [World.size_alloc] at k1
  have m1 := ((AtL.new w [.bool cu, .bool false, .int .i64 mo, .bool sg, .bool pa] 29).on (below_mk _ (.cells #[.int .i64 c, .int .i64 5] 66))).on hb
  have b1 := below_on (below_on (below_mk w (.cells #[.bool cu, .bool false, .int .i64 mo, .bool sg, .bool pa] 29)) (below_mk _ (.cells #[.int .i64 c, .int .i64 5] 66))) hb
  have o1 := ho.lower (base' := w.heap.size) (by simp; omega)
  have r0 := k1.get 0 rfl
  have r1 := k1.get 1 rfl
  clear ho hb HP
  go_wp2_with fail
  refine (implIsSpecial_any c _).mono ?_
  rintro e w2 ⟨rfl, hb2⟩
  rw [hs]
  have HK := Lib.hid (k1.on hb2)
  have HM := Lib.hid (m1.on hb2)
  have HO := Lib.hid (o1.on hb2)
  have HB := Lib.hid (below_on b1 hb2)
  clear k1 m1 o1 b1 hb2 r0 r1
  have r0 := HK.out.get 0 rfl
  have r1 := HK.out.get 1 rfl
  have r2 := HM.out.get 1 rfl
  have hfd : ∀ (a b : Value) (w : World), (Instr.field 37 (.agg #[a, b]) 1).run Tryz.prog w = .ok b w := by intros; kernel_rfl
  go_wp2_with fail
  refine (HU.out _).mono ?_
  rintro e w3 ⟨v3, rfl, ho3, hb3⟩
  obtain ⟨p3, c3, hv⟩ := ho3.slice
  subst hv
  have hsz := HB.out.size
  have HO3 := Lib.hid ho3
  have HB3 := Lib.hid (below_on HB.out hb3)
  have r1 := (HK.out.on hb3).get 1 rfl
  clear hb3 ho3
  unfold brV
  go_wp2_with fail
  go_ret
  exact ⟨_, rfl, HO3.out.lower (by omega), HB3.out⟩

set_option maxRecDepth 100000 in
set_option maxHeartbeats 4000000 in
theorem typed_ef_6 (cu : Bool) (mo : Int) (sg pa : Bool) (c : Int) (hs : special c = false) (hp : ctrlE c = []) (w : World) (hT : Pow w) (h : Typed c 6) :
    Calls Tryz.prog 57 #[.agg #[.bool cu, .bool false, .int .i64 mo, .bool sg, .bool pa], .agg #[.int .i64 c, .int .i64 6]] w (NewOwn w (typedE false c 6)) := by
  have hne : plainE c 6 = [] := by
    unfold plainE
    rw [if_neg (by simp [hs]), if_neg (by omega)]
    rw [if_pos (by omega)]
    exact hp
  have hh : plainE c 6 = [] ∨ ((6 : Int) ≠ 0 ∧ (special c = true ∨ (6 : Int) ≠ 4)) := .inl hne
  have HC := Lib.hid ((typedE_last (L := putB c) hh (.inl (by omega)) (by rw [if_pos hne])).trans (if_pos (by decide)))
  rw [HC.out]
  clear HC hh
  have hpr := putRes_key h hs
  have HU := Lib.hid (fun W => implPutPoint_any c W)
  rw [hpr] at HU
  have hul : (putB c).length ≤ 4 := by have := put_small c; rw [put_len]; omega
  generalize putB c = U at *
  clear hpr
  have hll := plain_len c 6
  have HP := Lib.hid (fun W => plainBytes_any c 6 W h)
  have hcode := h.code
  generalize plainE c 6 = L at *
  subst hne
  have HT := Lib.hid hT
  clear hT
  go_enter Tryz.func57, Tryz.ntmps57
  go_wp2_with fail
  refine (HP.out _).mono ?_
  rintro e w1 ⟨v, rfl, ho, hb⟩
  obtain ⟨p1, c1, hv⟩ := ho.slice
  subst hv
  have k1 := (AtL.new (w.alloc (.cells #[.bool cu, .bool false, .int .i64 mo, .bool sg, .bool pa] 29)) [.int .i64 c, .int .i64 6] 66).on hb
  rw [World.size_alloc] at k1
  have m1 := ((AtL.new w [.bool cu, .bool false, .int .i64 mo, .bool sg, .bool pa] 29).on (below_mk _ (.cells #[.int .i64 c, .int .i64 6] 66))).on hb
  have b1 := below_on (below_on (below_mk w (.cells #[.bool cu, .bool false, .int .i64 mo, .bool sg, .bool pa] 29)) (below_mk _ (.cells #[.int .i64 c, .int .i64 6] 66))) hb
  have o1 := ho.lower (base' := w.heap.size) (by simp; omega)
  have r0 := k1.get 0 rfl
  have r1 := k1.get 1 rfl
  clear ho hb HP
  go_wp2_with fail
  refine (implIsSpecial_any c _).mono ?_
  rintro e w2 ⟨rfl, hb2⟩
  rw [hs]
  have HK := Lib.hid (k1.on hb2)
  have HM := Lib.hid (m1.on hb2)
  have HO := Lib.hid (o1.on hb2)
  have HB := Lib.hid (below_on b1 hb2)
  clear k1 m1 o1 b1 hb2 r0 r1
  have r0 := HK.out.get 0 rfl
  have r1 := HK.out.get 1 rfl
  have r2 := HM.out.get 1 rfl
  have hfd : ∀ (a b : Value) (w : World), (Instr.field 37 (.agg #[a, b]) 1).run Tryz.prog w = .ok b w := by intros; kernel_rfl
  go_wp2_with fail
  refine (HU.out _).mono ?_
  rintro e w3 ⟨v3, rfl, ho3, hb3⟩
  obtain ⟨p3, c3, hv⟩ := ho3.slice
  subst hv
  have hsz := HB.out.size
  have HO3 := Lib.hid ho3
  have HB3 := Lib.hid (below_on HB.out hb3)
  have r1 := (HK.out.on hb3).get 1 rfl
  clear hb3 ho3
  unfold brV
  go_wp2_with fail
  refine (escaped_any p3 c3 U _ HO3.out.bs.2 HO3.out.capz (by omega)).mono ?_
  rintro e w4 ⟨v4, rfl, ho4, hb4⟩
  have hsz3 := HB3.out.size
  have HE := Lib.hid (own_low ho4 (below_on HB3.out hb4) (by omega))
  clear ho4 hb4
  go_wp2_with fail
  go_ret
  exact HE.out

set_option maxRecDepth 100000 in
set_option maxHeartbeats 4000000 in
theorem typed_ef_7 (cu : Bool) (mo : Int) (sg pa : Bool) (c : Int) (hs : special c = false) (w : World) (hT : Pow w) (h : Typed c 7) :
    Calls Tryz.prog 57 #[.agg #[.bool cu, .bool false, .int .i64 mo, .bool sg, .bool pa], .agg #[.int .i64 c, .int .i64 7]] w (NewOwn w (typedE false c 7)) := by
  have hne : plainE c 7 = [] := by
    unfold plainE
    rw [if_neg (by simp [hs]), if_neg (by omega)]
    rw [if_neg (by omega)]
  have hh : plainE c 7 = [] ∨ ((7 : Int) ≠ 0 ∧ (special c = true ∨ (7 : Int) ≠ 4)) := .inl hne
  have HC := Lib.hid ((typedE_last (L := putB c) hh (.inl (by omega)) (by rw [if_pos hne])).trans (if_pos (by decide)))
  rw [HC.out]
  clear HC hh
  have hpr := putRes_key h hs
  have HU := Lib.hid (fun W => implPutPoint_any c W)
  rw [hpr] at HU
  have hul : (putB c).length ≤ 4 := by have := put_small c; rw [put_len]; omega
  generalize putB c = U at *
  clear hpr
  have hll := plain_len c 7
  have HP := Lib.hid (fun W => plainBytes_any c 7 W h)
  have hcode := h.code
  generalize plainE c 7 = L at *
  subst hne
  have HT := Lib.hid hT
  clear hT
  go_enter Tryz.func57, Tryz.ntmps57
  go_wp2_with fail
  refine (HP.out _).mono ?_
  rintro e w1 ⟨v, rfl, ho, hb⟩
  obtain ⟨p1, c1, hv⟩ := ho.slice
  subst hv
  have k1 := (AtL.new (w.alloc (.cells #[.bool cu, .bool false, .int .i64 mo, .bool sg, .bool pa] 29)) [.int .i64 c, .int .i64 7] 66).on hb
  rw [World.size_alloc] at k1
  have m1 := ((AtL.new w [.bool cu, .bool false, .int .i64 mo, .bool sg, .bool pa] 29).on (below_mk _ (.cells #[.int .i64 c, .int .i64 7] 66))).on hb
  have b1 := below_on (below_on (below_mk w (.cells #[.bool cu, .bool false, .int .i64 mo, .bool sg, .bool pa] 29)) (below_mk _ (.cells #[.int .i64 c, .int .i64 7] 66))) hb
  have o1 := ho.lower (base' := w.heap.size) (by simp; omega)
  have r0 := k1.get 0 rfl
  have r1 := k1.get 1 rfl
  clear ho hb HP
  go_wp2_with fail
  refine (implIsSpecial_any c _).mono ?_
  rintro e w2 ⟨rfl, hb2⟩
  rw [hs]
  have HK := Lib.hid (k1.on hb2)
  have HM := Lib.hid (m1.on hb2)
  have HO := Lib.hid (o1.on hb2)
  have HB := Lib.hid (below_on b1 hb2)
  clear k1 m1 o1 b1 hb2 r0 r1
  have r0 := HK.out.get 0 rfl
  have r1 := HK.out.get 1 rfl
  have r2 := HM.out.get 1 rfl
  have hfd : ∀ (a b : Value) (w : World), (Instr.field 37 (.agg #[a, b]) 1).run Tryz.prog w = .ok b w := by intros; kernel_rfl
  go_wp2_with fail
  refine (HU.out _).mono ?_
  rintro e w3 ⟨v3, rfl, ho3, hb3⟩
  obtain ⟨p3, c3, hv⟩ := ho3.slice
  subst hv
  have hsz := HB.out.size
  have HO3 := Lib.hid ho3
  have HB3 := Lib.hid (below_on HB.out hb3)
  have r1 := (HK.out.on hb3).get 1 rfl
  clear hb3 ho3
  unfold brV
  go_wp2_with fail
  refine (escaped_any p3 c3 U _ HO3.out.bs.2 HO3.out.capz (by omega)).mono ?_
  rintro e w4 ⟨v4, rfl, ho4, hb4⟩
  have hsz3 := HB3.out.size
  have HE := Lib.hid (own_low ho4 (below_on HB3.out hb4) (by omega))
  clear ho4 hb4
  go_wp2_with fail
  go_ret
  exact HE.out

end Go.Proofs.YtjopjddhgaiddabGreatDoor

/- The program's encoder: typedBytes and keyBytes whole. -/
namespace Go.Proofs.YtjopjddhgaiddabGreatDoor
open Go.RowKit
set_option linter.unusedVariables false
set_option linter.unusedSimpArgs false

theorem typedBytes_any (md : Md) (c m : Int) (w : World) (hT : Pow w) (h : Typed c m) : Calls Tryz.prog 57 #[mdV md, .agg #[.int .i64 c, .int .i64 m]] w (NewOwn w (typedE md.coded c m)) := by
  have h0 := h.m0
  have h7 := h.m7
  by_cases hx : m = 0
  · subst hx; exact typed_x0 md c w hT h
  by_cases hy : m = 2 ∧ special c = false ∧ c ≤ 126
  · obtain ⟨rfl, hs, hc⟩ := hy
    exact typed_y md c hs hc w hT h
  by_cases hz : m = 4 ∧ special c = false ∧ ctrlE c ≠ []
  · obtain ⟨rfl, hs, hc⟩ := hz
    exact typed_x4 md c hc hs w hT h
  obtain ⟨cu, co, mo, sg, pa⟩ := md
  have hm : m = 1 ∨ m = 2 ∨ m = 3 ∨ m = 4 ∨ m = 5 ∨ m = 6 ∨ m = 7 := by omega
  clear h0 h7 hx
  cases hs : special c <;> cases co
  · rcases hm with rfl | rfl | rfl | rfl | rfl | rfl | rfl
    · exact typed_ef_1 cu mo sg pa c hs w hT h
    · exact typed_nf_2 cu mo sg pa c hs (by rcases Int.lt_or_le 126 c with h1 | h1; exact h1; exact absurd ⟨rfl, hs, h1⟩ hy) w hT h
    · exact typed_ef_3 cu mo sg pa c hs w hT h
    · exact typed_ef_4 cu mo sg pa c hs (Classical.byContradiction fun hc => hz ⟨rfl, hs, hc⟩) w hT h
    · exact typed_ef_5 cu mo sg pa c hs w hT h
    · by_cases hc : ctrlE c = []
      · exact typed_ef_6 cu mo sg pa c hs hc w hT h
      · exact typed_nf_6 cu mo sg pa c hs hc w hT h
    · exact typed_ef_7 cu mo sg pa c hs w hT h
  · rcases hm with rfl | rfl | rfl | rfl | rfl | rfl | rfl
    · exact typed_et_1 cu mo sg pa c hs w hT h
    · exact typed_nt_2 cu mo sg pa c hs (by rcases Int.lt_or_le 126 c with h1 | h1; exact h1; exact absurd ⟨rfl, hs, h1⟩ hy) w hT h
    · exact typed_et_3 cu mo sg pa c hs w hT h
    · exact typed_et_4 cu mo sg pa c hs (Classical.byContradiction fun hc => hz ⟨rfl, hs, hc⟩) w hT h
    · exact typed_et_5 cu mo sg pa c hs w hT h
    · by_cases hc : ctrlE c = []
      · exact typed_et_6 cu mo sg pa c hs hc w hT h
      · exact typed_nt_6 cu mo sg pa c hs hc w hT h
    · exact typed_et_7 cu mo sg pa c hs w hT h
  · rcases hm with rfl | rfl | rfl | rfl | rfl | rfl | rfl
    · exact typed_sf_1 cu mo sg pa c hs w hT h
    · exact typed_sf_2 cu mo sg pa c hs w hT h
    · exact typed_sf_3 cu mo sg pa c hs w hT h
    · exact typed_sf_4 cu mo sg pa c hs w hT h
    · exact typed_sf_5 cu mo sg pa c hs w hT h
    · exact typed_sf_6 cu mo sg pa c hs w hT h
    · exact typed_sf_7 cu mo sg pa c hs w hT h
  · rcases hm with rfl | rfl | rfl | rfl | rfl | rfl | rfl
    · exact typed_st_1 cu mo sg pa c hs w hT h
    · exact typed_st_2 cu mo sg pa c hs w hT h
    · exact typed_st_3 cu mo sg pa c hs w hT h
    · exact typed_st_4 cu mo sg pa c hs w hT h
    · exact typed_st_5 cu mo sg pa c hs w hT h
    · exact typed_st_6 cu mo sg pa c hs w hT h
    · exact typed_st_7 cu mo sg pa c hs w hT h

theorem letterE_range (c : Int) (h : letterE c ≠ 0) : 64 ≤ letterE c ∧ letterE c ≤ 126 := by
  revert h
  unfold letterE
  repeat' split
  all_goals simp
theorem tildeE_range (c : Int) : 0 ≤ tildeE c ∧ tildeE c ≤ 6 := by
  unfold tildeE
  repeat' split
  all_goals simp

set_option maxRecDepth 100000 in
set_option maxHeartbeats 2000000 in
theorem keyBytes_any (md : Md) (c m : Int) (w : World) (hT : Pow w) (hk : keyCode c = true) (h0 : 0 ≤ m) (h7 : m ≤ 7) :
    Calls Tryz.prog 30 #[mdV md, .agg #[.int .i64 c, .int .i64 m]] w (NewOwn w (keyE md c m)) := by
  have b1 : ∀ A B, Below w.heap.size w ((w.alloc A).alloc B) := fun A B => below_on (below_mk w A) (below_mk _ B)
  have HLC := Lib.hid (fun W => letterOfCode_any c W)
  have HNC := Lib.hid (fun W => numberOfCode_any c W)
  by_cases hl : letterE c = 0
  · by_cases ht : tildeE c = 0
    · have HC : Hid (keyE md c m = typedE md.coded c m) := by simp [Hid, keyE, hl, ht]
      have HT := Lib.hid (fun A B => typedBytes_any md c m ((w.alloc A).alloc B) (hT.on (b1 A B)) ⟨hk, hl, ht, h0, h7⟩)
      rw [HC.out]
      rw [hl] at HLC
      rw [ht] at HNC
      generalize typedE md.coded c m = L at *
      obtain ⟨cu, co, mo, sg, pa⟩ := md
      unfold mdV at *
      dsimp only at *
      clear hT hl ht HC b1
      go_enter Tryz.func30, Tryz.ntmps30
      go_wp2_with fail
      refine (HLC.out _).mono ?_
      rintro e w1 ⟨rfl, rfl⟩
      go_wp2_with fail
      refine (HNC.out _).mono ?_
      rintro e w1 ⟨rfl, rfl⟩
      go_wp2_with fail
      refine (HT.out _ _).mono ?_
      rintro e w1 ⟨v, rfl, ho, hb⟩
      have HE := Lib.hid (own_low ho (below_on (below_on (below_mk w _) (below_mk _ _)) hb) (by simp; omega))
      clear ho hb
      go_wp2_with fail
      go_ret
      exact HE.out
    · have hr := tildeE_range c
      have HC : Hid (keyE md c m = tildeB (tildeE c) m) := by simp [Hid, keyE, hl, ht]
      have HT := Lib.hid (fun A B => numberBytes_any (tildeE c) m ((w.alloc A).alloc B) (hT.on (b1 A B)) (by omega) (by omega) h0 h7)
      rw [HC.out]
      rw [hl] at HLC
      generalize tildeE c = n at *
      generalize tildeB n m = L at *
      obtain ⟨cu, co, mo, sg, pa⟩ := md
      unfold mdV at *
      dsimp only at *
      clear hT hl HC b1 hr
      go_enter Tryz.func30, Tryz.ntmps30
      go_wp2_with fail
      refine (HLC.out _).mono ?_
      rintro e w1 ⟨rfl, rfl⟩
      go_wp2_with fail
      refine (HNC.out _).mono ?_
      rintro e w1 ⟨rfl, rfl⟩
      go_wp2_with fail
      refine (HT.out _ _).mono ?_
      rintro e w1 ⟨v, rfl, ho, hb⟩
      have HE := Lib.hid (own_low ho (below_on (below_on (below_mk w _) (below_mk _ _)) hb) (by simp; omega))
      clear ho hb
      go_wp2_with fail
      go_ret
      exact HE.out
  · have hr := letterE_range c hl
    have HC : Hid (keyE md c m = letterB md.cursor (byteE (letterE c)) m) := by simp [Hid, keyE, hl]
    have HT := Lib.hid (fun A B => letterBytes_any md (letterE c) m ((w.alloc A).alloc B) (hT.on (b1 A B)) hr.1 hr.2 h0 h7)
    rw [HC.out]
    generalize letterE c = n at *
    generalize letterB md.cursor (byteE n) m = L at *
    obtain ⟨cu, co, mo, sg, pa⟩ := md
    unfold mdV at *
    dsimp only at *
    clear hT HC b1 hr
    go_enter Tryz.func30, Tryz.ntmps30
    go_wp2_with fail
    refine (HLC.out _).mono ?_
    rintro e w1 ⟨rfl, rfl⟩
    go_wp2_with fail
    refine (HT.out _ _).mono ?_
    rintro e w1 ⟨v, rfl, ho, hb⟩
    have HE := Lib.hid (own_low ho (below_on (below_on (below_mk w _) (below_mk _ _)) hb) (by simp; omega))
    clear ho hb
    go_wp2_with fail
    go_ret
    exact HE.out

end Go.Proofs.YtjopjddhgaiddabGreatDoor
