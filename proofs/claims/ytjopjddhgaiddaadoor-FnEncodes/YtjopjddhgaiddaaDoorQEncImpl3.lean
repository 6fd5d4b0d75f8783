/- The program's encoder: typedBytes, keyBytes. (Written by wip/gen_typed.py.) -/
import Derived.Test.YtjopjddhgaiddaaDoorQEncImplToEncMouse2
namespace Go.Proofs.YtjopjddhgaiddaaDoor
open Go.RowKit
set_option linter.unusedVariables false
set_option linter.unusedSimpArgs false

theorem putB_ne (c : Int) : putB c ≠ [] := by
  intro h
  have h1 := put_small c
  have h2 := put_len (p := c)
  rw [h] at h2
  simp only [List.length_nil] at h2
  omega
theorem plain_len (c m : Int) : (plainE c m).length ≤ 4 := by
  have h1 := put_small c
  have h2 := put_len (p := c)
  unfold plainE ctrlE
  repeat' split
  all_goals simp
  all_goals omega
theorem putRes_key {c m : Int} (h : Typed c m) (hs : special c = false) : putRes c = putB c := by simp [putRes, (h.pt hs).1]
theorem typedE_plain {co : Bool} {c m : Int} (hL : plainE c m ≠ []) (h : m = 0 ∨ (special c = false ∧ m = 4)) : typedE co c m = plainE c m := by
  unfold typedE
  rw [if_pos ⟨hL, h⟩]
theorem typedE_alt {co : Bool} {c : Int} (h1 : 32 ≤ c) (h2 : c ≤ 126) : typedE co c 2 = 27 :: plainE c 2 := by
  unfold typedE
  rw [if_neg (by omega), if_pos ⟨rfl, h1, h2⟩]
theorem typedE_coded {c m : Int} (h : plainE c m = [] ∨ (m ≠ 0 ∧ (special c = true ∨ m ≠ 4))) (h2 : m ≠ 2 ∨ 126 < c) : typedE true c m = seqB false [codeE c, m + 1] 117 := by
  unfold typedE
  rw [if_neg, if_neg (by omega), if_pos rfl]
  rintro ⟨ha, hb⟩
  rcases h with h | ⟨h, h'⟩
  · exact ha h
  · rcases hb with hb | ⟨hb, hc⟩
    · exact h hb
    · rcases h' with h' | h'
      · rw [hb] at h'; cases h'
      · exact h' hc
theorem typedE_last {c m : Int} {L : List UInt8} (h : plainE c m = [] ∨ (m ≠ 0 ∧ (special c = true ∨ m ≠ 4))) (h2 : m ≠ 2 ∨ 126 < c) (hL : (if plainE c m = [] then putB c else plainE c m) = L) : typedE false c m = if m / 2 % 2 = 1 then 27 :: L else L := by
  subst hL
  unfold typedE
  rw [if_neg, if_neg (by omega), if_neg (by simp)]
  rintro ⟨ha, hb⟩
  rcases h with h | ⟨h, h'⟩
  · exact ha h
  · rcases hb with hb | ⟨hb, hc⟩
    · exact h hb
    · rcases h' with h' | h'
      · rw [hb] at h'; cases h'
      · exact h' hc

set_option maxRecDepth 100000 in
set_option maxHeartbeats 4000000 in
theorem typed_x0 (md : Md) (c : Int) (w : World) (hT : Pow w) (h : Typed c 0) :
    Calls Tryd.prog 41 #[mdV md, .agg #[.int .i64 c, .int .i64 0]] w (NewOwn w (typedE md.coded c 0)) := by
  obtain ⟨cu, co, mo, sg, pa⟩ := md
  unfold mdV
  dsimp only
  have hne : plainE c 0 ≠ [] := by
    unfold plainE
    split
    · simp
    · rw [if_pos (.inl rfl)]; exact putB_ne c
  have HC := Lib.hid (typedE_plain (co := co) hne (.inl rfl))
  rw [HC.out]
  clear HC
  cases hs : special c
  all_goals
    have hll := plain_len c 0
    have HP := Lib.hid (fun W => plainBytes_any c 0 W h)
    have hcode := h.code
    generalize plainE c 0 = L at *
    have HT := Lib.hid hT
    clear hT
    go_enter Tryd.func41, Tryd.ntmps41
    go_wp2_with fail
    refine (HP.out _).mono ?_
    rintro e w1 ⟨v, rfl, ho, hb⟩
    obtain ⟨p1, c1, hv⟩ := ho.slice
    subst hv
    have k1 := (AtL.new (w.alloc (.cells #[.bool cu, .bool co, .int .i64 mo, .bool sg, .bool pa] 25)) [.int .i64 c, .int .i64 0] 43).on hb
    rw [World.size_alloc] at k1
    have m1 := ((AtL.new w [.bool cu, .bool co, .int .i64 mo, .bool sg, .bool pa] 25).on (below_mk _ (.cells #[.int .i64 c, .int .i64 0] 43))).on hb
    have b1 := below_on (below_on (below_mk w (.cells #[.bool cu, .bool co, .int .i64 mo, .bool sg, .bool pa] 25)) (below_mk _ (.cells #[.int .i64 c, .int .i64 0] 43))) hb
    have o1 := ho.lower (base' := w.heap.size) (by simp; omega)
    have r0 := k1.get 0 rfl
    have r1 := k1.get 1 rfl
    clear ho hb HP
    go_wp2_with fail
    refine (implIsSpecial_any c _).mono ?_
    rintro e w2 ⟨rfl, hb2⟩
    rw [hs]
    have HK := Lib.hid (k1.on hb2)
    have HM := Lib.hid (m1.on hb2)
    have HO := Lib.hid (o1.on hb2)
    have HB := Lib.hid (below_on b1 hb2)
    clear k1 m1 o1 b1 hb2 r0 r1
    have r0 := HK.out.get 0 rfl
    have r1 := HK.out.get 1 rfl
    have r2 := HM.out.get 1 rfl
    have hpos : 0 < L.length := List.length_pos_iff.2 hne
    clear hne hcode
    go_wp2_with fail
    go_ret
    exact ⟨_, rfl, HO.out, HB.out⟩

set_option maxRecDepth 100000 in
set_option maxHeartbeats 4000000 in
theorem typed_x4 (md : Md) (c : Int) (hp : ctrlE c ≠ []) (hs0 : special c = false) (w : World) (hT : Pow w) (h : Typed c 4) :
    Calls Tryd.prog 41 #[mdV md, .agg #[.int .i64 c, .int .i64 4]] w (NewOwn w (typedE md.coded c 4)) := by
  obtain ⟨cu, co, mo, sg, pa⟩ := md
  unfold mdV
  dsimp only
  have hs := hs0
  have hne : plainE c 4 ≠ [] := by
    unfold plainE
    rw [if_neg (by simp [hs]), if_neg (by omega), if_pos (.inl rfl)]
    exact hp
  have HC := Lib.hid (typedE_plain (co := co) hne (.inr ⟨hs, rfl⟩))
  rw [HC.out]
  clear HC
  have hll := plain_len c 4
  have HP := Lib.hid (fun W => plainBytes_any c 4 W h)
  have hcode := h.code
  generalize plainE c 4 = L at *
  have HT := Lib.hid hT
  clear hT
  go_enter Tryd.func41, Tryd.ntmps41
  go_wp2_with fail
  refine (HP.out _).mono ?_
  rintro e w1 ⟨v, rfl, ho, hb⟩
  obtain ⟨p1, c1, hv⟩ := ho.slice
  subst hv
  have k1 := (AtL.new (w.alloc (.cells #[.bool cu, .bool co, .int .i64 mo, .bool sg, .bool pa] 25)) [.int .i64 c, .int .i64 4] 43).on hb
  rw [World.size_alloc] at k1
  have m1 := ((AtL.new w [.bool cu, .bool co, .int .i64 mo, .bool sg, .bool pa] 25).on (below_mk _ (.cells #[.int .i64 c, .int .i64 4] 43))).on hb
  have b1 := below_on (below_on (below_mk w (.cells #[.bool cu, .bool co, .int .i64 mo, .bool sg, .bool pa] 25)) (below_mk _ (.cells #[.int .i64 c, .int .i64 4] 43))) hb
  have o1 := ho.lower (base' := w.heap.size) (by simp; omega)
  have r0 := k1.get 0 rfl
  have r1 := k1.get 1 rfl
  clear ho hb HP
  go_wp2_with fail
  refine (implIsSpecial_any c _).mono ?_
  rintro e w2 ⟨rfl, hb2⟩
  rw [hs]
  have HK := Lib.hid (k1.on hb2)
  have HM := Lib.hid (m1.on hb2)
  have HO := Lib.hid (o1.on hb2)
  have HB := Lib.hid (below_on b1 hb2)
  clear k1 m1 o1 b1 hb2 r0 r1
  have r0 := HK.out.get 0 rfl
  have r1 := HK.out.get 1 rfl
  have r2 := HM.out.get 1 rfl
  have hpos : 0 < L.length := List.length_pos_iff.2 hne
  clear hne hcode
  go_wp2_with fail
  go_ret
  exact ⟨_, rfl, HO.out, HB.out⟩

set_option maxRecDepth 100000 in
set_option maxHeartbeats 4000000 in
theorem typed_y (md : Md) (c : Int) (hs : special c = false) (h126 : c ≤ 126) (w : World) (hT : Pow w) (h : Typed c 2) :
    Calls Tryd.prog 41 #[mdV md, .agg #[.int .i64 c, .int .i64 2]] w (NewOwn w (typedE md.coded c 2)) := by
  obtain ⟨cu, co, mo, sg, pa⟩ := md
  unfold mdV
  dsimp only
  have h32 := (h.pt hs).2.1
  have HC := Lib.hid (typedE_alt (co := co) h32 h126)
  have hin : inR c 32 126 = true := by simp [inR, h32, h126]
  have hne : plainE c 2 ≠ [] := by
    unfold plainE
    rw [if_neg (by simp [hs]), if_pos (.inr rfl)]
    exact putB_ne c
  rw [HC.out]
  clear HC h32
  have hll := plain_len c 2
  have HP := Lib.hid (fun W => plainBytes_any c 2 W h)
  have hcode := h.code
  generalize plainE c 2 = L at *
  have HT := Lib.hid hT
  clear hT
  go_enter Tryd.func41, Tryd.ntmps41
  go_wp2_with fail
  refine (HP.out _).mono ?_
  rintro e w1 ⟨v, rfl, ho, hb⟩
  obtain ⟨p1, c1, hv⟩ := ho.slice
  subst hv
  have k1 := (AtL.new (w.alloc (.cells #[.bool cu, .bool co, .int .i64 mo, .bool sg, .bool pa] 25)) [.int .i64 c, .int .i64 2] 43).on hb
  rw [World.size_alloc] at k1
  have m1 := ((AtL.new w [.bool cu, .bool co, .int .i64 mo, .bool sg, .bool pa] 25).on (below_mk _ (.cells #[.int .i64 c, .int .i64 2] 43))).on hb
  have b1 := below_on (below_on (below_mk w (.cells #[.bool cu, .bool co, .int .i64 mo, .bool sg, .bool pa] 25)) (below_mk _ (.cells #[.int .i64 c, .int .i64 2] 43))) hb
  have o1 := ho.lower (base' := w.heap.size) (by simp; omega)
  have r0 := k1.get 0 rfl
  have r1 := k1.get 1 rfl
  clear ho hb HP
  go_wp2_with fail
  refine (implIsSpecial_any c _).mono ?_
  rintro e w2 ⟨rfl, hb2⟩
  rw [hs]
  have HK := Lib.hid (k1.on hb2)
  have HM := Lib.hid (m1.on hb2)
  have HO := Lib.hid (o1.on hb2)
  have HB := Lib.hid (below_on b1 hb2)
  clear k1 m1 o1 b1 hb2 r0 r1
  have r0 := HK.out.get 0 rfl
  have r1 := HK.out.get 1 rfl
  have r2 := HM.out.get 1 rfl
  have hpos : 0 < L.length := List.length_pos_iff.2 hne
  clear hne hcode
  go_wp2_with (go_at_call 55; refine (isWithin_two _ _ _ _ _ _ (by simp)).mono ?_; rintro e w' ⟨rfl, rfl⟩; rw [hin])
  refine (escaped_any p1 c1 L _ ((HO.out.on (below_mk w2 _)).bs.2) HO.out.capz (by omega)).mono ?_
  rintro e w3 ⟨v3, rfl, ho3, hb3⟩
  have hsz := HB.out.size
  have HE := Lib.hid (own_low ho3 (below_on (below_on HB.out (below_mk _ _)) hb3) (by simp; omega))
  clear ho3 hb3 HO
  go_wp2_with fail
  go_ret
  exact HE.out

theorem wp_gen3 {P : Program} {code : Code} {Q : Exit → Act → World → Prop} {a : Act} {W : World} (C : World → Prop) (h : C W) (k : ∀ W', C W' → Code.wp P code Q a W') : Code.wp P code Q a W := k W h

set_option maxRecDepth 100000 in
set_option maxHeartbeats 4000000 in
theorem typed_st_1 (cu : Bool) (mo : Int) (sg pa : Bool) (c : Int) (hs : special c = true) (w : World) (hT : Pow w) (h : Typed c 1) :
    Calls Tryd.prog 41 #[.agg #[.bool cu, .bool true, .int .i64 mo, .bool sg, .bool pa], .agg #[.int .i64 c, .int .i64 1]] w (NewOwn w (typedE true c 1)) := by
  have hne : plainE c 1 ≠ [] := by
    unfold plainE
    rw [if_pos hs]
    simp
  have hh : plainE c 1 = [] ∨ ((1 : Int) ≠ 0 ∧ (special c = true ∨ (1 : Int) ≠ 4)) := .inr ⟨by omega, .inl hs⟩
  have HC := Lib.hid (typedE_coded hh (.inl (by omega)))
  rw [HC.out]
  clear HC hh
  have HSL := Lib.hid (fun (W : World) (hW : Pow W) g hg => sequence_lit false #[.int .i64 (codeE c), .int .i64 2] [codeE c, 2] 117 2 W 2 g hg rfl rfl hW (inNum2 h.code.1 h.code.2.1 (by omega) (by omega)) (by simp) (by omega) (by omega))
  have HPK := Lib.hid (fun W => pointOfKey_any c W)
  rw [show byteE 117 = 117 from rfl] at HSL
  rw [show (1 : Int) + 1 = 2 from rfl]
  have hll := plain_len c 1
  have HP := Lib.hid (fun W => plainBytes_any c 1 W h)
  have hcode := h.code
  generalize plainE c 1 = L at *
  have HT := Lib.hid hT
  clear hT
  go_enter Tryd.func41, Tryd.ntmps41
  go_wp2_with fail
  refine (HP.out _).mono ?_
  rintro e w1 ⟨v, rfl, ho, hb⟩
  obtain ⟨p1, c1, hv⟩ := ho.slice
  subst hv
  have k1 := (AtL.new (w.alloc (.cells #[.bool cu, .bool true, .int .i64 mo, .bool sg, .bool pa] 25)) [.int .i64 c, .int .i64 1] 43).on hb
  rw [World.size_alloc] at k1
  have m1 := ((AtL.new w [.bool cu, .bool true, .int .i64 mo, .bool sg, .bool pa] 25).on (below_mk _ (.cells #[.int .i64 c, .int .i64 1] 43))).on hb
  have b1 := below_on (below_on (below_mk w (.cells #[.bool cu, .bool true, .int .i64 mo, .bool sg, .bool pa] 25)) (below_mk _ (.cells #[.int .i64 c, .int .i64 1] 43))) hb
  have o1 := ho.lower (base' := w.heap.size) (by simp; omega)
  have r0 := k1.get 0 rfl
  have r1 := k1.get 1 rfl
  clear ho hb HP
  go_wp2_with fail
  refine (implIsSpecial_any c _).mono ?_
  rintro e w2 ⟨rfl, hb2⟩
  rw [hs]
  have HK := Lib.hid (k1.on hb2)
  have HM := Lib.hid (m1.on hb2)
  have HO := Lib.hid (o1.on hb2)
  have HB := Lib.hid (below_on b1 hb2)
  clear k1 m1 o1 b1 hb2 r0 r1
  have r0 := HK.out.get 0 rfl
  have r1 := HK.out.get 1 rfl
  have r2 := HM.out.get 1 rfl
  have hpos : 0 < L.length := List.length_pos_iff.2 hne
  clear hne
  go_wp2_with (fail)
  refine wp_gen3 (fun W => AtL W (w.heap.size + 1) [.int .i64 c, .int .i64 1] ∧ Below w.heap.size w W ∧ Pow W) ⟨HK.out, HB.out, HT.out.on HB.out⟩ (fun W hW => ?_)
  obtain ⟨hk, hb, ht⟩ := hW
  have HK2 := Lib.hid (fun W' (hW : Below W.heap.size W W') => hk.on hW)
  have HB2 := Lib.hid hb
  have HT2 := Lib.hid ht
  clear hk hb ht HK HM HO HB HT r0 r1 r2
  refine wp_region_noPanic ?_
  refine wp_region_held_drew (S := fun W' => Below (W).heap.size (W) W') (by kernel_rfl) (below_drewN (Below.refl _ _) 1) (fun hHeld => ?_)
  refine takeR 0 46 (.pointer (some ⟨w.heap.size + 1, 0, none⟩)) (by kernel_rfl) (by kernel_rfl) (by kernel_rfl) (by kernel_rfl) (fun _ _ _ h => h) (by kernel_rfl) (fun w o hSw ho => ?_) hHeld ?_
  · obtain rfl := Option.some.inj ho; go_simp
  simp only [Act.put, List.setIfInBounds_toArray, List.set_cons_zero, List.set_cons_succ]
  refine takeR 3 49 (.pointer (some ⟨w.heap.size + 1, 1, none⟩)) (by kernel_rfl) (by kernel_rfl) (by kernel_rfl) (by kernel_rfl) (fun _ _ _ h => h) (by kernel_rfl) (fun w o hSw ho => ?_) hHeld ?_
  · obtain rfl := Option.some.inj ho; go_simp
  simp only [Act.put, List.setIfInBounds_toArray, List.set_cons_zero, List.set_cons_succ]
  refine takeR 1 47 (.int .i64 c) (by kernel_rfl) (by kernel_rfl) (by kernel_rfl) (by kernel_rfl) (fun _ _ _ h => h) (by kernel_rfl) (fun w o hSw ho => ?_) hHeld ?_
  · obtain rfl := Option.some.inj ho; have r0 := (HK2.out _ hSw).get 0 rfl; go_simp
  simp only [Act.put, List.setIfInBounds_toArray, List.set_cons_zero, List.set_cons_succ]
  refine takeR 4 50 (.int .i64 1) (by kernel_rfl) (by kernel_rfl) (by kernel_rfl) (by kernel_rfl) (fun _ _ _ h => h) (by kernel_rfl) (fun w o hSw ho => ?_) hHeld ?_
  · obtain rfl := Option.some.inj ho; have r1 := (HK2.out _ hSw).get 1 rfl; go_simp
  simp only [Act.put, List.setIfInBounds_toArray, List.set_cons_zero, List.set_cons_succ]
  refine takeR 5 51 (.int .i64 2) (by kernel_rfl) (by kernel_rfl) (by kernel_rfl) (by kernel_rfl) (fun _ _ _ h => h) (by kernel_rfl) (fun w o hSw ho => ?_) hHeld ?_
  · obtain rfl := Option.some.inj ho; go_simp; rfl
  simp only [Act.put, List.setIfInBounds_toArray, List.set_cons_zero, List.set_cons_succ]
  refine oneR 2 (by kernel_rfl) (by kernel_rfl) (fun o ho K' hK => ?_)
  obtain rfl := Option.some.inj ho
  clear ho
  go_simp
  refine (HPK.out _).mono ?_
  rintro e V1 ⟨rfl, rfl⟩
  go_wp2_with fail
  refine hK.out _ _ (hHeld) (fun hHeld => ?_)
  clear hK K'
  try simp only [Act.put, List.setIfInBounds_toArray, List.set_cons_zero, List.set_cons_succ]
  have HV1 := Lib.hid hHeld
  refine oneR 6 (by kernel_rfl) (by kernel_rfl) (fun o ho K' hK => ?_)
  obtain rfl := Option.some.inj ho
  clear ho
  go_simp
  refine hK.out _ _ (below_on hHeld (below_mk _ _)) (fun hHeld => ?_)
  clear hK K'
  try simp only [Act.put, List.setIfInBounds_toArray, List.set_cons_zero, List.set_cons_succ]
  refine oneR 7 (by kernel_rfl) (by kernel_rfl) (fun o ho K' hK => ?_)
  obtain rfl := Option.some.inj ho
  clear ho
  go_simp
  refine (HSL.out _ (HT2.out.on HV1.out) _ rfl).mono ?_
  rintro e V2 ⟨v2, rfl, ho2, hb2⟩
  have HV2 := Lib.hid (below_on hHeld hb2)
  have HE := Lib.hid (own_low ho2 (below_on HB2.out HV2.out) (by have h1 := HB2.out.size; have h2 := HV1.out.size; simp at h2 ⊢; omega))
  clear ho2 hb2 hHeld
  go_wp2_with fail
  refine hK.out _ _ (HV2.out) (fun hHeld => ?_)
  clear hK K'
  try simp only [Act.put, List.setIfInBounds_toArray, List.set_cons_zero, List.set_cons_succ]
  refine takeR 8 4 (v2) (by kernel_rfl) (by kernel_rfl) (by kernel_rfl) (by kernel_rfl) (fun _ _ _ h => h) (by kernel_rfl) (fun w o hSw ho => ?_) hHeld ?_
  · obtain rfl := Option.some.inj ho; go_simp
  simp only [Act.put, List.setIfInBounds_toArray, List.set_cons_zero, List.set_cons_succ]
  refine wpAnyH_done (by kernel_rfl) ?_ _
  refine NoPanic.normal ?_
  go_wp2_with fail
  go_ret
  exact HE.out

set_option maxRecDepth 100000 in
set_option maxHeartbeats 4000000 in
theorem typed_st_2 (cu : Bool) (mo : Int) (sg pa : Bool) (c : Int) (hs : special c = true) (w : World) (hT : Pow w) (h : Typed c 2) :
    Calls Tryd.prog 41 #[.agg #[.bool cu, .bool true, .int .i64 mo, .bool sg, .bool pa], .agg #[.int .i64 c, .int .i64 2]] w (NewOwn w (typedE true c 2)) := by
  have hne : plainE c 2 ≠ [] := by
    unfold plainE
    rw [if_pos hs]
    simp
  have hh : plainE c 2 = [] ∨ ((2 : Int) ≠ 0 ∧ (special c = true ∨ (2 : Int) ≠ 4)) := .inr ⟨by omega, .inl hs⟩
  have h127 : 126 < c := by simp [special, inR] at hs; omega
  have hin : inR c 32 126 = false := by simp [inR]; omega
  have HC := Lib.hid (typedE_coded hh (.inr h127))
  rw [HC.out]
  clear HC hh
  have HSL := Lib.hid (fun (W : World) (hW : Pow W) g hg => sequence_lit false #[.int .i64 (codeE c), .int .i64 3] [codeE c, 3] 117 2 W 2 g hg rfl rfl hW (inNum2 h.code.1 h.code.2.1 (by omega) (by omega)) (by simp) (by omega) (by omega))
  have HPK := Lib.hid (fun W => pointOfKey_any c W)
  rw [show byteE 117 = 117 from rfl] at HSL
  rw [show (2 : Int) + 1 = 3 from rfl]
  have hll := plain_len c 2
  have HP := Lib.hid (fun W => plainBytes_any c 2 W h)
  have hcode := h.code
  generalize plainE c 2 = L at *
  have HT := Lib.hid hT
  clear hT
  go_enter Tryd.func41, Tryd.ntmps41
  go_wp2_with fail
  refine (HP.out _).mono ?_
  rintro e w1 ⟨v, rfl, ho, hb⟩
  obtain ⟨p1, c1, hv⟩ := ho.slice
  subst hv
  have k1 := (AtL.new (w.alloc (.cells #[.bool cu, .bool true, .int .i64 mo, .bool sg, .bool pa] 25)) [.int .i64 c, .int .i64 2] 43).on hb
  rw [World.size_alloc] at k1
  have m1 := ((AtL.new w [.bool cu, .bool true, .int .i64 mo, .bool sg, .bool pa] 25).on (below_mk _ (.cells #[.int .i64 c, .int .i64 2] 43))).on hb
  have b1 := below_on (below_on (below_mk w (.cells #[.bool cu, .bool true, .int .i64 mo, .bool sg, .bool pa] 25)) (below_mk _ (.cells #[.int .i64 c, .int .i64 2] 43))) hb
  have o1 := ho.lower (base' := w.heap.size) (by simp; omega)
  have r0 := k1.get 0 rfl
  have r1 := k1.get 1 rfl
  clear ho hb HP
  go_wp2_with fail
  refine (implIsSpecial_any c _).mono ?_
  rintro e w2 ⟨rfl, hb2⟩
  rw [hs]
  have HK := Lib.hid (k1.on hb2)
  have HM := Lib.hid (m1.on hb2)
  have HO := Lib.hid (o1.on hb2)
  have HB := Lib.hid (below_on b1 hb2)
  clear k1 m1 o1 b1 hb2 r0 r1
  have r0 := HK.out.get 0 rfl
  have r1 := HK.out.get 1 rfl
  have r2 := HM.out.get 1 rfl
  have hpos : 0 < L.length := List.length_pos_iff.2 hne
  clear hne
  have r2 := (HM.out.on (below_mk w2 (.cells #[.int .i64 32, .int .i64 126] 2))).get 1 rfl
  go_wp2_with (go_at_call 55; refine (isWithin_two _ _ _ _ _ _ (by simp)).mono ?_; rintro e w' ⟨rfl, rfl⟩; rw [hin])
  refine wp_gen3 (fun W => AtL W (w.heap.size + 1) [.int .i64 c, .int .i64 2] ∧ Below w.heap.size w W ∧ Pow W) ⟨HK.out.on (below_mk _ _), below_on HB.out (below_mk _ _), HT.out.on (below_on HB.out (below_mk _ _))⟩ (fun W hW => ?_)
  obtain ⟨hk, hb, ht⟩ := hW
  have HK2 := Lib.hid (fun W' (hW : Below W.heap.size W W') => hk.on hW)
  have HB2 := Lib.hid hb
  have HT2 := Lib.hid ht
  clear hk hb ht HK HM HO HB HT r0 r1 r2
  refine wp_region_noPanic ?_
  refine wp_region_held_drew (S := fun W' => Below (W).heap.size (W) W') (by kernel_rfl) (below_drewN (Below.refl _ _) 1) (fun hHeld => ?_)
  refine takeR 0 46 (.pointer (some ⟨w.heap.size + 1, 0, none⟩)) (by kernel_rfl) (by kernel_rfl) (by kernel_rfl) (by kernel_rfl) (fun _ _ _ h => h) (by kernel_rfl) (fun w o hSw ho => ?_) hHeld ?_
  · obtain rfl := Option.some.inj ho; go_simp
  simp only [Act.put, List.setIfInBounds_toArray, List.set_cons_zero, List.set_cons_succ]
  refine takeR 3 49 (.pointer (some ⟨w.heap.size + 1, 1, none⟩)) (by kernel_rfl) (by kernel_rfl) (by kernel_rfl) (by kernel_rfl) (fun _ _ _ h => h) (by kernel_rfl) (fun w o hSw ho => ?_) hHeld ?_
  · obtain rfl := Option.some.inj ho; go_simp
  simp only [Act.put, List.setIfInBounds_toArray, List.set_cons_zero, List.set_cons_succ]
  refine takeR 1 47 (.int .i64 c) (by kernel_rfl) (by kernel_rfl) (by kernel_rfl) (by kernel_rfl) (fun _ _ _ h => h) (by kernel_rfl) (fun w o hSw ho => ?_) hHeld ?_
  · obtain rfl := Option.some.inj ho; have r0 := (HK2.out _ hSw).get 0 rfl; go_simp
  simp only [Act.put, List.setIfInBounds_toArray, List.set_cons_zero, List.set_cons_succ]
  refine takeR 4 50 (.int .i64 2) (by kernel_rfl) (by kernel_rfl) (by kernel_rfl) (by kernel_rfl) (fun _ _ _ h => h) (by kernel_rfl) (fun w o hSw ho => ?_) hHeld ?_
  · obtain rfl := Option.some.inj ho; have r1 := (HK2.out _ hSw).get 1 rfl; go_simp
  simp only [Act.put, List.setIfInBounds_toArray, List.set_cons_zero, List.set_cons_succ]
  refine takeR 5 51 (.int .i64 3) (by kernel_rfl) (by kernel_rfl) (by kernel_rfl) (by kernel_rfl) (fun _ _ _ h => h) (by kernel_rfl) (fun w o hSw ho => ?_) hHeld ?_
  · obtain rfl := Option.some.inj ho; go_simp; rfl
  simp only [Act.put, List.setIfInBounds_toArray, List.set_cons_zero, List.set_cons_succ]
  refine oneR 2 (by kernel_rfl) (by kernel_rfl) (fun o ho K' hK => ?_)
  obtain rfl := Option.some.inj ho
  clear ho
  go_simp
  refine (HPK.out _).mono ?_
  rintro e V1 ⟨rfl, rfl⟩
  go_wp2_with fail
  refine hK.out _ _ (hHeld) (fun hHeld => ?_)
  clear hK K'
  try simp only [Act.put, List.setIfInBounds_toArray, List.set_cons_zero, List.set_cons_succ]
  have HV1 := Lib.hid hHeld
  refine oneR 6 (by kernel_rfl) (by kernel_rfl) (fun o ho K' hK => ?_)
  obtain rfl := Option.some.inj ho
  clear ho
  go_simp
  refine hK.out _ _ (below_on hHeld (below_mk _ _)) (fun hHeld => ?_)
  clear hK K'
  try simp only [Act.put, List.setIfInBounds_toArray, List.set_cons_zero, List.set_cons_succ]
  refine oneR 7 (by kernel_rfl) (by kernel_rfl) (fun o ho K' hK => ?_)
  obtain rfl := Option.some.inj ho
  clear ho
  go_simp
  refine (HSL.out _ (HT2.out.on HV1.out) _ rfl).mono ?_
  rintro e V2 ⟨v2, rfl, ho2, hb2⟩
  have HV2 := Lib.hid (below_on hHeld hb2)
  have HE := Lib.hid (own_low ho2 (below_on HB2.out HV2.out) (by have h1 := HB2.out.size; have h2 := HV1.out.size; simp at h2 ⊢; omega))
  clear ho2 hb2 hHeld
  go_wp2_with fail
  refine hK.out _ _ (HV2.out) (fun hHeld => ?_)
  clear hK K'
  try simp only [Act.put, List.setIfInBounds_toArray, List.set_cons_zero, List.set_cons_succ]
  refine takeR 8 4 (v2) (by kernel_rfl) (by kernel_rfl) (by kernel_rfl) (by kernel_rfl) (fun _ _ _ h => h) (by kernel_rfl) (fun w o hSw ho => ?_) hHeld ?_
  · obtain rfl := Option.some.inj ho; go_simp
  simp only [Act.put, List.setIfInBounds_toArray, List.set_cons_zero, List.set_cons_succ]
  refine wpAnyH_done (by kernel_rfl) ?_ _
  refine NoPanic.normal ?_
  go_wp2_with fail
  go_ret
  exact HE.out

set_option maxRecDepth 100000 in
set_option maxHeartbeats 4000000 in
theorem typed_st_3 (cu : Bool) (mo : Int) (sg pa : Bool) (c : Int) (hs : special c = true) (w : World) (hT : Pow w) (h : Typed c 3) :
    Calls Tryd.prog 41 #[.agg #[.bool cu, .bool true, .int .i64 mo, .bool sg, .bool pa], .agg #[.int .i64 c, .int .i64 3]] w (NewOwn w (typedE true c 3)) := by
  have hne : plainE c 3 ≠ [] := by
    unfold plainE
    rw [if_pos hs]
    simp
  have hh : plainE c 3 = [] ∨ ((3 : Int) ≠ 0 ∧ (special c = true ∨ (3 : Int) ≠ 4)) := .inr ⟨by omega, .inl hs⟩
  have HC := Lib.hid (typedE_coded hh (.inl (by omega)))
  rw [HC.out]
  clear HC hh
  have HSL := Lib.hid (fun (W : World) (hW : Pow W) g hg => sequence_lit false #[.int .i64 (codeE c), .int .i64 4] [codeE c, 4] 117 2 W 2 g hg rfl rfl hW (inNum2 h.code.1 h.code.2.1 (by omega) (by omega)) (by simp) (by omega) (by omega))
  have HPK := Lib.hid (fun W => pointOfKey_any c W)
  rw [show byteE 117 = 117 from rfl] at HSL
  rw [show (3 : Int) + 1 = 4 from rfl]
  have hll := plain_len c 3
  have HP := Lib.hid (fun W => plainBytes_any c 3 W h)
  have hcode := h.code
  generalize plainE c 3 = L at *
  have HT := Lib.hid hT
  clear hT
  go_enter Tryd.func41, Tryd.ntmps41
  go_wp2_with fail
  refine (HP.out _).mono ?_
  rintro e w1 ⟨v, rfl, ho, hb⟩
  obtain ⟨p1, c1, hv⟩ := ho.slice
  subst hv
  have k1 := (AtL.new (w.alloc (.cells #[.bool cu, .bool true, .int .i64 mo, .bool sg, .bool pa] 25)) [.int .i64 c, .int .i64 3] 43).on hb
  rw [World.size_alloc] at k1
  have m1 := ((AtL.new w [.bool cu, .bool true, .int .i64 mo, .bool sg, .bool pa] 25).on (below_mk _ (.cells #[.int .i64 c, .int .i64 3] 43))).on hb
  have b1 := below_on (below_on (below_mk w (.cells #[.bool cu, .bool true, .int .i64 mo, .bool sg, .bool pa] 25)) (below_mk _ (.cells #[.int .i64 c, .int .i64 3] 43))) hb
  have o1 := ho.lower (base' := w.heap.size) (by simp; omega)
  have r0 := k1.get 0 rfl
  have r1 := k1.get 1 rfl
  clear ho hb HP
  go_wp2_with fail
  refine (implIsSpecial_any c _).mono ?_
  rintro e w2 ⟨rfl, hb2⟩
  rw [hs]
  have HK := Lib.hid (k1.on hb2)
  have HM := Lib.hid (m1.on hb2)
  have HO := Lib.hid (o1.on hb2)
  have HB := Lib.hid (below_on b1 hb2)
  clear k1 m1 o1 b1 hb2 r0 r1
  have r0 := HK.out.get 0 rfl
  have r1 := HK.out.get 1 rfl
  have r2 := HM.out.get 1 rfl
  have hpos : 0 < L.length := List.length_pos_iff.2 hne
  clear hne
  go_wp2_with (fail)
  refine wp_gen3 (fun W => AtL W (w.heap.size + 1) [.int .i64 c, .int .i64 3] ∧ Below w.heap.size w W ∧ Pow W) ⟨HK.out, HB.out, HT.out.on HB.out⟩ (fun W hW => ?_)
  obtain ⟨hk, hb, ht⟩ := hW
  have HK2 := Lib.hid (fun W' (hW : Below W.heap.size W W') => hk.on hW)
  have HB2 := Lib.hid hb
  have HT2 := Lib.hid ht
  clear hk hb ht HK HM HO HB HT r0 r1 r2
  refine wp_region_noPanic ?_
  refine wp_region_held_drew (S := fun W' => Below (W).heap.size (W) W') (by kernel_rfl) (below_drewN (Below.refl _ _) 1) (fun hHeld => ?_)
  refine takeR 0 46 (.pointer (some ⟨w.heap.size + 1, 0, none⟩)) (by kernel_rfl) (by kernel_rfl) (by kernel_rfl) (by kernel_rfl) (fun _ _ _ h => h) (by kernel_rfl) (fun w o hSw ho => ?_) hHeld ?_
  · obtain rfl := Option.some.inj ho; go_simp
  simp only [Act.put, List.setIfInBounds_toArray, List.set_cons_zero, List.set_cons_succ]
  refine takeR 3 49 (.pointer (some ⟨w.heap.size + 1, 1, none⟩)) (by kernel_rfl) (by kernel_rfl) (by kernel_rfl) (by kernel_rfl) (fun _ _ _ h => h) (by kernel_rfl) (fun w o hSw ho => ?_) hHeld ?_
  · obtain rfl := Option.some.inj ho; go_simp
  simp only [Act.put, List.setIfInBounds_toArray, List.set_cons_zero, List.set_cons_succ]
  refine takeR 1 47 (.int .i64 c) (by kernel_rfl) (by kernel_rfl) (by kernel_rfl) (by kernel_rfl) (fun _ _ _ h => h) (by kernel_rfl) (fun w o hSw ho => ?_) hHeld ?_
  · obtain rfl := Option.some.inj ho; have r0 := (HK2.out _ hSw).get 0 rfl; go_simp
  simp only [Act.put, List.setIfInBounds_toArray, List.set_cons_zero, List.set_cons_succ]
  refine takeR 4 50 (.int .i64 3) (by kernel_rfl) (by kernel_rfl) (by kernel_rfl) (by kernel_rfl) (fun _ _ _ h => h) (by kernel_rfl) (fun w o hSw ho => ?_) hHeld ?_
  · obtain rfl := Option.some.inj ho; have r1 := (HK2.out _ hSw).get 1 rfl; go_simp
  simp only [Act.put, List.setIfInBounds_toArray, List.set_cons_zero, List.set_cons_succ]
  refine takeR 5 51 (.int .i64 4) (by kernel_rfl) (by kernel_rfl) (by kernel_rfl) (by kernel_rfl) (fun _ _ _ h => h) (by kernel_rfl) (fun w o hSw ho => ?_) hHeld ?_
  · obtain rfl := Option.some.inj ho; go_simp; rfl
  simp only [Act.put, List.setIfInBounds_toArray, List.set_cons_zero, List.set_cons_succ]
  refine oneR 2 (by kernel_rfl) (by kernel_rfl) (fun o ho K' hK => ?_)
  obtain rfl := Option.some.inj ho
  clear ho
  go_simp
  refine (HPK.out _).mono ?_
  rintro e V1 ⟨rfl, rfl⟩
  go_wp2_with fail
  refine hK.out _ _ (hHeld) (fun hHeld => ?_)
  clear hK K'
  try simp only [Act.put, List.setIfInBounds_toArray, List.set_cons_zero, List.set_cons_succ]
  have HV1 := Lib.hid hHeld
  refine oneR 6 (by kernel_rfl) (by kernel_rfl) (fun o ho K' hK => ?_)
  obtain rfl := Option.some.inj ho
  clear ho
  go_simp
  refine hK.out _ _ (below_on hHeld (below_mk _ _)) (fun hHeld => ?_)
  clear hK K'
  try simp only [Act.put, List.setIfInBounds_toArray, List.set_cons_zero, List.set_cons_succ]
  refine oneR 7 (by kernel_rfl) (by kernel_rfl) (fun o ho K' hK => ?_)
  obtain rfl := Option.some.inj ho
  clear ho
  go_simp
  refine (HSL.out _ (HT2.out.on HV1.out) _ rfl).mono ?_
  rintro e V2 ⟨v2, rfl, ho2, hb2⟩
  have HV2 := Lib.hid (below_on hHeld hb2)
  have HE := Lib.hid (own_low ho2 (below_on HB2.out HV2.out) (by have h1 := HB2.out.size; have h2 := HV1.out.size; simp at h2 ⊢; omega))
  clear ho2 hb2 hHeld
  go_wp2_with fail
  refine hK.out _ _ (HV2.out) (fun hHeld => ?_)
  clear hK K'
  try simp only [Act.put, List.setIfInBounds_toArray, List.set_cons_zero, List.set_cons_succ]
  refine takeR 8 4 (v2) (by kernel_rfl) (by kernel_rfl) (by kernel_rfl) (by kernel_rfl) (fun _ _ _ h => h) (by kernel_rfl) (fun w o hSw ho => ?_) hHeld ?_
  · obtain rfl := Option.some.inj ho; go_simp
  simp only [Act.put, List.setIfInBounds_toArray, List.set_cons_zero, List.set_cons_succ]
  refine wpAnyH_done (by kernel_rfl) ?_ _
  refine NoPanic.normal ?_
  go_wp2_with fail
  go_ret
  exact HE.out

set_option maxRecDepth 100000 in
set_option maxHeartbeats 4000000 in
theorem typed_st_4 (cu : Bool) (mo : Int) (sg pa : Bool) (c : Int) (hs : special c = true) (w : World) (hT : Pow w) (h : Typed c 4) :
    Calls Tryd.prog 41 #[.agg #[.bool cu, .bool true, .int .i64 mo, .bool sg, .bool pa], .agg #[.int .i64 c, .int .i64 4]] w (NewOwn w (typedE true c 4)) := by
  have hne : plainE c 4 ≠ [] := by
    unfold plainE
    rw [if_pos hs]
    simp
  have hh : plainE c 4 = [] ∨ ((4 : Int) ≠ 0 ∧ (special c = true ∨ (4 : Int) ≠ 4)) := .inr ⟨by omega, .inl hs⟩
  have HC := Lib.hid (typedE_coded hh (.inl (by omega)))
  rw [HC.out]
  clear HC hh
  have HSL := Lib.hid (fun (W : World) (hW : Pow W) g hg => sequence_lit false #[.int .i64 (codeE c), .int .i64 5] [codeE c, 5] 117 2 W 2 g hg rfl rfl hW (inNum2 h.code.1 h.code.2.1 (by omega) (by omega)) (by simp) (by omega) (by omega))
  have HPK := Lib.hid (fun W => pointOfKey_any c W)
  rw [show byteE 117 = 117 from rfl] at HSL
  rw [show (4 : Int) + 1 = 5 from rfl]
  have hll := plain_len c 4
  have HP := Lib.hid (fun W => plainBytes_any c 4 W h)
  have hcode := h.code
  generalize plainE c 4 = L at *
  have HT := Lib.hid hT
  clear hT
  go_enter Tryd.func41, Tryd.ntmps41
  go_wp2_with fail
  refine (HP.out _).mono ?_
  rintro e w1 ⟨v, rfl, ho, hb⟩
  obtain ⟨p1, c1, hv⟩ := ho.slice
  subst hv
  have k1 := (AtL.new (w.alloc (.cells #[.bool cu, .bool true, .int .i64 mo, .bool sg, .bool pa] 25)) [.int .i64 c, .int .i64 4] 43).on hb
  rw [World.size_alloc] at k1
  have m1 := ((AtL.new w [.bool cu, .bool true, .int .i64 mo, .bool sg, .bool pa] 25).on (below_mk _ (.cells #[.int .i64 c, .int .i64 4] 43))).on hb
  have b1 := below_on (below_on (below_mk w (.cells #[.bool cu, .bool true, .int .i64 mo, .bool sg, .bool pa] 25)) (below_mk _ (.cells #[.int .i64 c, .int .i64 4] 43))) hb
  have o1 := ho.lower (base' := w.heap.size) (by simp; omega)
  have r0 := k1.get 0 rfl
  have r1 := k1.get 1 rfl
  clear ho hb HP
  go_wp2_with fail
  refine (implIsSpecial_any c _).mono ?_
  rintro e w2 ⟨rfl, hb2⟩
  rw [hs]
  have HK := Lib.hid (k1.on hb2)
  have HM := Lib.hid (m1.on hb2)
  have HO := Lib.hid (o1.on hb2)
  have HB := Lib.hid (below_on b1 hb2)
  clear k1 m1 o1 b1 hb2 r0 r1
  have r0 := HK.out.get 0 rfl
  have r1 := HK.out.get 1 rfl
  have r2 := HM.out.get 1 rfl
  have hpos : 0 < L.length := List.length_pos_iff.2 hne
  clear hne
  go_wp2_with (fail)
  refine wp_gen3 (fun W => AtL W (w.heap.size + 1) [.int .i64 c, .int .i64 4] ∧ Below w.heap.size w W ∧ Pow W) ⟨HK.out, HB.out, HT.out.on HB.out⟩ (fun W hW => ?_)
  obtain ⟨hk, hb, ht⟩ := hW
  have HK2 := Lib.hid (fun W' (hW : Below W.heap.size W W') => hk.on hW)
  have HB2 := Lib.hid hb
  have HT2 := Lib.hid ht
  clear hk hb ht HK HM HO HB HT r0 r1 r2
  refine wp_region_noPanic ?_
  refine wp_region_held_drew (S := fun W' => Below (W).heap.size (W) W') (by kernel_rfl) (below_drewN (Below.refl _ _) 1) (fun hHeld => ?_)
  refine takeR 0 46 (.pointer (some ⟨w.heap.size + 1, 0, none⟩)) (by kernel_rfl) (by kernel_rfl) (by kernel_rfl) (by kernel_rfl) (fun _ _ _ h => h) (by kernel_rfl) (fun w o hSw ho => ?_) hHeld ?_
  · obtain rfl := Option.some.inj ho; go_simp
  simp only [Act.put, List.setIfInBounds_toArray, List.set_cons_zero, List.set_cons_succ]
  refine takeR 3 49 (.pointer (some ⟨w.heap.size + 1, 1, none⟩)) (by kernel_rfl) (by kernel_rfl) (by kernel_rfl) (by kernel_rfl) (fun _ _ _ h => h) (by kernel_rfl) (fun w o hSw ho => ?_) hHeld ?_
  · obtain rfl := Option.some.inj ho; go_simp
  simp only [Act.put, List.setIfInBounds_toArray, List.set_cons_zero, List.set_cons_succ]
  refine takeR 1 47 (.int .i64 c) (by kernel_rfl) (by kernel_rfl) (by kernel_rfl) (by kernel_rfl) (fun _ _ _ h => h) (by kernel_rfl) (fun w o hSw ho => ?_) hHeld ?_
  · obtain rfl := Option.some.inj ho; have r0 := (HK2.out _ hSw).get 0 rfl; go_simp
  simp only [Act.put, List.setIfInBounds_toArray, List.set_cons_zero, List.set_cons_succ]
  refine takeR 4 50 (.int .i64 4) (by kernel_rfl) (by kernel_rfl) (by kernel_rfl) (by kernel_rfl) (fun _ _ _ h => h) (by kernel_rfl) (fun w o hSw ho => ?_) hHeld ?_
  · obtain rfl := Option.some.inj ho; have r1 := (HK2.out _ hSw).get 1 rfl; go_simp
  simp only [Act.put, List.setIfInBounds_toArray, List.set_cons_zero, List.set_cons_succ]
  refine takeR 5 51 (.int .i64 5) (by kernel_rfl) (by kernel_rfl) (by kernel_rfl) (by kernel_rfl) (fun _ _ _ h => h) (by kernel_rfl) (fun w o hSw ho => ?_) hHeld ?_
  · obtain rfl := Option.some.inj ho; go_simp; rfl
  simp only [Act.put, List.setIfInBounds_toArray, List.set_cons_zero, List.set_cons_succ]
  refine oneR 2 (by kernel_rfl) (by kernel_rfl) (fun o ho K' hK => ?_)
  obtain rfl := Option.some.inj ho
  clear ho
  go_simp
  refine (HPK.out _).mono ?_
  rintro e V1 ⟨rfl, rfl⟩
  go_wp2_with fail
  refine hK.out _ _ (hHeld) (fun hHeld => ?_)
  clear hK K'
  try simp only [Act.put, List.setIfInBounds_toArray, List.set_cons_zero, List.set_cons_succ]
  have HV1 := Lib.hid hHeld
  refine oneR 6 (by kernel_rfl) (by kernel_rfl) (fun o ho K' hK => ?_)
  obtain rfl := Option.some.inj ho
  clear ho
  go_simp
  refine hK.out _ _ (below_on hHeld (below_mk _ _)) (fun hHeld => ?_)
  clear hK K'
  try simp only [Act.put, List.setIfInBounds_toArray, List.set_cons_zero, List.set_cons_succ]
  refine oneR 7 (by kernel_rfl) (by kernel_rfl) (fun o ho K' hK => ?_)
  obtain rfl := Option.some.inj ho
  clear ho
  go_simp
  refine (HSL.out _ (HT2.out.on HV1.out) _ rfl).mono ?_
  rintro e V2 ⟨v2, rfl, ho2, hb2⟩
  have HV2 := Lib.hid (below_on hHeld hb2)
  have HE := Lib.hid (own_low ho2 (below_on HB2.out HV2.out) (by have h1 := HB2.out.size; have h2 := HV1.out.size; simp at h2 ⊢; omega))
  clear ho2 hb2 hHeld
  go_wp2_with fail
  refine hK.out _ _ (HV2.out) (fun hHeld => ?_)
  clear hK K'
  try simp only [Act.put, List.setIfInBounds_toArray, List.set_cons_zero, List.set_cons_succ]
  refine takeR 8 4 (v2) (by kernel_rfl) (by kernel_rfl) (by kernel_rfl) (by kernel_rfl) (fun _ _ _ h => h) (by kernel_rfl) (fun w o hSw ho => ?_) hHeld ?_
  · obtain rfl := Option.some.inj ho; go_simp
  simp only [Act.put, List.setIfInBounds_toArray, List.set_cons_zero, List.set_cons_succ]
  refine wpAnyH_done (by kernel_rfl) ?_ _
  refine NoPanic.normal ?_
  go_wp2_with fail
  go_ret
  exact HE.out

set_option maxRecDepth 100000 in
set_option maxHeartbeats 4000000 in
theorem typed_st_5 (cu : Bool) (mo : Int) (sg pa : Bool) (c : Int) (hs : special c = true) (w : World) (hT : Pow w) (h : Typed c 5) :
    Calls Tryd.prog 41 #[.agg #[.bool cu, .bool true, .int .i64 mo, .bool sg, .bool pa], .agg #[.int .i64 c, .int .i64 5]] w (NewOwn w (typedE true c 5)) := by
  have hne : plainE c 5 ≠ [] := by
    unfold plainE
    rw [if_pos hs]
    simp
  have hh : plainE c 5 = [] ∨ ((5 : Int) ≠ 0 ∧ (special c = true ∨ (5 : Int) ≠ 4)) := .inr ⟨by omega, .inl hs⟩
  have HC := Lib.hid (typedE_coded hh (.inl (by omega)))
  rw [HC.out]
  clear HC hh
  have HSL := Lib.hid (fun (W : World) (hW : Pow W) g hg => sequence_lit false #[.int .i64 (codeE c), .int .i64 6] [codeE c, 6] 117 2 W 2 g hg rfl rfl hW (inNum2 h.code.1 h.code.2.1 (by omega) (by omega)) (by simp) (by omega) (by omega))
  have HPK := Lib.hid (fun W => pointOfKey_any c W)
  rw [show byteE 117 = 117 from rfl] at HSL
  rw [show (5 : Int) + 1 = 6 from rfl]
  have hll := plain_len c 5
  have HP := Lib.hid (fun W => plainBytes_any c 5 W h)
  have hcode := h.code
  generalize plainE c 5 = L at *
  have HT := Lib.hid hT
  clear hT
  go_enter Tryd.func41, Tryd.ntmps41
  go_wp2_with fail
  refine (HP.out _).mono ?_
  rintro e w1 ⟨v, rfl, ho, hb⟩
  obtain ⟨p1, c1, hv⟩ := ho.slice
  subst hv
  have k1 := (AtL.new (w.alloc (.cells #[.bool cu, .bool true, .int .i64 mo, .bool sg, .bool pa] 25)) [.int .i64 c, .int .i64 5] 43).on hb
  rw [World.size_alloc] at k1
  have m1 := ((AtL.new w [.bool cu, .bool true, .int .i64 mo, .bool sg, .bool pa] 25).on (below_mk _ (.cells #[.int .i64 c, .int .i64 5] 43))).on hb
  have b1 := below_on (below_on (below_mk w (.cells #[.bool cu, .bool true, .int .i64 mo, .bool sg, .bool pa] 25)) (below_mk _ (.cells #[.int .i64 c, .int .i64 5] 43))) hb
  have o1 := ho.lower (base' := w.heap.size) (by simp; omega)
  have r0 := k1.get 0 rfl
  have r1 := k1.get 1 rfl
  clear ho hb HP
  go_wp2_with fail
  refine (implIsSpecial_any c _).mono ?_
  rintro e w2 ⟨rfl, hb2⟩
  rw [hs]
  have HK := Lib.hid (k1.on hb2)
  have HM := Lib.hid (m1.on hb2)
  have HO := Lib.hid (o1.on hb2)
  have HB := Lib.hid (below_on b1 hb2)
  clear k1 m1 o1 b1 hb2 r0 r1
  have r0 := HK.out.get 0 rfl
  have r1 := HK.out.get 1 rfl
  have r2 := HM.out.get 1 rfl
  have hpos : 0 < L.length := List.length_pos_iff.2 hne
  clear hne
  go_wp2_with (fail)
  refine wp_gen3 (fun W => AtL W (w.heap.size + 1) [.int .i64 c, .int .i64 5] ∧ Below w.heap.size w W ∧ Pow W) ⟨HK.out, HB.out, HT.out.on HB.out⟩ (fun W hW => ?_)
  obtain ⟨hk, hb, ht⟩ := hW
  have HK2 := Lib.hid (fun W' (hW : Below W.heap.size W W') => hk.on hW)
  have HB2 := Lib.hid hb
  have HT2 := Lib.hid ht
  clear hk hb ht HK HM HO HB HT r0 r1 r2
  refine wp_region_noPanic ?_
  refine wp_region_held_drew (S := fun W' => Below (W).heap.size (W) W') (by kernel_rfl) (below_drewN (Below.refl _ _) 1) (fun hHeld => ?_)
  refine takeR 0 46 (.pointer (some ⟨w.heap.size + 1, 0, none⟩)) (by kernel_rfl) (by kernel_rfl) (by kernel_rfl) (by kernel_rfl) (fun _ _ _ h => h) (by kernel_rfl) (fun w o hSw ho => ?_) hHeld ?_
  · obtain rfl := Option.some.inj ho; go_simp
  simp only [Act.put, List.setIfInBounds_toArray, List.set_cons_zero, List.set_cons_succ]
  refine takeR 3 49 (.pointer (some ⟨w.heap.size + 1, 1, none⟩)) (by kernel_rfl) (by kernel_rfl) (by kernel_rfl) (by kernel_rfl) (fun _ _ _ h => h) (by kernel_rfl) (fun w o hSw ho => ?_) hHeld ?_
  · obtain rfl := Option.some.inj ho; go_simp
  simp only [Act.put, List.setIfInBounds_toArray, List.set_cons_zero, List.set_cons_succ]
  refine takeR 1 47 (.int .i64 c) (by kernel_rfl) (by kernel_rfl) (by kernel_rfl) (by kernel_rfl) (fun _ _ _ h => h) (by kernel_rfl) (fun w o hSw ho => ?_) hHeld ?_
  · obtain rfl := Option.some.inj ho; have r0 := (HK2.out _ hSw).get 0 rfl; go_simp
  simp only [Act.put, List.setIfInBounds_toArray, List.set_cons_zero, List.set_cons_succ]
  refine takeR 4 50 (.int .i64 5) (by kernel_rfl) (by kernel_rfl) (by kernel_rfl) (by kernel_rfl) (fun _ _ _ h => h) (by kernel_rfl) (fun w o hSw ho => ?_) hHeld ?_
  · obtain rfl := Option.some.inj ho; have r1 := (HK2.out _ hSw).get 1 rfl; go_simp
  simp only [Act.put, List.setIfInBounds_toArray, List.set_cons_zero, List.set_cons_succ]
  refine takeR 5 51 (.int .i64 6) (by kernel_rfl) (by kernel_rfl) (by kernel_rfl) (by kernel_rfl) (fun _ _ _ h => h) (by kernel_rfl) (fun w o hSw ho => ?_) hHeld ?_
  · obtain rfl := Option.some.inj ho; go_simp; rfl
  simp only [Act.put, List.setIfInBounds_toArray, List.set_cons_zero, List.set_cons_succ]
  refine oneR 2 (by kernel_rfl) (by kernel_rfl) (fun o ho K' hK => ?_)
  obtain rfl := Option.some.inj ho
  clear ho
  go_simp
  refine (HPK.out _).mono ?_
  rintro e V1 ⟨rfl, rfl⟩
  go_wp2_with fail
  refine hK.out _ _ (hHeld) (fun hHeld => ?_)
  clear hK K'
  try simp only [Act.put, List.setIfInBounds_toArray, List.set_cons_zero, List.set_cons_succ]
  have HV1 := Lib.hid hHeld
  refine oneR 6 (by kernel_rfl) (by kernel_rfl) (fun o ho K' hK => ?_)
  obtain rfl := Option.some.inj ho
  clear ho
  go_simp
  refine hK.out _ _ (below_on hHeld (below_mk _ _)) (fun hHeld => ?_)
  clear hK K'
  try simp only [Act.put, List.setIfInBounds_toArray, List.set_cons_zero, List.set_cons_succ]
  refine oneR 7 (by kernel_rfl) (by kernel_rfl) (fun o ho K' hK => ?_)
  obtain rfl := Option.some.inj ho
  clear ho
  go_simp
  refine (HSL.out _ (HT2.out.on HV1.out) _ rfl).mono ?_
  rintro e V2 ⟨v2, rfl, ho2, hb2⟩
  have HV2 := Lib.hid (below_on hHeld hb2)
  have HE := Lib.hid (own_low ho2 (below_on HB2.out HV2.out) (by have h1 := HB2.out.size; have h2 := HV1.out.size; simp at h2 ⊢; omega))
  clear ho2 hb2 hHeld
  go_wp2_with fail
  refine hK.out _ _ (HV2.out) (fun hHeld => ?_)
  clear hK K'
  try simp only [Act.put, List.setIfInBounds_toArray, List.set_cons_zero, List.set_cons_succ]
  refine takeR 8 4 (v2) (by kernel_rfl) (by kernel_rfl) (by kernel_rfl) (by kernel_rfl) (fun _ _ _ h => h) (by kernel_rfl) (fun w o hSw ho => ?_) hHeld ?_
  · obtain rfl := Option.some.inj ho; go_simp
  simp only [Act.put, List.setIfInBounds_toArray, List.set_cons_zero, List.set_cons_succ]
  refine wpAnyH_done (by kernel_rfl) ?_ _
  refine NoPanic.normal ?_
  go_wp2_with fail
  go_ret
  exact HE.out

set_option maxRecDepth 100000 in
set_option maxHeartbeats 4000000 in
theorem typed_st_6 (cu : Bool) (mo : Int) (sg pa : Bool) (c : Int) (hs : special c = true) (w : World) (hT : Pow w) (h : Typed c 6) :
    Calls Tryd.prog 41 #[.agg #[.bool cu, .bool true, .int .i64 mo, .bool sg, .bool pa], .agg #[.int .i64 c, .int .i64 6]] w (NewOwn w (typedE true c 6)) := by
  have hne : plainE c 6 ≠ [] := by
    unfold plainE
    rw [if_pos hs]
    simp
  have hh : plainE c 6 = [] ∨ ((6 : Int) ≠ 0 ∧ (special c = true ∨ (6 : Int) ≠ 4)) := .inr ⟨by omega, .inl hs⟩
  have HC := Lib.hid (typedE_coded hh (.inl (by omega)))
  rw [HC.out]
  clear HC hh
  have HSL := Lib.hid (fun (W : World) (hW : Pow W) g hg => sequence_lit false #[.int .i64 (codeE c), .int .i64 7] [codeE c, 7] 117 2 W 2 g hg rfl rfl hW (inNum2 h.code.1 h.code.2.1 (by omega) (by omega)) (by simp) (by omega) (by omega))
  have HPK := Lib.hid (fun W => pointOfKey_any c W)
  rw [show byteE 117 = 117 from rfl] at HSL
  rw [show (6 : Int) + 1 = 7 from rfl]
  have hll := plain_len c 6
  have HP := Lib.hid (fun W => plainBytes_any c 6 W h)
  have hcode := h.code
  generalize plainE c 6 = L at *
  have HT := Lib.hid hT
  clear hT
  go_enter Tryd.func41, Tryd.ntmps41
  go_wp2_with fail
  refine (HP.out _).mono ?_
  rintro e w1 ⟨v, rfl, ho, hb⟩
  obtain ⟨p1, c1, hv⟩ := ho.slice
  subst hv
  have k1 := (AtL.new (w.alloc (.cells #[.bool cu, .bool true, .int .i64 mo, .bool sg, .bool pa] 25)) [.int .i64 c, .int .i64 6] 43).on hb
  rw [World.size_alloc] at k1
  have m1 := ((AtL.new w [.bool cu, .bool true, .int .i64 mo, .bool sg, .bool pa] 25).on (below_mk _ (.cells #[.int .i64 c, .int .i64 6] 43))).on hb
  have b1 := below_on (below_on (below_mk w (.cells #[.bool cu, .bool true, .int .i64 mo, .bool sg, .bool pa] 25)) (below_mk _ (.cells #[.int .i64 c, .int .i64 6] 43))) hb
  have o1 := ho.lower (base' := w.heap.size) (by simp; omega)
  have r0 := k1.get 0 rfl
  have r1 := k1.get 1 rfl
  clear ho hb HP
  go_wp2_with fail
  refine (implIsSpecial_any c _).mono ?_
  rintro e w2 ⟨rfl, hb2⟩
  rw [hs]
  have HK := Lib.hid (k1.on hb2)
  have HM := Lib.hid (m1.on hb2)
  have HO := Lib.hid (o1.on hb2)
  have HB := Lib.hid (below_on b1 hb2)
  clear k1 m1 o1 b1 hb2 r0 r1
  have r0 := HK.out.get 0 rfl
  have r1 := HK.out.get 1 rfl
  have r2 := HM.out.get 1 rfl
  have hpos : 0 < L.length := List.length_pos_iff.2 hne
  clear hne
  go_wp2_with (fail)
  refine wp_gen3 (fun W => AtL W (w.heap.size + 1) [.int .i64 c, .int .i64 6] ∧ Below w.heap.size w W ∧ Pow W) ⟨HK.out, HB.out, HT.out.on HB.out⟩ (fun W hW => ?_)
  obtain ⟨hk, hb, ht⟩ := hW
  have HK2 := Lib.hid (fun W' (hW : Below W.heap.size W W') => hk.on hW)
  have HB2 := Lib.hid hb
  have HT2 := Lib.hid ht
  clear hk hb ht HK HM HO HB HT r0 r1 r2
  refine wp_region_noPanic ?_
  refine wp_region_held_drew (S := fun W' => Below (W).heap.size (W) W') (by kernel_rfl) (below_drewN (Below.refl _ _) 1) (fun hHeld => ?_)
  refine takeR 0 46 (.pointer (some ⟨w.heap.size + 1, 0, none⟩)) (by kernel_rfl) (by kernel_rfl) (by kernel_rfl) (by kernel_rfl) (fun _ _ _ h => h) (by kernel_rfl) (fun w o hSw ho => ?_) hHeld ?_
  · obtain rfl := Option.some.inj ho; go_simp
  simp only [Act.put, List.setIfInBounds_toArray, List.set_cons_zero, List.set_cons_succ]
  refine takeR 3 49 (.pointer (some ⟨w.heap.size + 1, 1, none⟩)) (by kernel_rfl) (by kernel_rfl) (by kernel_rfl) (by kernel_rfl) (fun _ _ _ h => h) (by kernel_rfl) (fun w o hSw ho => ?_) hHeld ?_
  · obtain rfl := Option.some.inj ho; go_simp
  simp only [Act.put, List.setIfInBounds_toArray, List.set_cons_zero, List.set_cons_succ]
  refine takeR 1 47 (.int .i64 c) (by kernel_rfl) (by kernel_rfl) (by kernel_rfl) (by kernel_rfl) (fun _ _ _ h => h) (by kernel_rfl) (fun w o hSw ho => ?_) hHeld ?_
  · obtain rfl := Option.some.inj ho; have r0 := (HK2.out _ hSw).get 0 rfl; go_simp
  simp only [Act.put, List.setIfInBounds_toArray, List.set_cons_zero, List.set_cons_succ]
  refine takeR 4 50 (.int .i64 6) (by kernel_rfl) (by kernel_rfl) (by kernel_rfl) (by kernel_rfl) (fun _ _ _ h => h) (by kernel_rfl) (fun w o hSw ho => ?_) hHeld ?_
  · obtain rfl := Option.some.inj ho; have r1 := (HK2.out _ hSw).get 1 rfl; go_simp
  simp only [Act.put, List.setIfInBounds_toArray, List.set_cons_zero, List.set_cons_succ]
  refine takeR 5 51 (.int .i64 7) (by kernel_rfl) (by kernel_rfl) (by kernel_rfl) (by kernel_rfl) (fun _ _ _ h => h) (by kernel_rfl) (fun w o hSw ho => ?_) hHeld ?_
  · obtain rfl := Option.some.inj ho; go_simp; rfl
  simp only [Act.put, List.setIfInBounds_toArray, List.set_cons_zero, List.set_cons_succ]
  refine oneR 2 (by kernel_rfl) (by kernel_rfl) (fun o ho K' hK => ?_)
  obtain rfl := Option.some.inj ho
  clear ho
  go_simp
  refine (HPK.out _).mono ?_
  rintro e V1 ⟨rfl, rfl⟩
  go_wp2_with fail
  refine hK.out _ _ (hHeld) (fun hHeld => ?_)
  clear hK K'
  try simp only [Act.put, List.setIfInBounds_toArray, List.set_cons_zero, List.set_cons_succ]
  have HV1 := Lib.hid hHeld
  refine oneR 6 (by kernel_rfl) (by kernel_rfl) (fun o ho K' hK => ?_)
  obtain rfl := Option.some.inj ho
  clear ho
  go_simp
  refine hK.out _ _ (below_on hHeld (below_mk _ _)) (fun hHeld => ?_)
  clear hK K'
  try simp only [Act.put, List.setIfInBounds_toArray, List.set_cons_zero, List.set_cons_succ]
  refine oneR 7 (by kernel_rfl) (by kernel_rfl) (fun o ho K' hK => ?_)
  obtain rfl := Option.some.inj ho
  clear ho
  go_simp
  refine (HSL.out _ (HT2.out.on HV1.out) _ rfl).mono ?_
  rintro e V2 ⟨v2, rfl, ho2, hb2⟩
  have HV2 := Lib.hid (below_on hHeld hb2)
  have HE := Lib.hid (own_low ho2 (below_on HB2.out HV2.out) (by have h1 := HB2.out.size; have h2 := HV1.out.size; simp at h2 ⊢; omega))
  clear ho2 hb2 hHeld
  go_wp2_with fail
  refine hK.out _ _ (HV2.out) (fun hHeld => ?_)
  clear hK K'
  try simp only [Act.put, List.setIfInBounds_toArray, List.set_cons_zero, List.set_cons_succ]
  refine takeR 8 4 (v2) (by kernel_rfl) (by kernel_rfl) (by kernel_rfl) (by kernel_rfl) (fun _ _ _ h => h) (by kernel_rfl) (fun w o hSw ho => ?_) hHeld ?_
  · obtain rfl := Option.some.inj ho; go_simp
  simp only [Act.put, List.setIfInBounds_toArray, List.set_cons_zero, List.set_cons_succ]
  refine wpAnyH_done (by kernel_rfl) ?_ _
  refine NoPanic.normal ?_
  go_wp2_with fail
  go_ret
  exact HE.out

set_option maxRecDepth 100000 in
set_option maxHeartbeats 4000000 in
theorem typed_st_7 (cu : Bool) (mo : Int) (sg pa : Bool) (c : Int) (hs : special c = true) (w : World) (hT : Pow w) (h : Typed c 7) :
    Calls Tryd.prog 41 #[.agg #[.bool cu, .bool true, .int .i64 mo, .bool sg, .bool pa], .agg #[.int .i64 c, .int .i64 7]] w (NewOwn w (typedE true c 7)) := by
  have hne : plainE c 7 ≠ [] := by
    unfold plainE
    rw [if_pos hs]
    simp
  have hh : plainE c 7 = [] ∨ ((7 : Int) ≠ 0 ∧ (special c = true ∨ (7 : Int) ≠ 4)) := .inr ⟨by omega, .inl hs⟩
  have HC := Lib.hid (typedE_coded hh (.inl (by omega)))
  rw [HC.out]
  clear HC hh
  have HSL := Lib.hid (fun (W : World) (hW : Pow W) g hg => sequence_lit false #[.int .i64 (codeE c), .int .i64 8] [codeE c, 8] 117 2 W 2 g hg rfl rfl hW (inNum2 h.code.1 h.code.2.1 (by omega) (by omega)) (by simp) (by omega) (by omega))
  have HPK := Lib.hid (fun W => pointOfKey_any c W)
  rw [show byteE 117 = 117 from rfl] at HSL
  rw [show (7 : Int) + 1 = 8 from rfl]
  have hll := plain_len c 7
  have HP := Lib.hid (fun W => plainBytes_any c 7 W h)
  have hcode := h.code
  generalize plainE c 7 = L at *
  have HT := Lib.hid hT
  clear hT
  go_enter Tryd.func41, Tryd.ntmps41
  go_wp2_with fail
  refine (HP.out _).mono ?_
  rintro e w1 ⟨v, rfl, ho, hb⟩
  obtain ⟨p1, c1, hv⟩ := ho.slice
  subst hv
  have k1 := (AtL.new (w.alloc (.cells #[.bool cu, .bool true, .int .i64 mo, .bool sg, .bool pa] 25)) [.int .i64 c, .int .i64 7] 43).on hb
  rw [World.size_alloc] at k1
  have m1 := ((AtL.new w [.bool cu, .bool true, .int .i64 mo, .bool sg, .bool pa] 25).on (below_mk _ (.cells #[.int .i64 c, .int .i64 7] 43))).on hb
  have b1 := below_on (below_on (below_mk w (.cells #[.bool cu, .bool true, .int .i64 mo, .bool sg, .bool pa] 25)) (below_mk _ (.cells #[.int .i64 c, .int .i64 7] 43))) hb
  have o1 := ho.lower (base' := w.heap.size) (by simp; omega)
  have r0 := k1.get 0 rfl
  have r1 := k1.get 1 rfl
  clear ho hb HP
  go_wp2_with fail
  refine (implIsSpecial_any c _).mono ?_
  rintro e w2 ⟨rfl, hb2⟩
  rw [hs]
  have HK := Lib.hid (k1.on hb2)
  have HM := Lib.hid (m1.on hb2)
  have HO := Lib.hid (o1.on hb2)
  have HB := Lib.hid (below_on b1 hb2)
  clear k1 m1 o1 b1 hb2 r0 r1
  have r0 := HK.out.get 0 rfl
  have r1 := HK.out.get 1 rfl
  have r2 := HM.out.get 1 rfl
  have hpos : 0 < L.length := List.length_pos_iff.2 hne
  clear hne
  go_wp2_with (fail)
  refine wp_gen3 (fun W => AtL W (w.heap.size + 1) [.int .i64 c, .int .i64 7] ∧ Below w.heap.size w W ∧ Pow W) ⟨HK.out, HB.out, HT.out.on HB.out⟩ (fun W hW => ?_)
  obtain ⟨hk, hb, ht⟩ := hW
  have HK2 := Lib.hid (fun W' (hW : Below W.heap.size W W') => hk.on hW)
  have HB2 := Lib.hid hb
  have HT2 := Lib.hid ht
  clear hk hb ht HK HM HO HB HT r0 r1 r2
  refine wp_region_noPanic ?_
  refine wp_region_held_drew (S := fun W' => Below (W).heap.size (W) W') (by kernel_rfl) (below_drewN (Below.refl _ _) 1) (fun hHeld => ?_)
  refine takeR 0 46 (.pointer (some ⟨w.heap.size + 1, 0, none⟩)) (by kernel_rfl) (by kernel_rfl) (by kernel_rfl) (by kernel_rfl) (fun _ _ _ h => h) (by kernel_rfl) (fun w o hSw ho => ?_) hHeld ?_
  · obtain rfl := Option.some.inj ho; go_simp
  simp only [Act.put, List.setIfInBounds_toArray, List.set_cons_zero, List.set_cons_succ]
  refine takeR 3 49 (.pointer (some ⟨w.heap.size + 1, 1, none⟩)) (by kernel_rfl) (by kernel_rfl) (by kernel_rfl) (by kernel_rfl) (fun _ _ _ h => h) (by kernel_rfl) (fun w o hSw ho => ?_) hHeld ?_
  · obtain rfl := Option.some.inj ho; go_simp
  simp only [Act.put, List.setIfInBounds_toArray, List.set_cons_zero, List.set_cons_succ]
  refine takeR 1 47 (.int .i64 c) (by kernel_rfl) (by kernel_rfl) (by kernel_rfl) (by kernel_rfl) (fun _ _ _ h => h) (by kernel_rfl) (fun w o hSw ho => ?_) hHeld ?_
  · obtain rfl := Option.some.inj ho; have r0 := (HK2.out _ hSw).get 0 rfl; go_simp
  simp only [Act.put, List.setIfInBounds_toArray, List.set_cons_zero, List.set_cons_succ]
  refine takeR 4 50 (.int .i64 7) (by kernel_rfl) (by kernel_rfl) (by kernel_rfl) (by kernel_rfl) (fun _ _ _ h => h) (by kernel_rfl) (fun w o hSw ho => ?_) hHeld ?_
  · obtain rfl := Option.some.inj ho; have r1 := (HK2.out _ hSw).get 1 rfl; go_simp
  simp only [Act.put, List.setIfInBounds_toArray, List.set_cons_zero, List.set_cons_succ]
  refine takeR 5 51 (.int .i64 8) (by kernel_rfl) (by kernel_rfl) (by kernel_rfl) (by kernel_rfl) (fun _ _ _ h => h) (by kernel_rfl) (fun w o hSw ho => ?_) hHeld ?_
  · obtain rfl := Option.some.inj ho; go_simp; rfl
  simp only [Act.put, List.setIfInBounds_toArray, List.set_cons_zero, List.set_cons_succ]
  refine oneR 2 (by kernel_rfl) (by kernel_rfl) (fun o ho K' hK => ?_)
  obtain rfl := Option.some.inj ho
  clear ho
  go_simp
  refine (HPK.out _).mono ?_
  rintro e V1 ⟨rfl, rfl⟩
  go_wp2_with fail
  refine hK.out _ _ (hHeld) (fun hHeld => ?_)
  clear hK K'
  try simp only [Act.put, List.setIfInBounds_toArray, List.set_cons_zero, List.set_cons_succ]
  have HV1 := Lib.hid hHeld
  refine oneR 6 (by kernel_rfl) (by kernel_rfl) (fun o ho K' hK => ?_)
  obtain rfl := Option.some.inj ho
  clear ho
  go_simp
  refine hK.out _ _ (below_on hHeld (below_mk _ _)) (fun hHeld => ?_)
  clear hK K'
  try simp only [Act.put, List.setIfInBounds_toArray, List.set_cons_zero, List.set_cons_succ]
  refine oneR 7 (by kernel_rfl) (by kernel_rfl) (fun o ho K' hK => ?_)
  obtain rfl := Option.some.inj ho
  clear ho
  go_simp
  refine (HSL.out _ (HT2.out.on HV1.out) _ rfl).mono ?_
  rintro e V2 ⟨v2, rfl, ho2, hb2⟩
  have HV2 := Lib.hid (below_on hHeld hb2)
  have HE := Lib.hid (own_low ho2 (below_on HB2.out HV2.out) (by have h1 := HB2.out.size; have h2 := HV1.out.size; simp at h2 ⊢; omega))
  clear ho2 hb2 hHeld
  go_wp2_with fail
  refine hK.out _ _ (HV2.out) (fun hHeld => ?_)
  clear hK K'
  try simp only [Act.put, List.setIfInBounds_toArray, List.set_cons_zero, List.set_cons_succ]
  refine takeR 8 4 (v2) (by kernel_rfl) (by kernel_rfl) (by kernel_rfl) (by kernel_rfl) (fun _ _ _ h => h) (by kernel_rfl) (fun w o hSw ho => ?_) hHeld ?_
  · obtain rfl := Option.some.inj ho; go_simp
  simp only [Act.put, List.setIfInBounds_toArray, List.set_cons_zero, List.set_cons_succ]
  refine wpAnyH_done (by kernel_rfl) ?_ _
  refine NoPanic.normal ?_
  go_wp2_with fail
  go_ret
  exact HE.out

set_option maxRecDepth 100000 in
set_option maxHeartbeats 4000000 in
theorem typed_nt_2 (cu : Bool) (mo : Int) (sg pa : Bool) (c : Int) (hs : special c = false) (h127 : 126 < c) (w : World) (hT : Pow w) (h : Typed c 2) :
    Calls Tryd.prog 41 #[.agg #[.bool cu, .bool true, .int .i64 mo, .bool sg, .bool pa], .agg #[.int .i64 c, .int .i64 2]] w (NewOwn w (typedE true c 2)) := by
  have hne : plainE c 2 ≠ [] := by
    unfold plainE
    rw [if_neg (by simp [hs])]
    rw [if_pos (.inr rfl)]
    exact putB_ne c
  have hh : plainE c 2 = [] ∨ ((2 : Int) ≠ 0 ∧ (special c = true ∨ (2 : Int) ≠ 4)) := .inr ⟨by omega, .inr (by omega)⟩
  have hin : inR c 32 126 = false := by simp [inR]; omega
  have HC := Lib.hid (typedE_coded hh (.inr h127))
  rw [HC.out]
  clear HC hh
  have HSL := Lib.hid (fun (W : World) (hW : Pow W) g hg => sequence_lit false #[.int .i64 (codeE c), .int .i64 3] [codeE c, 3] 117 2 W 2 g hg rfl rfl hW (inNum2 h.code.1 h.code.2.1 (by omega) (by omega)) (by simp) (by omega) (by omega))
  have HPK := Lib.hid (fun W => pointOfKey_any c W)
  rw [show byteE 117 = 117 from rfl] at HSL
  rw [show (2 : Int) + 1 = 3 from rfl]
  have hll := plain_len c 2
  have HP := Lib.hid (fun W => plainBytes_any c 2 W h)
  have hcode := h.code
  generalize plainE c 2 = L at *
  have HT := Lib.hid hT
  clear hT
  go_enter Tryd.func41, Tryd.ntmps41
  go_wp2_with fail
  refine (HP.out _).mono ?_
  rintro e w1 ⟨v, rfl, ho, hb⟩
  obtain ⟨p1, c1, hv⟩ := ho.slice
  subst hv
  have k1 := (AtL.new (w.alloc (.cells #[.bool cu, .bool true, .int .i64 mo, .bool sg, .bool pa] 25)) [.int .i64 c, .int .i64 2] 43).on hb
  rw [World.size_alloc] at k1
  have m1 := ((AtL.new w [.bool cu, .bool true, .int .i64 mo, .bool sg, .bool pa] 25).on (below_mk _ (.cells #[.int .i64 c, .int .i64 2] 43))).on hb
  have b1 := below_on (below_on (below_mk w (.cells #[.bool cu, .bool true, .int .i64 mo, .bool sg, .bool pa] 25)) (below_mk _ (.cells #[.int .i64 c, .int .i64 2] 43))) hb
  have o1 := ho.lower (base' := w.heap.size) (by simp; omega)
  have r0 := k1.get 0 rfl
  have r1 := k1.get 1 rfl
  clear ho hb HP
  go_wp2_with fail
  refine (implIsSpecial_any c _).mono ?_
  rintro e w2 ⟨rfl, hb2⟩
  rw [hs]
  have HK := Lib.hid (k1.on hb2)
  have HM := Lib.hid (m1.on hb2)
  have HO := Lib.hid (o1.on hb2)
  have HB := Lib.hid (below_on b1 hb2)
  clear k1 m1 o1 b1 hb2 r0 r1
  have r0 := HK.out.get 0 rfl
  have r1 := HK.out.get 1 rfl
  have r2 := HM.out.get 1 rfl
  have hpos : 0 < L.length := List.length_pos_iff.2 hne
  clear hne
  have r2 := (HM.out.on (below_mk w2 (.cells #[.int .i64 32, .int .i64 126] 2))).get 1 rfl
  go_wp2_with (go_at_call 55; refine (isWithin_two _ _ _ _ _ _ (by simp)).mono ?_; rintro e w' ⟨rfl, rfl⟩; rw [hin])
  refine wp_gen3 (fun W => AtL W (w.heap.size + 1) [.int .i64 c, .int .i64 2] ∧ Below w.heap.size w W ∧ Pow W) ⟨HK.out.on (below_mk _ _), below_on HB.out (below_mk _ _), HT.out.on (below_on HB.out (below_mk _ _))⟩ (fun W hW => ?_)
  obtain ⟨hk, hb, ht⟩ := hW
  have HK2 := Lib.hid (fun W' (hW : Below W.heap.size W W') => hk.on hW)
  have HB2 := Lib.hid hb
  have HT2 := Lib.hid ht
  clear hk hb ht HK HM HO HB HT r0 r1 r2
  refine wp_region_noPanic ?_
  refine wp_region_held_drew (S := fun W' => Below (W).heap.size (W) W') (by kernel_rfl) (below_drewN (Below.refl _ _) 1) (fun hHeld => ?_)
  refine takeR 0 46 (.pointer (some ⟨w.heap.size + 1, 0, none⟩)) (by kernel_rfl) (by kernel_rfl) (by kernel_rfl) (by kernel_rfl) (fun _ _ _ h => h) (by kernel_rfl) (fun w o hSw ho => ?_) hHeld ?_
  · obtain rfl := Option.some.inj ho; go_simp
  simp only [Act.put, List.setIfInBounds_toArray, List.set_cons_zero, List.set_cons_succ]
  refine takeR 3 49 (.pointer (some ⟨w.heap.size + 1, 1, none⟩)) (by kernel_rfl) (by kernel_rfl) (by kernel_rfl) (by kernel_rfl) (fun _ _ _ h => h) (by kernel_rfl) (fun w o hSw ho => ?_) hHeld ?_
  · obtain rfl := Option.some.inj ho; go_simp
  simp only [Act.put, List.setIfInBounds_toArray, List.set_cons_zero, List.set_cons_succ]
  refine takeR 1 47 (.int .i64 c) (by kernel_rfl) (by kernel_rfl) (by kernel_rfl) (by kernel_rfl) (fun _ _ _ h => h) (by kernel_rfl) (fun w o hSw ho => ?_) hHeld ?_
  · obtain rfl := Option.some.inj ho; have r0 := (HK2.out _ hSw).get 0 rfl; go_simp
  simp only [Act.put, List.setIfInBounds_toArray, List.set_cons_zero, List.set_cons_succ]
  refine takeR 4 50 (.int .i64 2) (by kernel_rfl) (by kernel_rfl) (by kernel_rfl) (by kernel_rfl) (fun _ _ _ h => h) (by kernel_rfl) (fun w o hSw ho => ?_) hHeld ?_
  · obtain rfl := Option.some.inj ho; have r1 := (HK2.out _ hSw).get 1 rfl; go_simp
  simp only [Act.put, List.setIfInBounds_toArray, List.set_cons_zero, List.set_cons_succ]
  refine takeR 5 51 (.int .i64 3) (by kernel_rfl) (by kernel_rfl) (by kernel_rfl) (by kernel_rfl) (fun _ _ _ h => h) (by kernel_rfl) (fun w o hSw ho => ?_) hHeld ?_
  · obtain rfl := Option.some.inj ho; go_simp; rfl
  simp only [Act.put, List.setIfInBounds_toArray, List.set_cons_zero, List.set_cons_succ]
  refine oneR 2 (by kernel_rfl) (by kernel_rfl) (fun o ho K' hK => ?_)
  obtain rfl := Option.some.inj ho
  clear ho
  go_simp
  refine (HPK.out _).mono ?_
  rintro e V1 ⟨rfl, rfl⟩
  go_wp2_with fail
  refine hK.out _ _ (hHeld) (fun hHeld => ?_)
  clear hK K'
  try simp only [Act.put, List.setIfInBounds_toArray, List.set_cons_zero, List.set_cons_succ]
  have HV1 := Lib.hid hHeld
  refine oneR 6 (by kernel_rfl) (by kernel_rfl) (fun o ho K' hK => ?_)
  obtain rfl := Option.some.inj ho
  clear ho
  go_simp
  refine hK.out _ _ (below_on hHeld (below_mk _ _)) (fun hHeld => ?_)
  clear hK K'
  try simp only [Act.put, List.setIfInBounds_toArray, List.set_cons_zero, List.set_cons_succ]
  refine oneR 7 (by kernel_rfl) (by kernel_rfl) (fun o ho K' hK => ?_)
  obtain rfl := Option.some.inj ho
  clear ho
  go_simp
  refine (HSL.out _ (HT2.out.on HV1.out) _ rfl).mono ?_
  rintro e V2 ⟨v2, rfl, ho2, hb2⟩
  have HV2 := Lib.hid (below_on hHeld hb2)
  have HE := Lib.hid (own_low ho2 (below_on HB2.out HV2.out) (by have h1 := HB2.out.size; have h2 := HV1.out.size; simp at h2 ⊢; omega))
  clear ho2 hb2 hHeld
  go_wp2_with fail
  refine hK.out _ _ (HV2.out) (fun hHeld => ?_)
  clear hK K'
  try simp only [Act.put, List.setIfInBounds_toArray, List.set_cons_zero, List.set_cons_succ]
  refine takeR 8 4 (v2) (by kernel_rfl) (by kernel_rfl) (by kernel_rfl) (by kernel_rfl) (fun _ _ _ h => h) (by kernel_rfl) (fun w o hSw ho => ?_) hHeld ?_
  · obtain rfl := Option.some.inj ho; go_simp
  simp only [Act.put, List.setIfInBounds_toArray, List.set_cons_zero, List.set_cons_succ]
  refine wpAnyH_done (by kernel_rfl) ?_ _
  refine NoPanic.normal ?_
  go_wp2_with fail
  go_ret
  exact HE.out

set_option maxRecDepth 100000 in
set_option maxHeartbeats 4000000 in
theorem typed_nt_6 (cu : Bool) (mo : Int) (sg pa : Bool) (c : Int) (hs : special c = false) (hp : ctrlE c ≠ []) (w : World) (hT : Pow w) (h : Typed c 6) :
    Calls Tryd.prog 41 #[.agg #[.bool cu, .bool true, .int .i64 mo, .bool sg, .bool pa], .agg #[.int .i64 c, .int .i64 6]] w (NewOwn w (typedE true c 6)) := by
  have hne : plainE c 6 ≠ [] := by
    unfold plainE
    rw [if_neg (by simp [hs])]
    rw [if_neg (by omega), if_pos (by omega)]
    exact hp
  have hh : plainE c 6 = [] ∨ ((6 : Int) ≠ 0 ∧ (special c = true ∨ (6 : Int) ≠ 4)) := .inr ⟨by omega, .inr (by omega)⟩
  have HC := Lib.hid (typedE_coded hh (.inl (by omega)))
  rw [HC.out]
  clear HC hh
  have HSL := Lib.hid (fun (W : World) (hW : Pow W) g hg => sequence_lit false #[.int .i64 (codeE c), .int .i64 7] [codeE c, 7] 117 2 W 2 g hg rfl rfl hW (inNum2 h.code.1 h.code.2.1 (by omega) (by omega)) (by simp) (by omega) (by omega))
  have HPK := Lib.hid (fun W => pointOfKey_any c W)
  rw [show byteE 117 = 117 from rfl] at HSL
  rw [show (6 : Int) + 1 = 7 from rfl]
  have hll := plain_len c 6
  have HP := Lib.hid (fun W => plainBytes_any c 6 W h)
  have hcode := h.code
  generalize plainE c 6 = L at *
  have HT := Lib.hid hT
  clear hT
  go_enter Tryd.func41, Tryd.ntmps41
  go_wp2_with fail
  refine (HP.out _).mono ?_
  rintro e w1 ⟨v, rfl, ho, hb⟩
  obtain ⟨p1, c1, hv⟩ := ho.slice
  subst hv
  have k1 := (AtL.new (w.alloc (.cells #[.bool cu, .bool true, .int .i64 mo, .bool sg, .bool pa] 25)) [.int .i64 c, .int .i64 6] 43).on hb
  rw [World.size_alloc] at k1
  have m1 := ((AtL.new w [.bool cu, .bool true, .int .i64 mo, .bool sg, .bool pa] 25).on (below_mk _ (.cells #[.int .i64 c, .int .i64 6] 43))).on hb
  have b1 := below_on (below_on (below_mk w (.cells #[.bool cu, .bool true, .int .i64 mo, .bool sg, .bool pa] 25)) (below_mk _ (.cells #[.int .i64 c, .int .i64 6] 43))) hb
  have o1 := ho.lower (base' := w.heap.size) (by simp; omega)
  have r0 := k1.get 0 rfl
  have r1 := k1.get 1 rfl
  clear ho hb HP
  go_wp2_with fail
  refine (implIsSpecial_any c _).mono ?_
  rintro e w2 ⟨rfl, hb2⟩
  rw [hs]
  have HK := Lib.hid (k1.on hb2)
  have HM := Lib.hid (m1.on hb2)
  have HO := Lib.hid (o1.on hb2)
  have HB := Lib.hid (below_on b1 hb2)
  clear k1 m1 o1 b1 hb2 r0 r1
  have r0 := HK.out.get 0 rfl
  have r1 := HK.out.get 1 rfl
  have r2 := HM.out.get 1 rfl
  have hpos : 0 < L.length := List.length_pos_iff.2 hne
  clear hne
  go_wp2_with (fail)
  refine wp_gen3 (fun W => AtL W (w.heap.size + 1) [.int .i64 c, .int .i64 6] ∧ Below w.heap.size w W ∧ Pow W) ⟨HK.out, HB.out, HT.out.on HB.out⟩ (fun W hW => ?_)
  obtain ⟨hk, hb, ht⟩ := hW
  have HK2 := Lib.hid (fun W' (hW : Below W.heap.size W W') => hk.on hW)
  have HB2 := Lib.hid hb
  have HT2 := Lib.hid ht
  clear hk hb ht HK HM HO HB HT r0 r1 r2
  refine wp_region_noPanic ?_
  refine wp_region_held_drew (S := fun W' => Below (W).heap.size (W) W') (by kernel_rfl) (below_drewN (Below.refl _ _) 1) (fun hHeld => ?_)
  refine takeR 0 46 (.pointer (some ⟨w.heap.size + 1, 0, none⟩)) (by kernel_rfl) (by kernel_rfl) (by kernel_rfl) (by kernel_rfl) (fun _ _ _ h => h) (by kernel_rfl) (fun w o hSw ho => ?_) hHeld ?_
  · obtain rfl := Option.some.inj ho; go_simp
  simp only [Act.put, List.setIfInBounds_toArray, List.set_cons_zero, List.set_cons_succ]
  refine takeR 3 49 (.pointer (some ⟨w.heap.size + 1, 1, none⟩)) (by kernel_rfl) (by kernel_rfl) (by kernel_rfl) (by kernel_rfl) (fun _ _ _ h => h) (by kernel_rfl) (fun w o hSw ho => ?_) hHeld ?_
  · obtain rfl := Option.some.inj ho; go_simp
  simp only [Act.put, List.setIfInBounds_toArray, List.set_cons_zero, List.set_cons_succ]
  refine takeR 1 47 (.int .i64 c) (by kernel_rfl) (by kernel_rfl) (by kernel_rfl) (by kernel_rfl) (fun _ _ _ h => h) (by kernel_rfl) (fun w o hSw ho => ?_) hHeld ?_
  · obtain rfl := Option.some.inj ho; have r0 := (HK2.out _ hSw).get 0 rfl; go_simp
  simp only [Act.put, List.setIfInBounds_toArray, List.set_cons_zero, List.set_cons_succ]
  refine takeR 4 50 (.int .i64 6) (by kernel_rfl) (by kernel_rfl) (by kernel_rfl) (by kernel_rfl) (fun _ _ _ h => h) (by kernel_rfl) (fun w o hSw ho => ?_) hHeld ?_
  · obtain rfl := Option.some.inj ho; have r1 := (HK2.out _ hSw).get 1 rfl; go_simp
  simp only [Act.put, List.setIfInBounds_toArray, List.set_cons_zero, List.set_cons_succ]
  refine takeR 5 51 (.int .i64 7) (by kernel_rfl) (by kernel_rfl) (by kernel_rfl) (by kernel_rfl) (fun _ _ _ h => h) (by kernel_rfl) (fun w o hSw ho => ?_) hHeld ?_
  · obtain rfl := Option.some.inj ho; go_simp; rfl
  simp only [Act.put, List.setIfInBounds_toArray, List.set_cons_zero, List.set_cons_succ]
  refine oneR 2 (by kernel_rfl) (by kernel_rfl) (fun o ho K' hK => ?_)
  obtain rfl := Option.some.inj ho
  clear ho
  go_simp
  refine (HPK.out _).mono ?_
  rintro e V1 ⟨rfl, rfl⟩
  go_wp2_with fail
  refine hK.out _ _ (hHeld) (fun hHeld => ?_)
  clear hK K'
  try simp only [Act.put, List.setIfInBounds_toArray, List.set_cons_zero, List.set_cons_succ]
  have HV1 := Lib.hid hHeld
  refine oneR 6 (by kernel_rfl) (by kernel_rfl) (fun o ho K' hK => ?_)
  obtain rfl := Option.some.inj ho
  clear ho
  go_simp
  refine hK.out _ _ (below_on hHeld (below_mk _ _)) (fun hHeld => ?_)
  clear hK K'
  try simp only [Act.put, List.setIfInBounds_toArray, List.set_cons_zero, List.set_cons_succ]
  refine oneR 7 (by kernel_rfl) (by kernel_rfl) (fun o ho K' hK => ?_)
  obtain rfl := Option.some.inj ho
  clear ho
  go_simp
  refine (HSL.out _ (HT2.out.on HV1.out) _ rfl).mono ?_
  rintro e V2 ⟨v2, rfl, ho2, hb2⟩
  have HV2 := Lib.hid (below_on hHeld hb2)
  have HE := Lib.hid (own_low ho2 (below_on HB2.out HV2.out) (by have h1 := HB2.out.size; have h2 := HV1.out.size; simp at h2 ⊢; omega))
  clear ho2 hb2 hHeld
  go_wp2_with fail
  refine hK.out _ _ (HV2.out) (fun hHeld => ?_)
  clear hK K'
  try simp only [Act.put, List.setIfInBounds_toArray, List.set_cons_zero, List.set_cons_succ]
  refine takeR 8 4 (v2) (by kernel_rfl) (by kernel_rfl) (by kernel_rfl) (by kernel_rfl) (fun _ _ _ h => h) (by kernel_rfl) (fun w o hSw ho => ?_) hHeld ?_
  · obtain rfl := Option.some.inj ho; go_simp
  simp only [Act.put, List.setIfInBounds_toArray, List.set_cons_zero, List.set_cons_succ]
  refine wpAnyH_done (by kernel_rfl) ?_ _
  refine NoPanic.normal ?_
  go_wp2_with fail
  go_ret
  exact HE.out

set_option maxRecDepth 100000 in
set_option maxHeartbeats 4000000 in
theorem typed_et_1 (cu : Bool) (mo : Int) (sg pa : Bool) (c : Int) (hs : special c = false) (w : World) (hT : Pow w) (h : Typed c 1) :
    Calls Tryd.prog 41 #[.agg #[.bool cu, .bool true, .int .i64 mo, .bool sg, .bool pa], .agg #[.int .i64 c, .int .i64 1]] w (NewOwn w (typedE true c 1)) := by
  have hne : plainE c 1 = [] := by
    unfold plainE
    rw [if_neg (by simp [hs]), if_neg (by omega)]
    rw [if_neg (by omega)]
  have hh : plainE c 1 = [] ∨ ((1 : Int) ≠ 0 ∧ (special c = true ∨ (1 : Int) ≠ 4)) := .inl hne
  have HC := Lib.hid (typedE_coded hh (.inl (by omega)))
  rw [HC.out]
  clear HC hh
  have HSL := Lib.hid (fun (W : World) (hW : Pow W) g hg => sequence_lit false #[.int .i64 (codeE c), .int .i64 2] [codeE c, 2] 117 2 W 2 g hg rfl rfl hW (inNum2 h.code.1 h.code.2.1 (by omega) (by omega)) (by simp) (by omega) (by omega))
  have HPK := Lib.hid (fun W => pointOfKey_any c W)
  rw [show byteE 117 = 117 from rfl] at HSL
  rw [show (1 : Int) + 1 = 2 from rfl]
  have hll := plain_len c 1
  have HP := Lib.hid (fun W => plainBytes_any c 1 W h)
  have hcode := h.code
  generalize plainE c 1 = L at *
  subst hne
  have HT := Lib.hid hT
  clear hT
  go_enter Tryd.func41, Tryd.ntmps41
  go_wp2_with fail
  refine (HP.out _).mono ?_
  rintro e w1 ⟨v, rfl, ho, hb⟩
  obtain ⟨p1, c1, hv⟩ := ho.slice
  subst hv
  have k1 := (AtL.new (w.alloc (.cells #[.bool cu, .bool true, .int .i64 mo, .bool sg, .bool pa] 25)) [.int .i64 c, .int .i64 1] 43).on hb
  rw [World.size_alloc] at k1
  have m1 := ((AtL.new w [.bool cu, .bool true, .int .i64 mo, .bool sg, .bool pa] 25).on (below_mk _ (.cells #[.int .i64 c, .int .i64 1] 43))).on hb
  have b1 := below_on (below_on (below_mk w (.cells #[.bool cu, .bool true, .int .i64 mo, .bool sg, .bool pa] 25)) (below_mk _ (.cells #[.int .i64 c, .int .i64 1] 43))) hb
  have o1 := ho.lower (base' := w.heap.size) (by simp; omega)
  have r0 := k1.get 0 rfl
  have r1 := k1.get 1 rfl
  clear ho hb HP
  go_wp2_with fail
  refine (implIsSpecial_any c _).mono ?_
  rintro e w2 ⟨rfl, hb2⟩
  rw [hs]
  have HK := Lib.hid (k1.on hb2)
  have HM := Lib.hid (m1.on hb2)
  have HO := Lib.hid (o1.on hb2)
  have HB := Lib.hid (below_on b1 hb2)
  clear k1 m1 o1 b1 hb2 r0 r1
  have r0 := HK.out.get 0 rfl
  have r1 := HK.out.get 1 rfl
  have r2 := HM.out.get 1 rfl
  go_wp2_with (fail)
  refine wp_gen3 (fun W => AtL W (w.heap.size + 1) [.int .i64 c, .int .i64 1] ∧ Below w.heap.size w W ∧ Pow W) ⟨HK.out, HB.out, HT.out.on HB.out⟩ (fun W hW => ?_)
  obtain ⟨hk, hb, ht⟩ := hW
  have HK2 := Lib.hid (fun W' (hW : Below W.heap.size W W') => hk.on hW)
  have HB2 := Lib.hid hb
  have HT2 := Lib.hid ht
  clear hk hb ht HK HM HO HB HT r0 r1 r2
  refine wp_region_noPanic ?_
  refine wp_region_held_drew (S := fun W' => Below (W).heap.size (W) W') (by kernel_rfl) (below_drewN (Below.refl _ _) 1) (fun hHeld => ?_)
  refine takeR 0 46 (.pointer (some ⟨w.heap.size + 1, 0, none⟩)) (by kernel_rfl) (by kernel_rfl) (by kernel_rfl) (by kernel_rfl) (fun _ _ _ h => h) (by kernel_rfl) (fun w o hSw ho => ?_) hHeld ?_
  · obtain rfl := Option.some.inj ho; go_simp
  simp only [Act.put, List.setIfInBounds_toArray, List.set_cons_zero, List.set_cons_succ]
  refine takeR 3 49 (.pointer (some ⟨w.heap.size + 1, 1, none⟩)) (by kernel_rfl) (by kernel_rfl) (by kernel_rfl) (by kernel_rfl) (fun _ _ _ h => h) (by kernel_rfl) (fun w o hSw ho => ?_) hHeld ?_
  · obtain rfl := Option.some.inj ho; go_simp
  simp only [Act.put, List.setIfInBounds_toArray, List.set_cons_zero, List.set_cons_succ]
  refine takeR 1 47 (.int .i64 c) (by kernel_rfl) (by kernel_rfl) (by kernel_rfl) (by kernel_rfl) (fun _ _ _ h => h) (by kernel_rfl) (fun w o hSw ho => ?_) hHeld ?_
  · obtain rfl := Option.some.inj ho; have r0 := (HK2.out _ hSw).get 0 rfl; go_simp
  simp only [Act.put, List.setIfInBounds_toArray, List.set_cons_zero, List.set_cons_succ]
  refine takeR 4 50 (.int .i64 1) (by kernel_rfl) (by kernel_rfl) (by kernel_rfl) (by kernel_rfl) (fun _ _ _ h => h) (by kernel_rfl) (fun w o hSw ho => ?_) hHeld ?_
  · obtain rfl := Option.some.inj ho; have r1 := (HK2.out _ hSw).get 1 rfl; go_simp
  simp only [Act.put, List.setIfInBounds_toArray, List.set_cons_zero, List.set_cons_succ]
  refine takeR 5 51 (.int .i64 2) (by kernel_rfl) (by kernel_rfl) (by kernel_rfl) (by kernel_rfl) (fun _ _ _ h => h) (by kernel_rfl) (fun w o hSw ho => ?_) hHeld ?_
  · obtain rfl := Option.some.inj ho; go_simp; rfl
  simp only [Act.put, List.setIfInBounds_toArray, List.set_cons_zero, List.set_cons_succ]
  refine oneR 2 (by kernel_rfl) (by kernel_rfl) (fun o ho K' hK => ?_)
  obtain rfl := Option.some.inj ho
  clear ho
  go_simp
  refine (HPK.out _).mono ?_
  rintro e V1 ⟨rfl, rfl⟩
  go_wp2_with fail
  refine hK.out _ _ (hHeld) (fun hHeld => ?_)
  clear hK K'
  try simp only [Act.put, List.setIfInBounds_toArray, List.set_cons_zero, List.set_cons_succ]
  have HV1 := Lib.hid hHeld
  refine oneR 6 (by kernel_rfl) (by kernel_rfl) (fun o ho K' hK => ?_)
  obtain rfl := Option.some.inj ho
  clear ho
  go_simp
  refine hK.out _ _ (below_on hHeld (below_mk _ _)) (fun hHeld => ?_)
  clear hK K'
  try simp only [Act.put, List.setIfInBounds_toArray, List.set_cons_zero, List.set_cons_succ]
  refine oneR 7 (by kernel_rfl) (by kernel_rfl) (fun o ho K' hK => ?_)
  obtain rfl := Option.some.inj ho
  clear ho
  go_simp
  refine (HSL.out _ (HT2.out.on HV1.out) _ rfl).mono ?_
  rintro e V2 ⟨v2, rfl, ho2, hb2⟩
  have HV2 := Lib.hid (below_on hHeld hb2)
  have HE := Lib.hid (own_low ho2 (below_on HB2.out HV2.out) (by have h1 := HB2.out.size; have h2 := HV1.out.size; simp at h2 ⊢; omega))
  clear ho2 hb2 hHeld
  go_wp2_with fail
  refine hK.out _ _ (HV2.out) (fun hHeld => ?_)
  clear hK K'
  try simp only [Act.put, List.setIfInBounds_toArray, List.set_cons_zero, List.set_cons_succ]
  refine takeR 8 4 (v2) (by kernel_rfl) (by kernel_rfl) (by kernel_rfl) (by kernel_rfl) (fun _ _ _ h => h) (by kernel_rfl) (fun w o hSw ho => ?_) hHeld ?_
  · obtain rfl := Option.some.inj ho; go_simp
  simp only [Act.put, List.setIfInBounds_toArray, List.set_cons_zero, List.set_cons_succ]
  refine wpAnyH_done (by kernel_rfl) ?_ _
  refine NoPanic.normal ?_
  go_wp2_with fail
  go_ret
  exact HE.out

set_option maxRecDepth 100000 in
set_option maxHeartbeats 4000000 in
theorem typed_et_3 (cu : Bool) (mo : Int) (sg pa : Bool) (c : Int) (hs : special c = false) (w : World) (hT : Pow w) (h : Typed c 3) :
    Calls Tryd.prog 41 #[.agg #[.bool cu, .bool true, .int .i64 mo, .bool sg, .bool pa], .agg #[.int .i64 c, .int .i64 3]] w (NewOwn w (typedE true c 3)) := by
  have hne : plainE c 3 = [] := by
    unfold plainE
    rw [if_neg (by simp [hs]), if_neg (by omega)]
    rw [if_neg (by omega)]
  have hh : plainE c 3 = [] ∨ ((3 : Int) ≠ 0 ∧ (special c = true ∨ (3 : Int) ≠ 4)) := .inl hne
  have HC := Lib.hid (typedE_coded hh (.inl (by omega)))
  rw [HC.out]
  clear HC hh
  have HSL := Lib.hid (fun (W : World) (hW : Pow W) g hg => sequence_lit false #[.int .i64 (codeE c), .int .i64 4] [codeE c, 4] 117 2 W 2 g hg rfl rfl hW (inNum2 h.code.1 h.code.2.1 (by omega) (by omega)) (by simp) (by omega) (by omega))
  have HPK := Lib.hid (fun W => pointOfKey_any c W)
  rw [show byteE 117 = 117 from rfl] at HSL
  rw [show (3 : Int) + 1 = 4 from rfl]
  have hll := plain_len c 3
  have HP := Lib.hid (fun W => plainBytes_any c 3 W h)
  have hcode := h.code
  generalize plainE c 3 = L at *
  subst hne
  have HT := Lib.hid hT
  clear hT
  go_enter Tryd.func41, Tryd.ntmps41
  go_wp2_with fail
  refine (HP.out _).mono ?_
  rintro e w1 ⟨v, rfl, ho, hb⟩
  obtain ⟨p1, c1, hv⟩ := ho.slice
  subst hv
  have k1 := (AtL.new (w.alloc (.cells #[.bool cu, .bool true, .int .i64 mo, .bool sg, .bool pa] 25)) [.int .i64 c, .int .i64 3] 43).on hb
  rw [World.size_alloc] at k1
  have m1 := ((AtL.new w [.bool cu, .bool true, .int .i64 mo, .bool sg, .bool pa] 25).on (below_mk _ (.cells #[.int .i64 c, .int .i64 3] 43))).on hb
  have b1 := below_on (below_on (below_mk w (.cells #[.bool cu, .bool true, .int .i64 mo, .bool sg, .bool pa] 25)) (below_mk _ (.cells #[.int .i64 c, .int .i64 3] 43))) hb
  have o1 := ho.lower (base' := w.heap.size) (by simp; omega)
  have r0 := k1.get 0 rfl
  have r1 := k1.get 1 rfl
  clear ho hb HP
  go_wp2_with fail
  refine (implIsSpecial_any c _).mono ?_
  rintro e w2 ⟨rfl, hb2⟩
  rw [hs]
  have HK := Lib.hid (k1.on hb2)
  have HM := Lib.hid (m1.on hb2)
  have HO := Lib.hid (o1.on hb2)
  have HB := Lib.hid (below_on b1 hb2)
  clear k1 m1 o1 b1 hb2 r0 r1
  have r0 := HK.out.get 0 rfl
  have r1 := HK.out.get 1 rfl
  have r2 := HM.out.get 1 rfl
  go_wp2_with (fail)
  refine wp_gen3 (fun W => AtL W (w.heap.size + 1) [.int .i64 c, .int .i64 3] ∧ Below w.heap.size w W ∧ Pow W) ⟨HK.out, HB.out, HT.out.on HB.out⟩ (fun W hW => ?_)
  obtain ⟨hk, hb, ht⟩ := hW
  have HK2 := Lib.hid (fun W' (hW : Below W.heap.size W W') => hk.on hW)
  have HB2 := Lib.hid hb
  have HT2 := Lib.hid ht
  clear hk hb ht HK HM HO HB HT r0 r1 r2
  refine wp_region_noPanic ?_
  refine wp_region_held_drew (S := fun W' => Below (W).heap.size (W) W') (by kernel_rfl) (below_drewN (Below.refl _ _) 1) (fun hHeld => ?_)
  refine takeR 0 46 (.pointer (some ⟨w.heap.size + 1, 0, none⟩)) (by kernel_rfl) (by kernel_rfl) (by kernel_rfl) (by kernel_rfl) (fun _ _ _ h => h) (by kernel_rfl) (fun w o hSw ho => ?_) hHeld ?_
  · obtain rfl := Option.some.inj ho; go_simp
  simp only [Act.put, List.setIfInBounds_toArray, List.set_cons_zero, List.set_cons_succ]
  refine takeR 3 49 (.pointer (some ⟨w.heap.size + 1, 1, none⟩)) (by kernel_rfl) (by kernel_rfl) (by kernel_rfl) (by kernel_rfl) (fun _ _ _ h => h) (by kernel_rfl) (fun w o hSw ho => ?_) hHeld ?_
  · obtain rfl := Option.some.inj ho; go_simp
  simp only [Act.put, List.setIfInBounds_toArray, List.set_cons_zero, List.set_cons_succ]
  refine takeR 1 47 (.int .i64 c) (by kernel_rfl) (by kernel_rfl) (by kernel_rfl) (by kernel_rfl) (fun _ _ _ h => h) (by kernel_rfl) (fun w o hSw ho => ?_) hHeld ?_
  · obtain rfl := Option.some.inj ho; have r0 := (HK2.out _ hSw).get 0 rfl; go_simp
  simp only [Act.put, List.setIfInBounds_toArray, List.set_cons_zero, List.set_cons_succ]
  refine takeR 4 50 (.int .i64 3) (by kernel_rfl) (by kernel_rfl) (by kernel_rfl) (by kernel_rfl) (fun _ _ _ h => h) (by kernel_rfl) (fun w o hSw ho => ?_) hHeld ?_
  · obtain rfl := Option.some.inj ho; have r1 := (HK2.out _ hSw).get 1 rfl; go_simp
  simp only [Act.put, List.setIfInBounds_toArray, List.set_cons_zero, List.set_cons_succ]
  refine takeR 5 51 (.int .i64 4) (by kernel_rfl) (by kernel_rfl) (by kernel_rfl) (by kernel_rfl) (fun _ _ _ h => h) (by kernel_rfl) (fun w o hSw ho => ?_) hHeld ?_
  · obtain rfl := Option.some.inj ho; go_simp; rfl
  simp only [Act.put, List.setIfInBounds_toArray, List.set_cons_zero, List.set_cons_succ]
  refine oneR 2 (by kernel_rfl) (by kernel_rfl) (fun o ho K' hK => ?_)
  obtain rfl := Option.some.inj ho
  clear ho
  go_simp
  refine (HPK.out _).mono ?_
  rintro e V1 ⟨rfl, rfl⟩
  go_wp2_with fail
  refine hK.out _ _ (hHeld) (fun hHeld => ?_)
  clear hK K'
  try simp only [Act.put, List.setIfInBounds_toArray, List.set_cons_zero, List.set_cons_succ]
  have HV1 := Lib.hid hHeld
  refine oneR 6 (by kernel_rfl) (by kernel_rfl) (fun o ho K' hK => ?_)
  obtain rfl := Option.some.inj ho
  clear ho
  go_simp
  refine hK.out _ _ (below_on hHeld (below_mk _ _)) (fun hHeld => ?_)
  clear hK K'
  try simp only [Act.put, List.setIfInBounds_toArray, List.set_cons_zero, List.set_cons_succ]
  refine oneR 7 (by kernel_rfl) (by kernel_rfl) (fun o ho K' hK => ?_)
  obtain rfl := Option.some.inj ho
  clear ho
  go_simp
  refine (HSL.out _ (HT2.out.on HV1.out) _ rfl).mono ?_
  rintro e V2 ⟨v2, rfl, ho2, hb2⟩
  have HV2 := Lib.hid (below_on hHeld hb2)
  have HE := Lib.hid (own_low ho2 (below_on HB2.out HV2.out) (by have h1 := HB2.out.size; have h2 := HV1.out.size; simp at h2 ⊢; omega))
  clear ho2 hb2 hHeld
  go_wp2_with fail
  refine hK.out _ _ (HV2.out) (fun hHeld => ?_)
  clear hK K'
  try simp only [Act.put, List.setIfInBounds_toArray, List.set_cons_zero, List.set_cons_succ]
  refine takeR 8 4 (v2) (by kernel_rfl) (by kernel_rfl) (by kernel_rfl) (by kernel_rfl) (fun _ _ _ h => h) (by kernel_rfl) (fun w o hSw ho => ?_) hHeld ?_
  · obtain rfl := Option.some.inj ho; go_simp
  simp only [Act.put, List.setIfInBounds_toArray, List.set_cons_zero, List.set_cons_succ]
  refine wpAnyH_done (by kernel_rfl) ?_ _
  refine NoPanic.normal ?_
  go_wp2_with fail
  go_ret
  exact HE.out

set_option maxRecDepth 100000 in
set_option maxHeartbeats 4000000 in
theorem typed_et_4 (cu : Bool) (mo : Int) (sg pa : Bool) (c : Int) (hs : special c = false) (hp : ctrlE c = []) (w : World) (hT : Pow w) (h : Typed c 4) :
    Calls Tryd.prog 41 #[.agg #[.bool cu, .bool true, .int .i64 mo, .bool sg, .bool pa], .agg #[.int .i64 c, .int .i64 4]] w (NewOwn w (typedE true c 4)) := by
  have hne : plainE c 4 = [] := by
    unfold plainE
    rw [if_neg (by simp [hs]), if_neg (by omega)]
    rw [if_pos (by omega)]
    exact hp
  have hh : plainE c 4 = [] ∨ ((4 : Int) ≠ 0 ∧ (special c = true ∨ (4 : Int) ≠ 4)) := .inl hne
  have HC := Lib.hid (typedE_coded hh (.inl (by omega)))
  rw [HC.out]
  clear HC hh
  have HSL := Lib.hid (fun (W : World) (hW : Pow W) g hg => sequence_lit false #[.int .i64 (codeE c), .int .i64 5] [codeE c, 5] 117 2 W 2 g hg rfl rfl hW (inNum2 h.code.1 h.code.2.1 (by omega) (by omega)) (by simp) (by omega) (by omega))
  have HPK := Lib.hid (fun W => pointOfKey_any c W)
  rw [show byteE 117 = 117 from rfl] at HSL
  rw [show (4 : Int) + 1 = 5 from rfl]
  have hll := plain_len c 4
  have HP := Lib.hid (fun W => plainBytes_any c 4 W h)
  have hcode := h.code
  generalize plainE c 4 = L at *
  subst hne
  have HT := Lib.hid hT
  clear hT
  go_enter Tryd.func41, Tryd.ntmps41
  go_wp2_with fail
  refine (HP.out _).mono ?_
  rintro e w1 ⟨v, rfl, ho, hb⟩
  obtain ⟨p1, c1, hv⟩ := ho.slice
  subst hv
  have k1 := (AtL.new (w.alloc (.cells #[.bool cu, .bool true, .int .i64 mo, .bool sg, .bool pa] 25)) [.int .i64 c, .int .i64 4] 43).on hb
  rw [World.size_alloc] at k1
  have m1 := ((AtL.new w [.bool cu, .bool true, .int .i64 mo, .bool sg, .bool pa] 25).on (below_mk _ (.cells #[.int .i64 c, .int .i64 4] 43))).on hb
  have b1 := below_on (below_on (below_mk w (.cells #[.bool cu, .bool true, .int .i64 mo, .bool sg, .bool pa] 25)) (below_mk _ (.cells #[.int .i64 c, .int .i64 4] 43))) hb
  have o1 := ho.lower (base' := w.heap.size) (by simp; omega)
  have r0 := k1.get 0 rfl
  have r1 := k1.get 1 rfl
  clear ho hb HP
  go_wp2_with fail
  refine (implIsSpecial_any c _).mono ?_
  rintro e w2 ⟨rfl, hb2⟩
  rw [hs]
  have HK := Lib.hid (k1.on hb2)
  have HM := Lib.hid (m1.on hb2)
  have HO := Lib.hid (o1.on hb2)
  have HB := Lib.hid (below_on b1 hb2)
  clear k1 m1 o1 b1 hb2 r0 r1
  have r0 := HK.out.get 0 rfl
  have r1 := HK.out.get 1 rfl
  have r2 := HM.out.get 1 rfl
  go_wp2_with (fail)
  refine wp_gen3 (fun W => AtL W (w.heap.size + 1) [.int .i64 c, .int .i64 4] ∧ Below w.heap.size w W ∧ Pow W) ⟨HK.out, HB.out, HT.out.on HB.out⟩ (fun W hW => ?_)
  obtain ⟨hk, hb, ht⟩ := hW
  have HK2 := Lib.hid (fun W' (hW : Below W.heap.size W W') => hk.on hW)
  have HB2 := Lib.hid hb
  have HT2 := Lib.hid ht
  clear hk hb ht HK HM HO HB HT r0 r1 r2
  refine wp_region_noPanic ?_
  refine wp_region_held_drew (S := fun W' => Below (W).heap.size (W) W') (by kernel_rfl) (below_drewN (Below.refl _ _) 1) (fun hHeld => ?_)
  refine takeR 0 46 (.pointer (some ⟨w.heap.size + 1, 0, none⟩)) (by kernel_rfl) (by kernel_rfl) (by kernel_rfl) (by kernel_rfl) (fun _ _ _ h => h) (by kernel_rfl) (fun w o hSw ho => ?_) hHeld ?_
  · obtain rfl := Option.some.inj ho; go_simp
  simp only [Act.put, List.setIfInBounds_toArray, List.set_cons_zero, List.set_cons_succ]
  refine takeR 3 49 (.pointer (some ⟨w.heap.size + 1, 1, none⟩)) (by kernel_rfl) (by kernel_rfl) (by kernel_rfl) (by kernel_rfl) (fun _ _ _ h => h) (by kernel_rfl) (fun w o hSw ho => ?_) hHeld ?_
  · obtain rfl := Option.some.inj ho; go_simp
  simp only [Act.put, List.setIfInBounds_toArray, List.set_cons_zero, List.set_cons_succ]
  refine takeR 1 47 (.int .i64 c) (by kernel_rfl) (by kernel_rfl) (by kernel_rfl) (by kernel_rfl) (fun _ _ _ h => h) (by kernel_rfl) (fun w o hSw ho => ?_) hHeld ?_
  · obtain rfl := Option.some.inj ho; have r0 := (HK2.out _ hSw).get 0 rfl; go_simp
  simp only [Act.put, List.setIfInBounds_toArray, List.set_cons_zero, List.set_cons_succ]
  refine takeR 4 50 (.int .i64 4) (by kernel_rfl) (by kernel_rfl) (by kernel_rfl) (by kernel_rfl) (fun _ _ _ h => h) (by kernel_rfl) (fun w o hSw ho => ?_) hHeld ?_
  · obtain rfl := Option.some.inj ho; have r1 := (HK2.out _ hSw).get 1 rfl; go_simp
  simp only [Act.put, List.setIfInBounds_toArray, List.set_cons_zero, List.set_cons_succ]
  refine takeR 5 51 (.int .i64 5) (by kernel_rfl) (by kernel_rfl) (by kernel_rfl) (by kernel_rfl) (fun _ _ _ h => h) (by kernel_rfl) (fun w o hSw ho => ?_) hHeld ?_
  · obtain rfl := Option.some.inj ho; go_simp; rfl
  simp only [Act.put, List.setIfInBounds_toArray, List.set_cons_zero, List.set_cons_succ]
  refine oneR 2 (by kernel_rfl) (by kernel_rfl) (fun o ho K' hK => ?_)
  obtain rfl := Option.some.inj ho
  clear ho
  go_simp
  refine (HPK.out _).mono ?_
  rintro e V1 ⟨rfl, rfl⟩
  go_wp2_with fail
  refine hK.out _ _ (hHeld) (fun hHeld => ?_)
  clear hK K'
  try simp only [Act.put, List.setIfInBounds_toArray, List.set_cons_zero, List.set_cons_succ]
  have HV1 := Lib.hid hHeld
  refine oneR 6 (by kernel_rfl) (by kernel_rfl) (fun o ho K' hK => ?_)
  obtain rfl := Option.some.inj ho
  clear ho
  go_simp
  refine hK.out _ _ (below_on hHeld (below_mk _ _)) (fun hHeld => ?_)
  clear hK K'
  try simp only [Act.put, List.setIfInBounds_toArray, List.set_cons_zero, List.set_cons_succ]
  refine oneR 7 (by kernel_rfl) (by kernel_rfl) (fun o ho K' hK => ?_)
  obtain rfl := Option.some.inj ho
  clear ho
  go_simp
  refine (HSL.out _ (HT2.out.on HV1.out) _ rfl).mono ?_
  rintro e V2 ⟨v2, rfl, ho2, hb2⟩
  have HV2 := Lib.hid (below_on hHeld hb2)
  have HE := Lib.hid (own_low ho2 (below_on HB2.out HV2.out) (by have h1 := HB2.out.size; have h2 := HV1.out.size; simp at h2 ⊢; omega))
  clear ho2 hb2 hHeld
  go_wp2_with fail
  refine hK.out _ _ (HV2.out) (fun hHeld => ?_)
  clear hK K'
  try simp only [Act.put, List.setIfInBounds_toArray, List.set_cons_zero, List.set_cons_succ]
  refine takeR 8 4 (v2) (by kernel_rfl) (by kernel_rfl) (by kernel_rfl) (by kernel_rfl) (fun _ _ _ h => h) (by kernel_rfl) (fun w o hSw ho => ?_) hHeld ?_
  · obtain rfl := Option.some.inj ho; go_simp
  simp only [Act.put, List.setIfInBounds_toArray, List.set_cons_zero, List.set_cons_succ]
  refine wpAnyH_done (by kernel_rfl) ?_ _
  refine NoPanic.normal ?_
  go_wp2_with fail
  go_ret
  exact HE.out

set_option maxRecDepth 100000 in
set_option maxHeartbeats 4000000 in
theorem typed_et_5 (cu : Bool) (mo : Int) (sg pa : Bool) (c : Int) (hs : special c = false) (w : World) (hT : Pow w) (h : Typed c 5) :
    Calls Tryd.prog 41 #[.agg #[.bool cu, .bool true, .int .i64 mo, .bool sg, .bool pa], .agg #[.int .i64 c, .int .i64 5]] w (NewOwn w (typedE true c 5)) := by
  have hne : plainE c 5 = [] := by
    unfold plainE
    rw [if_neg (by simp [hs]), if_neg (by omega)]
    rw [if_neg (by omega)]
  have hh : plainE c 5 = [] ∨ ((5 : Int) ≠ 0 ∧ (special c = true ∨ (5 : Int) ≠ 4)) := .inl hne
  have HC := Lib.hid (typedE_coded hh (.inl (by omega)))
  rw [HC.out]
  clear HC hh
  have HSL := Lib.hid (fun (W : World) (hW : Pow W) g hg => sequence_lit false #[.int .i64 (codeE c), .int .i64 6] [codeE c, 6] 117 2 W 2 g hg rfl rfl hW (inNum2 h.code.1 h.code.2.1 (by omega) (by omega)) (by simp) (by omega) (by omega))
  have HPK := Lib.hid (fun W => pointOfKey_any c W)
  rw [show byteE 117 = 117 from rfl] at HSL
  rw [show (5 : Int) + 1 = 6 from rfl]
  have hll := plain_len c 5
  have HP := Lib.hid (fun W => plainBytes_any c 5 W h)
  have hcode := h.code
  generalize plainE c 5 = L at *
  subst hne
  have HT := Lib.hid hT
  clear hT
  go_enter Tryd.func41, Tryd.ntmps41
  go_wp2_with fail
  refine (HP.out _).mono ?_
  rintro e w1 ⟨v, rfl, ho, hb⟩
  obtain ⟨p1, c1, hv⟩ := ho.slice
  subst hv
  have k1 := (AtL.new (w.alloc (.cells #[.bool cu, .bool true, .int .i64 mo, .bool sg, .bool pa] 25)) [.int .i64 c, .int .i64 5] 43).on hb
  rw [World.size_alloc] at k1
  have m1 := ((AtL.new w [.bool cu, .bool true, .int .i64 mo, .bool sg, .bool pa] 25).on (below_mk _ (.cells #[.int .i64 c, .int .i64 5] 43))).on hb
  have b1 := below_on (below_on (below_mk w (.cells #[.bool cu, .bool true, .int .i64 mo, .bool sg, .bool pa] 25)) (below_mk _ (.cells #[.int .i64 c, .int .i64 5] 43))) hb
  have o1 := ho.lower (base' := w.heap.size) (by simp; omega)
  have r0 := k1.get 0 rfl
  have r1 := k1.get 1 rfl
  clear ho hb HP
  go_wp2_with fail
  refine (implIsSpecial_any c _).mono ?_
  rintro e w2 ⟨rfl, hb2⟩
  rw [hs]
  have HK := Lib.hid (k1.on hb2)
  have HM := Lib.hid (m1.on hb2)
  have HO := Lib.hid (o1.on hb2)
  have HB := Lib.hid (below_on b1 hb2)
  clear k1 m1 o1 b1 hb2 r0 r1
  have r0 := HK.out.get 0 rfl
  have r1 := HK.out.get 1 rfl
  have r2 := HM.out.get 1 rfl
  go_wp2_with (fail)
  refine wp_gen3 (fun W => AtL W (w.heap.size + 1) [.int .i64 c, .int .i64 5] ∧ Below w.heap.size w W ∧ Pow W) ⟨HK.out, HB.out, HT.out.on HB.out⟩ (fun W hW => ?_)
  obtain ⟨hk, hb, ht⟩ := hW
  have HK2 := Lib.hid (fun W' (hW : Below W.heap.size W W') => hk.on hW)
  have HB2 := Lib.hid hb
  have HT2 := Lib.hid ht
  clear hk hb ht HK HM HO HB HT r0 r1 r2
  refine wp_region_noPanic ?_
  refine wp_region_held_drew (S := fun W' => Below (W).heap.size (W) W') (by kernel_rfl) (below_drewN (Below.refl _ _) 1) (fun hHeld => ?_)
  refine takeR 0 46 (.pointer (some ⟨w.heap.size + 1, 0, none⟩)) (by kernel_rfl) (by kernel_rfl) (by kernel_rfl) (by kernel_rfl) (fun _ _ _ h => h) (by kernel_rfl) (fun w o hSw ho => ?_) hHeld ?_
  · obtain rfl := Option.some.inj ho; go_simp
  simp only [Act.put, List.setIfInBounds_toArray, List.set_cons_zero, List.set_cons_succ]
  refine takeR 3 49 (.pointer (some ⟨w.heap.size + 1, 1, none⟩)) (by kernel_rfl) (by kernel_rfl) (by kernel_rfl) (by kernel_rfl) (fun _ _ _ h => h) (by kernel_rfl) (fun w o hSw ho => ?_) hHeld ?_
  · obtain rfl := Option.some.inj ho; go_simp
  simp only [Act.put, List.setIfInBounds_toArray, List.set_cons_zero, List.set_cons_succ]
  refine takeR 1 47 (.int .i64 c) (by kernel_rfl) (by kernel_rfl) (by kernel_rfl) (by kernel_rfl) (fun _ _ _ h => h) (by kernel_rfl) (fun w o hSw ho => ?_) hHeld ?_
  · obtain rfl := Option.some.inj ho; have r0 := (HK2.out _ hSw).get 0 rfl; go_simp
  simp only [Act.put, List.setIfInBounds_toArray, List.set_cons_zero, List.set_cons_succ]
  refine takeR 4 50 (.int .i64 5) (by kernel_rfl) (by kernel_rfl) (by kernel_rfl) (by kernel_rfl) (fun _ _ _ h => h) (by kernel_rfl) (fun w o hSw ho => ?_) hHeld ?_
  · obtain rfl := Option.some.inj ho; have r1 := (HK2.out _ hSw).get 1 rfl; go_simp
  simp only [Act.put, List.setIfInBounds_toArray, List.set_cons_zero, List.set_cons_succ]
  refine takeR 5 51 (.int .i64 6) (by kernel_rfl) (by kernel_rfl) (by kernel_rfl) (by kernel_rfl) (fun _ _ _ h => h) (by kernel_rfl) (fun w o hSw ho => ?_) hHeld ?_
  · obtain rfl := Option.some.inj ho; go_simp; rfl
  simp only [Act.put, List.setIfInBounds_toArray, List.set_cons_zero, List.set_cons_succ]
  refine oneR 2 (by kernel_rfl) (by kernel_rfl) (fun o ho K' hK => ?_)
  obtain rfl := Option.some.inj ho
  clear ho
  go_simp
  refine (HPK.out _).mono ?_
  rintro e V1 ⟨rfl, rfl⟩
  go_wp2_with fail
  refine hK.out _ _ (hHeld) (fun hHeld => ?_)
  clear hK K'
  try simp only [Act.put, List.setIfInBounds_toArray, List.set_cons_zero, List.set_cons_succ]
  have HV1 := Lib.hid hHeld
  refine oneR 6 (by kernel_rfl) (by kernel_rfl) (fun o ho K' hK => ?_)
  obtain rfl := Option.some.inj ho
  clear ho
  go_simp
  refine hK.out _ _ (below_on hHeld (below_mk _ _)) (fun hHeld => ?_)
  clear hK K'
  try simp only [Act.put, List.setIfInBounds_toArray, List.set_cons_zero, List.set_cons_succ]
  refine oneR 7 (by kernel_rfl) (by kernel_rfl) (fun o ho K' hK => ?_)
  obtain rfl := Option.some.inj ho
  clear ho
  go_simp
  refine (HSL.out _ (HT2.out.on HV1.out) _ rfl).mono ?_
  rintro e V2 ⟨v2, rfl, ho2, hb2⟩
  have HV2 := Lib.hid (below_on hHeld hb2)
  have HE := Lib.hid (own_low ho2 (below_on HB2.out HV2.out) (by have h1 := HB2.out.size; have h2 := HV1.out.size; simp at h2 ⊢; omega))
  clear ho2 hb2 hHeld
  go_wp2_with fail
  refine hK.out _ _ (HV2.out) (fun hHeld => ?_)
  clear hK K'
  try simp only [Act.put, List.setIfInBounds_toArray, List.set_cons_zero, List.set_cons_succ]
  refine takeR 8 4 (v2) (by kernel_rfl) (by kernel_rfl) (by kernel_rfl) (by kernel_rfl) (fun _ _ _ h => h) (by kernel_rfl) (fun w o hSw ho => ?_) hHeld ?_
  · obtain rfl := Option.some.inj ho; go_simp
  simp only [Act.put, List.setIfInBounds_toArray, List.set_cons_zero, List.set_cons_succ]
  refine wpAnyH_done (by kernel_rfl) ?_ _
  refine NoPanic.normal ?_
  go_wp2_with fail
  go_ret
  exact HE.out

set_option maxRecDepth 100000 in
set_option maxHeartbeats 4000000 in
theorem typed_et_6 (cu : Bool) (mo : Int) (sg pa : Bool) (c : Int) (hs : special c = false) (hp : ctrlE c = []) (w : World) (hT : Pow w) (h : Typed c 6) :
    Calls Tryd.prog 41 #[.agg #[.bool cu, .bool true, .int .i64 mo, .bool sg, .bool pa], .agg #[.int .i64 c, .int .i64 6]] w (NewOwn w (typedE true c 6)) := by
  have hne : plainE c 6 = [] := by
    unfold plainE
    rw [if_neg (by simp [hs]), if_neg (by omega)]
    rw [if_pos (by omega)]
    exact hp
  have hh : plainE c 6 = [] ∨ ((6 : Int) ≠ 0 ∧ (special c = true ∨ (6 : Int) ≠ 4)) := .inl hne
  have HC := Lib.hid (typedE_coded hh (.inl (by omega)))
  rw [HC.out]
  clear HC hh
  have HSL := Lib.hid (fun (W : World) (hW : Pow W) g hg => sequence_lit false #[.int .i64 (codeE c), .int .i64 7] [codeE c, 7] 117 2 W 2 g hg rfl rfl hW (inNum2 h.code.1 h.code.2.1 (by omega) (by omega)) (by simp) (by omega) (by omega))
  have HPK := Lib.hid (fun W => pointOfKey_any c W)
  rw [show byteE 117 = 117 from rfl] at HSL
  rw [show (6 : Int) + 1 = 7 from rfl]
  have hll := plain_len c 6
  have HP := Lib.hid (fun W => plainBytes_any c 6 W h)
  have hcode := h.code
  generalize plainE c 6 = L at *
  subst hne
  have HT := Lib.hid hT
  clear hT
  go_enter Tryd.func41, Tryd.ntmps41
  go_wp2_with fail
  refine (HP.out _).mono ?_
  rintro e w1 ⟨v, rfl, ho, hb⟩
  obtain ⟨p1, c1, hv⟩ := ho.slice
  subst hv
  have k1 := (AtL.new (w.alloc (.cells #[.bool cu, .bool true, .int .i64 mo, .bool sg, .bool pa] 25)) [.int .i64 c, .int .i64 6] 43).on hb
  rw [World.size_alloc] at k1
  have m1 := ((AtL.new w [.bool cu, .bool true, .int .i64 mo, .bool sg, .bool pa] 25).on (below_mk _ (.cells #[.int .i64 c, .int .i64 6] 43))).on hb
  have b1 := below_on (below_on (below_mk w (.cells #[.bool cu, .bool true, .int .i64 mo, .bool sg, .bool pa] 25)) (below_mk _ (.cells #[.int .i64 c, .int .i64 6] 43))) hb
  have o1 := ho.lower (base' := w.heap.size) (by simp; omega)
  have r0 := k1.get 0 rfl
  have r1 := k1.get 1 rfl
  clear ho hb HP
  go_wp2_with fail
  refine (implIsSpecial_any c _).mono ?_
  rintro e w2 ⟨rfl, hb2⟩
  rw [hs]
  have HK := Lib.hid (k1.on hb2)
  have HM := Lib.hid (m1.on hb2)
  have HO := Lib.hid (o1.on hb2)
  have HB := Lib.hid (below_on b1 hb2)
  clear k1 m1 o1 b1 hb2 r0 r1
  have r0 := HK.out.get 0 rfl
  have r1 := HK.out.get 1 rfl
  have r2 := HM.out.get 1 rfl
  go_wp2_with (fail)
  refine wp_gen3 (fun W => AtL W (w.heap.size + 1) [.int .i64 c, .int .i64 6] ∧ Below w.heap.size w W ∧ Pow W) ⟨HK.out, HB.out, HT.out.on HB.out⟩ (fun W hW => ?_)
  obtain ⟨hk, hb, ht⟩ := hW
  have HK2 := Lib.hid (fun W' (hW : Below W.heap.size W W') => hk.on hW)
  have HB2 := Lib.hid hb
  have HT2 := Lib.hid ht
  clear hk hb ht HK HM HO HB HT r0 r1 r2
  refine wp_region_noPanic ?_
  refine wp_region_held_drew (S := fun W' => Below (W).heap.size (W) W') (by kernel_rfl) (below_drewN (Below.refl _ _) 1) (fun hHeld => ?_)
  refine takeR 0 46 (.pointer (some ⟨w.heap.size + 1, 0, none⟩)) (by kernel_rfl) (by kernel_rfl) (by kernel_rfl) (by kernel_rfl) (fun _ _ _ h => h) (by kernel_rfl) (fun w o hSw ho => ?_) hHeld ?_
  · obtain rfl := Option.some.inj ho; go_simp
  simp only [Act.put, List.setIfInBounds_toArray, List.set_cons_zero, List.set_cons_succ]
  refine takeR 3 49 (.pointer (some ⟨w.heap.size + 1, 1, none⟩)) (by kernel_rfl) (by kernel_rfl) (by kernel_rfl) (by kernel_rfl) (fun _ _ _ h => h) (by kernel_rfl) (fun w o hSw ho => ?_) hHeld ?_
  · obtain rfl := Option.some.inj ho; go_simp
  simp only [Act.put, List.setIfInBounds_toArray, List.set_cons_zero, List.set_cons_succ]
  refine takeR 1 47 (.int .i64 c) (by kernel_rfl) (by kernel_rfl) (by kernel_rfl) (by kernel_rfl) (fun _ _ _ h => h) (by kernel_rfl) (fun w o hSw ho => ?_) hHeld ?_
  · obtain rfl := Option.some.inj ho; have r0 := (HK2.out _ hSw).get 0 rfl; go_simp
  simp only [Act.put, List.setIfInBounds_toArray, List.set_cons_zero, List.set_cons_succ]
  refine takeR 4 50 (.int .i64 6) (by kernel_rfl) (by kernel_rfl) (by kernel_rfl) (by kernel_rfl) (fun _ _ _ h => h) (by kernel_rfl) (fun w o hSw ho => ?_) hHeld ?_
  · obtain rfl := Option.some.inj ho; have r1 := (HK2.out _ hSw).get 1 rfl; go_simp
  simp only [Act.put, List.setIfInBounds_toArray, List.set_cons_zero, List.set_cons_succ]
  refine takeR 5 51 (.int .i64 7) (by kernel_rfl) (by kernel_rfl) (by kernel_rfl) (by kernel_rfl) (fun _ _ _ h => h) (by kernel_rfl) (fun w o hSw ho => ?_) hHeld ?_
  · obtain rfl := Option.some.inj ho; go_simp; rfl
  simp only [Act.put, List.setIfInBounds_toArray, List.set_cons_zero, List.set_cons_succ]
  refine oneR 2 (by kernel_rfl) (by kernel_rfl) (fun o ho K' hK => ?_)
  obtain rfl := Option.some.inj ho
  clear ho
  go_simp
  refine (HPK.out _).mono ?_
  rintro e V1 ⟨rfl, rfl⟩
  go_wp2_with fail
  refine hK.out _ _ (hHeld) (fun hHeld => ?_)
  clear hK K'
  try simp only [Act.put, List.setIfInBounds_toArray, List.set_cons_zero, List.set_cons_succ]
  have HV1 := Lib.hid hHeld
  refine oneR 6 (by kernel_rfl) (by kernel_rfl) (fun o ho K' hK => ?_)
  obtain rfl := Option.some.inj ho
  clear ho
  go_simp
  refine hK.out _ _ (below_on hHeld (below_mk _ _)) (fun hHeld => ?_)
  clear hK K'
  try simp only [Act.put, List.setIfInBounds_toArray, List.set_cons_zero, List.set_cons_succ]
  refine oneR 7 (by kernel_rfl) (by kernel_rfl) (fun o ho K' hK => ?_)
  obtain rfl := Option.some.inj ho
  clear ho
  go_simp
  refine (HSL.out _ (HT2.out.on HV1.out) _ rfl).mono ?_
  rintro e V2 ⟨v2, rfl, ho2, hb2⟩
  have HV2 := Lib.hid (below_on hHeld hb2)
  have HE := Lib.hid (own_low ho2 (below_on HB2.out HV2.out) (by have h1 := HB2.out.size; have h2 := HV1.out.size; simp at h2 ⊢; omega))
  clear ho2 hb2 hHeld
  go_wp2_with fail
  refine hK.out _ _ (HV2.out) (fun hHeld => ?_)
  clear hK K'
  try simp only [Act.put, List.setIfInBounds_toArray, List.set_cons_zero, List.set_cons_succ]
  refine takeR 8 4 (v2) (by kernel_rfl) (by kernel_rfl) (by kernel_rfl) (by kernel_rfl) (fun _ _ _ h => h) (by kernel_rfl) (fun w o hSw ho => ?_) hHeld ?_
  · obtain rfl := Option.some.inj ho; go_simp
  simp only [Act.put, List.setIfInBounds_toArray, List.set_cons_zero, List.set_cons_succ]
  refine wpAnyH_done (by kernel_rfl) ?_ _
  refine NoPanic.normal ?_
  go_wp2_with fail
  go_ret
  exact HE.out

set_option maxRecDepth 100000 in
set_option maxHeartbeats 4000000 in
theorem typed_et_7 (cu : Bool) (mo : Int) (sg pa : Bool) (c : Int) (hs : special c = false) (w : World) (hT : Pow w) (h : Typed c 7) :
    Calls Tryd.prog 41 #[.agg #[.bool cu, .bool true, .int .i64 mo, .bool sg, .bool pa], .agg #[.int .i64 c, .int .i64 7]] w (NewOwn w (typedE true c 7)) := by
  have hne : plainE c 7 = [] := by
    unfold plainE
    rw [if_neg (by simp [hs]), if_neg (by omega)]
    rw [if_neg (by omega)]
  have hh : plainE c 7 = [] ∨ ((7 : Int) ≠ 0 ∧ (special c = true ∨ (7 : Int) ≠ 4)) := .inl hne
  have HC := Lib.hid (typedE_coded hh (.inl (by omega)))
  rw [HC.out]
  clear HC hh
  have HSL := Lib.hid (fun (W : World) (hW : Pow W) g hg => sequence_lit false #[.int .i64 (codeE c), .int .i64 8] [codeE c, 8] 117 2 W 2 g hg rfl rfl hW (inNum2 h.code.1 h.code.2.1 (by omega) (by omega)) (by simp) (by omega) (by omega))
  have HPK := Lib.hid (fun W => pointOfKey_any c W)
  rw [show byteE 117 = 117 from rfl] at HSL
  rw [show (7 : Int) + 1 = 8 from rfl]
  have hll := plain_len c 7
  have HP := Lib.hid (fun W => plainBytes_any c 7 W h)
  have hcode := h.code
  generalize plainE c 7 = L at *
  subst hne
  have HT := Lib.hid hT
  clear hT
  go_enter Tryd.func41, Tryd.ntmps41
  go_wp2_with fail
  refine (HP.out _).mono ?_
  rintro e w1 ⟨v, rfl, ho, hb⟩
  obtain ⟨p1, c1, hv⟩ := ho.slice
  subst hv
  have k1 := (AtL.new (w.alloc (.cells #[.bool cu, .bool true, .int .i64 mo, .bool sg, .bool pa] 25)) [.int .i64 c, .int .i64 7] 43).on hb
  rw [World.size_alloc] at k1
  have m1 := ((AtL.new w [.bool cu, .bool true, .int .i64 mo, .bool sg, .bool pa] 25).on (below_mk _ (.cells #[.int .i64 c, .int .i64 7] 43))).on hb
  have b1 := below_on (below_on (below_mk w (.cells #[.bool cu, .bool true, .int .i64 mo, .bool sg, .bool pa] 25)) (below_mk _ (.cells #[.int .i64 c, .int .i64 7] 43))) hb
  have o1 := ho.lower (base' := w.heap.size) (by simp; omega)
  have r0 := k1.get 0 rfl
  have r1 := k1.get 1 rfl
  clear ho hb HP
  go_wp2_with fail
  refine (implIsSpecial_any c _).mono ?_
  rintro e w2 ⟨rfl, hb2⟩
  rw [hs]
  have HK := Lib.hid (k1.on hb2)
  have HM := Lib.hid (m1.on hb2)
  have HO := Lib.hid (o1.on hb2)
  have HB := Lib.hid (below_on b1 hb2)
  clear k1 m1 o1 b1 hb2 r0 r1
  have r0 := HK.out.get 0 rfl
  have r1 := HK.out.get 1 rfl
  have r2 := HM.out.get 1 rfl
  go_wp2_with (fail)
  refine wp_gen3 (fun W => AtL W (w.heap.size + 1) [.int .i64 c, .int .i64 7] ∧ Below w.heap.size w W ∧ Pow W) ⟨HK.out, HB.out, HT.out.on HB.out⟩ (fun W hW => ?_)
  obtain ⟨hk, hb, ht⟩ := hW
  have HK2 := Lib.hid (fun W' (hW : Below W.heap.size W W') => hk.on hW)
  have HB2 := Lib.hid hb
  have HT2 := Lib.hid ht
  clear hk hb ht HK HM HO HB HT r0 r1 r2
  refine wp_region_noPanic ?_
  refine wp_region_held_drew (S := fun W' => Below (W).heap.size (W) W') (by kernel_rfl) (below_drewN (Below.refl _ _) 1) (fun hHeld => ?_)
  refine takeR 0 46 (.pointer (some ⟨w.heap.size + 1, 0, none⟩)) (by kernel_rfl) (by kernel_rfl) (by kernel_rfl) (by kernel_rfl) (fun _ _ _ h => h) (by kernel_rfl) (fun w o hSw ho => ?_) hHeld ?_
  · obtain rfl := Option.some.inj ho; go_simp
  simp only [Act.put, List.setIfInBounds_toArray, List.set_cons_zero, List.set_cons_succ]
  refine takeR 3 49 (.pointer (some ⟨w.heap.size + 1, 1, none⟩)) (by kernel_rfl) (by kernel_rfl) (by kernel_rfl) (by kernel_rfl) (fun _ _ _ h => h) (by kernel_rfl) (fun w o hSw ho => ?_) hHeld ?_
  · obtain rfl := Option.some.inj ho; go_simp
  simp only [Act.put, List.setIfInBounds_toArray, List.set_cons_zero, List.set_cons_succ]
  refine takeR 1 47 (.int .i64 c) (by kernel_rfl) (by kernel_rfl) (by kernel_rfl) (by kernel_rfl) (fun _ _ _ h => h) (by kernel_rfl) (fun w o hSw ho => ?_) hHeld ?_
  · obtain rfl := Option.some.inj ho; have r0 := (HK2.out _ hSw).get 0 rfl; go_simp
  simp only [Act.put, List.setIfInBounds_toArray, List.set_cons_zero, List.set_cons_succ]
  refine takeR 4 50 (.int .i64 7) (by kernel_rfl) (by kernel_rfl) (by kernel_rfl) (by kernel_rfl) (fun _ _ _ h => h) (by kernel_rfl) (fun w o hSw ho => ?_) hHeld ?_
  · obtain rfl := Option.some.inj ho; have r1 := (HK2.out _ hSw).get 1 rfl; go_simp
  simp only [Act.put, List.setIfInBounds_toArray, List.set_cons_zero, List.set_cons_succ]
  refine takeR 5 51 (.int .i64 8) (by kernel_rfl) (by kernel_rfl) (by kernel_rfl) (by kernel_rfl) (fun _ _ _ h => h) (by kernel_rfl) (fun w o hSw ho => ?_) hHeld ?_
  · obtain rfl := Option.some.inj ho; go_simp; rfl
  simp only [Act.put, List.setIfInBounds_toArray, List.set_cons_zero, List.set_cons_succ]
  refine oneR 2 (by kernel_rfl) (by kernel_rfl) (fun o ho K' hK => ?_)
  obtain rfl := Option.some.inj ho
  clear ho
  go_simp
  refine (HPK.out _).mono ?_
  rintro e V1 ⟨rfl, rfl⟩
  go_wp2_with fail
  refine hK.out _ _ (hHeld) (fun hHeld => ?_)
  clear hK K'
  try simp only [Act.put, List.setIfInBounds_toArray, List.set_cons_zero, List.set_cons_succ]
  have HV1 := Lib.hid hHeld
  refine oneR 6 (by kernel_rfl) (by kernel_rfl) (fun o ho K' hK => ?_)
  obtain rfl := Option.some.inj ho
  clear ho
  go_simp
  refine hK.out _ _ (below_on hHeld (below_mk _ _)) (fun hHeld => ?_)
  clear hK K'
  try simp only [Act.put, List.setIfInBounds_toArray, List.set_cons_zero, List.set_cons_succ]
  refine oneR 7 (by kernel_rfl) (by kernel_rfl) (fun o ho K' hK => ?_)
  obtain rfl := Option.some.inj ho
  clear ho
  go_simp
  refine (HSL.out _ (HT2.out.on HV1.out) _ rfl).mono ?_
  rintro e V2 ⟨v2, rfl, ho2, hb2⟩
  have HV2 := Lib.hid (below_on hHeld hb2)
  have HE := Lib.hid (own_low ho2 (below_on HB2.out HV2.out) (by have h1 := HB2.out.size; have h2 := HV1.out.size; simp at h2 ⊢; omega))
  clear ho2 hb2 hHeld
  go_wp2_with fail
  refine hK.out _ _ (HV2.out) (fun hHeld => ?_)
  clear hK K'
  try simp only [Act.put, List.setIfInBounds_toArray, List.set_cons_zero, List.set_cons_succ]
  refine takeR 8 4 (v2) (by kernel_rfl) (by kernel_rfl) (by kernel_rfl) (by kernel_rfl) (fun _ _ _ h => h) (by kernel_rfl) (fun w o hSw ho => ?_) hHeld ?_
  · obtain rfl := Option.some.inj ho; go_simp
  simp only [Act.put, List.setIfInBounds_toArray, List.set_cons_zero, List.set_cons_succ]
  refine wpAnyH_done (by kernel_rfl) ?_ _
  refine NoPanic.normal ?_
  go_wp2_with fail
  go_ret
  exact HE.out

end Go.Proofs.YtjopjddhgaiddaaDoor
