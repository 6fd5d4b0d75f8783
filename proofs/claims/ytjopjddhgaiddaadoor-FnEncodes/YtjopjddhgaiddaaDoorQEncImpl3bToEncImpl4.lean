/- The program's encoder: typedBytes where the modes don't ask for codes. (Written by wip/gen_typed.py.) -/
import Derived.Test.YtjopjddhgaiddaaDoorQEncImpl3
namespace Go.Proofs.YtjopjddhgaiddaaDoor
open Go.RowKit
set_option linter.unusedVariables false
set_option linter.unusedSimpArgs false

set_option maxRecDepth 100000 in
set_option maxHeartbeats 4000000 in
theorem typed_sf_1 (cu : Bool) (mo : Int) (sg pa : Bool) (c : Int) (hs : special c = true) (w : World) (hT : Pow w) (h : Typed c 1) :
    Calls Tryd.prog 41 #[.agg #[.bool cu, .bool false, .int .i64 mo, .bool sg, .bool pa], .agg #[.int .i64 c, .int .i64 1]] w (NewOwn w (typedE false c 1)) := by
  have hne : plainE c 1 ≠ [] := by
    unfold plainE
    rw [if_pos hs]
    simp
  have hh : plainE c 1 = [] ∨ ((1 : Int) ≠ 0 ∧ (special c = true ∨ (1 : Int) ≠ 4)) := .inr ⟨by omega, .inl hs⟩
  have HC := Lib.hid ((typedE_last (L := plainE c 1) hh (.inl (by omega)) (by rw [if_neg hne])).trans (if_neg (by decide)))
  rw [HC.out]
  clear HC hh
  have hll := plain_len c 1
  have HP := Lib.hid (fun W => plainBytes_any c 1 W h)
  have hcode := h.code
  generalize plainE c 1 = L at *
  have HT := Lib.hid hT
  clear hT
  go_enter Tryd.func41, Tryd.ntmps41
  go_wp2_with fail
  refine (HP.out _).mono ?_
  rintro e w1 ⟨v, rfl, ho, hb⟩
  obtain ⟨p1, c1, hv⟩ := ho.slice
  subst hv
  have k1 := (AtL.new (w.alloc (.cells #[.bool cu, .bool false, .int .i64 mo, .bool sg, .bool pa] 25)) [.int .i64 c, .int .i64 1] 43).on hb
  rw [World.size_alloc] at k1
  have m1 := ((AtL.new w [.bool cu, .bool false, .int .i64 mo, .bool sg, .bool pa] 25).on (below_mk _ (.cells #[.int .i64 c, .int .i64 1] 43))).on hb
  have b1 := below_on (below_on (below_mk w (.cells #[.bool cu, .bool false, .int .i64 mo, .bool sg, .bool pa] 25)) (below_mk _ (.cells #[.int .i64 c, .int .i64 1] 43))) hb
  have o1 := ho.lower (base' := w.heap.size) (by simp; omega)
  have r0 := k1.get 0 rfl
  have r1 := k1.get 1 rfl
  clear ho hb HP
  go_wp2_with fail
  refine (implIsSpecial_any c _).mono ?_
  rintro e w2 ⟨rfl, hb2⟩
  rw [hs]
  have HK := Lib.hid (k1.on hb2)
  have HM := Lib.hid (m1.on hb2)
  have HO := Lib.hid (o1.on hb2)
  have HB := Lib.hid (below_on b1 hb2)
  clear k1 m1 o1 b1 hb2 r0 r1
  have r0 := HK.out.get 0 rfl
  have r1 := HK.out.get 1 rfl
  have r2 := HM.out.get 1 rfl
  have hpos : 0 < L.length := List.length_pos_iff.2 hne
  clear hne
  have hpn : ¬ (L.length : Int) = 0 := by omega
  go_wp2_with fail
  go_ret
  exact ⟨_, rfl, HO.out, HB.out⟩

set_option maxRecDepth 100000 in
set_option maxHeartbeats 4000000 in
theorem typed_sf_2 (cu : Bool) (mo : Int) (sg pa : Bool) (c : Int) (hs : special c = true) (w : World) (hT : Pow w) (h : Typed c 2) :
    Calls Tryd.prog 41 #[.agg #[.bool cu, .bool false, .int .i64 mo, .bool sg, .bool pa], .agg #[.int .i64 c, .int .i64 2]] w (NewOwn w (typedE false c 2)) := by
  have hne : plainE c 2 ≠ [] := by
    unfold plainE
    rw [if_pos hs]
    simp
  have hh : plainE c 2 = [] ∨ ((2 : Int) ≠ 0 ∧ (special c = true ∨ (2 : Int) ≠ 4)) := .inr ⟨by omega, .inl hs⟩
  have h127 : 126 < c := by simp [special, inR] at hs; omega
  have hin : inR c 32 126 = false := by simp [inR]; omega
  have HC := Lib.hid ((typedE_last (L := plainE c 2) hh (.inr h127) (by rw [if_neg hne])).trans (if_pos (by decide)))
  rw [HC.out]
  clear HC hh
  have hll := plain_len c 2
  have HP := Lib.hid (fun W => plainBytes_any c 2 W h)
  have hcode := h.code
  generalize plainE c 2 = L at *
  have HT := Lib.hid hT
  clear hT
  go_enter Tryd.func41, Tryd.ntmps41
  go_wp2_with fail
  refine (HP.out _).mono ?_
  rintro e w1 ⟨v, rfl, ho, hb⟩
  obtain ⟨p1, c1, hv⟩ := ho.slice
  subst hv
  have k1 := (AtL.new (w.alloc (.cells #[.bool cu, .bool false, .int .i64 mo, .bool sg, .bool pa] 25)) [.int .i64 c, .int .i64 2] 43).on hb
  rw [World.size_alloc] at k1
  have m1 := ((AtL.new w [.bool cu, .bool false, .int .i64 mo, .bool sg, .bool pa] 25).on (below_mk _ (.cells #[.int .i64 c, .int .i64 2] 43))).on hb
  have b1 := below_on (below_on (below_mk w (.cells #[.bool cu, .bool false, .int .i64 mo, .bool sg, .bool pa] 25)) (below_mk _ (.cells #[.int .i64 c, .int .i64 2] 43))) hb
  have o1 := ho.lower (base' := w.heap.size) (by simp; omega)
  have r0 := k1.get 0 rfl
  have r1 := k1.get 1 rfl
  clear ho hb HP
  go_wp2_with fail
  refine (implIsSpecial_any c _).mono ?_
  rintro e w2 ⟨rfl, hb2⟩
  rw [hs]
  have HK := Lib.hid (k1.on hb2)
  have HM := Lib.hid (m1.on hb2)
  have HO := Lib.hid (o1.on hb2)
  have HB := Lib.hid (below_on b1 hb2)
  clear k1 m1 o1 b1 hb2 r0 r1
  have r0 := HK.out.get 0 rfl
  have r1 := HK.out.get 1 rfl
  have r2 := HM.out.get 1 rfl
  have hpos : 0 < L.length := List.length_pos_iff.2 hne
  clear hne
  have r2 := (HM.out.on (below_mk w2 (.cells #[.int .i64 32, .int .i64 126] 2))).get 1 rfl
  have hpn : ¬ (L.length : Int) = 0 := by omega
  go_wp2_with (go_at_call 55; refine (isWithin_two _ _ _ _ _ _ (by simp)).mono ?_; rintro e w' ⟨rfl, rfl⟩; rw [hin]; have r1 := (HK.out.on (below_mk w2 (.cells #[.int .i64 32, .int .i64 126] 2))).get 1 rfl)
  refine (escaped_any p1 c1 L _ (HO.out.on (below_mk w2 (.cells #[.int .i64 32, .int .i64 126] 2))).bs.2 HO.out.capz (by omega)).mono ?_
  rintro e w3 ⟨v3, rfl, ho3, hb3⟩
  have hsz := HB.out.size
  have HE := Lib.hid (own_low ho3 (below_on (below_on HB.out (below_mk w2 (.cells #[.int .i64 32, .int .i64 126] 2))) hb3) (by first | omega | (simp; omega)))
  clear ho3 hb3 HO
  go_wp2_with fail
  go_ret
  exact HE.out

set_option maxRecDepth 100000 in
set_option maxHeartbeats 4000000 in
theorem typed_sf_3 (cu : Bool) (mo : Int) (sg pa : Bool) (c : Int) (hs : special c = true) (w : World) (hT : Pow w) (h : Typed c 3) :
    Calls Tryd.prog 41 #[.agg #[.bool cu, .bool false, .int .i64 mo, .bool sg, .bool pa], .agg #[.int .i64 c, .int .i64 3]] w (NewOwn w (typedE false c 3)) := by
  have hne : plainE c 3 ≠ [] := by
    unfold plainE
    rw [if_pos hs]
    simp
  have hh : plainE c 3 = [] ∨ ((3 : Int) ≠ 0 ∧ (special c = true ∨ (3 : Int) ≠ 4)) := .inr ⟨by omega, .inl hs⟩
  have HC := Lib.hid ((typedE_last (L := plainE c 3) hh (.inl (by omega)) (by rw [if_neg hne])).trans (if_pos (by decide)))
  rw [HC.out]
  clear HC hh
  have hll := plain_len c 3
  have HP := Lib.hid (fun W => plainBytes_any c 3 W h)
  have hcode := h.code
  generalize plainE c 3 = L at *
  have HT := Lib.hid hT
  clear hT
  go_enter Tryd.func41, Tryd.ntmps41
  go_wp2_with fail
  refine (HP.out _).mono ?_
  rintro e w1 ⟨v, rfl, ho, hb⟩
  obtain ⟨p1, c1, hv⟩ := ho.slice
  subst hv
  have k1 := (AtL.new (w.alloc (.cells #[.bool cu, .bool false, .int .i64 mo, .bool sg, .bool pa] 25)) [.int .i64 c, .int .i64 3] 43).on hb
  rw [World.size_alloc] at k1
  have m1 := ((AtL.new w [.bool cu, .bool false, .int .i64 mo, .bool sg, .bool pa] 25).on (below_mk _ (.cells #[.int .i64 c, .int .i64 3] 43))).on hb
  have b1 := below_on (below_on (below_mk w (.cells #[.bool cu, .bool false, .int .i64 mo, .bool sg, .bool pa] 25)) (below_mk _ (.cells #[.int .i64 c, .int .i64 3] 43))) hb
  have o1 := ho.lower (base' := w.heap.size) (by simp; omega)
  have r0 := k1.get 0 rfl
  have r1 := k1.get 1 rfl
  clear ho hb HP
  go_wp2_with fail
  refine (implIsSpecial_any c _).mono ?_
  rintro e w2 ⟨rfl, hb2⟩
  rw [hs]
  have HK := Lib.hid (k1.on hb2)
  have HM := Lib.hid (m1.on hb2)
  have HO := Lib.hid (o1.on hb2)
  have HB := Lib.hid (below_on b1 hb2)
  clear k1 m1 o1 b1 hb2 r0 r1
  have r0 := HK.out.get 0 rfl
  have r1 := HK.out.get 1 rfl
  have r2 := HM.out.get 1 rfl
  have hpos : 0 < L.length := List.length_pos_iff.2 hne
  clear hne
  have hpn : ¬ (L.length : Int) = 0 := by omega
  go_wp2_with fail
  refine (escaped_any p1 c1 L _ HO.out.bs.2 HO.out.capz (by omega)).mono ?_
  rintro e w3 ⟨v3, rfl, ho3, hb3⟩
  have hsz := HB.out.size
  have HE := Lib.hid (own_low ho3 (below_on HB.out hb3) (by first | omega | (simp; omega)))
  clear ho3 hb3 HO
  go_wp2_with fail
  go_ret
  exact HE.out

set_option maxRecDepth 100000 in
set_option maxHeartbeats 4000000 in
theorem typed_sf_4 (cu : Bool) (mo : Int) (sg pa : Bool) (c : Int) (hs : special c = true) (w : World) (hT : Pow w) (h : Typed c 4) :
    Calls Tryd.prog 41 #[.agg #[.bool cu, .bool false, .int .i64 mo, .bool sg, .bool pa], .agg #[.int .i64 c, .int .i64 4]] w (NewOwn w (typedE false c 4)) := by
  have hne : plainE c 4 ≠ [] := by
    unfold plainE
    rw [if_pos hs]
    simp
  have hh : plainE c 4 = [] ∨ ((4 : Int) ≠ 0 ∧ (special c = true ∨ (4 : Int) ≠ 4)) := .inr ⟨by omega, .inl hs⟩
  have HC := Lib.hid ((typedE_last (L := plainE c 4) hh (.inl (by omega)) (by rw [if_neg hne])).trans (if_neg (by decide)))
  rw [HC.out]
  clear HC hh
  have hll := plain_len c 4
  have HP := Lib.hid (fun W => plainBytes_any c 4 W h)
  have hcode := h.code
  generalize plainE c 4 = L at *
  have HT := Lib.hid hT
  clear hT
  go_enter Tryd.func41, Tryd.ntmps41
  go_wp2_with fail
  refine (HP.out _).mono ?_
  rintro e w1 ⟨v, rfl, ho, hb⟩
  obtain ⟨p1, c1, hv⟩ := ho.slice
  subst hv
  have k1 := (AtL.new (w.alloc (.cells #[.bool cu, .bool false, .int .i64 mo, .bool sg, .bool pa] 25)) [.int .i64 c, .int .i64 4] 43).on hb
  rw [World.size_alloc] at k1
  have m1 := ((AtL.new w [.bool cu, .bool false, .int .i64 mo, .bool sg, .bool pa] 25).on (below_mk _ (.cells #[.int .i64 c, .int .i64 4] 43))).on hb
  have b1 := below_on (below_on (below_mk w (.cells #[.bool cu, .bool false, .int .i64 mo, .bool sg, .bool pa] 25)) (below_mk _ (.cells #[.int .i64 c, .int .i64 4] 43))) hb
  have o1 := ho.lower (base' := w.heap.size) (by simp; omega)
  have r0 := k1.get 0 rfl
  have r1 := k1.get 1 rfl
  clear ho hb HP
  go_wp2_with fail
  refine (implIsSpecial_any c _).mono ?_
  rintro e w2 ⟨rfl, hb2⟩
  rw [hs]
  have HK := Lib.hid (k1.on hb2)
  have HM := Lib.hid (m1.on hb2)
  have HO := Lib.hid (o1.on hb2)
  have HB := Lib.hid (below_on b1 hb2)
  clear k1 m1 o1 b1 hb2 r0 r1
  have r0 := HK.out.get 0 rfl
  have r1 := HK.out.get 1 rfl
  have r2 := HM.out.get 1 rfl
  have hpos : 0 < L.length := List.length_pos_iff.2 hne
  clear hne
  have hpn : ¬ (L.length : Int) = 0 := by omega
  go_wp2_with fail
  go_ret
  exact ⟨_, rfl, HO.out, HB.out⟩

set_option maxRecDepth 100000 in
set_option maxHeartbeats 4000000 in
theorem typed_sf_5 (cu : Bool) (mo : Int) (sg pa : Bool) (c : Int) (hs : special c = true) (w : World) (hT : Pow w) (h : Typed c 5) :
    Calls Tryd.prog 41 #[.agg #[.bool cu, .bool false, .int .i64 mo, .bool sg, .bool pa], .agg #[.int .i64 c, .int .i64 5]] w (NewOwn w (typedE false c 5)) := by
  have hne : plainE c 5 ≠ [] := by
    unfold plainE
    rw [if_pos hs]
    simp
  have hh : plainE c 5 = [] ∨ ((5 : Int) ≠ 0 ∧ (special c = true ∨ (5 : Int) ≠ 4)) := .inr ⟨by omega, .inl hs⟩
  have HC := Lib.hid ((typedE_last (L := plainE c 5) hh (.inl (by omega)) (by rw [if_neg hne])).trans (if_neg (by decide)))
  rw [HC.out]
  clear HC hh
  have hll := plain_len c 5
  have HP := Lib.hid (fun W => plainBytes_any c 5 W h)
  have hcode := h.code
  generalize plainE c 5 = L at *
  have HT := Lib.hid hT
  clear hT
  go_enter Tryd.func41, Tryd.ntmps41
  go_wp2_with fail
  refine (HP.out _).mono ?_
  rintro e w1 ⟨v, rfl, ho, hb⟩
  obtain ⟨p1, c1, hv⟩ := ho.slice
  subst hv
  have k1 := (AtL.new (w.alloc (.cells #[.bool cu, .bool false, .int .i64 mo, .bool sg, .bool pa] 25)) [.int .i64 c, .int .i64 5] 43).on hb
  rw [World.size_alloc] at k1
  have m1 := ((AtL.new w [.bool cu, .bool false, .int .i64 mo, .bool sg, .bool pa] 25).on (below_mk _ (.cells #[.int .i64 c, .int .i64 5] 43))).on hb
  have b1 := below_on (below_on (below_mk w (.cells #[.bool cu, .bool false, .int .i64 mo, .bool sg, .bool pa] 25)) (below_mk _ (.cells #[.int .i64 c, .int .i64 5] 43))) hb
  have o1 := ho.lower (base' := w.heap.size) (by simp; omega)
  have r0 := k1.get 0 rfl
  have r1 := k1.get 1 rfl
  clear ho hb HP
  go_wp2_with fail
  refine (implIsSpecial_any c _).mono ?_
  rintro e w2 ⟨rfl, hb2⟩
  rw [hs]
  have HK := Lib.hid (k1.on hb2)
  have HM := Lib.hid (m1.on hb2)
  have HO := Lib.hid (o1.on hb2)
  have HB := Lib.hid (below_on b1 hb2)
  clear k1 m1 o1 b1 hb2 r0 r1
  have r0 := HK.out.get 0 rfl
  have r1 := HK.out.get 1 rfl
  have r2 := HM.out.get 1 rfl
  have hpos : 0 < L.length := List.length_pos_iff.2 hne
  clear hne
  have hpn : ¬ (L.length : Int) = 0 := by omega
  go_wp2_with fail
  go_ret
  exact ⟨_, rfl, HO.out, HB.out⟩

set_option maxRecDepth 100000 in
set_option maxHeartbeats 4000000 in
theorem typed_sf_6 (cu : Bool) (mo : Int) (sg pa : Bool) (c : Int) (hs : special c = true) (w : World) (hT : Pow w) (h : Typed c 6) :
    Calls Tryd.prog 41 #[.agg #[.bool cu, .bool false, .int .i64 mo, .bool sg, .bool pa], .agg #[.int .i64 c, .int .i64 6]] w (NewOwn w (typedE false c 6)) := by
  have hne : plainE c 6 ≠ [] := by
    unfold plainE
    rw [if_pos hs]
    simp
  have hh : plainE c 6 = [] ∨ ((6 : Int) ≠ 0 ∧ (special c = true ∨ (6 : Int) ≠ 4)) := .inr ⟨by omega, .inl hs⟩
  have HC := Lib.hid ((typedE_last (L := plainE c 6) hh (.inl (by omega)) (by rw [if_neg hne])).trans (if_pos (by decide)))
  rw [HC.out]
  clear HC hh
  have hll := plain_len c 6
  have HP := Lib.hid (fun W => plainBytes_any c 6 W h)
  have hcode := h.code
  generalize plainE c 6 = L at *
  have HT := Lib.hid hT
  clear hT
  go_enter Tryd.func41, Tryd.ntmps41
  go_wp2_with fail
  refine (HP.out _).mono ?_
  rintro e w1 ⟨v, rfl, ho, hb⟩
  obtain ⟨p1, c1, hv⟩ := ho.slice
  subst hv
  have k1 := (AtL.new (w.alloc (.cells #[.bool cu, .bool false, .int .i64 mo, .bool sg, .bool pa] 25)) [.int .i64 c, .int .i64 6] 43).on hb
  rw [World.size_alloc] at k1
  have m1 := ((AtL.new w [.bool cu, .bool false, .int .i64 mo, .bool sg, .bool pa] 25).on (below_mk _ (.cells #[.int .i64 c, .int .i64 6] 43))).on hb
  have b1 := below_on (below_on (below_mk w (.cells #[.bool cu, .bool false, .int .i64 mo, .bool sg, .bool pa] 25)) (below_mk _ (.cells #[.int .i64 c, .int .i64 6] 43))) hb
  have o1 := ho.lower (base' := w.heap.size) (by simp; omega)
  have r0 := k1.get 0 rfl
  have r1 := k1.get 1 rfl
  clear ho hb HP
  go_wp2_with fail
  refine (implIsSpecial_any c _).mono ?_
  rintro e w2 ⟨rfl, hb2⟩
  rw [hs]
  have HK := Lib.hid (k1.on hb2)
  have HM := Lib.hid (m1.on hb2)
  have HO := Lib.hid (o1.on hb2)
  have HB := Lib.hid (below_on b1 hb2)
  clear k1 m1 o1 b1 hb2 r0 r1
  have r0 := HK.out.get 0 rfl
  have r1 := HK.out.get 1 rfl
  have r2 := HM.out.get 1 rfl
  have hpos : 0 < L.length := List.length_pos_iff.2 hne
  clear hne
  have hpn : ¬ (L.length : Int) = 0 := by omega
  go_wp2_with fail
  refine (escaped_any p1 c1 L _ HO.out.bs.2 HO.out.capz (by omega)).mono ?_
  rintro e w3 ⟨v3, rfl, ho3, hb3⟩
  have hsz := HB.out.size
  have HE := Lib.hid (own_low ho3 (below_on HB.out hb3) (by first | omega | (simp; omega)))
  clear ho3 hb3 HO
  go_wp2_with fail
  go_ret
  exact HE.out

set_option maxRecDepth 100000 in
set_option maxHeartbeats 4000000 in
theorem typed_sf_7 (cu : Bool) (mo : Int) (sg pa : Bool) (c : Int) (hs : special c = true) (w : World) (hT : Pow w) (h : Typed c 7) :
    Calls Tryd.prog 41 #[.agg #[.bool cu, .bool false, .int .i64 mo, .bool sg, .bool pa], .agg #[.int .i64 c, .int .i64 7]] w (NewOwn w (typedE false c 7)) := by
  have hne : plainE c 7 ≠ [] := by
    unfold plainE
    rw [if_pos hs]
    simp
  have hh : plainE c 7 = [] ∨ ((7 : Int) ≠ 0 ∧ (special c = true ∨ (7 : Int) ≠ 4)) := .inr ⟨by omega, .inl hs⟩
  have HC := Lib.hid ((typedE_last (L := plainE c 7) hh (.inl (by omega)) (by rw [if_neg hne])).trans (if_pos (by decide)))
  rw [HC.out]
  clear HC hh
  have hll := plain_len c 7
  have HP := Lib.hid (fun W => plainBytes_any c 7 W h)
  have hcode := h.code
  generalize plainE c 7 = L at *
  have HT := Lib.hid hT
  clear hT
  go_enter Tryd.func41, Tryd.ntmps41
  go_wp2_with fail
  refine (HP.out _).mono ?_
  rintro e w1 ⟨v, rfl, ho, hb⟩
  obtain ⟨p1, c1, hv⟩ := ho.slice
  subst hv
  have k1 := (AtL.new (w.alloc (.cells #[.bool cu, .bool false, .int .i64 mo, .bool sg, .bool pa] 25)) [.int .i64 c, .int .i64 7] 43).on hb
  rw [World.size_alloc] at k1
  have m1 := ((AtL.new w [.bool cu, .bool false, .int .i64 mo, .bool sg, .bool pa] 25).on (below_mk _ (.cells #[.int .i64 c, .int .i64 7] 43))).on hb
  have b1 := below_on (below_on (below_mk w (.cells #[.bool cu, .bool false, .int .i64 mo, .bool sg, .bool pa] 25)) (below_mk _ (.cells #[.int .i64 c, .int .i64 7] 43))) hb
  have o1 := ho.lower (base' := w.heap.size) (by simp; omega)
  have r0 := k1.get 0 rfl
  have r1 := k1.get 1 rfl
  clear ho hb HP
  go_wp2_with fail
  refine (implIsSpecial_any c _).mono ?_
  rintro e w2 ⟨rfl, hb2⟩
  rw [hs]
  have HK := Lib.hid (k1.on hb2)
  have HM := Lib.hid (m1.on hb2)
  have HO := Lib.hid (o1.on hb2)
  have HB := Lib.hid (below_on b1 hb2)
  clear k1 m1 o1 b1 hb2 r0 r1
  have r0 := HK.out.get 0 rfl
  have r1 := HK.out.get 1 rfl
  have r2 := HM.out.get 1 rfl
  have hpos : 0 < L.length := List.length_pos_iff.2 hne
  clear hne
  have hpn : ¬ (L.length : Int) = 0 := by omega
  go_wp2_with fail
  refine (escaped_any p1 c1 L _ HO.out.bs.2 HO.out.capz (by omega)).mono ?_
  rintro e w3 ⟨v3, rfl, ho3, hb3⟩
  have hsz := HB.out.size
  have HE := Lib.hid (own_low ho3 (below_on HB.out hb3) (by first | omega | (simp; omega)))
  clear ho3 hb3 HO
  go_wp2_with fail
  go_ret
  exact HE.out

set_option maxRecDepth 100000 in
set_option maxHeartbeats 4000000 in
theorem typed_nf_2 (cu : Bool) (mo : Int) (sg pa : Bool) (c : Int) (hs : special c = false) (h127 : 126 < c) (w : World) (hT : Pow w) (h : Typed c 2) :
    Calls Tryd.prog 41 #[.agg #[.bool cu, .bool false, .int .i64 mo, .bool sg, .bool pa], .agg #[.int .i64 c, .int .i64 2]] w (NewOwn w (typedE false c 2)) := by
  have hne : plainE c 2 ≠ [] := by
    unfold plainE
    rw [if_neg (by simp [hs])]
    rw [if_pos (.inr rfl)]
    exact putB_ne c
  have hh : plainE c 2 = [] ∨ ((2 : Int) ≠ 0 ∧ (special c = true ∨ (2 : Int) ≠ 4)) := .inr ⟨by omega, .inr (by omega)⟩
  have hin : inR c 32 126 = false := by simp [inR]; omega
  have HC := Lib.hid ((typedE_last (L := plainE c 2) hh (.inr h127) (by rw [if_neg hne])).trans (if_pos (by decide)))
  rw [HC.out]
  clear HC hh
  have hll := plain_len c 2
  have HP := Lib.hid (fun W => plainBytes_any c 2 W h)
  have hcode := h.code
  generalize plainE c 2 = L at *
  have HT := Lib.hid hT
  clear hT
  go_enter Tryd.func41, Tryd.ntmps41
  go_wp2_with fail
  refine (HP.out _).mono ?_
  rintro e w1 ⟨v, rfl, ho, hb⟩
  obtain ⟨p1, c1, hv⟩ := ho.slice
  subst hv
  have k1 := (AtL.new (w.alloc (.cells #[.bool cu, .bool false, .int .i64 mo, .bool sg, .bool pa] 25)) [.int .i64 c, .int .i64 2] 43).on hb
  rw [World.size_alloc] at k1
  have m1 := ((AtL.new w [.bool cu, .bool false, .int .i64 mo, .bool sg, .bool pa] 25).on (below_mk _ (.cells #[.int .i64 c, .int .i64 2] 43))).on hb
  have b1 := below_on (below_on (below_mk w (.cells #[.bool cu, .bool false, .int .i64 mo, .bool sg, .bool pa] 25)) (below_mk _ (.cells #[.int .i64 c, .int .i64 2] 43))) hb
  have o1 := ho.lower (base' := w.heap.size) (by simp; omega)
  have r0 := k1.get 0 rfl
  have r1 := k1.get 1 rfl
  clear ho hb HP
  go_wp2_with fail
  refine (implIsSpecial_any c _).mono ?_
  rintro e w2 ⟨rfl, hb2⟩
  rw [hs]
  have HK := Lib.hid (k1.on hb2)
  have HM := Lib.hid (m1.on hb2)
  have HO := Lib.hid (o1.on hb2)
  have HB := Lib.hid (below_on b1 hb2)
  clear k1 m1 o1 b1 hb2 r0 r1
  have r0 := HK.out.get 0 rfl
  have r1 := HK.out.get 1 rfl
  have r2 := HM.out.get 1 rfl
  have hpos : 0 < L.length := List.length_pos_iff.2 hne
  clear hne
  have r2 := (HM.out.on (below_mk w2 (.cells #[.int .i64 32, .int .i64 126] 2))).get 1 rfl
  have hpn : ¬ (L.length : Int) = 0 := by omega
  go_wp2_with (go_at_call 55; refine (isWithin_two _ _ _ _ _ _ (by simp)).mono ?_; rintro e w' ⟨rfl, rfl⟩; rw [hin]; have r1 := (HK.out.on (below_mk w2 (.cells #[.int .i64 32, .int .i64 126] 2))).get 1 rfl)
  refine (escaped_any p1 c1 L _ (HO.out.on (below_mk w2 (.cells #[.int .i64 32, .int .i64 126] 2))).bs.2 HO.out.capz (by omega)).mono ?_
  rintro e w3 ⟨v3, rfl, ho3, hb3⟩
  have hsz := HB.out.size
  have HE := Lib.hid (own_low ho3 (below_on (below_on HB.out (below_mk w2 (.cells #[.int .i64 32, .int .i64 126] 2))) hb3) (by first | omega | (simp; omega)))
  clear ho3 hb3 HO
  go_wp2_with fail
  go_ret
  exact HE.out

set_option maxRecDepth 100000 in
set_option maxHeartbeats 4000000 in
theorem typed_nf_6 (cu : Bool) (mo : Int) (sg pa : Bool) (c : Int) (hs : special c = false) (hp : ctrlE c ≠ []) (w : World) (hT : Pow w) (h : Typed c 6) :
    Calls Tryd.prog 41 #[.agg #[.bool cu, .bool false, .int .i64 mo, .bool sg, .bool pa], .agg #[.int .i64 c, .int .i64 6]] w (NewOwn w (typedE false c 6)) := by
  have hne : plainE c 6 ≠ [] := by
    unfold plainE
    rw [if_neg (by simp [hs])]
    rw [if_neg (by omega), if_pos (by omega)]
    exact hp
  have hh : plainE c 6 = [] ∨ ((6 : Int) ≠ 0 ∧ (special c = true ∨ (6 : Int) ≠ 4)) := .inr ⟨by omega, .inr (by omega)⟩
  have HC := Lib.hid ((typedE_last (L := plainE c 6) hh (.inl (by omega)) (by rw [if_neg hne])).trans (if_pos (by decide)))
  rw [HC.out]
  clear HC hh
  have hll := plain_len c 6
  have HP := Lib.hid (fun W => plainBytes_any c 6 W h)
  have hcode := h.code
  generalize plainE c 6 = L at *
  have HT := Lib.hid hT
  clear hT
  go_enter Tryd.func41, Tryd.ntmps41
  go_wp2_with fail
  refine (HP.out _).mono ?_
  rintro e w1 ⟨v, rfl, ho, hb⟩
  obtain ⟨p1, c1, hv⟩ := ho.slice
  subst hv
  have k1 := (AtL.new (w.alloc (.cells #[.bool cu, .bool false, .int .i64 mo, .bool sg, .bool pa] 25)) [.int .i64 c, .int .i64 6] 43).on hb
  rw [World.size_alloc] at k1
  have m1 := ((AtL.new w [.bool cu, .bool false, .int .i64 mo, .bool sg, .bool pa] 25).on (below_mk _ (.cells #[.int .i64 c, .int .i64 6] 43))).on hb
  have b1 := below_on (below_on (below_mk w (.cells #[.bool cu, .bool false, .int .i64 mo, .bool sg, .bool pa] 25)) (below_mk _ (.cells #[.int .i64 c, .int .i64 6] 43))) hb
  have o1 := ho.lower (base' := w.heap.size) (by simp; omega)
  have r0 := k1.get 0 rfl
  have r1 := k1.get 1 rfl
  clear ho hb HP
  go_wp2_with fail
  refine (implIsSpecial_any c _).mono ?_
  rintro e w2 ⟨rfl, hb2⟩
  rw [hs]
  have HK := Lib.hid (k1.on hb2)
  have HM := Lib.hid (m1.on hb2)
  have HO := Lib.hid (o1.on hb2)
  have HB := Lib.hid (below_on b1 hb2)
  clear k1 m1 o1 b1 hb2 r0 r1
  have r0 := HK.out.get 0 rfl
  have r1 := HK.out.get 1 rfl
  have r2 := HM.out.get 1 rfl
  have hpos : 0 < L.length := List.length_pos_iff.2 hne
  clear hne
  have hpn : ¬ (L.length : Int) = 0 := by omega
  go_wp2_with fail
  refine (escaped_any p1 c1 L _ HO.out.bs.2 HO.out.capz (by omega)).mono ?_
  rintro e w3 ⟨v3, rfl, ho3, hb3⟩
  have hsz := HB.out.size
  have HE := Lib.hid (own_low ho3 (below_on HB.out hb3) (by first | omega | (simp; omega)))
  clear ho3 hb3 HO
  go_wp2_with fail
  go_ret
  exact HE.out

set_option maxRecDepth 100000 in
set_option maxHeartbeats 4000000 in
theorem typed_ef_1 (cu : Bool) (mo : Int) (sg pa : Bool) (c : Int) (hs : special c = false) (w : World) (hT : Pow w) (h : Typed c 1) :
    Calls Tryd.prog 41 #[.agg #[.bool cu, .bool false, .int .i64 mo, .bool sg, .bool pa], .agg #[.int .i64 c, .int .i64 1]] w (NewOwn w (typedE false c 1)) := by
  have hne : plainE c 1 = [] := by
    unfold plainE
    rw [if_neg (by simp [hs]), if_neg (by omega)]
    rw [if_neg (by omega)]
  have hh : plainE c 1 = [] ∨ ((1 : Int) ≠ 0 ∧ (special c = true ∨ (1 : Int) ≠ 4)) := .inl hne
  have HC := Lib.hid ((typedE_last (L := putB c) hh (.inl (by omega)) (by rw [if_pos hne])).trans (if_neg (by decide)))
  rw [HC.out]
  clear HC hh
  have hpr := putRes_key h hs
  have HU := Lib.hid (fun W => implPutPoint_any c W)
  rw [hpr] at HU
  have hul : (putB c).length ≤ 4 := by have := put_small c; rw [put_len]; omega
  generalize putB c = U at *
  clear hpr
  have hll := plain_len c 1
  have HP := Lib.hid (fun W => plainBytes_any c 1 W h)
  have hcode := h.code
  generalize plainE c 1 = L at *
  subst hne
  have HT := Lib.hid hT
  clear hT
  go_enter Tryd.func41, Tryd.ntmps41
  go_wp2_with fail
  refine (HP.out _).mono ?_
  rintro e w1 ⟨v, rfl, ho, hb⟩
  obtain ⟨p1, c1, hv⟩ := ho.slice
  subst hv
  have k1 := (AtL.new (w.alloc (.cells #[.bool cu, .bool false, .int .i64 mo, .bool sg, .bool pa] 25)) [.int .i64 c, .int .i64 1] 43).on hb
  rw [World.size_alloc] at k1
  have m1 := ((AtL.new w [.bool cu, .bool false, .int .i64 mo, .bool sg, .bool pa] 25).on (below_mk _ (.cells #[.int .i64 c, .int .i64 1] 43))).on hb
  have b1 := below_on (below_on (below_mk w (.cells #[.bool cu, .bool false, .int .i64 mo, .bool sg, .bool pa] 25)) (below_mk _ (.cells #[.int .i64 c, .int .i64 1] 43))) hb
  have o1 := ho.lower (base' := w.heap.size) (by simp; omega)
  have r0 := k1.get 0 rfl
  have r1 := k1.get 1 rfl
  clear ho hb HP
  go_wp2_with fail
  refine (implIsSpecial_any c _).mono ?_
  rintro e w2 ⟨rfl, hb2⟩
  rw [hs]
  have HK := Lib.hid (k1.on hb2)
  have HM := Lib.hid (m1.on hb2)
  have HO := Lib.hid (o1.on hb2)
  have HB := Lib.hid (below_on b1 hb2)
  clear k1 m1 o1 b1 hb2 r0 r1
  have r0 := HK.out.get 0 rfl
  have r1 := HK.out.get 1 rfl
  have r2 := HM.out.get 1 rfl
  have hfd : ∀ (a b : Value) (w : World), (Instr.field 31 (.agg #[a, b]) 1).run Tryd.prog w = .ok b w := by intros; kernel_rfl
  go_wp2_with fail
  refine (HU.out _).mono ?_
  rintro e w3 ⟨v3, rfl, ho3, hb3⟩
  obtain ⟨p3, c3, hv⟩ := ho3.slice
  subst hv
  have hsz := HB.out.size
  have HO3 := Lib.hid ho3
  have HB3 := Lib.hid (below_on HB.out hb3)
  have r1 := (HK.out.on hb3).get 1 rfl
  clear hb3 ho3
  unfold brV
  go_wp2_with fail
  go_ret
  exact ⟨_, rfl, HO3.out.lower (by omega), HB3.out⟩

set_option maxRecDepth 100000 in
set_option maxHeartbeats 4000000 in
theorem typed_ef_3 (cu : Bool) (mo : Int) (sg pa : Bool) (c : Int) (hs : special c = false) (w : World) (hT : Pow w) (h : Typed c 3) :
    Calls Tryd.prog 41 #[.agg #[.bool cu, .bool false, .int .i64 mo, .bool sg, .bool pa], .agg #[.int .i64 c, .int .i64 3]] w (NewOwn w (typedE false c 3)) := by
  have hne : plainE c 3 = [] := by
    unfold plainE
    rw [if_neg (by simp [hs]), if_neg (by omega)]
    rw [if_neg (by omega)]
  have hh : plainE c 3 = [] ∨ ((3 : Int) ≠ 0 ∧ (special c = true ∨ (3 : Int) ≠ 4)) := .inl hne
  have HC := Lib.hid ((typedE_last (L := putB c) hh (.inl (by omega)) (by rw [if_pos hne])).trans (if_pos (by decide)))
  rw [HC.out]
  clear HC hh
  have hpr := putRes_key h hs
  have HU := Lib.hid (fun W => implPutPoint_any c W)
  rw [hpr] at HU
  have hul : (putB c).length ≤ 4 := by have := put_small c; rw [put_len]; omega
  generalize putB c = U at *
  clear hpr
  have hll := plain_len c 3
  have HP := Lib.hid (fun W => plainBytes_any c 3 W h)
  have hcode := h.code
  generalize plainE c 3 = L at *
  subst hne
  have HT := Lib.hid hT
  clear hT
  go_enter Tryd.func41, Tryd.ntmps41
  go_wp2_with fail
  refine (HP.out _).mono ?_
  rintro e w1 ⟨v, rfl, ho, hb⟩
  obtain ⟨p1, c1, hv⟩ := ho.slice
  subst hv
  have k1 := (AtL.new (w.alloc (.cells #[.bool cu, .bool false, .int .i64 mo, .bool sg, .bool pa] 25)) [.int .i64 c, .int .i64 3] 43).on hb
  rw [World.size_alloc] at k1
  have m1 := ((AtL.new w [.bool cu, .bool false, .int .i64 mo, .bool sg, .bool pa] 25).on (below_mk _ (.cells #[.int .i64 c, .int .i64 3] 43))).on hb
  have b1 := below_on (below_on (below_mk w (.cells #[.bool cu, .bool false, .int .i64 mo, .bool sg, .bool pa] 25)) (below_mk _ (.cells #[.int .i64 c, .int .i64 3] 43))) hb
  have o1 := ho.lower (base' := w.heap.size) (by simp; omega)
  have r0 := k1.get 0 rfl
  have r1 := k1.get 1 rfl
  clear ho hb HP
  go_wp2_with fail
  refine (implIsSpecial_any c _).mono ?_
  rintro e w2 ⟨rfl, hb2⟩
  rw [hs]
  have HK := Lib.hid (k1.on hb2)
  have HM := Lib.hid (m1.on hb2)
  have HO := Lib.hid (o1.on hb2)
  have HB := Lib.hid (below_on b1 hb2)
  clear k1 m1 o1 b1 hb2 r0 r1
  have r0 := HK.out.get 0 rfl
  have r1 := HK.out.get 1 rfl
  have r2 := HM.out.get 1 rfl
  have hfd : ∀ (a b : Value) (w : World), (Instr.field 31 (.agg #[a, b]) 1).run Tryd.prog w = .ok b w := by intros; kernel_rfl
  go_wp2_with fail
  refine (HU.out _).mono ?_
  rintro e w3 ⟨v3, rfl, ho3, hb3⟩
  obtain ⟨p3, c3, hv⟩ := ho3.slice
  subst hv
  have hsz := HB.out.size
  have HO3 := Lib.hid ho3
  have HB3 := Lib.hid (below_on HB.out hb3)
  have r1 := (HK.out.on hb3).get 1 rfl
  clear hb3 ho3
  unfold brV
  go_wp2_with fail
  refine (escaped_any p3 c3 U _ HO3.out.bs.2 HO3.out.capz (by omega)).mono ?_
  rintro e w4 ⟨v4, rfl, ho4, hb4⟩
  have hsz3 := HB3.out.size
  have HE := Lib.hid (own_low ho4 (below_on HB3.out hb4) (by omega))
  clear ho4 hb4
  go_wp2_with fail
  go_ret
  exact HE.out

set_option maxRecDepth 100000 in
set_option maxHeartbeats 4000000 in
theorem typed_ef_4 (cu : Bool) (mo : Int) (sg pa : Bool) (c : Int) (hs : special c = false) (hp : ctrlE c = []) (w : World) (hT : Pow w) (h : Typed c 4) :
    Calls Tryd.prog 41 #[.agg #[.bool cu, .bool false, .int .i64 mo, .bool sg, .bool pa], .agg #[.int .i64 c, .int .i64 4]] w (NewOwn w (typedE false c 4)) := by
  have hne : plainE c 4 = [] := by
    unfold plainE
    rw [if_neg (by simp [hs]), if_neg (by omega)]
    rw [if_pos (by omega)]
    exact hp
  have hh : plainE c 4 = [] ∨ ((4 : Int) ≠ 0 ∧ (special c = true ∨ (4 : Int) ≠ 4)) := .inl hne
  have HC := Lib.hid ((typedE_last (L := putB c) hh (.inl (by omega)) (by rw [if_pos hne])).trans (if_neg (by decide)))
  rw [HC.out]
  clear HC hh
  have hpr := putRes_key h hs
  have HU := Lib.hid (fun W => implPutPoint_any c W)
  rw [hpr] at HU
  have hul : (putB c).length ≤ 4 := by have := put_small c; rw [put_len]; omega
  generalize putB c = U at *
  clear hpr
  have hll := plain_len c 4
  have HP := Lib.hid (fun W => plainBytes_any c 4 W h)
  have hcode := h.code
  generalize plainE c 4 = L at *
  subst hne
  have HT := Lib.hid hT
  clear hT
  go_enter Tryd.func41, Tryd.ntmps41
  go_wp2_with fail
  refine (HP.out _).mono ?_
  rintro e w1 ⟨v, rfl, ho, hb⟩
  obtain ⟨p1, c1, hv⟩ := ho.slice
  subst hv
  have k1 := (AtL.new (w.alloc (.cells #[.bool cu, .bool false, .int .i64 mo, .bool sg, .bool pa] 25)) [.int .i64 c, .int .i64 4] 43).on hb
  rw [World.size_alloc] at k1
  have m1 := ((AtL.new w [.bool cu, .bool false, .int .i64 mo, .bool sg, .bool pa] 25).on (below_mk _ (.cells #[.int .i64 c, .int .i64 4] 43))).on hb
  have b1 := below_on (below_on (below_mk w (.cells #[.bool cu, .bool false, .int .i64 mo, .bool sg, .bool pa] 25)) (below_mk _ (.cells #[.int .i64 c, .int .i64 4] 43))) hb
  have o1 := ho.lower (base' := w.heap.size) (by simp; omega)
  have r0 := k1.get 0 rfl
  have r1 := k1.get 1 rfl
  clear ho hb HP
  go_wp2_with fail
  refine (implIsSpecial_any c _).mono ?_
  rintro e w2 ⟨rfl, hb2⟩
  rw [hs]
  have HK := Lib.hid (k1.on hb2)
  have HM := Lib.hid (m1.on hb2)
  have HO := Lib.hid (o1.on hb2)
  have HB := Lib.hid (below_on b1 hb2)
  clear k1 m1 o1 b1 hb2 r0 r1
  have r0 := HK.out.get 0 rfl
  have r1 := HK.out.get 1 rfl
  have r2 := HM.out.get 1 rfl
  have hfd : ∀ (a b : Value) (w : World), (Instr.field 31 (.agg #[a, b]) 1).run Tryd.prog w = .ok b w := by intros; kernel_rfl
  go_wp2_with fail
  refine (HU.out _).mono ?_
  rintro e w3 ⟨v3, rfl, ho3, hb3⟩
  obtain ⟨p3, c3, hv⟩ := ho3.slice
  subst hv
  have hsz := HB.out.size
  have HO3 := Lib.hid ho3
  have HB3 := Lib.hid (below_on HB.out hb3)
  have r1 := (HK.out.on hb3).get 1 rfl
  clear hb3 ho3
  unfold brV
  go_wp2_with fail
  go_ret
  exact ⟨_, rfl, HO3.out.lower (by omega), HB3.out⟩

set_option maxRecDepth 100000 in
set_option maxHeartbeats 4000000 in
theorem typed_ef_5 (cu : Bool) (mo : Int) (sg pa : Bool) (c : Int) (hs : special c = false) (w : World) (hT : Pow w) (h : Typed c 5) :
    Calls Tryd.prog 41 #[.agg #[.bool cu, .bool false, .int .i64 mo, .bool sg, .bool pa], .agg #[.int .i64 c, .int .i64 5]] w (NewOwn w (typedE false c 5)) := by
  have hne : plainE c 5 = [] := by
    unfold plainE
    rw [if_neg (by simp [hs]), if_neg (by omega)]
    rw [if_neg (by omega)]
  have hh : plainE c 5 = [] ∨ ((5 : Int) ≠ 0 ∧ (special c = true ∨ (5 : Int) ≠ 4)) := .inl hne
  have HC := Lib.hid ((typedE_last (L := putB c) hh (.inl (by omega)) (by rw [if_pos hne])).trans (if_neg (by decide)))
  rw [HC.out]
  clear HC hh
  have hpr := putRes_key h hs
  have HU := Lib.hid (fun W => implPutPoint_any c W)
  rw [hpr] at HU
  have hul : (putB c).length ≤ 4 := by have := put_small c; rw [put_len]; omega
  generalize putB c = U at *
  clear hpr
  have hll := plain_len c 5
  have HP := Lib.hid (fun W => plainBytes_any c 5 W h)
  have hcode := h.code
  generalize plainE c 5 = L at *
  subst hne
  have HT := Lib.hid hT
  clear hT
  go_enter Tryd.func41, Tryd.ntmps41
  go_wp2_with fail
  refine (HP.out _).mono ?_
  rintro e w1 ⟨v, rfl, ho, hb⟩
  obtain ⟨p1, c1, hv⟩ := ho.slice
  subst hv
  have k1 := (AtL.new (w.alloc (.cells #[.bool cu, .bool false, .int .i64 mo, .bool sg, .bool pa] 25)) [.int .i64 c, .int .i64 5] 43).on hb
  rw [World.size_alloc] at k1
  have m1 := ((AtL.new w [.bool cu, .bool false, .int .i64 mo, .bool sg, .bool pa] 25).on (below_mk _ (.cells #[.int .i64 c, .int .i64 5] 43))).on hb
  have b1 := below_on (below_on (below_mk w (.cells #[.bool cu, .bool false, .int .i64 mo, .bool sg, .bool pa] 25)) (below_mk _ (.cells #[.int .i64 c, .int .i64 5] 43))) hb
  have o1 := ho.lower (base' := w.heap.size) (by simp; omega)
  have r0 := k1.get 0 rfl
  have r1 := k1.get 1 rfl
  clear ho hb HP
  go_wp2_with fail
  refine (implIsSpecial_any c _).mono ?_
  rintro e w2 ⟨rfl, hb2⟩
  rw [hs]
  have HK := Lib.hid (k1.on hb2)
  have HM := Lib.hid (m1.on hb2)
  have HO := Lib.hid (o1.on hb2)
  have HB := Lib.hid (below_on b1 hb2)
  clear k1 m1 o1 b1 hb2 r0 r1
  have r0 := HK.out.get 0 rfl
  have r1 := HK.out.get 1 rfl
  have r2 := HM.out.get 1 rfl
  have hfd : ∀ (a b : Value) (w : World), (Instr.field 31 (.agg #[a, b]) 1).run Tryd.prog w = .ok b w := by intros; kernel_rfl
  go_wp2_with fail
  refine (HU.out _).mono ?_
  rintro e w3 ⟨v3, rfl, ho3, hb3⟩
  obtain ⟨p3, c3, hv⟩ := ho3.slice
  subst hv
  have hsz := HB.out.size
  have HO3 := Lib.hid ho3
  have HB3 := Lib.hid (below_on HB.out hb3)
  have r1 := (HK.out.on hb3).get 1 rfl
  clear hb3 ho3
  unfold brV
  go_wp2_with fail
  go_ret
  exact ⟨_, rfl, HO3.out.lower (by omega), HB3.out⟩

set_option maxRecDepth 100000 in
set_option maxHeartbeats 4000000 in
theorem typed_ef_6 (cu : Bool) (mo : Int) (sg pa : Bool) (c : Int) (hs : special c = false) (hp : ctrlE c = []) (w : World) (hT : Pow w) (h : Typed c 6) :
    Calls Tryd.prog 41 #[.agg #[.bool cu, .bool false, .int .i64 mo, .bool sg, .bool pa], .agg #[.int .i64 c, .int .i64 6]] w (NewOwn w (typedE false c 6)) := by
  have hne : plainE c 6 = [] := by
    unfold plainE
    rw [if_neg (by simp [hs]), if_neg (by omega)]
    rw [if_pos (by omega)]
    exact hp
  have hh : plainE c 6 = [] ∨ ((6 : Int) ≠ 0 ∧ (special c = true ∨ (6 : Int) ≠ 4)) := .inl hne
  have HC := Lib.hid ((typedE_last (L := putB c) hh (.inl (by omega)) (by rw [if_pos hne])).trans (if_pos (by decide)))
  rw [HC.out]
  clear HC hh
  have hpr := putRes_key h hs
  have HU := Lib.hid (fun W => implPutPoint_any c W)
  rw [hpr] at HU
  have hul : (putB c).length ≤ 4 := by have := put_small c; rw [put_len]; omega
  generalize putB c = U at *
  clear hpr
  have hll := plain_len c 6
  have HP := Lib.hid (fun W => plainBytes_any c 6 W h)
  have hcode := h.code
  generalize plainE c 6 = L at *
  subst hne
  have HT := Lib.hid hT
  clear hT
  go_enter Tryd.func41, Tryd.ntmps41
  go_wp2_with fail
  refine (HP.out _).mono ?_
  rintro e w1 ⟨v, rfl, ho, hb⟩
  obtain ⟨p1, c1, hv⟩ := ho.slice
  subst hv
  have k1 := (AtL.new (w.alloc (.cells #[.bool cu, .bool false, .int .i64 mo, .bool sg, .bool pa] 25)) [.int .i64 c, .int .i64 6] 43).on hb
  rw [World.size_alloc] at k1
  have m1 := ((AtL.new w [.bool cu, .bool false, .int .i64 mo, .bool sg, .bool pa] 25).on (below_mk _ (.cells #[.int .i64 c, .int .i64 6] 43))).on hb
  have b1 := below_on (below_on (below_mk w (.cells #[.bool cu, .bool false, .int .i64 mo, .bool sg, .bool pa] 25)) (below_mk _ (.cells #[.int .i64 c, .int .i64 6] 43))) hb
  have o1 := ho.lower (base' := w.heap.size) (by simp; omega)
  have r0 := k1.get 0 rfl
  have r1 := k1.get 1 rfl
  clear ho hb HP
  go_wp2_with fail
  refine (implIsSpecial_any c _).mono ?_
  rintro e w2 ⟨rfl, hb2⟩
  rw [hs]
  have HK := Lib.hid (k1.on hb2)
  have HM := Lib.hid (m1.on hb2)
  have HO := Lib.hid (o1.on hb2)
  have HB := Lib.hid (below_on b1 hb2)
  clear k1 m1 o1 b1 hb2 r0 r1
  have r0 := HK.out.get 0 rfl
  have r1 := HK.out.get 1 rfl
  have r2 := HM.out.get 1 rfl
  have hfd : ∀ (a b : Value) (w : World), (Instr.field 31 (.agg #[a, b]) 1).run Tryd.prog w = .ok b w := by intros; kernel_rfl
  go_wp2_with fail
  refine (HU.out _).mono ?_
  rintro e w3 ⟨v3, rfl, ho3, hb3⟩
  obtain ⟨p3, c3, hv⟩ := ho3.slice
  subst hv
  have hsz := HB.out.size
  have HO3 := Lib.hid ho3
  have HB3 := Lib.hid (below_on HB.out hb3)
  have r1 := (HK.out.on hb3).get 1 rfl
  clear hb3 ho3
  unfold brV
  go_wp2_with fail
  refine (escaped_any p3 c3 U _ HO3.out.bs.2 HO3.out.capz (by omega)).mono ?_
  rintro e w4 ⟨v4, rfl, ho4, hb4⟩
  have hsz3 := HB3.out.size
  have HE := Lib.hid (own_low ho4 (below_on HB3.out hb4) (by omega))
  clear ho4 hb4
  go_wp2_with fail
  go_ret
  exact HE.out

set_option maxRecDepth 100000 in
set_option maxHeartbeats 4000000 in
theorem typed_ef_7 (cu : Bool) (mo : Int) (sg pa : Bool) (c : Int) (hs : special c = false) (w : World) (hT : Pow w) (h : Typed c 7) :
    Calls Tryd.prog 41 #[.agg #[.bool cu, .bool false, .int .i64 mo, .bool sg, .bool pa], .agg #[.int .i64 c, .int .i64 7]] w (NewOwn w (typedE false c 7)) := by
  have hne : plainE c 7 = [] := by
    unfold plainE
    rw [if_neg (by simp [hs]), if_neg (by omega)]
    rw [if_neg (by omega)]
  have hh : plainE c 7 = [] ∨ ((7 : Int) ≠ 0 ∧ (special c = true ∨ (7 : Int) ≠ 4)) := .inl hne
  have HC := Lib.hid ((typedE_last (L := putB c) hh (.inl (by omega)) (by rw [if_pos hne])).trans (if_pos (by decide)))
  rw [HC.out]
  clear HC hh
  have hpr := putRes_key h hs
  have HU := Lib.hid (fun W => implPutPoint_any c W)
  rw [hpr] at HU
  have hul : (putB c).length ≤ 4 := by have := put_small c; rw [put_len]; omega
  generalize putB c = U at *
  clear hpr
  have hll := plain_len c 7
  have HP := Lib.hid (fun W => plainBytes_any c 7 W h)
  have hcode := h.code
  generalize plainE c 7 = L at *
  subst hne
  have HT := Lib.hid hT
  clear hT
  go_enter Tryd.func41, Tryd.ntmps41
  go_wp2_with fail
  refine (HP.out _).mono ?_
  rintro e w1 ⟨v, rfl, ho, hb⟩
  obtain ⟨p1, c1, hv⟩ := ho.slice
  subst hv
  have k1 := (AtL.new (w.alloc (.cells #[.bool cu, .bool false, .int .i64 mo, .bool sg, .bool pa] 25)) [.int .i64 c, .int .i64 7] 43).on hb
  rw [World.size_alloc] at k1
  have m1 := ((AtL.new w [.bool cu, .bool false, .int .i64 mo, .bool sg, .bool pa] 25).on (below_mk _ (.cells #[.int .i64 c, .int .i64 7] 43))).on hb
  have b1 := below_on (below_on (below_mk w (.cells #[.bool cu, .bool false, .int .i64 mo, .bool sg, .bool pa] 25)) (below_mk _ (.cells #[.int .i64 c, .int .i64 7] 43))) hb
  have o1 := ho.lower (base' := w.heap.size) (by simp; omega)
  have r0 := k1.get 0 rfl
  have r1 := k1.get 1 rfl
  clear ho hb HP
  go_wp2_with fail
  refine (implIsSpecial_any c _).mono ?_
  rintro e w2 ⟨rfl, hb2⟩
  rw [hs]
  have HK := Lib.hid (k1.on hb2)
  have HM := Lib.hid (m1.on hb2)
  have HO := Lib.hid (o1.on hb2)
  have HB := Lib.hid (below_on b1 hb2)
  clear k1 m1 o1 b1 hb2 r0 r1
  have r0 := HK.out.get 0 rfl
  have r1 := HK.out.get 1 rfl
  have r2 := HM.out.get 1 rfl
  have hfd : ∀ (a b : Value) (w : World), (Instr.field 31 (.agg #[a, b]) 1).run Tryd.prog w = .ok b w := by intros; kernel_rfl
  go_wp2_with fail
  refine (HU.out _).mono ?_
  rintro e w3 ⟨v3, rfl, ho3, hb3⟩
  obtain ⟨p3, c3, hv⟩ := ho3.slice
  subst hv
  have hsz := HB.out.size
  have HO3 := Lib.hid ho3
  have HB3 := Lib.hid (below_on HB.out hb3)
  have r1 := (HK.out.on hb3).get 1 rfl
  clear hb3 ho3
  unfold brV
  go_wp2_with fail
  refine (escaped_any p3 c3 U _ HO3.out.bs.2 HO3.out.capz (by omega)).mono ?_
  rintro e w4 ⟨v4, rfl, ho4, hb4⟩
  have hsz3 := HB3.out.size
  have HE := Lib.hid (own_low ho4 (below_on HB3.out hb4) (by omega))
  clear ho4 hb4
  go_wp2_with fail
  go_ret
  exact HE.out

end Go.Proofs.YtjopjddhgaiddaaDoor

/- The program's encoder: typedBytes and keyBytes whole. -/
namespace Go.Proofs.YtjopjddhgaiddaaDoor
open Go.RowKit
set_option linter.unusedVariables false
set_option linter.unusedSimpArgs false

theorem typedBytes_any (md : Md) (c m : Int) (w : World) (hT : Pow w) (h : Typed c m) : Calls Tryd.prog 41 #[mdV md, .agg #[.int .i64 c, .int .i64 m]] w (NewOwn w (typedE md.coded c m)) := by
  have h0 := h.m0
  have h7 := h.m7
  by_cases hx : m = 0
  · subst hx; exact typed_x0 md c w hT h
  by_cases hy : m = 2 ∧ special c = false ∧ c ≤ 126
  · obtain ⟨rfl, hs, hc⟩ := hy
    exact typed_y md c hs hc w hT h
  by_cases hz : m = 4 ∧ special c = false ∧ ctrlE c ≠ []
  · obtain ⟨rfl, hs, hc⟩ := hz
    exact typed_x4 md c hc hs w hT h
  obtain ⟨cu, co, mo, sg, pa⟩ := md
  have hm : m = 1 ∨ m = 2 ∨ m = 3 ∨ m = 4 ∨ m = 5 ∨ m = 6 ∨ m = 7 := by omega
  clear h0 h7 hx
  cases hs : special c <;> cases co
  · rcases hm with rfl | rfl | rfl | rfl | rfl | rfl | rfl
    · exact typed_ef_1 cu mo sg pa c hs w hT h
    · exact typed_nf_2 cu mo sg pa c hs (by rcases Int.lt_or_le 126 c with h1 | h1; exact h1; exact absurd ⟨rfl, hs, h1⟩ hy) w hT h
    · exact typed_ef_3 cu mo sg pa c hs w hT h
    · exact typed_ef_4 cu mo sg pa c hs (Classical.byContradiction fun hc => hz ⟨rfl, hs, hc⟩) w hT h
    · exact typed_ef_5 cu mo sg pa c hs w hT h
    · by_cases hc : ctrlE c = []
      · exact typed_ef_6 cu mo sg pa c hs hc w hT h
      · exact typed_nf_6 cu mo sg pa c hs hc w hT h
    · exact typed_ef_7 cu mo sg pa c hs w hT h
  · rcases hm with rfl | rfl | rfl | rfl | rfl | rfl | rfl
    · exact typed_et_1 cu mo sg pa c hs w hT h
    · exact typed_nt_2 cu mo sg pa c hs (by rcases Int.lt_or_le 126 c with h1 | h1; exact h1; exact absurd ⟨rfl, hs, h1⟩ hy) w hT h
    · exact typed_et_3 cu mo sg pa c hs w hT h
    · exact typed_et_4 cu mo sg pa c hs (Classical.byContradiction fun hc => hz ⟨rfl, hs, hc⟩) w hT h
    · exact typed_et_5 cu mo sg pa c hs w hT h
    · by_cases hc : ctrlE c = []
      · exact typed_et_6 cu mo sg pa c hs hc w hT h
      · exact typed_nt_6 cu mo sg pa c hs hc w hT h
    · exact typed_et_7 cu mo sg pa c hs w hT h
  · rcases hm with rfl | rfl | rfl | rfl | rfl | rfl | rfl
    · exact typed_sf_1 cu mo sg pa c hs w hT h
    · exact typed_sf_2 cu mo sg pa c hs w hT h
    · exact typed_sf_3 cu mo sg pa c hs w hT h
    · exact typed_sf_4 cu mo sg pa c hs w hT h
    · exact typed_sf_5 cu mo sg pa c hs w hT h
    · exact typed_sf_6 cu mo sg pa c hs w hT h
    · exact typed_sf_7 cu mo sg pa c hs w hT h
  · rcases hm with rfl | rfl | rfl | rfl | rfl | rfl | rfl
    · exact typed_st_1 cu mo sg pa c hs w hT h
    · exact typed_st_2 cu mo sg pa c hs w hT h
    · exact typed_st_3 cu mo sg pa c hs w hT h
    · exact typed_st_4 cu mo sg pa c hs w hT h
    · exact typed_st_5 cu mo sg pa c hs w hT h
    · exact typed_st_6 cu mo sg pa c hs w hT h
    · exact typed_st_7 cu mo sg pa c hs w hT h

theorem letterE_range (c : Int) (h : letterE c ≠ 0) : 64 ≤ letterE c ∧ letterE c ≤ 126 := by
  revert h
  unfold letterE
  repeat' split
  all_goals simp
theorem tildeE_range (c : Int) : 0 ≤ tildeE c ∧ tildeE c ≤ 6 := by
  unfold tildeE
  repeat' split
  all_goals simp

set_option maxRecDepth 100000 in
set_option maxHeartbeats 2000000 in
theorem keyBytes_any (md : Md) (c m : Int) (w : World) (hT : Pow w) (hk : keyCode c = true) (h0 : 0 ≤ m) (h7 : m ≤ 7) :
    Calls Tryd.prog 20 #[mdV md, .agg #[.int .i64 c, .int .i64 m]] w (NewOwn w (keyE md c m)) := by
  have b1 : ∀ A B, Below w.heap.size w ((w.alloc A).alloc B) := fun A B => below_on (below_mk w A) (below_mk _ B)
  have HLC := Lib.hid (fun W => letterOfCode_any c W)
  have HNC := Lib.hid (fun W => numberOfCode_any c W)
  by_cases hl : letterE c = 0
  · by_cases ht : tildeE c = 0
    · have HC : Hid (keyE md c m = typedE md.coded c m) := by simp [Hid, keyE, hl, ht]
      have HT := Lib.hid (fun A B => typedBytes_any md c m ((w.alloc A).alloc B) (hT.on (b1 A B)) ⟨hk, hl, ht, h0, h7⟩)
      rw [HC.out]
      rw [hl] at HLC
      rw [ht] at HNC
      generalize typedE md.coded c m = L at *
      obtain ⟨cu, co, mo, sg, pa⟩ := md
      unfold mdV at *
      dsimp only at *
      clear hT hl ht HC b1
      go_enter Tryd.func20, Tryd.ntmps20
      go_wp2_with fail
      refine (HLC.out _).mono ?_
      rintro e w1 ⟨rfl, rfl⟩
      go_wp2_with fail
      refine (HNC.out _).mono ?_
      rintro e w1 ⟨rfl, rfl⟩
      go_wp2_with fail
      refine (HT.out _ _).mono ?_
      rintro e w1 ⟨v, rfl, ho, hb⟩
      have HE := Lib.hid (own_low ho (below_on (below_on (below_mk w _) (below_mk _ _)) hb) (by simp; omega))
      clear ho hb
      go_wp2_with fail
      go_ret
      exact HE.out
    · have hr := tildeE_range c
      have HC : Hid (keyE md c m = tildeB (tildeE c) m) := by simp [Hid, keyE, hl, ht]
      have HT := Lib.hid (fun A B => numberBytes_any (tildeE c) m ((w.alloc A).alloc B) (hT.on (b1 A B)) (by omega) (by omega) h0 h7)
      rw [HC.out]
      rw [hl] at HLC
      generalize tildeE c = n at *
      generalize tildeB n m = L at *
      obtain ⟨cu, co, mo, sg, pa⟩ := md
      unfold mdV at *
      dsimp only at *
      clear hT hl HC b1 hr
      go_enter Tryd.func20, Tryd.ntmps20
      go_wp2_with fail
      refine (HLC.out _).mono ?_
      rintro e w1 ⟨rfl, rfl⟩
      go_wp2_with fail
      refine (HNC.out _).mono ?_
      rintro e w1 ⟨rfl, rfl⟩
      go_wp2_with fail
      refine (HT.out _ _).mono ?_
      rintro e w1 ⟨v, rfl, ho, hb⟩
      have HE := Lib.hid (own_low ho (below_on (below_on (below_mk w _) (below_mk _ _)) hb) (by simp; omega))
      clear ho hb
      go_wp2_with fail
      go_ret
      exact HE.out
  · have hr := letterE_range c hl
    have HC : Hid (keyE md c m = letterB md.cursor (byteE (letterE c)) m) := by simp [Hid, keyE, hl]
    have HT := Lib.hid (fun A B => letterBytes_any md (letterE c) m ((w.alloc A).alloc B) (hT.on (b1 A B)) hr.1 hr.2 h0 h7)
    rw [HC.out]
    generalize letterE c = n at *
    generalize letterB md.cursor (byteE n) m = L at *
    obtain ⟨cu, co, mo, sg, pa⟩ := md
    unfold mdV at *
    dsimp only at *
    clear hT HC b1 hr
    go_enter Tryd.func20, Tryd.ntmps20
    go_wp2_with fail
    refine (HLC.out _).mono ?_
    rintro e w1 ⟨rfl, rfl⟩
    go_wp2_with fail
    refine (HT.out _ _).mono ?_
    rintro e w1 ⟨v, rfl, ho, hb⟩
    have HE := Lib.hid (own_low ho (below_on (below_on (below_mk w _) (below_mk _ _)) hb) (by simp; omega))
    clear ho hb
    go_wp2_with fail
    go_ret
    exact HE.out

end Go.Proofs.YtjopjddhgaiddaaDoor
