/- The model's tokens: l3Sequence. -/
import Derived.Test.YtjopjddhgaiddabGreatDoorQTokSpecHToTokSpecA
import Derived.Test.YtjopjddhgaiddabGreatDoorQSpecMouse3ToSpecMouse4
import Derived.Test.YtjopjddhgaiddabGreatDoorQPiecesInToPartsSpec
import Derived.Deep.Cut
namespace Go.Proofs.YtjopjddhgaiddabGreatDoor
open Go.RowKit
set_option linter.unusedVariables false

set_option maxRecDepth 100000 in
set_option maxHeartbeats 4000000 in
theorem l3Sequence_mouse (p : Option Addr) (n c k s : Nat) (r : Pt) (w : World) (hk : 3 ≤ k) (hkc : k ≤ c) (hs : r.size = (s : Int)) (hs2 : s ≤ 22) (hsk : s + 2 ≤ k) (hm : lesser (n : Int) 24 = k) (hl : r.nums.length ≤ 4) (hN : ∀ x ∈ r.nums, 0 ≤ x ∧ x ≤ 9999999)
    (HP : Hid (∀ o, Calls Tryz.prog 129 #[.slice (p.map (·.add 2)) (k - 2) (c - 2)] (w.alloc o) (NewPt (w.alloc o) r))) (h0 : r.code = 0) (hp : r.priv = true) (tk : Tk) (ht0 : tk.code = 0) (htd : tk.ev.data = []) (hky : keyP r = badTk 5) (hms : mouseP r = tk) :
    Calls Tryz.prog 113 #[.slice p n c] w (NewTk w ⟨0, tk.ev, s + 2, tk.paste, tk.none⟩) := by
  have h2 : ¬ c = 2 := by omega
  have hr0 : r.code = 0 := h0
  have HKY := Lib.hid (fun (pp : Option Addr) (cc : Nat) (w : World) hI => specKeyOfParts_any r pp cc w hI hl hN (.inl hr0))
  rw [hky] at HKY
  have HMS := Lib.hid (fun (pp : Option Addr) (cc : Nat) (w : World) hI => specMouseOfParts_any r pp cc w hI hl hN (.inl hr0))
  rw [hms] at HMS
  obtain ⟨code, priv, nums, fin, size⟩ := r
  unfold ptV at HKY HMS
  dsimp only at *
  subst hs
  subst hr0
  subst hp
  obtain ⟨tcode, ⟨t1, t2, t3, t4, t5, t6, t7, td⟩, tsize, tpaste, tnone⟩ := tk
  dsimp only at *
  subst ht0 htd
  clear hN h0 hky hms
  go_enter Tryz.func113, Tryz.ntmps113
  go_wp2_with fail
  refine (l1Min_any _ _ _).mono ?_
  rintro e w' ⟨rfl, rfl⟩
  rw [hm]
  go_wp2_with fail
  refine (HP.out _).mono ?_
  rintro e w1 ⟨v, rfl, ho, hb⟩
  obtain ⟨pp, cc, rfl⟩ := ho.slice
  have HI := Lib.hid ho.is.2
  have HB1 := Lib.hid hb
  have l0 := new_lt hb
  have n0 : ¬ w.heap.size = w1.heap.size := by omega
  clear hb ho
  unfold ptV
  dsimp only
  go_wp2_with fail
  refine (HKY.out _ _ _ (HI.out.alloc _)).mono ?_
  rintro e w3 ⟨rfl, hb3⟩
  have HA3 := Lib.hid ((AtL.new w1 [.int .i64 0, .bool true, .slice pp nums.length cc, .int .u8 fin, .int .i64 s] 133).on hb3)
  have HI3 := Lib.hid ((HI.out.alloc _).on hb3)
  have HB3 := Lib.hid (below_past HB1.out hb3)
  have HC3 := Lib.hid (below_on (below_mk _ _) hb3)
  clear hb3 l0 n0
  obtain ⟨q0, q1, q2, q3, q4⟩ := HA3.out.five
  obtain ⟨hcc, hf⟩ := bcell HB3.out
  have l0 := new_lt HB3.out
  have l1 := HA3.out.1
  have n0 : ¬ w.heap.size = w3.heap.size := by omega
  have n1 : ¬ w1.heap.size = w3.heap.size := by omega
  unfold tkV badTk noEv
  dsimp only
  go_wp2_with fail
  refine (HMS.out _ _ _ (HI3.out.alloc _)).mono ?_
  rintro e w4 ⟨rfl, hb4⟩
  have HK4 := Lib.hid ((AtL.new w3 [.int .i64 5, .int .i64 0, .int .i64 0, .int .i64 0, .int .i64 0, .int .i64 0, .int .i64 0, .int .i64 0, .slice none 0 0, .int .i64 0, .bool false, .bool false] 58).on hb4)
  have hz : ∀ o, w4.frozen? ⟨w3.heap.size, o, none⟩ = false := fun o => (hb4.frozen (p := ⟨w3.heap.size, o, none⟩) (by simp)).trans (by simp)
  have HB4 := Lib.hid (below_past HB3.out hb4)
  have HC4 := Lib.hid (below_past HC3.out hb4)
  clear hb4 l0 l1 n0 n1 q0 q1 q2 q3 q4 hcc hf
  obtain ⟨k0, k1, k2, k3, k4, k5, k6, k7, k8, k9, k10, k11⟩ := HK4.out.twelve
  unfold tkV
  dsimp only
  go_upto_region 13 with (fail)
  refine wp_gen (fun W' => AtL W' w3.heap.size [.int .i64 0, .int .i64 t1, .int .i64 t2, .int .i64 t3, .int .i64 t4, .int .i64 t5, .int .i64 t6, .int .i64 t7, .slice none 0 0, .int .i64 tsize, .bool tpaste, .bool tnone] ∧ Below _ (w.alloc _) W' ∧ Below _ w1 W' ∧ ∀ o, W'.frozen? ⟨w3.heap.size, o, none⟩ = false) ⟨sets_at [.int .i64 0, .int .i64 t1, .int .i64 t2, .int .i64 t3, .int .i64 t4, .int .i64 t5, .int .i64 t6, .int .i64 t7, .slice none 0 0, .int .i64 tsize, .bool tpaste, .bool tnone] HK4.out rfl, sets_below HB3.out.size [.int .i64 0, .int .i64 t1, .int .i64 t2, .int .i64 t3, .int .i64 t4, .int .i64 t5, .int .i64 t6, .int .i64 t7, .slice none 0 0, .int .i64 tsize, .bool tpaste, .bool tnone] 0 _ _ HB4.out, sets_below HC3.out.size [.int .i64 0, .int .i64 t1, .int .i64 t2, .int .i64 t3, .int .i64 t4, .int .i64 t5, .int .i64 t6, .int .i64 t7, .slice none 0 0, .int .i64 tsize, .bool tpaste, .bool tnone] 0 _ _ HC4.out, fun o => by simp [hz]⟩ ?_
  clear k0 k1 k2 k3 k4 k5 k6 k7 k8 k9 k10 k11 hz
  rintro w5 ⟨hA5, hB5, hC5, hz⟩
  have HB5 := Lib.hid hB5
  have HC5 := Lib.hid hC5
  obtain ⟨k0, k1, k2, k3, k4, k5, k6, k7, k8, k9, k10, k11⟩ := hA5.twelve
  obtain ⟨hcc, hf⟩ := bcell hB5
  have l0 := new_lt HB3.out
  have n0 : ¬ w.heap.size = w3.heap.size := by omega
  have n1 : ¬ w3.heap.size = w.heap.size := by omega
  clear hA5 hB5 hC5 HB4 HC4 HK4
  go_wp2_with fail
  have HE : Hid (NewTk w ⟨0, ⟨t1, t2, t3, t4, t5, t6, t7, []⟩, s + 2, tpaste, tnone⟩ (.returned (tkV ⟨0, ⟨t1, t2, t3, t4, t5, t6, t7, []⟩, s + 2, tpaste, tnone⟩ (.slice none 0 0))) (sets (w5.setCell ⟨w3.heap.size, 9, none⟩ (.int .i64 (s + 2))) w.heap.size 0 (tkL ⟨0, ⟨t1, t2, t3, t4, t5, t6, t7, []⟩, s + 2, tpaste, tnone⟩ (.slice none 0 0)))) := tk_end (tkL ⟨0, ⟨t1, t2, t3, t4, t5, t6, t7, []⟩, s + 2, tpaste, tnone⟩ (.slice none 0 0)) (own_nil _ _) (HB5.out.setCell HB3.out.size _)
  refine bodyPost_ret (v := tkV ⟨0, ⟨t1, t2, t3, t4, t5, t6, t7, []⟩, s + 2, tpaste, tnone⟩ (.slice none 0 0)) ?_ rfl HE.out
  simp [results, Tryz.results113, tkV, go_sem, hcc]

set_option maxRecDepth 100000 in
set_option maxHeartbeats 4000000 in
theorem l3Sequence_raw1 (p : Option Addr) (n c k s : Nat) (r : Pt) (w : World) (hk : 3 ≤ k) (hkc : k ≤ c) (hs : r.size = (s : Int)) (hs2 : s ≤ 22) (hsk : s + 2 ≤ k) (hm : lesser (n : Int) 24 = k) (hl : r.nums.length ≤ 4) (hN : ∀ x ∈ r.nums, 0 ≤ x ∧ x ≤ 9999999)
    (HP : Hid (∀ o, Calls Tryz.prog 129 #[.slice (p.map (·.add 2)) (k - 2) (c - 2)] (w.alloc o) (NewPt (w.alloc o) r))) (h0 : r.code = 0) (hp : r.priv = true) (hky : keyP r = badTk 5) (hms : mouseP r = badTk 5) (d : List UInt8) (HR : Hid (∀ w', Below w.heap.size w w' → Calls Tryz.prog 81 #[.slice p (s + 2) c] w' (NewTk w' (rTk d (s + 2))))) :
    Calls Tryz.prog 113 #[.slice p n c] w (NewTk w (rTk d (s + 2))) := by
  have h2 : ¬ c = 2 := by omega
  have hr0 : r.code = 0 := h0
  have HKY := Lib.hid (fun (pp : Option Addr) (cc : Nat) (w : World) hI => specKeyOfParts_any r pp cc w hI hl hN (.inl hr0))
  rw [hky] at HKY
  have HMS := Lib.hid (fun (pp : Option Addr) (cc : Nat) (w : World) hI => specMouseOfParts_any r pp cc w hI hl hN (.inl hr0))
  rw [hms] at HMS
  obtain ⟨code, priv, nums, fin, size⟩ := r
  unfold ptV at HKY HMS
  dsimp only at *
  subst hs
  subst hr0
  subst hp
  clear hN h0 hky hms
  go_enter Tryz.func113, Tryz.ntmps113
  go_wp2_with fail
  refine (l1Min_any _ _ _).mono ?_
  rintro e w' ⟨rfl, rfl⟩
  rw [hm]
  go_wp2_with fail
  refine (HP.out _).mono ?_
  rintro e w1 ⟨v, rfl, ho, hb⟩
  obtain ⟨pp, cc, rfl⟩ := ho.slice
  have HI := Lib.hid ho.is.2
  have HR2 := Lib.hid (fun w2 (hb2 : Below w1.heap.size w1 w2) => HR.out _ (below_on (below_on (below_mk _ _) hb) hb2))
  clear HR
  have HB1 := Lib.hid hb
  have l0 := new_lt hb
  have n0 : ¬ w.heap.size = w1.heap.size := by omega
  clear hb ho
  unfold ptV
  dsimp only
  go_wp2_with fail
  refine (HKY.out _ _ _ (HI.out.alloc _)).mono ?_
  rintro e w3 ⟨rfl, hb3⟩
  have HA3 := Lib.hid ((AtL.new w1 [.int .i64 0, .bool true, .slice pp nums.length cc, .int .u8 fin, .int .i64 s] 133).on hb3)
  have HI3 := Lib.hid ((HI.out.alloc _).on hb3)
  have HB3 := Lib.hid (below_past HB1.out hb3)
  have HC3 := Lib.hid (below_on (below_mk _ _) hb3)
  clear hb3 l0 n0
  obtain ⟨q0, q1, q2, q3, q4⟩ := HA3.out.five
  obtain ⟨hcc, hf⟩ := bcell HB3.out
  have l0 := new_lt HB3.out
  have l1 := HA3.out.1
  have n0 : ¬ w.heap.size = w3.heap.size := by omega
  have n1 : ¬ w1.heap.size = w3.heap.size := by omega
  unfold tkV badTk noEv
  dsimp only
  go_wp2_with fail
  refine (HMS.out _ _ _ (HI3.out.alloc _)).mono ?_
  rintro e w4 ⟨rfl, hb4⟩
  have HK4 := Lib.hid ((AtL.new w3 [.int .i64 5, .int .i64 0, .int .i64 0, .int .i64 0, .int .i64 0, .int .i64 0, .int .i64 0, .int .i64 0, .slice none 0 0, .int .i64 0, .bool false, .bool false] 58).on hb4)
  have hz : ∀ o, w4.frozen? ⟨w3.heap.size, o, none⟩ = false := fun o => (hb4.frozen (p := ⟨w3.heap.size, o, none⟩) (by simp)).trans (by simp)
  have HB4 := Lib.hid (below_past HB3.out hb4)
  have HC4 := Lib.hid (below_past HC3.out hb4)
  clear hb4 l0 l1 n0 n1 q0 q1 q2 q3 q4 hcc hf
  obtain ⟨k0, k1, k2, k3, k4, k5, k6, k7, k8, k9, k10, k11⟩ := HK4.out.twelve
  unfold tkV badTk noEv
  dsimp only
  go_upto_region 13 with (fail)
  refine wp_gen (fun W' => AtL W' w3.heap.size [.int .i64 5, .int .i64 0, .int .i64 0, .int .i64 0, .int .i64 0, .int .i64 0, .int .i64 0, .int .i64 0, .slice none 0 0, .int .i64 0, .bool false, .bool false] ∧ Below _ (w.alloc _) W' ∧ Below _ w1 W' ∧ ∀ o, W'.frozen? ⟨w3.heap.size, o, none⟩ = false) ⟨sets_at [.int .i64 5, .int .i64 0, .int .i64 0, .int .i64 0, .int .i64 0, .int .i64 0, .int .i64 0, .int .i64 0, .slice none 0 0, .int .i64 0, .bool false, .bool false] HK4.out rfl, sets_below HB3.out.size [.int .i64 5, .int .i64 0, .int .i64 0, .int .i64 0, .int .i64 0, .int .i64 0, .int .i64 0, .int .i64 0, .slice none 0 0, .int .i64 0, .bool false, .bool false] 0 _ _ HB4.out, sets_below HC3.out.size [.int .i64 5, .int .i64 0, .int .i64 0, .int .i64 0, .int .i64 0, .int .i64 0, .int .i64 0, .int .i64 0, .slice none 0 0, .int .i64 0, .bool false, .bool false] 0 _ _ HC4.out, fun o => by simp [hz]⟩ ?_
  clear k0 k1 k2 k3 k4 k5 k6 k7 k8 k9 k10 k11 hz
  rintro w5 ⟨hA5, hB5, hC5, hz⟩
  have HB5 := Lib.hid hB5
  have HC5 := Lib.hid hC5
  obtain ⟨k0, k1, k2, k3, k4, k5, k6, k7, k8, k9, k10, k11⟩ := hA5.twelve
  obtain ⟨hcc, hf⟩ := bcell hB5
  have l0 := new_lt HB3.out
  have n0 : ¬ w.heap.size = w3.heap.size := by omega
  have n1 : ¬ w3.heap.size = w.heap.size := by omega
  clear hA5 hB5 hC5 HB4 HC4 HK4
  go_wp2_with fail
  refine (HR2.out _ HC5.out).mono ?_
  rintro e w9 ⟨v, rfl, ho, hb9⟩
  obtain ⟨px, cx, hv⟩ := ho.slice
  subst hv
  have hb6 := HB5.out.trans (hb9.mono HB5.out.size)
  have HE : Hid (NewTk w (rTk d (s + 2)) (.returned (tkV (rTk d (s + 2)) (.slice px d.length cx))) (sets w9 w.heap.size 0 (tkL (rTk d (s + 2)) (.slice px d.length cx)))) := tk_end (tkL (rTk d (s + 2)) (.slice px d.length cx)) (ho.lower HB5.out.size) hb6
  clear l0 n0 n1 hcc hf
  obtain ⟨hcc, hf⟩ := bcell hb6
  clear ho hb9 hb6
  unfold tkV rTk rawEv
  dsimp only
  go_wp2_with fail
  refine bodyPost_ret (v := tkV (rTk d (s + 2)) (.slice px d.length cx)) ?_ rfl HE.out
  simp [results, Tryz.results113, tkV, rTk, rawEv, go_sem, hcc]

set_option maxRecDepth 100000 in
set_option maxHeartbeats 4000000 in
theorem l3Sequence_raw2 (p : Option Addr) (n c k s : Nat) (r : Pt) (w : World) (hk : 3 ≤ k) (hkc : k ≤ c) (hs : r.size = (s : Int)) (hs2 : s ≤ 22) (hsk : s + 2 ≤ k) (hm : lesser (n : Int) 24 = k) (hl : r.nums.length ≤ 4) (hN : ∀ x ∈ r.nums, 0 ≤ x ∧ x ≤ 9999999)
    (HP : Hid (∀ o, Calls Tryz.prog 129 #[.slice (p.map (·.add 2)) (k - 2) (c - 2)] (w.alloc o) (NewPt (w.alloc o) r))) (h0 : r.code = 0) (hp : r.priv = false) (hfin : (r.fin == 126) = false) (hky : keyP r = badTk 5) (hms : mouseP r = badTk 5) (d : List UInt8) (HR : Hid (∀ w', Below w.heap.size w w' → Calls Tryz.prog 81 #[.slice p (s + 2) c] w' (NewTk w' (rTk d (s + 2))))) :
    Calls Tryz.prog 113 #[.slice p n c] w (NewTk w (rTk d (s + 2))) := by
  have h2 : ¬ c = 2 := by omega
  have hr0 : r.code = 0 := h0
  have HKY := Lib.hid (fun (pp : Option Addr) (cc : Nat) (w : World) hI => specKeyOfParts_any r pp cc w hI hl hN (.inl hr0))
  rw [hky] at HKY
  have HMS := Lib.hid (fun (pp : Option Addr) (cc : Nat) (w : World) hI => specMouseOfParts_any r pp cc w hI hl hN (.inl hr0))
  rw [hms] at HMS
  obtain ⟨code, priv, nums, fin, size⟩ := r
  unfold ptV at HKY HMS
  dsimp only at *
  subst hs
  subst hr0
  subst hp
  clear hN h0 hky hms
  go_enter Tryz.func113, Tryz.ntmps113
  go_wp2_with fail
  refine (l1Min_any _ _ _).mono ?_
  rintro e w' ⟨rfl, rfl⟩
  rw [hm]
  go_wp2_with fail
  refine (HP.out _).mono ?_
  rintro e w1 ⟨v, rfl, ho, hb⟩
  obtain ⟨pp, cc, rfl⟩ := ho.slice
  have HI := Lib.hid ho.is.2
  have HR2 := Lib.hid (fun w2 (hb2 : Below w1.heap.size w1 w2) => HR.out _ (below_on (below_on (below_mk _ _) hb) hb2))
  clear HR
  have HB1 := Lib.hid hb
  have l0 := new_lt hb
  have n0 : ¬ w.heap.size = w1.heap.size := by omega
  clear hb ho
  unfold ptV
  dsimp only
  go_wp2_with fail
  refine (HKY.out _ _ _ (HI.out.alloc _)).mono ?_
  rintro e w3 ⟨rfl, hb3⟩
  have HA3 := Lib.hid ((AtL.new w1 [.int .i64 0, .bool false, .slice pp nums.length cc, .int .u8 fin, .int .i64 s] 133).on hb3)
  have HI3 := Lib.hid ((HI.out.alloc _).on hb3)
  have HB3 := Lib.hid (below_past HB1.out hb3)
  have HC3 := Lib.hid (below_on (below_mk _ _) hb3)
  clear hb3 l0 n0
  obtain ⟨q0, q1, q2, q3, q4⟩ := HA3.out.five
  obtain ⟨hcc, hf⟩ := bcell HB3.out
  have l0 := new_lt HB3.out
  have l1 := HA3.out.1
  have n0 : ¬ w.heap.size = w3.heap.size := by omega
  have n1 : ¬ w1.heap.size = w3.heap.size := by omega
  unfold tkV badTk noEv
  dsimp only
  go_wp2_with fail
  refine (HMS.out _ _ _ (HI3.out.alloc _)).mono ?_
  rintro e w4 ⟨rfl, hb4⟩
  have HK4 := Lib.hid ((AtL.new w3 [.int .i64 5, .int .i64 0, .int .i64 0, .int .i64 0, .int .i64 0, .int .i64 0, .int .i64 0, .int .i64 0, .slice none 0 0, .int .i64 0, .bool false, .bool false] 58).on hb4)
  have hz : ∀ o, w4.frozen? ⟨w3.heap.size, o, none⟩ = false := fun o => (hb4.frozen (p := ⟨w3.heap.size, o, none⟩) (by simp)).trans (by simp)
  have HB4 := Lib.hid (below_past HB3.out hb4)
  have HC4 := Lib.hid (below_past HC3.out hb4)
  clear hb4 l0 l1 n0 n1 q0 q1 q2 q3 q4 hcc hf
  obtain ⟨k0, k1, k2, k3, k4, k5, k6, k7, k8, k9, k10, k11⟩ := HK4.out.twelve
  unfold tkV badTk noEv
  dsimp only
  go_upto_region 13 with (fail)
  refine wp_gen (fun W' => AtL W' w3.heap.size [.int .i64 5, .int .i64 0, .int .i64 0, .int .i64 0, .int .i64 0, .int .i64 0, .int .i64 0, .int .i64 0, .slice none 0 0, .int .i64 0, .bool false, .bool false] ∧ Below _ (w.alloc _) W' ∧ Below _ w1 W' ∧ ∀ o, W'.frozen? ⟨w3.heap.size, o, none⟩ = false) ⟨sets_at [.int .i64 5, .int .i64 0, .int .i64 0, .int .i64 0, .int .i64 0, .int .i64 0, .int .i64 0, .int .i64 0, .slice none 0 0, .int .i64 0, .bool false, .bool false] HK4.out rfl, sets_below HB3.out.size [.int .i64 5, .int .i64 0, .int .i64 0, .int .i64 0, .int .i64 0, .int .i64 0, .int .i64 0, .int .i64 0, .slice none 0 0, .int .i64 0, .bool false, .bool false] 0 _ _ HB4.out, sets_below HC3.out.size [.int .i64 5, .int .i64 0, .int .i64 0, .int .i64 0, .int .i64 0, .int .i64 0, .int .i64 0, .int .i64 0, .slice none 0 0, .int .i64 0, .bool false, .bool false] 0 _ _ HC4.out, fun o => by simp [hz]⟩ ?_
  clear k0 k1 k2 k3 k4 k5 k6 k7 k8 k9 k10 k11 hz
  rintro w5 ⟨hA5, hB5, hC5, hz⟩
  have HB5 := Lib.hid hB5
  have HC5 := Lib.hid hC5
  obtain ⟨k0, k1, k2, k3, k4, k5, k6, k7, k8, k9, k10, k11⟩ := hA5.twelve
  obtain ⟨hcc, hf⟩ := bcell hB5
  have l0 := new_lt HB3.out
  have n0 : ¬ w.heap.size = w3.heap.size := by omega
  have n1 : ¬ w3.heap.size = w.heap.size := by omega
  clear hA5 hB5 hC5 HB4 HC4 HK4
  go_wp2_with fail
  refine (HR2.out _ HC5.out).mono ?_
  rintro e w9 ⟨v, rfl, ho, hb9⟩
  obtain ⟨px, cx, hv⟩ := ho.slice
  subst hv
  have hb6 := HB5.out.trans (hb9.mono HB5.out.size)
  have HE : Hid (NewTk w (rTk d (s + 2)) (.returned (tkV (rTk d (s + 2)) (.slice px d.length cx))) (sets w9 w.heap.size 0 (tkL (rTk d (s + 2)) (.slice px d.length cx)))) := tk_end (tkL (rTk d (s + 2)) (.slice px d.length cx)) (ho.lower HB5.out.size) hb6
  clear l0 n0 n1 hcc hf
  obtain ⟨hcc, hf⟩ := bcell hb6
  clear ho hb9 hb6
  unfold tkV rTk rawEv
  dsimp only
  go_wp2_with fail
  refine bodyPost_ret (v := tkV (rTk d (s + 2)) (.slice px d.length cx)) ?_ rfl HE.out
  simp [results, Tryz.results113, tkV, rTk, rawEv, go_sem, hcc]

end Go.Proofs.YtjopjddhgaiddabGreatDoor
