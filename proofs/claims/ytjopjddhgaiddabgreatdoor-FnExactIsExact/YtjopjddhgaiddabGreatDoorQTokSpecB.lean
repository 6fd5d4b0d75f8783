/- The model's tokens: l3Sequence. -/
import Derived.Test.YtjopjddhgaiddabGreatDoorQTokSpecHToTokSpecA
import Derived.Test.YtjopjddhgaiddabGreatDoorQSpecMouse3ToSpecMouse4
import Derived.Test.YtjopjddhgaiddabGreatDoorQPiecesInToPartsSpec
import Derived.Deep.Cut
namespace Go.Proofs.YtjopjddhgaiddabGreatDoor
open Go.RowKit
set_option linter.unusedVariables false

set_option maxRecDepth 100000 in
set_option maxHeartbeats 4000000 in
theorem l3Sequence_key2 (p : Option Addr) (n c k s : Nat) (r : Pt) (w : World) (hk : 3 ≤ k) (hkc : k ≤ c) (hs : r.size = (s : Int)) (hs2 : s ≤ 22) (hsk : s + 2 ≤ k) (hm : lesser (n : Int) 24 = k) (hl : r.nums.length ≤ 4) (hN : ∀ x ∈ r.nums, 0 ≤ x ∧ x ≤ 9999999)
    (HP : Hid (∀ o, Calls Tryz.prog 129 #[.slice (p.map (·.add 2)) (k - 2) (c - 2)] (w.alloc o) (NewPt (w.alloc o) r))) (h0 : r.code = 0) (hp : r.priv = false) (hfin : (r.fin == 126) = false) (tk : Tk) (ht0 : tk.code = 0) (htd : tk.ev.data = []) (hky : keyP r = tk) :
    Calls Tryz.prog 113 #[.slice p n c] w (NewTk w ⟨0, tk.ev, s + 2, tk.paste, tk.none⟩) := by
  have h2 : ¬ c = 2 := by omega
  have hr0 : r.code = 0 := h0
  have HKY := Lib.hid (fun (pp : Option Addr) (cc : Nat) (w : World) hI => specKeyOfParts_any r pp cc w hI hl hN (.inl hr0))
  rw [hky] at HKY
  obtain ⟨code, priv, nums, fin, size⟩ := r
  unfold ptV at HKY
  dsimp only at *
  subst hs
  subst hr0
  subst hp
  obtain ⟨tcode, ⟨t1, t2, t3, t4, t5, t6, t7, td⟩, tsize, tpaste, tnone⟩ := tk
  dsimp only at *
  subst ht0 htd
  clear hN h0 hky
  go_enter Tryz.func113, Tryz.ntmps113
  go_wp2_with fail
  refine (l1Min_any _ _ _).mono ?_
  rintro e w' ⟨rfl, rfl⟩
  rw [hm]
  go_wp2_with fail
  refine (HP.out _).mono ?_
  rintro e w1 ⟨v, rfl, ho, hb⟩
  obtain ⟨pp, cc, rfl⟩ := ho.slice
  have HI := Lib.hid ho.is.2
  have HB1 := Lib.hid hb
  have l0 := new_lt hb
  have n0 : ¬ w.heap.size = w1.heap.size := by omega
  clear hb ho
  unfold ptV
  dsimp only
  go_wp2_with fail
  refine (HKY.out _ _ _ (HI.out.alloc _)).mono ?_
  rintro e w3 ⟨rfl, hb3⟩
  have HA3 := Lib.hid ((AtL.new w1 [.int .i64 0, .bool false, .slice pp nums.length cc, .int .u8 fin, .int .i64 s] 133).on hb3)
  have HI3 := Lib.hid ((HI.out.alloc _).on hb3)
  have HB3 := Lib.hid (below_past HB1.out hb3)
  have HC3 := Lib.hid (below_on (below_mk _ _) hb3)
  clear hb3 l0 n0
  obtain ⟨q0, q1, q2, q3, q4⟩ := HA3.out.five
  obtain ⟨hcc, hf⟩ := bcell HB3.out
  have l0 := new_lt HB3.out
  have l1 := HA3.out.1
  have n0 : ¬ w.heap.size = w3.heap.size := by omega
  have n1 : ¬ w1.heap.size = w3.heap.size := by omega
  unfold tkV
  dsimp only
  go_wp2_with fail
  have HE : ∀ A, Hid (NewTk w ⟨0, ⟨t1, t2, t3, t4, t5, t6, t7, []⟩, s + 2, tpaste, tnone⟩ (.returned (tkV ⟨0, ⟨t1, t2, t3, t4, t5, t6, t7, []⟩, s + 2, tpaste, tnone⟩ (.slice none 0 0))) ((sets w3 w.heap.size 0 (tkL ⟨0, ⟨t1, t2, t3, t4, t5, t6, t7, []⟩, s + 2, tpaste, tnone⟩ (.slice none 0 0))).alloc A)) := fun A => (tk_end (tkL ⟨0, ⟨t1, t2, t3, t4, t5, t6, t7, []⟩, s + 2, tpaste, tnone⟩ (.slice none 0 0)) (own_nil _ _) HB3.out).more A
  refine bodyPost_ret (v := tkV ⟨0, ⟨t1, t2, t3, t4, t5, t6, t7, []⟩, s + 2, tpaste, tnone⟩ (.slice none 0 0)) ?_ rfl (HE _).out
  simp [results, Tryz.results113, tkV, go_sem, hcc, l0]

set_option maxRecDepth 100000 in
set_option maxHeartbeats 4000000 in
theorem l3Sequence_key3 (p : Option Addr) (n c k s : Nat) (r : Pt) (w : World) (hk : 3 ≤ k) (hkc : k ≤ c) (hs : r.size = (s : Int)) (hs2 : s ≤ 22) (hsk : s + 2 ≤ k) (hm : lesser (n : Int) 24 = k) (hl : r.nums.length ≤ 4) (hN : ∀ x ∈ r.nums, 0 ≤ x ∧ x ≤ 9999999)
    (HP : Hid (∀ o, Calls Tryz.prog 129 #[.slice (p.map (·.add 2)) (k - 2) (c - 2)] (w.alloc o) (NewPt (w.alloc o) r))) (h0 : r.code = 0) (hp : r.priv = false) (hfin : (r.fin == 126) = true) (hn1 : ¬ (r.nums.length : Int) = 1) (tk : Tk) (ht0 : tk.code = 0) (htd : tk.ev.data = []) (hky : keyP r = tk) :
    Calls Tryz.prog 113 #[.slice p n c] w (NewTk w ⟨0, tk.ev, s + 2, tk.paste, tk.none⟩) := by
  have h2 : ¬ c = 2 := by omega
  have hr0 : r.code = 0 := h0
  have HKY := Lib.hid (fun (pp : Option Addr) (cc : Nat) (w : World) hI => specKeyOfParts_any r pp cc w hI hl hN (.inl hr0))
  rw [hky] at HKY
  obtain ⟨code, priv, nums, fin, size⟩ := r
  unfold ptV at HKY
  dsimp only at *
  subst hs
  subst hr0
  subst hp
  obtain ⟨tcode, ⟨t1, t2, t3, t4, t5, t6, t7, td⟩, tsize, tpaste, tnone⟩ := tk
  dsimp only at *
  subst ht0 htd
  clear hN h0 hky
  go_enter Tryz.func113, Tryz.ntmps113
  go_wp2_with fail
  refine (l1Min_any _ _ _).mono ?_
  rintro e w' ⟨rfl, rfl⟩
  rw [hm]
  go_wp2_with fail
  refine (HP.out _).mono ?_
  rintro e w1 ⟨v, rfl, ho, hb⟩
  obtain ⟨pp, cc, rfl⟩ := ho.slice
  have HI := Lib.hid ho.is.2
  have HB1 := Lib.hid hb
  have l0 := new_lt hb
  have n0 : ¬ w.heap.size = w1.heap.size := by omega
  clear hb ho
  unfold ptV
  dsimp only
  go_wp2_with fail
  refine (HKY.out _ _ _ (HI.out.alloc _)).mono ?_
  rintro e w3 ⟨rfl, hb3⟩
  have HA3 := Lib.hid ((AtL.new w1 [.int .i64 0, .bool false, .slice pp nums.length cc, .int .u8 fin, .int .i64 s] 133).on hb3)
  have HI3 := Lib.hid ((HI.out.alloc _).on hb3)
  have HB3 := Lib.hid (below_past HB1.out hb3)
  have HC3 := Lib.hid (below_on (below_mk _ _) hb3)
  clear hb3 l0 n0
  obtain ⟨q0, q1, q2, q3, q4⟩ := HA3.out.five
  obtain ⟨hcc, hf⟩ := bcell HB3.out
  have l0 := new_lt HB3.out
  have l1 := HA3.out.1
  have n0 : ¬ w.heap.size = w3.heap.size := by omega
  have n1 : ¬ w1.heap.size = w3.heap.size := by omega
  unfold tkV
  dsimp only
  go_wp2_with fail
  have HE : ∀ A, Hid (NewTk w ⟨0, ⟨t1, t2, t3, t4, t5, t6, t7, []⟩, s + 2, tpaste, tnone⟩ (.returned (tkV ⟨0, ⟨t1, t2, t3, t4, t5, t6, t7, []⟩, s + 2, tpaste, tnone⟩ (.slice none 0 0))) ((sets w3 w.heap.size 0 (tkL ⟨0, ⟨t1, t2, t3, t4, t5, t6, t7, []⟩, s + 2, tpaste, tnone⟩ (.slice none 0 0))).alloc A)) := fun A => (tk_end (tkL ⟨0, ⟨t1, t2, t3, t4, t5, t6, t7, []⟩, s + 2, tpaste, tnone⟩ (.slice none 0 0)) (own_nil _ _) HB3.out).more A
  refine bodyPost_ret (v := tkV ⟨0, ⟨t1, t2, t3, t4, t5, t6, t7, []⟩, s + 2, tpaste, tnone⟩ (.slice none 0 0)) ?_ rfl (HE _).out
  simp [results, Tryz.results113, tkV, go_sem, hcc, l0]

set_option maxRecDepth 100000 in
set_option maxHeartbeats 4000000 in
theorem l3Sequence_key4 (p : Option Addr) (n c k s : Nat) (r : Pt) (w : World) (hk : 3 ≤ k) (hkc : k ≤ c) (hs : r.size = (s : Int)) (hs2 : s ≤ 22) (hsk : s + 2 ≤ k) (hm : lesser (n : Int) 24 = k) (hl : r.nums.length ≤ 4) (hN : ∀ x ∈ r.nums, 0 ≤ x ∧ x ≤ 9999999)
    (HP : Hid (∀ o, Calls Tryz.prog 129 #[.slice (p.map (·.add 2)) (k - 2) (c - 2)] (w.alloc o) (NewPt (w.alloc o) r))) (h0 : r.code = 0) (x : Int) (hp : r.priv = false) (hfin : (r.fin == 126) = true) (hx : r.nums = [x]) (hx2 : (x == 200) = false) (tk : Tk) (ht0 : tk.code = 0) (htd : tk.ev.data = []) (hky : keyP r = tk) :
    Calls Tryz.prog 113 #[.slice p n c] w (NewTk w ⟨0, tk.ev, s + 2, tk.paste, tk.none⟩) := by
  have h2 : ¬ c = 2 := by omega
  have hr0 : r.code = 0 := h0
  have HKY := Lib.hid (fun (pp : Option Addr) (cc : Nat) (w : World) hI => specKeyOfParts_any r pp cc w hI hl hN (.inl hr0))
  rw [hky] at HKY
  obtain ⟨code, priv, nums, fin, size⟩ := r
  unfold ptV at HKY
  dsimp only at *
  subst hs
  subst hr0
  subst hp hx
  obtain ⟨tcode, ⟨t1, t2, t3, t4, t5, t6, t7, td⟩, tsize, tpaste, tnone⟩ := tk
  dsimp only at *
  subst ht0 htd
  clear hN h0 hky
  go_enter Tryz.func113, Tryz.ntmps113
  go_wp2_with fail
  refine (l1Min_any _ _ _).mono ?_
  rintro e w' ⟨rfl, rfl⟩
  rw [hm]
  go_wp2_with fail
  refine (HP.out _).mono ?_
  rintro e w1 ⟨v, rfl, ho, hb⟩
  obtain ⟨pp, cc, rfl⟩ := ho.slice
  obtain ⟨g, off, rfl, hg, hcx⟩ := ho.is.2.cons
  have hx0 : w1.cell? ⟨g, off, none⟩ = some (.int .i64 x) := hcx 0 (by simp)
  have HI := Lib.hid ho.is.2
  clear hcx
  have HB1 := Lib.hid hb
  have l0 := new_lt hb
  have n0 : ¬ w.heap.size = w1.heap.size := by omega
  clear hb ho
  unfold ptV
  dsimp only
  go_wp2_with fail
  refine (HKY.out _ _ _ (HI.out.alloc _)).mono ?_
  rintro e w3 ⟨rfl, hb3⟩
  have HA3 := Lib.hid ((AtL.new w1 [.int .i64 0, .bool false, .slice (some ⟨g, off, none⟩) 1 cc, .int .u8 fin, .int .i64 s] 133).on hb3)
  have HI3 := Lib.hid ((HI.out.alloc _).on hb3)
  have HB3 := Lib.hid (below_past HB1.out hb3)
  have HC3 := Lib.hid (below_on (below_mk _ _) hb3)
  clear hb3 l0 n0
  obtain ⟨q0, q1, q2, q3, q4⟩ := HA3.out.five
  obtain ⟨hcc, hf⟩ := bcell HB3.out
  have l0 := new_lt HB3.out
  have l1 := HA3.out.1
  have n0 : ¬ w.heap.size = w3.heap.size := by omega
  have n1 : ¬ w1.heap.size = w3.heap.size := by omega
  unfold tkV
  dsimp only
  go_wp2_with fail
  have HE : ∀ A, Hid (NewTk w ⟨0, ⟨t1, t2, t3, t4, t5, t6, t7, []⟩, s + 2, tpaste, tnone⟩ (.returned (tkV ⟨0, ⟨t1, t2, t3, t4, t5, t6, t7, []⟩, s + 2, tpaste, tnone⟩ (.slice none 0 0))) ((sets w3 w.heap.size 0 (tkL ⟨0, ⟨t1, t2, t3, t4, t5, t6, t7, []⟩, s + 2, tpaste, tnone⟩ (.slice none 0 0))).alloc A)) := fun A => (tk_end (tkL ⟨0, ⟨t1, t2, t3, t4, t5, t6, t7, []⟩, s + 2, tpaste, tnone⟩ (.slice none 0 0)) (own_nil _ _) HB3.out).more A
  refine bodyPost_ret (v := tkV ⟨0, ⟨t1, t2, t3, t4, t5, t6, t7, []⟩, s + 2, tpaste, tnone⟩ (.slice none 0 0)) ?_ rfl (HE _).out
  simp [results, Tryz.results113, tkV, go_sem, hcc, l0]

end Go.Proofs.YtjopjddhgaiddabGreatDoor
