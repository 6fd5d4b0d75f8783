/- The program's tokens: sequenceToken. -/
import Derived.Test.YtjopjddhgaiddabGreatDoorQTokImpl3
namespace Go.Proofs.YtjopjddhgaiddabGreatDoor
open Go.RowKit
set_option linter.unusedVariables false

set_option maxRecDepth 100000 in
set_option maxHeartbeats 4000000 in
theorem sequenceToken_wait (p q : Option Addr) (n c c' : Nat) (w : World) (hn : 2 ≤ n) (h24 : n < 24) (hc : n ≤ c) (hq : (c = 2 ∧ q = p ∧ c' = 0) ∨ (¬ c = 2 ∧ q = p.map (·.add 2) ∧ c' = c - 2))
    (HP : Hid (∀ o, Calls Tryz.prog 147 #[.slice q (n - 2) c'] (w.alloc o) (NewPt (w.alloc o) ⟨6, false, [], 0, 0⟩))) :
    Calls Tryz.prog 136 #[.slice p n c] w (Waits w) := by
  have HB := Lib.hid (fun w => firstBytes_short p n c 24 w (by omega) hc (by omega))
  rcases hq with ⟨rfl, rfl, rfl⟩ | ⟨h2, rfl, rfl⟩
  · obtain rfl : n = 2 := by omega
    go_enter Tryz.func136, Tryz.ntmps136
    go_wp2_with fail
    refine (HB.out _).mono ?_
    rintro e w' ⟨rfl, rfl⟩
    go_wp2_with fail
    refine (HP.out _).mono ?_
    rintro e w1 ⟨v, rfl, ho, hb⟩
    obtain ⟨pp, cc, rfl⟩ := ho.slice
    have HB1 := Lib.hid hb
    clear hb ho
    unfold ptV
    dsimp only
    go_wp2_with fail
    exact ⟨rfl, rfl, below_on (below_on (below_mk _ _) HB1.out) (below_mk _ _)⟩
  · go_enter Tryz.func136, Tryz.ntmps136
    go_wp2_with fail
    refine (HB.out _).mono ?_
    rintro e w' ⟨rfl, rfl⟩
    go_wp2_with fail
    refine (HP.out _).mono ?_
    rintro e w1 ⟨v, rfl, ho, hb⟩
    obtain ⟨pp, cc, rfl⟩ := ho.slice
    have HB1 := Lib.hid hb
    clear hb ho
    unfold ptV
    dsimp only
    go_wp2_with fail
    exact ⟨rfl, rfl, below_on (below_on (below_mk _ _) HB1.out) (below_mk _ _)⟩

set_option maxRecDepth 100000 in
set_option maxHeartbeats 4000000 in
theorem sequenceToken_full (p : Option Addr) (n c : Nat) (d : List UInt8) (w : World) (h24 : 24 ≤ n) (hc : n ≤ c)
    (HP : Hid (∀ o, Calls Tryz.prog 147 #[.slice (p.map (·.add 2)) 22 (c - 2)] (w.alloc o) (NewPt (w.alloc o) ⟨6, false, [], 0, 0⟩)))
    (HR : Hid (∀ w', Below w.heap.size w w' → Calls Tryz.prog 103 #[.slice p 24 c] w' (NewTok w' (rawEv d) 24 false false))) :
    Calls Tryz.prog 136 #[.slice p n c] w (NewTok w (rawEv d) 24 false false) := by
  have HB := Lib.hid (fun w => firstBytes_long p n c 24 w (by omega) hc (by omega))
  have h2 : ¬ c = 2 := by omega
  go_enter Tryz.func136, Tryz.ntmps136
  go_wp2_with fail
  refine (HB.out _).mono ?_
  rintro e w' ⟨rfl, rfl⟩
  go_wp2_with fail
  refine (HP.out _).mono ?_
  rintro e w1 ⟨v, rfl, ho, hb⟩
  obtain ⟨pp, cc, rfl⟩ := ho.slice
  have HB1 := Lib.hid hb
  have HR2 := Lib.hid (fun A => HR.out _ (below_on (below_on (below_mk _ _) hb) (below_mk _ A)))
  clear hb ho HR
  unfold ptV
  dsimp only
  go_wp2_with fail
  refine (HR2.out _).mono ?_
  rintro e w2 ⟨v, rfl, ho, hb2⟩
  obtain ⟨pp, cc, hv⟩ := ho.slice
  subst hv
  have hb3 := below_past HB1.out hb2
  obtain ⟨hcc, hf⟩ := bcell hb3
  have HE : Hid (NewTok w (rawEv d) 24 false false (.returned (tokV (rawEv d) (.slice pp d.length cc) 24 false false)) (sets w2 w.heap.size 0 (tokL (rawEv d) (.slice pp d.length cc) 24 false false))) := tok_end (tokL (rawEv d) (.slice pp d.length cc) 24 false false) (ho.lower (past_le HB1.out _)) hb3
  clear ho hb2 hb3
  unfold tokV rawEv
  dsimp only
  go_wp2_with fail
  refine bodyPost_ret (v := tokV (rawEv d) (.slice pp d.length cc) 24 false false) ?_ rfl HE.out
  simp [results, Tryz.results136, tokV, rawEv, go_sem, hcc]

set_option maxRecDepth 100000 in
set_option maxHeartbeats 4000000 in
theorem sequenceToken_paste (p : Option Addr) (n c k s : Nat) (r : Pt) (w : World) (hk : 3 ≤ k) (hkc : k ≤ c) (h6 : (r.code == 6) = false) (hs : r.size = (s : Int)) (hs2 : s ≤ 22) (hl : r.nums.length ≤ 4) (hN : ∀ x ∈ r.nums, 0 ≤ x ∧ x ≤ 9999999)
    (HB : Hid (∀ w, Calls Tryz.prog 67 #[.slice p n c, .int .i64 24] w fun e w' => e = .returned (.slice p k c) ∧ w = w'))
    (HP : Hid (∀ o, Calls Tryz.prog 147 #[.slice (p.map (·.add 2)) (k - 2) (c - 2)] (w.alloc o) (NewPt (w.alloc o) r)))
    (hst : startsP (grow2 r) = true) :
    Calls Tryz.prog 136 #[.slice p n c] w (NewTok w noEv (s + 2) true true) := by
  have h2 : ¬ c = 2 := by omega
  have HST := Lib.hid (fun (pp : Option Addr) (cc : Nat) (w : World) hI => startsPaste_any (grow2 r) pp cc w hI hl)
  rw [hst] at HST
  obtain ⟨code, priv, nums, fin, size⟩ := r
  unfold grow2 ptV at HST
  dsimp only at *
  subst hs
  clear hst hN
  go_enter Tryz.func136, Tryz.ntmps136
  go_wp2_with fail
  refine (HB.out _).mono ?_
  rintro e w' ⟨rfl, rfl⟩
  go_wp2_with fail
  refine (HP.out _).mono ?_
  rintro e w1 ⟨v, rfl, ho, hb⟩
  obtain ⟨pp, cc, rfl⟩ := ho.slice
  have HB1 := Lib.hid hb
  have HI := Lib.hid ho.is.2
  have l0 := new_lt hb
  have n0 : ¬ w.heap.size = w1.heap.size := by omega
  clear hb ho
  unfold ptV
  dsimp only
  go_wp2_with fail
  refine (HST.out _ _ _ (HI.out.alloc _)).mono ?_
  rintro e w2 ⟨rfl, hb2⟩
  have HA2 := Lib.hid ((AtL.new w1 [.int .i64 code, .bool priv, .slice pp nums.length cc, .int .u8 fin, .int .i64 (s + 2)] 133).on hb2)
  have HI2 := Lib.hid ((HI.out.alloc _).on hb2)
  have HB2 := Lib.hid (below_past HB1.out hb2)
  clear hb2 l0 n0
  obtain ⟨q0, q1, q2, q3, q4⟩ := HA2.out.five
  obtain ⟨hcc, hf⟩ := bcell HB2.out
  go_wp2_with fail
  have HE : Hid (NewTok w noEv (s + 2) true true (.returned (tokV noEv (.slice none 0 0) (s + 2) true true)) (sets w2 w.heap.size 0 (tokL noEv (.slice none 0 0) (s + 2) true true))) := tok_end (tokL noEv (.slice none 0 0) (s + 2) true true) (own_nil _ _) HB2.out
  refine bodyPost_ret (v := tokV noEv (.slice none 0 0) (s + 2) true true) ?_ rfl HE.out
  simp [results, Tryz.results136, tokV, noEv, go_sem, hcc]

set_option maxRecDepth 100000 in
set_option maxHeartbeats 4000000 in
theorem sequenceToken_key (p : Option Addr) (n c k s : Nat) (r : Pt) (w : World) (hk : 3 ≤ k) (hkc : k ≤ c) (h6 : (r.code == 6) = false) (hs : r.size = (s : Int)) (hs2 : s ≤ 22) (hl : r.nums.length ≤ 4) (hN : ∀ x ∈ r.nums, 0 ≤ x ∧ x ≤ 9999999)
    (HB : Hid (∀ w, Calls Tryz.prog 67 #[.slice p n c, .int .i64 24] w fun e w' => e = .returned (.slice p k c) ∧ w = w'))
    (HP : Hid (∀ o, Calls Tryz.prog 147 #[.slice (p.map (·.add 2)) (k - 2) (c - 2)] (w.alloc o) (NewPt (w.alloc o) r)))
    (hst : startsP (grow2 r) = false) (tk : Tk) (htk : keyP (grow2 r) = tk) (h0 : tk.code = 0) (hd : tk.ev.data = []) :
    Calls Tryz.prog 136 #[.slice p n c] w (NewTok w tk.ev tk.size tk.paste tk.none) := by
  have h2 : ¬ c = 2 := by omega
  have HST := Lib.hid (fun (pp : Option Addr) (cc : Nat) (w : World) hI => startsPaste_any (grow2 r) pp cc w hI hl)
  rw [hst] at HST
  have HKY := Lib.hid (fun (pp : Option Addr) (cc : Nat) (w : World) hI => implKeyOfParts_any (grow2 r) pp cc w hI hl)
  rw [htk] at HKY
  obtain ⟨code, priv, nums, fin, size⟩ := r
  unfold grow2 ptV at HST HKY
  dsimp only at *
  subst hs
  obtain ⟨tcode, ⟨t1, t2, t3, t4, t5, t6, t7, td⟩, tsize, tpaste, tnone⟩ := tk
  dsimp only at *
  subst h0 hd
  clear hst hN htk
  go_enter Tryz.func136, Tryz.ntmps136
  go_wp2_with fail
  refine (HB.out _).mono ?_
  rintro e w' ⟨rfl, rfl⟩
  go_wp2_with fail
  refine (HP.out _).mono ?_
  rintro e w1 ⟨v, rfl, ho, hb⟩
  obtain ⟨pp, cc, rfl⟩ := ho.slice
  have HB1 := Lib.hid hb
  have HI := Lib.hid ho.is.2
  have l0 := new_lt hb
  have n0 : ¬ w.heap.size = w1.heap.size := by omega
  clear hb ho
  unfold ptV
  dsimp only
  go_wp2_with fail
  refine (HST.out _ _ _ (HI.out.alloc _)).mono ?_
  rintro e w2 ⟨rfl, hb2⟩
  have HA2 := Lib.hid ((AtL.new w1 [.int .i64 code, .bool priv, .slice pp nums.length cc, .int .u8 fin, .int .i64 (s + 2)] 133).on hb2)
  have HI2 := Lib.hid ((HI.out.alloc _).on hb2)
  have HB2 := Lib.hid (below_past HB1.out hb2)
  clear hb2 l0 n0
  obtain ⟨q0, q1, q2, q3, q4⟩ := HA2.out.five
  obtain ⟨hcc, hf⟩ := bcell HB2.out
  go_wp2_with fail
  refine (HKY.out _ _ _ HI2.out).mono ?_
  rintro e w3 ⟨rfl, hb3⟩
  have HA3 := Lib.hid (HA2.out.on hb3)
  have HI3 := Lib.hid (HI2.out.on hb3)
  have HB3 := Lib.hid (HB2.out.trans (hb3.mono HB2.out.size))
  clear hb3 q0 q1 q2 q3 q4 hcc hf
  obtain ⟨q0, q1, q2, q3, q4⟩ := HA3.out.five
  obtain ⟨hcc, hf⟩ := bcell HB3.out
  have l0 := new_lt HB3.out
  have l1 := HA3.out.1
  have n0 : ¬ w.heap.size = w3.heap.size := by omega
  have n1 : ¬ w1.heap.size = w3.heap.size := by omega
  unfold tkV
  dsimp only
  go_wp2_with fail
  have HE : ∀ A, Hid (NewTok w ⟨t1, t2, t3, t4, t5, t6, t7, []⟩ tsize tpaste tnone (.returned (tokV ⟨t1, t2, t3, t4, t5, t6, t7, []⟩ (.slice none 0 0) tsize tpaste tnone)) ((sets w3 w.heap.size 0 (tokL ⟨t1, t2, t3, t4, t5, t6, t7, []⟩ (.slice none 0 0) tsize tpaste tnone)).alloc A)) := fun A => (tok_end (tokL ⟨t1, t2, t3, t4, t5, t6, t7, []⟩ (.slice none 0 0) tsize tpaste tnone) (own_nil _ _) HB3.out).more A
  refine bodyPost_ret (v := tokV ⟨t1, t2, t3, t4, t5, t6, t7, []⟩ (.slice none 0 0) tsize tpaste tnone) ?_ rfl (HE _).out
  simp [results, Tryz.results136, tokV, go_sem, hcc, l0]

set_option maxRecDepth 100000 in
set_option maxHeartbeats 4000000 in
theorem sequenceToken_mouse (p : Option Addr) (n c k s : Nat) (r : Pt) (w : World) (hk : 3 ≤ k) (hkc : k ≤ c) (h6 : (r.code == 6) = false) (hs : r.size = (s : Int)) (hs2 : s ≤ 22) (hl : r.nums.length ≤ 4) (hN : ∀ x ∈ r.nums, 0 ≤ x ∧ x ≤ 9999999)
    (HB : Hid (∀ w, Calls Tryz.prog 67 #[.slice p n c, .int .i64 24] w fun e w' => e = .returned (.slice p k c) ∧ w = w'))
    (HP : Hid (∀ o, Calls Tryz.prog 147 #[.slice (p.map (·.add 2)) (k - 2) (c - 2)] (w.alloc o) (NewPt (w.alloc o) r)))
    (hst : startsP (grow2 r) = false) (hky : keyP (grow2 r) = badTk 5) (tk : Tk) (htk : mouseP (grow2 r) = tk) (h0 : tk.code = 0) (hd : tk.ev.data = []) :
    Calls Tryz.prog 136 #[.slice p n c] w (NewTok w tk.ev tk.size tk.paste tk.none) := by
  have h2 : ¬ c = 2 := by omega
  have HST := Lib.hid (fun (pp : Option Addr) (cc : Nat) (w : World) hI => startsPaste_any (grow2 r) pp cc w hI hl)
  rw [hst] at HST
  have HKY := Lib.hid (fun (pp : Option Addr) (cc : Nat) (w : World) hI => implKeyOfParts_any (grow2 r) pp cc w hI hl)
  rw [hky] at HKY
  have HMS := Lib.hid (fun (pp : Option Addr) (cc : Nat) (w : World) hI => implMouseOfParts_any (grow2 r) pp cc w hI hl hN)
  rw [htk] at HMS
  obtain ⟨code, priv, nums, fin, size⟩ := r
  unfold grow2 ptV at HST HKY HMS
  dsimp only at *
  subst hs
  obtain ⟨tcode, ⟨t1, t2, t3, t4, t5, t6, t7, td⟩, tsize, tpaste, tnone⟩ := tk
  dsimp only at *
  subst h0 hd
  clear hst hN htk hky
  go_enter Tryz.func136, Tryz.ntmps136
  go_wp2_with fail
  refine (HB.out _).mono ?_
  rintro e w' ⟨rfl, rfl⟩
  go_wp2_with fail
  refine (HP.out _).mono ?_
  rintro e w1 ⟨v, rfl, ho, hb⟩
  obtain ⟨pp, cc, rfl⟩ := ho.slice
  have HB1 := Lib.hid hb
  have HI := Lib.hid ho.is.2
  have l0 := new_lt hb
  have n0 : ¬ w.heap.size = w1.heap.size := by omega
  clear hb ho
  unfold ptV
  dsimp only
  go_wp2_with fail
  refine (HST.out _ _ _ (HI.out.alloc _)).mono ?_
  rintro e w2 ⟨rfl, hb2⟩
  have HA2 := Lib.hid ((AtL.new w1 [.int .i64 code, .bool priv, .slice pp nums.length cc, .int .u8 fin, .int .i64 (s + 2)] 133).on hb2)
  have HI2 := Lib.hid ((HI.out.alloc _).on hb2)
  have HB2 := Lib.hid (below_past HB1.out hb2)
  clear hb2 l0 n0
  obtain ⟨q0, q1, q2, q3, q4⟩ := HA2.out.five
  obtain ⟨hcc, hf⟩ := bcell HB2.out
  go_wp2_with fail
  refine (HKY.out _ _ _ HI2.out).mono ?_
  rintro e w3 ⟨rfl, hb3⟩
  have HA3 := Lib.hid (HA2.out.on hb3)
  have HI3 := Lib.hid (HI2.out.on hb3)
  have HB3 := Lib.hid (HB2.out.trans (hb3.mono HB2.out.size))
  clear hb3 q0 q1 q2 q3 q4 hcc hf
  obtain ⟨q0, q1, q2, q3, q4⟩ := HA3.out.five
  obtain ⟨hcc, hf⟩ := bcell HB3.out
  have l0 := new_lt HB3.out
  have l1 := HA3.out.1
  have n0 : ¬ w.heap.size = w3.heap.size := by omega
  have n1 : ¬ w1.heap.size = w3.heap.size := by omega
  unfold tkV badTk noEv
  dsimp only
  go_wp2_with fail
  refine (HMS.out _ _ _ (HI3.out.alloc _)).mono ?_
  rintro e w4 ⟨rfl, hb4⟩
  have HA4 := Lib.hid (HA3.out.on (below_on (below_mk _ _) hb4))
  have HI4 := Lib.hid (HI3.out.on (below_on (below_mk _ _) hb4))
  have HB4 := Lib.hid (below_past HB3.out hb4)
  clear hb4 q0 q1 q2 q3 q4 hcc hf l0 l1 n0 n1
  obtain ⟨q0, q1, q2, q3, q4⟩ := HA4.out.five
  obtain ⟨hcc, hf⟩ := bcell HB4.out
  have l0 := new_lt HB4.out
  have l1 := HA4.out.1
  have n0 : ¬ w.heap.size = w4.heap.size := by omega
  have n1 : ¬ w1.heap.size = w4.heap.size := by omega
  unfold tkV
  dsimp only
  go_wp2_with fail
  have HE : ∀ A, Hid (NewTok w ⟨t1, t2, t3, t4, t5, t6, t7, []⟩ tsize tpaste tnone (.returned (tokV ⟨t1, t2, t3, t4, t5, t6, t7, []⟩ (.slice none 0 0) tsize tpaste tnone)) ((sets w4 w.heap.size 0 (tokL ⟨t1, t2, t3, t4, t5, t6, t7, []⟩ (.slice none 0 0) tsize tpaste tnone)).alloc A)) := fun A => (tok_end (tokL ⟨t1, t2, t3, t4, t5, t6, t7, []⟩ (.slice none 0 0) tsize tpaste tnone) (own_nil _ _) HB4.out).more A
  refine bodyPost_ret (v := tokV ⟨t1, t2, t3, t4, t5, t6, t7, []⟩ (.slice none 0 0) tsize tpaste tnone) ?_ rfl (HE _).out
  simp [results, Tryz.results136, tokV, go_sem, hcc, l0]

set_option maxRecDepth 100000 in
set_option maxHeartbeats 4000000 in
theorem sequenceToken_raw (p : Option Addr) (n c k s : Nat) (r : Pt) (w : World) (hk : 3 ≤ k) (hkc : k ≤ c) (h6 : (r.code == 6) = false) (hs : r.size = (s : Int)) (hs2 : s ≤ 22) (hsk : s + 2 ≤ k) (d : List UInt8) (hl : r.nums.length ≤ 4) (hN : ∀ x ∈ r.nums, 0 ≤ x ∧ x ≤ 9999999)
    (HB : Hid (∀ w, Calls Tryz.prog 67 #[.slice p n c, .int .i64 24] w fun e w' => e = .returned (.slice p k c) ∧ w = w'))
    (HP : Hid (∀ o, Calls Tryz.prog 147 #[.slice (p.map (·.add 2)) (k - 2) (c - 2)] (w.alloc o) (NewPt (w.alloc o) r)))
    (hst : startsP (grow2 r) = false) (hky : keyP (grow2 r) = badTk 5) (htk : mouseP (grow2 r) = badTk 5)
    (HR : Hid (∀ w', Below w.heap.size w w' → Calls Tryz.prog 103 #[.slice p (s + 2) c] w' (NewTok w' (rawEv d) (s + 2) false false))) :
    Calls Tryz.prog 136 #[.slice p n c] w (NewTok w (rawEv d) (s + 2) false false) := by
  have h2 : ¬ c = 2 := by omega
  have HST := Lib.hid (fun (pp : Option Addr) (cc : Nat) (w : World) hI => startsPaste_any (grow2 r) pp cc w hI hl)
  rw [hst] at HST
  have HKY := Lib.hid (fun (pp : Option Addr) (cc : Nat) (w : World) hI => implKeyOfParts_any (grow2 r) pp cc w hI hl)
  rw [hky] at HKY
  have HMS := Lib.hid (fun (pp : Option Addr) (cc : Nat) (w : World) hI => implMouseOfParts_any (grow2 r) pp cc w hI hl hN)
  rw [htk] at HMS
  obtain ⟨code, priv, nums, fin, size⟩ := r
  unfold grow2 ptV at HST HKY HMS
  dsimp only at *
  subst hs
  clear hst hN htk hky
  go_enter Tryz.func136, Tryz.ntmps136
  go_wp2_with fail
  refine (HB.out _).mono ?_
  rintro e w' ⟨rfl, rfl⟩
  go_wp2_with fail
  refine (HP.out _).mono ?_
  rintro e w1 ⟨v, rfl, ho, hb⟩
  obtain ⟨pp, cc, rfl⟩ := ho.slice
  have HB1 := Lib.hid hb
  have HI := Lib.hid ho.is.2
  have l0 := new_lt hb
  have n0 : ¬ w.heap.size = w1.heap.size := by omega
  clear hb ho
  unfold ptV
  dsimp only
  go_wp2_with fail
  refine (HST.out _ _ _ (HI.out.alloc _)).mono ?_
  rintro e w2 ⟨rfl, hb2⟩
  have HA2 := Lib.hid ((AtL.new w1 [.int .i64 code, .bool priv, .slice pp nums.length cc, .int .u8 fin, .int .i64 (s + 2)] 133).on hb2)
  have HI2 := Lib.hid ((HI.out.alloc _).on hb2)
  have HB2 := Lib.hid (below_past HB1.out hb2)
  clear hb2 l0 n0
  obtain ⟨q0, q1, q2, q3, q4⟩ := HA2.out.five
  obtain ⟨hcc, hf⟩ := bcell HB2.out
  go_wp2_with fail
  refine (HKY.out _ _ _ HI2.out).mono ?_
  rintro e w3 ⟨rfl, hb3⟩
  have HA3 := Lib.hid (HA2.out.on hb3)
  have HI3 := Lib.hid (HI2.out.on hb3)
  have HB3 := Lib.hid (HB2.out.trans (hb3.mono HB2.out.size))
  clear hb3 q0 q1 q2 q3 q4 hcc hf
  obtain ⟨q0, q1, q2, q3, q4⟩ := HA3.out.five
  obtain ⟨hcc, hf⟩ := bcell HB3.out
  have l0 := new_lt HB3.out
  have l1 := HA3.out.1
  have n0 : ¬ w.heap.size = w3.heap.size := by omega
  have n1 : ¬ w1.heap.size = w3.heap.size := by omega
  unfold tkV badTk noEv
  dsimp only
  go_wp2_with fail
  refine (HMS.out _ _ _ (HI3.out.alloc _)).mono ?_
  rintro e w4 ⟨rfl, hb4⟩
  have HA4 := Lib.hid (HA3.out.on (below_on (below_mk _ _) hb4))
  have HI4 := Lib.hid (HI3.out.on (below_on (below_mk _ _) hb4))
  have HB4 := Lib.hid (below_past HB3.out hb4)
  clear hb4 q0 q1 q2 q3 q4 hcc hf l0 l1 n0 n1
  obtain ⟨q0, q1, q2, q3, q4⟩ := HA4.out.five
  obtain ⟨hcc, hf⟩ := bcell HB4.out
  have l0 := new_lt HB4.out
  have l1 := HA4.out.1
  have n0 : ¬ w.heap.size = w4.heap.size := by omega
  have n1 : ¬ w1.heap.size = w4.heap.size := by omega
  have HR2 := Lib.hid (fun A => HR.out _ (below_on (below_on (below_mk _ _) HB4.out) (below_mk _ A)))
  clear HR
  unfold tkV badTk noEv
  dsimp only
  go_wp2_with fail
  refine (HR2.out _).mono ?_
  rintro e w5 ⟨v, rfl, ho, hb5⟩
  obtain ⟨px, cx, hv⟩ := ho.slice
  subst hv
  have hb6 := below_past HB4.out hb5
  have HE : Hid (NewTok w (rawEv d) (s + 2) false false (.returned (tokV (rawEv d) (.slice px d.length cx) (s + 2) false false)) (sets w5 w.heap.size 0 (tokL (rawEv d) (.slice px d.length cx) (s + 2) false false))) := tok_end (tokL (rawEv d) (.slice px d.length cx) (s + 2) false false) (ho.lower (past_le HB4.out _)) hb6
  clear hcc hf l0 l1 n0 n1 q0 q1 q2 q3 q4
  obtain ⟨hcc, hf⟩ := bcell hb6
  clear ho hb5 hb6
  unfold tokV rawEv
  dsimp only
  go_wp2_with fail
  refine bodyPost_ret (v := tokV (rawEv d) (.slice px d.length cx) (s + 2) false false) ?_ rfl HE.out
  simp [results, Tryz.results136, tokV, rawEv, go_sem, hcc]

end Go.Proofs.YtjopjddhgaiddabGreatDoor
