/- The model's tokens: what the ways of l3Sequence share. -/
import Derived.Test.YtcchhlcgamcceaaDoorQTokPureToTokImpl4
import Derived.Test.YtcchhlcgamcceaaDoorQSpecMouse3ToSpecMouse4
import Derived.Test.YtcchhlcgamcceaaDoorQPartsSpec
import Derived.Deep.Cut
import Derived.Test.YtcchhlcgamcceaaDoorQFirstSpec3
namespace Go.Proofs.YtcchhlcgamcceaaDoor
open Go.RowKit
set_option linter.unusedVariables false

theorem NewTk.more {w w' : World} {t : Tk} {en : Ending} (h : NewTk w t en w') (A : Obj) : NewTk w t en (w'.alloc A) := by
  obtain ⟨v, he, ho, hb⟩ := h
  exact ⟨v, he, ho.on (below_mk _ _), below_on hb (below_mk _ _)⟩
theorem wp_gen {P : Program} {code : Code} {Q : Exit → Act → World → Prop} {a : Act} {W : World} (C : World → Prop) (h : C W) (k : ∀ W', C W' → Code.wp P code Q a W') : Code.wp P code Q a W := k W h
theorem AtL.twelve {w : World} {b : Nat} {v0 v1 v2 v3 v4 v5 v6 v7 v8 v9 v10 v11 : Value} (h : AtL w b [v0, v1, v2, v3, v4, v5, v6, v7, v8, v9, v10, v11]) : w.cell? ⟨b, 0, none⟩ = some v0 ∧ w.cell? ⟨b, 1, none⟩ = some v1 ∧ w.cell? ⟨b, 2, none⟩ = some v2 ∧ w.cell? ⟨b, 3, none⟩ = some v3 ∧ w.cell? ⟨b, 4, none⟩ = some v4 ∧ w.cell? ⟨b, 5, none⟩ = some v5 ∧ w.cell? ⟨b, 6, none⟩ = some v6 ∧ w.cell? ⟨b, 7, none⟩ = some v7 ∧ w.cell? ⟨b, 8, none⟩ = some v8 ∧ w.cell? ⟨b, 9, none⟩ = some v9 ∧ w.cell? ⟨b, 10, none⟩ = some v10 ∧ w.cell? ⟨b, 11, none⟩ = some v11 :=
  ⟨h.get 0 rfl, h.get 1 rfl, h.get 2 rfl, h.get 3 rfl, h.get 4 rfl, h.get 5 rfl, h.get 6 rfl, h.get 7 rfl, h.get 8 rfl, h.get 9 rfl, h.get 10 rfl, h.get 11 rfl⟩

end Go.Proofs.YtcchhlcgamcceaaDoor

/- The model's tokens: l3Sequence. -/
namespace Go.Proofs.YtcchhlcgamcceaaDoor
open Go.RowKit
set_option linter.unusedVariables false

set_option maxRecDepth 100000 in
set_option maxHeartbeats 4000000 in
theorem l3Sequence_wait (p q : Option Addr) (n c c' : Nat) (w : World) (hn : 2 ≤ n) (h24 : n < 24) (hc : n ≤ c) (hq : (c = 2 ∧ q = p ∧ c' = 0) ∨ (¬ c = 2 ∧ q = p.map (·.add 2) ∧ c' = c - 2))
    (HP : Hid (∀ o, Calls Tryd.prog 49 #[.slice q (n - 2) c'] (w.alloc o) (NewPt (w.alloc o) ⟨6, false, [], 0, 0⟩))) :
    Calls Tryd.prog 31 #[.slice p n c] w (PlainTk w (badTk 6)) := by
  have hm : lesser (n : Int) 24 = n := by unfold lesser; rw [if_pos (by omega)]
  rcases hq with ⟨rfl, rfl, rfl⟩ | ⟨h2, rfl, rfl⟩
  · obtain rfl : n = 2 := by omega
    clear hm
    go_enter Tryd.func31, Tryd.ntmps31
    go_wp2_with fail
    refine (l1Min_any _ _ _).mono ?_
    rintro e w' ⟨rfl, rfl⟩
    simp only [show lesser 2 24 = 2 from rfl]
    go_wp2_with fail
    refine (HP.out _).mono ?_
    rintro e w1 ⟨v, rfl, ho, hb⟩
    obtain ⟨pp, cc, rfl⟩ := ho.slice
    have HB1 := Lib.hid hb
    have l0 := new_lt hb
    have n0 : ¬ w.heap.size = w1.heap.size := by omega
    clear hb ho
    unfold ptV
    dsimp only
    go_wp2_with fail
    refine (l3Bad_any _ _).mono ?_
    rintro e w2 ⟨rfl, hb2⟩
    have hb3 := below_past HB1.out hb2
    have HE : Hid (PlainTk w (badTk 6) (.returned (tkV (badTk 6) (.slice none 0 0))) (sets w2 w.heap.size 0 (tkL (badTk 6) (.slice none 0 0)))) := tk_end_plain (tkL (badTk 6) (.slice none 0 0)) hb3
    obtain ⟨hcc, hf⟩ := bcell hb3
    clear hb2 hb3
    unfold tkV badTk noEv
    go_wp2_with fail
    refine bodyPost_ret (v := tkV (badTk 6) (.slice none 0 0)) ?_ rfl HE.out
    simp [results, Tryd.results31, tkV, badTk, noEv, go_sem, hcc]
  · skip
    go_enter Tryd.func31, Tryd.ntmps31
    go_wp2_with fail
    refine (l1Min_any _ _ _).mono ?_
    rintro e w' ⟨rfl, rfl⟩
    rw [hm]
    go_wp2_with fail
    refine (HP.out _).mono ?_
    rintro e w1 ⟨v, rfl, ho, hb⟩
    obtain ⟨pp, cc, rfl⟩ := ho.slice
    have HB1 := Lib.hid hb
    have l0 := new_lt hb
    have n0 : ¬ w.heap.size = w1.heap.size := by omega
    clear hb ho
    unfold ptV
    dsimp only
    go_wp2_with fail
    refine (l3Bad_any _ _).mono ?_
    rintro e w2 ⟨rfl, hb2⟩
    have hb3 := below_past HB1.out hb2
    have HE : Hid (PlainTk w (badTk 6) (.returned (tkV (badTk 6) (.slice none 0 0))) (sets w2 w.heap.size 0 (tkL (badTk 6) (.slice none 0 0)))) := tk_end_plain (tkL (badTk 6) (.slice none 0 0)) hb3
    obtain ⟨hcc, hf⟩ := bcell hb3
    clear hb2 hb3
    unfold tkV badTk noEv
    go_wp2_with fail
    refine bodyPost_ret (v := tkV (badTk 6) (.slice none 0 0)) ?_ rfl HE.out
    simp [results, Tryd.results31, tkV, badTk, noEv, go_sem, hcc]

set_option maxRecDepth 100000 in
set_option maxHeartbeats 4000000 in
theorem l3Sequence_full (p : Option Addr) (n c : Nat) (d : List UInt8) (w : World) (h24 : 24 ≤ n) (hc : n ≤ c)
    (HP : Hid (∀ o, Calls Tryd.prog 49 #[.slice (p.map (·.add 2)) 22 (c - 2)] (w.alloc o) (NewPt (w.alloc o) ⟨6, false, [], 0, 0⟩)))
    (HR : Hid (∀ w', Below w.heap.size w w' → Calls Tryd.prog 18 #[.slice p n c] w' (NewTk w' (rTk d 24)))) :
    Calls Tryd.prog 31 #[.slice p n c] w (NewTk w (rTk d 24)) := by
  have hm : lesser (n : Int) 24 = 24 := by unfold lesser; rw [if_neg (by omega)]
  have h2 : ¬ c = 2 := by omega
  go_enter Tryd.func31, Tryd.ntmps31
  go_wp2_with fail
  refine (l1Min_any _ _ _).mono ?_
  rintro e w' ⟨rfl, rfl⟩
  rw [hm]
  go_wp2_with fail
  refine (HP.out _).mono ?_
  rintro e w1 ⟨v, rfl, ho, hb⟩
  obtain ⟨pp, cc, rfl⟩ := ho.slice
  have HR2 := Lib.hid (fun A => HR.out _ (below_on (below_on (below_mk _ _) hb) (below_mk _ A)))
  clear HR
  have HB1 := Lib.hid hb
  have l0 := new_lt hb
  have n0 : ¬ w.heap.size = w1.heap.size := by omega
  clear hb ho
  unfold ptV
  dsimp only
  go_wp2_with fail
  refine (HR2.out _).mono ?_
  rintro e w9 ⟨v, rfl, ho, hb9⟩
  obtain ⟨px, cx, hv⟩ := ho.slice
  subst hv
  have hb6 := below_past HB1.out hb9
  have HE : Hid (NewTk w (rTk d 24) (.returned (tkV (rTk d 24) (.slice px d.length cx))) (sets w9 w.heap.size 0 (tkL (rTk d 24) (.slice px d.length cx)))) := tk_end (tkL (rTk d 24) (.slice px d.length cx)) (ho.lower (past_le HB1.out _)) hb6
  clear l0 n0
  obtain ⟨hcc, hf⟩ := bcell hb6
  clear ho hb9 hb6
  unfold tkV rTk rawEv
  dsimp only
  go_wp2_with fail
  refine bodyPost_ret (v := tkV (rTk d 24) (.slice px d.length cx)) ?_ rfl HE.out
  simp [results, Tryd.results31, tkV, rTk, rawEv, go_sem, hcc]

set_option maxRecDepth 100000 in
set_option maxHeartbeats 4000000 in
theorem l3Sequence_text (p : Option Addr) (n c k s : Nat) (r : Pt) (w : World) (hk : 3 ≤ k) (hkc : k ≤ c) (hs : r.size = (s : Int)) (hs2 : s ≤ 22) (hsk : s + 2 ≤ k) (hm : lesser (n : Int) 24 = k) (hl : r.nums.length ≤ 4) (hN : ∀ x ∈ r.nums, 0 ≤ x ∧ x ≤ 9999999)
    (HP : Hid (∀ o, Calls Tryd.prog 49 #[.slice (p.map (·.add 2)) (k - 2) (c - 2)] (w.alloc o) (NewPt (w.alloc o) r))) (h6 : (r.code == 6) = false) (h0 : (r.code == 0) = false) (d : List UInt8) (HR : Hid (∀ w', Below w.heap.size w w' → Calls Tryd.prog 18 #[.slice p (s + 2) c] w' (NewTk w' (rTk d (s + 2))))) :
    Calls Tryd.prog 31 #[.slice p n c] w (NewTk w (rTk d (s + 2))) := by
  have h2 : ¬ c = 2 := by omega
  obtain ⟨code, priv, nums, fin, size⟩ := r
  dsimp only at *
  subst hs
  clear hN
  go_enter Tryd.func31, Tryd.ntmps31
  go_wp2_with fail
  refine (l1Min_any _ _ _).mono ?_
  rintro e w' ⟨rfl, rfl⟩
  rw [hm]
  go_wp2_with fail
  refine (HP.out _).mono ?_
  rintro e w1 ⟨v, rfl, ho, hb⟩
  obtain ⟨pp, cc, rfl⟩ := ho.slice
  have HR2 := Lib.hid (fun A => HR.out _ (below_on (below_on (below_mk _ _) hb) (below_mk _ A)))
  clear HR
  have HB1 := Lib.hid hb
  have l0 := new_lt hb
  have n0 : ¬ w.heap.size = w1.heap.size := by omega
  clear hb ho
  unfold ptV
  dsimp only
  go_wp2_with fail
  refine (HR2.out _).mono ?_
  rintro e w9 ⟨v, rfl, ho, hb9⟩
  obtain ⟨px, cx, hv⟩ := ho.slice
  subst hv
  have hb6 := below_past HB1.out hb9
  have HE : Hid (NewTk w (rTk d (s + 2)) (.returned (tkV (rTk d (s + 2)) (.slice px d.length cx))) (sets w9 w.heap.size 0 (tkL (rTk d (s + 2)) (.slice px d.length cx)))) := tk_end (tkL (rTk d (s + 2)) (.slice px d.length cx)) (ho.lower (past_le HB1.out _)) hb6
  clear l0 n0
  obtain ⟨hcc, hf⟩ := bcell hb6
  clear ho hb9 hb6
  unfold tkV rTk rawEv
  dsimp only
  go_wp2_with fail
  refine bodyPost_ret (v := tkV (rTk d (s + 2)) (.slice px d.length cx)) ?_ rfl HE.out
  simp [results, Tryd.results31, tkV, rTk, rawEv, go_sem, hcc]

set_option maxRecDepth 100000 in
set_option maxHeartbeats 4000000 in
theorem l3Sequence_paste (p : Option Addr) (n c k s : Nat) (r : Pt) (w : World) (hk : 3 ≤ k) (hkc : k ≤ c) (hs : r.size = (s : Int)) (hs2 : s ≤ 22) (hsk : s + 2 ≤ k) (hm : lesser (n : Int) 24 = k) (hl : r.nums.length ≤ 4) (hN : ∀ x ∈ r.nums, 0 ≤ x ∧ x ≤ 9999999)
    (HP : Hid (∀ o, Calls Tryd.prog 49 #[.slice (p.map (·.add 2)) (k - 2) (c - 2)] (w.alloc o) (NewPt (w.alloc o) r))) (h0 : r.code = 0) (x : Int) (hp : r.priv = false) (hfin : (r.fin == 126) = true) (hx : r.nums = [x]) (hx2 : (x == 200) = true) :
    Calls Tryd.prog 31 #[.slice p n c] w (NewTk w (pasteOn (s + 2))) := by
  have h2 : ¬ c = 2 := by omega
  have hr0 : r.code = 0 := h0
  obtain ⟨code, priv, nums, fin, size⟩ := r
  dsimp only at *
  subst hs
  subst hr0
  subst hp hx
  clear hN h0
  go_enter Tryd.func31, Tryd.ntmps31
  go_wp2_with fail
  refine (l1Min_any _ _ _).mono ?_
  rintro e w' ⟨rfl, rfl⟩
  rw [hm]
  go_wp2_with fail
  refine (HP.out _).mono ?_
  rintro e w1 ⟨v, rfl, ho, hb⟩
  obtain ⟨pp, cc, rfl⟩ := ho.slice
  obtain ⟨g, off, rfl, hg, hcx⟩ := ho.is.2.cons
  have hx0 : w1.cell? ⟨g, off, none⟩ = some (.int .i64 x) := hcx 0 (by simp)
  have HI := Lib.hid ho.is.2
  obtain ⟨hcc, hf⟩ := bcell hb
  clear hcx
  have HB1 := Lib.hid hb
  have l0 := new_lt hb
  have n0 : ¬ w.heap.size = w1.heap.size := by omega
  clear hb ho
  unfold ptV
  dsimp only
  go_wp2_with fail
  have HE : Hid (NewTk w (pasteOn (s + 2)) (.returned (tkV (pasteOn (s + 2)) (.slice none 0 0))) ((sets w1 w.heap.size 0 (tkL (pasteOn (s + 2)) (.slice none 0 0))))) := tk_end (tkL (pasteOn (s + 2)) (.slice none 0 0)) (own_nil _ _) HB1.out
  have HE2 := fun A => Lib.hid (HE.out.more A)
  refine bodyPost_ret (v := tkV (pasteOn (s + 2)) (.slice none 0 0)) ?_ rfl (HE2 _).out
  simp [results, Tryd.results31, tkV, pasteOn, noEv, go_sem, hcc, l0]

end Go.Proofs.YtcchhlcgamcceaaDoor

/- The model's tokens: l3Sequence. -/
namespace Go.Proofs.YtcchhlcgamcceaaDoor
open Go.RowKit
set_option linter.unusedVariables false

set_option maxRecDepth 100000 in
set_option maxHeartbeats 4000000 in
theorem l3Sequence_key2 (p : Option Addr) (n c k s : Nat) (r : Pt) (w : World) (hk : 3 ≤ k) (hkc : k ≤ c) (hs : r.size = (s : Int)) (hs2 : s ≤ 22) (hsk : s + 2 ≤ k) (hm : lesser (n : Int) 24 = k) (hl : r.nums.length ≤ 4) (hN : ∀ x ∈ r.nums, 0 ≤ x ∧ x ≤ 9999999)
    (HP : Hid (∀ o, Calls Tryd.prog 49 #[.slice (p.map (·.add 2)) (k - 2) (c - 2)] (w.alloc o) (NewPt (w.alloc o) r))) (h0 : r.code = 0) (hp : r.priv = false) (hfin : (r.fin == 126) = false) (tk : Tk) (ht0 : tk.code = 0) (htd : tk.ev.data = []) (hky : keyP r = tk) :
    Calls Tryd.prog 31 #[.slice p n c] w (NewTk w ⟨0, tk.ev, s + 2, tk.paste, tk.none⟩) := by
  have h2 : ¬ c = 2 := by omega
  have hr0 : r.code = 0 := h0
  have HKY := Lib.hid (fun (pp : Option Addr) (cc : Nat) (w : World) hI => specKeyOfParts_any r pp cc w hI hl hN (.inl hr0))
  rw [hky] at HKY
  obtain ⟨code, priv, nums, fin, size⟩ := r
  unfold ptV at HKY
  dsimp only at *
  subst hs
  subst hr0
  subst hp
  obtain ⟨tcode, ⟨t1, t2, t3, t4, t5, t6, t7, td⟩, tsize, tpaste, tnone⟩ := tk
  dsimp only at *
  subst ht0 htd
  clear hN h0 hky
  go_enter Tryd.func31, Tryd.ntmps31
  go_wp2_with fail
  refine (l1Min_any _ _ _).mono ?_
  rintro e w' ⟨rfl, rfl⟩
  rw [hm]
  go_wp2_with fail
  refine (HP.out _).mono ?_
  rintro e w1 ⟨v, rfl, ho, hb⟩
  obtain ⟨pp, cc, rfl⟩ := ho.slice
  have HI := Lib.hid ho.is.2
  have HB1 := Lib.hid hb
  have l0 := new_lt hb
  have n0 : ¬ w.heap.size = w1.heap.size := by omega
  clear hb ho
  unfold ptV
  dsimp only
  go_wp2_with fail
  refine (HKY.out _ _ _ (HI.out.alloc _)).mono ?_
  rintro e w3 ⟨rfl, hb3⟩
  have HA3 := Lib.hid ((AtL.new w1 [.int .i64 0, .bool false, .slice pp nums.length cc, .int .u8 fin, .int .i64 s] 60).on hb3)
  have HI3 := Lib.hid ((HI.out.alloc _).on hb3)
  have HB3 := Lib.hid (below_past HB1.out hb3)
  have HC3 := Lib.hid (below_on (below_mk _ _) hb3)
  clear hb3 l0 n0
  obtain ⟨q0, q1, q2, q3, q4⟩ := HA3.out.five
  obtain ⟨hcc, hf⟩ := bcell HB3.out
  have l0 := new_lt HB3.out
  have l1 := HA3.out.1
  have n0 : ¬ w.heap.size = w3.heap.size := by omega
  have n1 : ¬ w1.heap.size = w3.heap.size := by omega
  unfold tkV
  dsimp only
  go_wp2_with fail
  have HE : ∀ A, Hid (NewTk w ⟨0, ⟨t1, t2, t3, t4, t5, t6, t7, []⟩, s + 2, tpaste, tnone⟩ (.returned (tkV ⟨0, ⟨t1, t2, t3, t4, t5, t6, t7, []⟩, s + 2, tpaste, tnone⟩ (.slice none 0 0))) ((sets w3 w.heap.size 0 (tkL ⟨0, ⟨t1, t2, t3, t4, t5, t6, t7, []⟩, s + 2, tpaste, tnone⟩ (.slice none 0 0))).alloc A)) := fun A => (tk_end (tkL ⟨0, ⟨t1, t2, t3, t4, t5, t6, t7, []⟩, s + 2, tpaste, tnone⟩ (.slice none 0 0)) (own_nil _ _) HB3.out).more A
  refine bodyPost_ret (v := tkV ⟨0, ⟨t1, t2, t3, t4, t5, t6, t7, []⟩, s + 2, tpaste, tnone⟩ (.slice none 0 0)) ?_ rfl (HE _).out
  simp [results, Tryd.results31, tkV, go_sem, hcc, l0]

set_option maxRecDepth 100000 in
set_option maxHeartbeats 4000000 in
theorem l3Sequence_key3 (p : Option Addr) (n c k s : Nat) (r : Pt) (w : World) (hk : 3 ≤ k) (hkc : k ≤ c) (hs : r.size = (s : Int)) (hs2 : s ≤ 22) (hsk : s + 2 ≤ k) (hm : lesser (n : Int) 24 = k) (hl : r.nums.length ≤ 4) (hN : ∀ x ∈ r.nums, 0 ≤ x ∧ x ≤ 9999999)
    (HP : Hid (∀ o, Calls Tryd.prog 49 #[.slice (p.map (·.add 2)) (k - 2) (c - 2)] (w.alloc o) (NewPt (w.alloc o) r))) (h0 : r.code = 0) (hp : r.priv = false) (hfin : (r.fin == 126) = true) (hn1 : ¬ (r.nums.length : Int) = 1) (tk : Tk) (ht0 : tk.code = 0) (htd : tk.ev.data = []) (hky : keyP r = tk) :
    Calls Tryd.prog 31 #[.slice p n c] w (NewTk w ⟨0, tk.ev, s + 2, tk.paste, tk.none⟩) := by
  have h2 : ¬ c = 2 := by omega
  have hr0 : r.code = 0 := h0
  have HKY := Lib.hid (fun (pp : Option Addr) (cc : Nat) (w : World) hI => specKeyOfParts_any r pp cc w hI hl hN (.inl hr0))
  rw [hky] at HKY
  obtain ⟨code, priv, nums, fin, size⟩ := r
  unfold ptV at HKY
  dsimp only at *
  subst hs
  subst hr0
  subst hp
  obtain ⟨tcode, ⟨t1, t2, t3, t4, t5, t6, t7, td⟩, tsize, tpaste, tnone⟩ := tk
  dsimp only at *
  subst ht0 htd
  clear hN h0 hky
  go_enter Tryd.func31, Tryd.ntmps31
  go_wp2_with fail
  refine (l1Min_any _ _ _).mono ?_
  rintro e w' ⟨rfl, rfl⟩
  rw [hm]
  go_wp2_with fail
  refine (HP.out _).mono ?_
  rintro e w1 ⟨v, rfl, ho, hb⟩
  obtain ⟨pp, cc, rfl⟩ := ho.slice
  have HI := Lib.hid ho.is.2
  have HB1 := Lib.hid hb
  have l0 := new_lt hb
  have n0 : ¬ w.heap.size = w1.heap.size := by omega
  clear hb ho
  unfold ptV
  dsimp only
  go_wp2_with fail
  refine (HKY.out _ _ _ (HI.out.alloc _)).mono ?_
  rintro e w3 ⟨rfl, hb3⟩
  have HA3 := Lib.hid ((AtL.new w1 [.int .i64 0, .bool false, .slice pp nums.length cc, .int .u8 fin, .int .i64 s] 60).on hb3)
  have HI3 := Lib.hid ((HI.out.alloc _).on hb3)
  have HB3 := Lib.hid (below_past HB1.out hb3)
  have HC3 := Lib.hid (below_on (below_mk _ _) hb3)
  clear hb3 l0 n0
  obtain ⟨q0, q1, q2, q3, q4⟩ := HA3.out.five
  obtain ⟨hcc, hf⟩ := bcell HB3.out
  have l0 := new_lt HB3.out
  have l1 := HA3.out.1
  have n0 : ¬ w.heap.size = w3.heap.size := by omega
  have n1 : ¬ w1.heap.size = w3.heap.size := by omega
  unfold tkV
  dsimp only
  go_wp2_with fail
  have HE : ∀ A, Hid (NewTk w ⟨0, ⟨t1, t2, t3, t4, t5, t6, t7, []⟩, s + 2, tpaste, tnone⟩ (.returned (tkV ⟨0, ⟨t1, t2, t3, t4, t5, t6, t7, []⟩, s + 2, tpaste, tnone⟩ (.slice none 0 0))) ((sets w3 w.heap.size 0 (tkL ⟨0, ⟨t1, t2, t3, t4, t5, t6, t7, []⟩, s + 2, tpaste, tnone⟩ (.slice none 0 0))).alloc A)) := fun A => (tk_end (tkL ⟨0, ⟨t1, t2, t3, t4, t5, t6, t7, []⟩, s + 2, tpaste, tnone⟩ (.slice none 0 0)) (own_nil _ _) HB3.out).more A
  refine bodyPost_ret (v := tkV ⟨0, ⟨t1, t2, t3, t4, t5, t6, t7, []⟩, s + 2, tpaste, tnone⟩ (.slice none 0 0)) ?_ rfl (HE _).out
  simp [results, Tryd.results31, tkV, go_sem, hcc, l0]

set_option maxRecDepth 100000 in
set_option maxHeartbeats 4000000 in
theorem l3Sequence_key4 (p : Option Addr) (n c k s : Nat) (r : Pt) (w : World) (hk : 3 ≤ k) (hkc : k ≤ c) (hs : r.size = (s : Int)) (hs2 : s ≤ 22) (hsk : s + 2 ≤ k) (hm : lesser (n : Int) 24 = k) (hl : r.nums.length ≤ 4) (hN : ∀ x ∈ r.nums, 0 ≤ x ∧ x ≤ 9999999)
    (HP : Hid (∀ o, Calls Tryd.prog 49 #[.slice (p.map (·.add 2)) (k - 2) (c - 2)] (w.alloc o) (NewPt (w.alloc o) r))) (h0 : r.code = 0) (x : Int) (hp : r.priv = false) (hfin : (r.fin == 126) = true) (hx : r.nums = [x]) (hx2 : (x == 200) = false) (tk : Tk) (ht0 : tk.code = 0) (htd : tk.ev.data = []) (hky : keyP r = tk) :
    Calls Tryd.prog 31 #[.slice p n c] w (NewTk w ⟨0, tk.ev, s + 2, tk.paste, tk.none⟩) := by
  have h2 : ¬ c = 2 := by omega
  have hr0 : r.code = 0 := h0
  have HKY := Lib.hid (fun (pp : Option Addr) (cc : Nat) (w : World) hI => specKeyOfParts_any r pp cc w hI hl hN (.inl hr0))
  rw [hky] at HKY
  obtain ⟨code, priv, nums, fin, size⟩ := r
  unfold ptV at HKY
  dsimp only at *
  subst hs
  subst hr0
  subst hp hx
  obtain ⟨tcode, ⟨t1, t2, t3, t4, t5, t6, t7, td⟩, tsize, tpaste, tnone⟩ := tk
  dsimp only at *
  subst ht0 htd
  clear hN h0 hky
  go_enter Tryd.func31, Tryd.ntmps31
  go_wp2_with fail
  refine (l1Min_any _ _ _).mono ?_
  rintro e w' ⟨rfl, rfl⟩
  rw [hm]
  go_wp2_with fail
  refine (HP.out _).mono ?_
  rintro e w1 ⟨v, rfl, ho, hb⟩
  obtain ⟨pp, cc, rfl⟩ := ho.slice
  obtain ⟨g, off, rfl, hg, hcx⟩ := ho.is.2.cons
  have hx0 : w1.cell? ⟨g, off, none⟩ = some (.int .i64 x) := hcx 0 (by simp)
  have HI := Lib.hid ho.is.2
  clear hcx
  have HB1 := Lib.hid hb
  have l0 := new_lt hb
  have n0 : ¬ w.heap.size = w1.heap.size := by omega
  clear hb ho
  unfold ptV
  dsimp only
  go_wp2_with fail
  refine (HKY.out _ _ _ (HI.out.alloc _)).mono ?_
  rintro e w3 ⟨rfl, hb3⟩
  have HA3 := Lib.hid ((AtL.new w1 [.int .i64 0, .bool false, .slice (some ⟨g, off, none⟩) 1 cc, .int .u8 fin, .int .i64 s] 60).on hb3)
  have HI3 := Lib.hid ((HI.out.alloc _).on hb3)
  have HB3 := Lib.hid (below_past HB1.out hb3)
  have HC3 := Lib.hid (below_on (below_mk _ _) hb3)
  clear hb3 l0 n0
  obtain ⟨q0, q1, q2, q3, q4⟩ := HA3.out.five
  obtain ⟨hcc, hf⟩ := bcell HB3.out
  have l0 := new_lt HB3.out
  have l1 := HA3.out.1
  have n0 : ¬ w.heap.size = w3.heap.size := by omega
  have n1 : ¬ w1.heap.size = w3.heap.size := by omega
  unfold tkV
  dsimp only
  go_wp2_with fail
  have HE : ∀ A, Hid (NewTk w ⟨0, ⟨t1, t2, t3, t4, t5, t6, t7, []⟩, s + 2, tpaste, tnone⟩ (.returned (tkV ⟨0, ⟨t1, t2, t3, t4, t5, t6, t7, []⟩, s + 2, tpaste, tnone⟩ (.slice none 0 0))) ((sets w3 w.heap.size 0 (tkL ⟨0, ⟨t1, t2, t3, t4, t5, t6, t7, []⟩, s + 2, tpaste, tnone⟩ (.slice none 0 0))).alloc A)) := fun A => (tk_end (tkL ⟨0, ⟨t1, t2, t3, t4, t5, t6, t7, []⟩, s + 2, tpaste, tnone⟩ (.slice none 0 0)) (own_nil _ _) HB3.out).more A
  refine bodyPost_ret (v := tkV ⟨0, ⟨t1, t2, t3, t4, t5, t6, t7, []⟩, s + 2, tpaste, tnone⟩ (.slice none 0 0)) ?_ rfl (HE _).out
  simp [results, Tryd.results31, tkV, go_sem, hcc, l0]

end Go.Proofs.YtcchhlcgamcceaaDoor

/- The model's tokens: l3Sequence. -/
namespace Go.Proofs.YtcchhlcgamcceaaDoor
open Go.RowKit
set_option linter.unusedVariables false

set_option maxRecDepth 100000 in
set_option maxHeartbeats 4000000 in
theorem l3Sequence_mouse (p : Option Addr) (n c k s : Nat) (r : Pt) (w : World) (hk : 3 ≤ k) (hkc : k ≤ c) (hs : r.size = (s : Int)) (hs2 : s ≤ 22) (hsk : s + 2 ≤ k) (hm : lesser (n : Int) 24 = k) (hl : r.nums.length ≤ 4) (hN : ∀ x ∈ r.nums, 0 ≤ x ∧ x ≤ 9999999)
    (HP : Hid (∀ o, Calls Tryd.prog 49 #[.slice (p.map (·.add 2)) (k - 2) (c - 2)] (w.alloc o) (NewPt (w.alloc o) r))) (h0 : r.code = 0) (hp : r.priv = true) (tk : Tk) (ht0 : tk.code = 0) (htd : tk.ev.data = []) (hky : keyP r = badTk 5) (hms : mouseP r = tk) :
    Calls Tryd.prog 31 #[.slice p n c] w (NewTk w ⟨0, tk.ev, s + 2, tk.paste, tk.none⟩) := by
  have h2 : ¬ c = 2 := by omega
  have hr0 : r.code = 0 := h0
  have HKY := Lib.hid (fun (pp : Option Addr) (cc : Nat) (w : World) hI => specKeyOfParts_any r pp cc w hI hl hN (.inl hr0))
  rw [hky] at HKY
  have HMS := Lib.hid (fun (pp : Option Addr) (cc : Nat) (w : World) hI => specMouseOfParts_any r pp cc w hI hl hN (.inl hr0))
  rw [hms] at HMS
  obtain ⟨code, priv, nums, fin, size⟩ := r
  unfold ptV at HKY HMS
  dsimp only at *
  subst hs
  subst hr0
  subst hp
  obtain ⟨tcode, ⟨t1, t2, t3, t4, t5, t6, t7, td⟩, tsize, tpaste, tnone⟩ := tk
  dsimp only at *
  subst ht0 htd
  clear hN h0 hky hms
  go_enter Tryd.func31, Tryd.ntmps31
  go_wp2_with fail
  refine (l1Min_any _ _ _).mono ?_
  rintro e w' ⟨rfl, rfl⟩
  rw [hm]
  go_wp2_with fail
  refine (HP.out _).mono ?_
  rintro e w1 ⟨v, rfl, ho, hb⟩
  obtain ⟨pp, cc, rfl⟩ := ho.slice
  have HI := Lib.hid ho.is.2
  have HB1 := Lib.hid hb
  have l0 := new_lt hb
  have n0 : ¬ w.heap.size = w1.heap.size := by omega
  clear hb ho
  unfold ptV
  dsimp only
  go_wp2_with fail
  refine (HKY.out _ _ _ (HI.out.alloc _)).mono ?_
  rintro e w3 ⟨rfl, hb3⟩
  have HA3 := Lib.hid ((AtL.new w1 [.int .i64 0, .bool true, .slice pp nums.length cc, .int .u8 fin, .int .i64 s] 60).on hb3)
  have HI3 := Lib.hid ((HI.out.alloc _).on hb3)
  have HB3 := Lib.hid (below_past HB1.out hb3)
  have HC3 := Lib.hid (below_on (below_mk _ _) hb3)
  clear hb3 l0 n0
  obtain ⟨q0, q1, q2, q3, q4⟩ := HA3.out.five
  obtain ⟨hcc, hf⟩ := bcell HB3.out
  have l0 := new_lt HB3.out
  have l1 := HA3.out.1
  have n0 : ¬ w.heap.size = w3.heap.size := by omega
  have n1 : ¬ w1.heap.size = w3.heap.size := by omega
  unfold tkV badTk noEv
  dsimp only
  go_wp2_with fail
  refine (HMS.out _ _ _ (HI3.out.alloc _)).mono ?_
  rintro e w4 ⟨rfl, hb4⟩
  have HK4 := Lib.hid ((AtL.new w3 [.int .i64 5, .int .i64 0, .int .i64 0, .int .i64 0, .int .i64 0, .int .i64 0, .int .i64 0, .int .i64 0, .slice none 0 0, .int .i64 0, .bool false, .bool false] 28).on hb4)
  have hz : ∀ o, w4.frozen? ⟨w3.heap.size, o, none⟩ = false := fun o => (hb4.frozen (p := ⟨w3.heap.size, o, none⟩) (by simp)).trans (by simp)
  have HB4 := Lib.hid (below_past HB3.out hb4)
  have HC4 := Lib.hid (below_past HC3.out hb4)
  clear hb4 l0 l1 n0 n1 q0 q1 q2 q3 q4 hcc hf
  obtain ⟨k0, k1, k2, k3, k4, k5, k6, k7, k8, k9, k10, k11⟩ := HK4.out.twelve
  unfold tkV
  dsimp only
  go_upto_region 13 with (fail)
  refine wp_gen (fun W' => AtL W' w3.heap.size [.int .i64 0, .int .i64 t1, .int .i64 t2, .int .i64 t3, .int .i64 t4, .int .i64 t5, .int .i64 t6, .int .i64 t7, .slice none 0 0, .int .i64 tsize, .bool tpaste, .bool tnone] ∧ Below _ (w.alloc _) W' ∧ Below _ w1 W' ∧ ∀ o, W'.frozen? ⟨w3.heap.size, o, none⟩ = false) ⟨sets_at [.int .i64 0, .int .i64 t1, .int .i64 t2, .int .i64 t3, .int .i64 t4, .int .i64 t5, .int .i64 t6, .int .i64 t7, .slice none 0 0, .int .i64 tsize, .bool tpaste, .bool tnone] HK4.out rfl, sets_below HB3.out.size [.int .i64 0, .int .i64 t1, .int .i64 t2, .int .i64 t3, .int .i64 t4, .int .i64 t5, .int .i64 t6, .int .i64 t7, .slice none 0 0, .int .i64 tsize, .bool tpaste, .bool tnone] 0 _ _ HB4.out, sets_below HC3.out.size [.int .i64 0, .int .i64 t1, .int .i64 t2, .int .i64 t3, .int .i64 t4, .int .i64 t5, .int .i64 t6, .int .i64 t7, .slice none 0 0, .int .i64 tsize, .bool tpaste, .bool tnone] 0 _ _ HC4.out, fun o => by simp [hz]⟩ ?_
  clear k0 k1 k2 k3 k4 k5 k6 k7 k8 k9 k10 k11 hz
  rintro w5 ⟨hA5, hB5, hC5, hz⟩
  have HB5 := Lib.hid hB5
  have HC5 := Lib.hid hC5
  obtain ⟨k0, k1, k2, k3, k4, k5, k6, k7, k8, k9, k10, k11⟩ := hA5.twelve
  obtain ⟨hcc, hf⟩ := bcell hB5
  have l0 := new_lt HB3.out
  have n0 : ¬ w.heap.size = w3.heap.size := by omega
  have n1 : ¬ w3.heap.size = w.heap.size := by omega
  clear hA5 hB5 hC5 HB4 HC4 HK4
  go_wp2_with fail
  have HE : Hid (NewTk w ⟨0, ⟨t1, t2, t3, t4, t5, t6, t7, []⟩, s + 2, tpaste, tnone⟩ (.returned (tkV ⟨0, ⟨t1, t2, t3, t4, t5, t6, t7, []⟩, s + 2, tpaste, tnone⟩ (.slice none 0 0))) (sets (w5.setCell ⟨w3.heap.size, 9, none⟩ (.int .i64 (s + 2))) w.heap.size 0 (tkL ⟨0, ⟨t1, t2, t3, t4, t5, t6, t7, []⟩, s + 2, tpaste, tnone⟩ (.slice none 0 0)))) := tk_end (tkL ⟨0, ⟨t1, t2, t3, t4, t5, t6, t7, []⟩, s + 2, tpaste, tnone⟩ (.slice none 0 0)) (own_nil _ _) (HB5.out.setCell HB3.out.size _)
  refine bodyPost_ret (v := tkV ⟨0, ⟨t1, t2, t3, t4, t5, t6, t7, []⟩, s + 2, tpaste, tnone⟩ (.slice none 0 0)) ?_ rfl HE.out
  simp [results, Tryd.results31, tkV, go_sem, hcc]

set_option maxRecDepth 100000 in
set_option maxHeartbeats 4000000 in
theorem l3Sequence_raw1 (p : Option Addr) (n c k s : Nat) (r : Pt) (w : World) (hk : 3 ≤ k) (hkc : k ≤ c) (hs : r.size = (s : Int)) (hs2 : s ≤ 22) (hsk : s + 2 ≤ k) (hm : lesser (n : Int) 24 = k) (hl : r.nums.length ≤ 4) (hN : ∀ x ∈ r.nums, 0 ≤ x ∧ x ≤ 9999999)
    (HP : Hid (∀ o, Calls Tryd.prog 49 #[.slice (p.map (·.add 2)) (k - 2) (c - 2)] (w.alloc o) (NewPt (w.alloc o) r))) (h0 : r.code = 0) (hp : r.priv = true) (hky : keyP r = badTk 5) (hms : mouseP r = badTk 5) (d : List UInt8) (HR : Hid (∀ w', Below w.heap.size w w' → Calls Tryd.prog 18 #[.slice p (s + 2) c] w' (NewTk w' (rTk d (s + 2))))) :
    Calls Tryd.prog 31 #[.slice p n c] w (NewTk w (rTk d (s + 2))) := by
  have h2 : ¬ c = 2 := by omega
  have hr0 : r.code = 0 := h0
  have HKY := Lib.hid (fun (pp : Option Addr) (cc : Nat) (w : World) hI => specKeyOfParts_any r pp cc w hI hl hN (.inl hr0))
  rw [hky] at HKY
  have HMS := Lib.hid (fun (pp : Option Addr) (cc : Nat) (w : World) hI => specMouseOfParts_any r pp cc w hI hl hN (.inl hr0))
  rw [hms] at HMS
  obtain ⟨code, priv, nums, fin, size⟩ := r
  unfold ptV at HKY HMS
  dsimp only at *
  subst hs
  subst hr0
  subst hp
  clear hN h0 hky hms
  go_enter Tryd.func31, Tryd.ntmps31
  go_wp2_with fail
  refine (l1Min_any _ _ _).mono ?_
  rintro e w' ⟨rfl, rfl⟩
  rw [hm]
  go_wp2_with fail
  refine (HP.out _).mono ?_
  rintro e w1 ⟨v, rfl, ho, hb⟩
  obtain ⟨pp, cc, rfl⟩ := ho.slice
  have HI := Lib.hid ho.is.2
  have HR2 := Lib.hid (fun w2 (hb2 : Below w1.heap.size w1 w2) => HR.out _ (below_on (below_on (below_mk _ _) hb) hb2))
  clear HR
  have HB1 := Lib.hid hb
  have l0 := new_lt hb
  have n0 : ¬ w.heap.size = w1.heap.size := by omega
  clear hb ho
  unfold ptV
  dsimp only
  go_wp2_with fail
  refine (HKY.out _ _ _ (HI.out.alloc _)).mono ?_
  rintro e w3 ⟨rfl, hb3⟩
  have HA3 := Lib.hid ((AtL.new w1 [.int .i64 0, .bool true, .slice pp nums.length cc, .int .u8 fin, .int .i64 s] 60).on hb3)
  have HI3 := Lib.hid ((HI.out.alloc _).on hb3)
  have HB3 := Lib.hid (below_past HB1.out hb3)
  have HC3 := Lib.hid (below_on (below_mk _ _) hb3)
  clear hb3 l0 n0
  obtain ⟨q0, q1, q2, q3, q4⟩ := HA3.out.five
  obtain ⟨hcc, hf⟩ := bcell HB3.out
  have l0 := new_lt HB3.out
  have l1 := HA3.out.1
  have n0 : ¬ w.heap.size = w3.heap.size := by omega
  have n1 : ¬ w1.heap.size = w3.heap.size := by omega
  unfold tkV badTk noEv
  dsimp only
  go_wp2_with fail
  refine (HMS.out _ _ _ (HI3.out.alloc _)).mono ?_
  rintro e w4 ⟨rfl, hb4⟩
  have HK4 := Lib.hid ((AtL.new w3 [.int .i64 5, .int .i64 0, .int .i64 0, .int .i64 0, .int .i64 0, .int .i64 0, .int .i64 0, .int .i64 0, .slice none 0 0, .int .i64 0, .bool false, .bool false] 28).on hb4)
  have hz : ∀ o, w4.frozen? ⟨w3.heap.size, o, none⟩ = false := fun o => (hb4.frozen (p := ⟨w3.heap.size, o, none⟩) (by simp)).trans (by simp)
  have HB4 := Lib.hid (below_past HB3.out hb4)
  have HC4 := Lib.hid (below_past HC3.out hb4)
  clear hb4 l0 l1 n0 n1 q0 q1 q2 q3 q4 hcc hf
  obtain ⟨k0, k1, k2, k3, k4, k5, k6, k7, k8, k9, k10, k11⟩ := HK4.out.twelve
  unfold tkV badTk noEv
  dsimp only
  go_upto_region 13 with (fail)
  refine wp_gen (fun W' => AtL W' w3.heap.size [.int .i64 5, .int .i64 0, .int .i64 0, .int .i64 0, .int .i64 0, .int .i64 0, .int .i64 0, .int .i64 0, .slice none 0 0, .int .i64 0, .bool false, .bool false] ∧ Below _ (w.alloc _) W' ∧ Below _ w1 W' ∧ ∀ o, W'.frozen? ⟨w3.heap.size, o, none⟩ = false) ⟨sets_at [.int .i64 5, .int .i64 0, .int .i64 0, .int .i64 0, .int .i64 0, .int .i64 0, .int .i64 0, .int .i64 0, .slice none 0 0, .int .i64 0, .bool false, .bool false] HK4.out rfl, sets_below HB3.out.size [.int .i64 5, .int .i64 0, .int .i64 0, .int .i64 0, .int .i64 0, .int .i64 0, .int .i64 0, .int .i64 0, .slice none 0 0, .int .i64 0, .bool false, .bool false] 0 _ _ HB4.out, sets_below HC3.out.size [.int .i64 5, .int .i64 0, .int .i64 0, .int .i64 0, .int .i64 0, .int .i64 0, .int .i64 0, .int .i64 0, .slice none 0 0, .int .i64 0, .bool false, .bool false] 0 _ _ HC4.out, fun o => by simp [hz]⟩ ?_
  clear k0 k1 k2 k3 k4 k5 k6 k7 k8 k9 k10 k11 hz
  rintro w5 ⟨hA5, hB5, hC5, hz⟩
  have HB5 := Lib.hid hB5
  have HC5 := Lib.hid hC5
  obtain ⟨k0, k1, k2, k3, k4, k5, k6, k7, k8, k9, k10, k11⟩ := hA5.twelve
  obtain ⟨hcc, hf⟩ := bcell hB5
  have l0 := new_lt HB3.out
  have n0 : ¬ w.heap.size = w3.heap.size := by omega
  have n1 : ¬ w3.heap.size = w.heap.size := by omega
  clear hA5 hB5 hC5 HB4 HC4 HK4
  go_wp2_with fail
  refine (HR2.out _ HC5.out).mono ?_
  rintro e w9 ⟨v, rfl, ho, hb9⟩
  obtain ⟨px, cx, hv⟩ := ho.slice
  subst hv
  have hb6 := HB5.out.trans (hb9.mono HB5.out.size)
  have HE : Hid (NewTk w (rTk d (s + 2)) (.returned (tkV (rTk d (s + 2)) (.slice px d.length cx))) (sets w9 w.heap.size 0 (tkL (rTk d (s + 2)) (.slice px d.length cx)))) := tk_end (tkL (rTk d (s + 2)) (.slice px d.length cx)) (ho.lower HB5.out.size) hb6
  clear l0 n0 n1 hcc hf
  obtain ⟨hcc, hf⟩ := bcell hb6
  clear ho hb9 hb6
  unfold tkV rTk rawEv
  dsimp only
  go_wp2_with fail
  refine bodyPost_ret (v := tkV (rTk d (s + 2)) (.slice px d.length cx)) ?_ rfl HE.out
  simp [results, Tryd.results31, tkV, rTk, rawEv, go_sem, hcc]

set_option maxRecDepth 100000 in
set_option maxHeartbeats 4000000 in
theorem l3Sequence_raw2 (p : Option Addr) (n c k s : Nat) (r : Pt) (w : World) (hk : 3 ≤ k) (hkc : k ≤ c) (hs : r.size = (s : Int)) (hs2 : s ≤ 22) (hsk : s + 2 ≤ k) (hm : lesser (n : Int) 24 = k) (hl : r.nums.length ≤ 4) (hN : ∀ x ∈ r.nums, 0 ≤ x ∧ x ≤ 9999999)
    (HP : Hid (∀ o, Calls Tryd.prog 49 #[.slice (p.map (·.add 2)) (k - 2) (c - 2)] (w.alloc o) (NewPt (w.alloc o) r))) (h0 : r.code = 0) (hp : r.priv = false) (hfin : (r.fin == 126) = false) (hky : keyP r = badTk 5) (hms : mouseP r = badTk 5) (d : List UInt8) (HR : Hid (∀ w', Below w.heap.size w w' → Calls Tryd.prog 18 #[.slice p (s + 2) c] w' (NewTk w' (rTk d (s + 2))))) :
    Calls Tryd.prog 31 #[.slice p n c] w (NewTk w (rTk d (s + 2))) := by
  have h2 : ¬ c = 2 := by omega
  have hr0 : r.code = 0 := h0
  have HKY := Lib.hid (fun (pp : Option Addr) (cc : Nat) (w : World) hI => specKeyOfParts_any r pp cc w hI hl hN (.inl hr0))
  rw [hky] at HKY
  have HMS := Lib.hid (fun (pp : Option Addr) (cc : Nat) (w : World) hI => specMouseOfParts_any r pp cc w hI hl hN (.inl hr0))
  rw [hms] at HMS
  obtain ⟨code, priv, nums, fin, size⟩ := r
  unfold ptV at HKY HMS
  dsimp only at *
  subst hs
  subst hr0
  subst hp
  clear hN h0 hky hms
  go_enter Tryd.func31, Tryd.ntmps31
  go_wp2_with fail
  refine (l1Min_any _ _ _).mono ?_
  rintro e w' ⟨rfl, rfl⟩
  rw [hm]
  go_wp2_with fail
  refine (HP.out _).mono ?_
  rintro e w1 ⟨v, rfl, ho, hb⟩
  obtain ⟨pp, cc, rfl⟩ := ho.slice
  have HI := Lib.hid ho.is.2
  have HR2 := Lib.hid (fun w2 (hb2 : Below w1.heap.size w1 w2) => HR.out _ (below_on (below_on (below_mk _ _) hb) hb2))
  clear HR
  have HB1 := Lib.hid hb
  have l0 := new_lt hb
  have n0 : ¬ w.heap.size = w1.heap.size := by omega
  clear hb ho
  unfold ptV
  dsimp only
  go_wp2_with fail
  refine (HKY.out _ _ _ (HI.out.alloc _)).mono ?_
  rintro e w3 ⟨rfl, hb3⟩
  have HA3 := Lib.hid ((AtL.new w1 [.int .i64 0, .bool false, .slice pp nums.length cc, .int .u8 fin, .int .i64 s] 60).on hb3)
  have HI3 := Lib.hid ((HI.out.alloc _).on hb3)
  have HB3 := Lib.hid (below_past HB1.out hb3)
  have HC3 := Lib.hid (below_on (below_mk _ _) hb3)
  clear hb3 l0 n0
  obtain ⟨q0, q1, q2, q3, q4⟩ := HA3.out.five
  obtain ⟨hcc, hf⟩ := bcell HB3.out
  have l0 := new_lt HB3.out
  have l1 := HA3.out.1
  have n0 : ¬ w.heap.size = w3.heap.size := by omega
  have n1 : ¬ w1.heap.size = w3.heap.size := by omega
  unfold tkV badTk noEv
  dsimp only
  go_wp2_with fail
  refine (HMS.out _ _ _ (HI3.out.alloc _)).mono ?_
  rintro e w4 ⟨rfl, hb4⟩
  have HK4 := Lib.hid ((AtL.new w3 [.int .i64 5, .int .i64 0, .int .i64 0, .int .i64 0, .int .i64 0, .int .i64 0, .int .i64 0, .int .i64 0, .slice none 0 0, .int .i64 0, .bool false, .bool false] 28).on hb4)
  have hz : ∀ o, w4.frozen? ⟨w3.heap.size, o, none⟩ = false := fun o => (hb4.frozen (p := ⟨w3.heap.size, o, none⟩) (by simp)).trans (by simp)
  have HB4 := Lib.hid (below_past HB3.out hb4)
  have HC4 := Lib.hid (below_past HC3.out hb4)
  clear hb4 l0 l1 n0 n1 q0 q1 q2 q3 q4 hcc hf
  obtain ⟨k0, k1, k2, k3, k4, k5, k6, k7, k8, k9, k10, k11⟩ := HK4.out.twelve
  unfold tkV badTk noEv
  dsimp only
  go_upto_region 13 with (fail)
  refine wp_gen (fun W' => AtL W' w3.heap.size [.int .i64 5, .int .i64 0, .int .i64 0, .int .i64 0, .int .i64 0, .int .i64 0, .int .i64 0, .int .i64 0, .slice none 0 0, .int .i64 0, .bool false, .bool false] ∧ Below _ (w.alloc _) W' ∧ Below _ w1 W' ∧ ∀ o, W'.frozen? ⟨w3.heap.size, o, none⟩ = false) ⟨sets_at [.int .i64 5, .int .i64 0, .int .i64 0, .int .i64 0, .int .i64 0, .int .i64 0, .int .i64 0, .int .i64 0, .slice none 0 0, .int .i64 0, .bool false, .bool false] HK4.out rfl, sets_below HB3.out.size [.int .i64 5, .int .i64 0, .int .i64 0, .int .i64 0, .int .i64 0, .int .i64 0, .int .i64 0, .int .i64 0, .slice none 0 0, .int .i64 0, .bool false, .bool false] 0 _ _ HB4.out, sets_below HC3.out.size [.int .i64 5, .int .i64 0, .int .i64 0, .int .i64 0, .int .i64 0, .int .i64 0, .int .i64 0, .int .i64 0, .slice none 0 0, .int .i64 0, .bool false, .bool false] 0 _ _ HC4.out, fun o => by simp [hz]⟩ ?_
  clear k0 k1 k2 k3 k4 k5 k6 k7 k8 k9 k10 k11 hz
  rintro w5 ⟨hA5, hB5, hC5, hz⟩
  have HB5 := Lib.hid hB5
  have HC5 := Lib.hid hC5
  obtain ⟨k0, k1, k2, k3, k4, k5, k6, k7, k8, k9, k10, k11⟩ := hA5.twelve
  obtain ⟨hcc, hf⟩ := bcell hB5
  have l0 := new_lt HB3.out
  have n0 : ¬ w.heap.size = w3.heap.size := by omega
  have n1 : ¬ w3.heap.size = w.heap.size := by omega
  clear hA5 hB5 hC5 HB4 HC4 HK4
  go_wp2_with fail
  refine (HR2.out _ HC5.out).mono ?_
  rintro e w9 ⟨v, rfl, ho, hb9⟩
  obtain ⟨px, cx, hv⟩ := ho.slice
  subst hv
  have hb6 := HB5.out.trans (hb9.mono HB5.out.size)
  have HE : Hid (NewTk w (rTk d (s + 2)) (.returned (tkV (rTk d (s + 2)) (.slice px d.length cx))) (sets w9 w.heap.size 0 (tkL (rTk d (s + 2)) (.slice px d.length cx)))) := tk_end (tkL (rTk d (s + 2)) (.slice px d.length cx)) (ho.lower HB5.out.size) hb6
  clear l0 n0 n1 hcc hf
  obtain ⟨hcc, hf⟩ := bcell hb6
  clear ho hb9 hb6
  unfold tkV rTk rawEv
  dsimp only
  go_wp2_with fail
  refine bodyPost_ret (v := tkV (rTk d (s + 2)) (.slice px d.length cx)) ?_ rfl HE.out
  simp [results, Tryd.results31, tkV, rTk, rawEv, go_sem, hcc]

end Go.Proofs.YtcchhlcgamcceaaDoor

/- The model's tokens: l3Sequence. -/
namespace Go.Proofs.YtcchhlcgamcceaaDoor
open Go.RowKit
set_option linter.unusedVariables false

set_option maxRecDepth 100000 in
set_option maxHeartbeats 4000000 in
theorem l3Sequence_raw3 (p : Option Addr) (n c k s : Nat) (r : Pt) (w : World) (hk : 3 ≤ k) (hkc : k ≤ c) (hs : r.size = (s : Int)) (hs2 : s ≤ 22) (hsk : s + 2 ≤ k) (hm : lesser (n : Int) 24 = k) (hl : r.nums.length ≤ 4) (hN : ∀ x ∈ r.nums, 0 ≤ x ∧ x ≤ 9999999)
    (HP : Hid (∀ o, Calls Tryd.prog 49 #[.slice (p.map (·.add 2)) (k - 2) (c - 2)] (w.alloc o) (NewPt (w.alloc o) r))) (h0 : r.code = 0) (hp : r.priv = false) (hfin : (r.fin == 126) = true) (hn1 : ¬ (r.nums.length : Int) = 1) (hky : keyP r = badTk 5) (hms : mouseP r = badTk 5) (d : List UInt8) (HR : Hid (∀ w', Below w.heap.size w w' → Calls Tryd.prog 18 #[.slice p (s + 2) c] w' (NewTk w' (rTk d (s + 2))))) :
    Calls Tryd.prog 31 #[.slice p n c] w (NewTk w (rTk d (s + 2))) := by
  have h2 : ¬ c = 2 := by omega
  have hr0 : r.code = 0 := h0
  have HKY := Lib.hid (fun (pp : Option Addr) (cc : Nat) (w : World) hI => specKeyOfParts_any r pp cc w hI hl hN (.inl hr0))
  rw [hky] at HKY
  have HMS := Lib.hid (fun (pp : Option Addr) (cc : Nat) (w : World) hI => specMouseOfParts_any r pp cc w hI hl hN (.inl hr0))
  rw [hms] at HMS
  obtain ⟨code, priv, nums, fin, size⟩ := r
  unfold ptV at HKY HMS
  dsimp only at *
  subst hs
  subst hr0
  subst hp
  clear hN h0 hky hms
  go_enter Tryd.func31, Tryd.ntmps31
  go_wp2_with fail
  refine (l1Min_any _ _ _).mono ?_
  rintro e w' ⟨rfl, rfl⟩
  rw [hm]
  go_wp2_with fail
  refine (HP.out _).mono ?_
  rintro e w1 ⟨v, rfl, ho, hb⟩
  obtain ⟨pp, cc, rfl⟩ := ho.slice
  have HI := Lib.hid ho.is.2
  have HR2 := Lib.hid (fun w2 (hb2 : Below w1.heap.size w1 w2) => HR.out _ (below_on (below_on (below_mk _ _) hb) hb2))
  clear HR
  have HB1 := Lib.hid hb
  have l0 := new_lt hb
  have n0 : ¬ w.heap.size = w1.heap.size := by omega
  clear hb ho
  unfold ptV
  dsimp only
  go_wp2_with fail
  refine (HKY.out _ _ _ (HI.out.alloc _)).mono ?_
  rintro e w3 ⟨rfl, hb3⟩
  have HA3 := Lib.hid ((AtL.new w1 [.int .i64 0, .bool false, .slice pp nums.length cc, .int .u8 fin, .int .i64 s] 60).on hb3)
  have HI3 := Lib.hid ((HI.out.alloc _).on hb3)
  have HB3 := Lib.hid (below_past HB1.out hb3)
  have HC3 := Lib.hid (below_on (below_mk _ _) hb3)
  clear hb3 l0 n0
  obtain ⟨q0, q1, q2, q3, q4⟩ := HA3.out.five
  obtain ⟨hcc, hf⟩ := bcell HB3.out
  have l0 := new_lt HB3.out
  have l1 := HA3.out.1
  have n0 : ¬ w.heap.size = w3.heap.size := by omega
  have n1 : ¬ w1.heap.size = w3.heap.size := by omega
  unfold tkV badTk noEv
  dsimp only
  go_wp2_with fail
  refine (HMS.out _ _ _ (HI3.out.alloc _)).mono ?_
  rintro e w4 ⟨rfl, hb4⟩
  have HK4 := Lib.hid ((AtL.new w3 [.int .i64 5, .int .i64 0, .int .i64 0, .int .i64 0, .int .i64 0, .int .i64 0, .int .i64 0, .int .i64 0, .slice none 0 0, .int .i64 0, .bool false, .bool false] 28).on hb4)
  have hz : ∀ o, w4.frozen? ⟨w3.heap.size, o, none⟩ = false := fun o => (hb4.frozen (p := ⟨w3.heap.size, o, none⟩) (by simp)).trans (by simp)
  have HB4 := Lib.hid (below_past HB3.out hb4)
  have HC4 := Lib.hid (below_past HC3.out hb4)
  clear hb4 l0 l1 n0 n1 q0 q1 q2 q3 q4 hcc hf
  obtain ⟨k0, k1, k2, k3, k4, k5, k6, k7, k8, k9, k10, k11⟩ := HK4.out.twelve
  unfold tkV badTk noEv
  dsimp only
  go_upto_region 13 with (fail)
  refine wp_gen (fun W' => AtL W' w3.heap.size [.int .i64 5, .int .i64 0, .int .i64 0, .int .i64 0, .int .i64 0, .int .i64 0, .int .i64 0, .int .i64 0, .slice none 0 0, .int .i64 0, .bool false, .bool false] ∧ Below _ (w.alloc _) W' ∧ Below _ w1 W' ∧ ∀ o, W'.frozen? ⟨w3.heap.size, o, none⟩ = false) ⟨sets_at [.int .i64 5, .int .i64 0, .int .i64 0, .int .i64 0, .int .i64 0, .int .i64 0, .int .i64 0, .int .i64 0, .slice none 0 0, .int .i64 0, .bool false, .bool false] HK4.out rfl, sets_below HB3.out.size [.int .i64 5, .int .i64 0, .int .i64 0, .int .i64 0, .int .i64 0, .int .i64 0, .int .i64 0, .int .i64 0, .slice none 0 0, .int .i64 0, .bool false, .bool false] 0 _ _ HB4.out, sets_below HC3.out.size [.int .i64 5, .int .i64 0, .int .i64 0, .int .i64 0, .int .i64 0, .int .i64 0, .int .i64 0, .int .i64 0, .slice none 0 0, .int .i64 0, .bool false, .bool false] 0 _ _ HC4.out, fun o => by simp [hz]⟩ ?_
  clear k0 k1 k2 k3 k4 k5 k6 k7 k8 k9 k10 k11 hz
  rintro w5 ⟨hA5, hB5, hC5, hz⟩
  have HB5 := Lib.hid hB5
  have HC5 := Lib.hid hC5
  obtain ⟨k0, k1, k2, k3, k4, k5, k6, k7, k8, k9, k10, k11⟩ := hA5.twelve
  obtain ⟨hcc, hf⟩ := bcell hB5
  have l0 := new_lt HB3.out
  have n0 : ¬ w.heap.size = w3.heap.size := by omega
  have n1 : ¬ w3.heap.size = w.heap.size := by omega
  clear hA5 hB5 hC5 HB4 HC4 HK4
  go_wp2_with fail
  refine (HR2.out _ HC5.out).mono ?_
  rintro e w9 ⟨v, rfl, ho, hb9⟩
  obtain ⟨px, cx, hv⟩ := ho.slice
  subst hv
  have hb6 := HB5.out.trans (hb9.mono HB5.out.size)
  have HE : Hid (NewTk w (rTk d (s + 2)) (.returned (tkV (rTk d (s + 2)) (.slice px d.length cx))) (sets w9 w.heap.size 0 (tkL (rTk d (s + 2)) (.slice px d.length cx)))) := tk_end (tkL (rTk d (s + 2)) (.slice px d.length cx)) (ho.lower HB5.out.size) hb6
  clear l0 n0 n1 hcc hf
  obtain ⟨hcc, hf⟩ := bcell hb6
  clear ho hb9 hb6
  unfold tkV rTk rawEv
  dsimp only
  go_wp2_with fail
  refine bodyPost_ret (v := tkV (rTk d (s + 2)) (.slice px d.length cx)) ?_ rfl HE.out
  simp [results, Tryd.results31, tkV, rTk, rawEv, go_sem, hcc]

set_option maxRecDepth 100000 in
set_option maxHeartbeats 4000000 in
theorem l3Sequence_raw4 (p : Option Addr) (n c k s : Nat) (r : Pt) (w : World) (hk : 3 ≤ k) (hkc : k ≤ c) (hs : r.size = (s : Int)) (hs2 : s ≤ 22) (hsk : s + 2 ≤ k) (hm : lesser (n : Int) 24 = k) (hl : r.nums.length ≤ 4) (hN : ∀ x ∈ r.nums, 0 ≤ x ∧ x ≤ 9999999)
    (HP : Hid (∀ o, Calls Tryd.prog 49 #[.slice (p.map (·.add 2)) (k - 2) (c - 2)] (w.alloc o) (NewPt (w.alloc o) r))) (h0 : r.code = 0) (x : Int) (hp : r.priv = false) (hfin : (r.fin == 126) = true) (hx : r.nums = [x]) (hx2 : (x == 200) = false) (hky : keyP r = badTk 5) (hms : mouseP r = badTk 5) (d : List UInt8) (HR : Hid (∀ w', Below w.heap.size w w' → Calls Tryd.prog 18 #[.slice p (s + 2) c] w' (NewTk w' (rTk d (s + 2))))) :
    Calls Tryd.prog 31 #[.slice p n c] w (NewTk w (rTk d (s + 2))) := by
  have h2 : ¬ c = 2 := by omega
  have hr0 : r.code = 0 := h0
  have HKY := Lib.hid (fun (pp : Option Addr) (cc : Nat) (w : World) hI => specKeyOfParts_any r pp cc w hI hl hN (.inl hr0))
  rw [hky] at HKY
  have HMS := Lib.hid (fun (pp : Option Addr) (cc : Nat) (w : World) hI => specMouseOfParts_any r pp cc w hI hl hN (.inl hr0))
  rw [hms] at HMS
  obtain ⟨code, priv, nums, fin, size⟩ := r
  unfold ptV at HKY HMS
  dsimp only at *
  subst hs
  subst hr0
  subst hp hx
  clear hN h0 hky hms
  go_enter Tryd.func31, Tryd.ntmps31
  go_wp2_with fail
  refine (l1Min_any _ _ _).mono ?_
  rintro e w' ⟨rfl, rfl⟩
  rw [hm]
  go_wp2_with fail
  refine (HP.out _).mono ?_
  rintro e w1 ⟨v, rfl, ho, hb⟩
  obtain ⟨pp, cc, rfl⟩ := ho.slice
  obtain ⟨g, off, rfl, hg, hcx⟩ := ho.is.2.cons
  have hx0 : w1.cell? ⟨g, off, none⟩ = some (.int .i64 x) := hcx 0 (by simp)
  have HI := Lib.hid ho.is.2
  have HR2 := Lib.hid (fun w2 (hb2 : Below w1.heap.size w1 w2) => HR.out _ (below_on (below_on (below_mk _ _) hb) hb2))
  clear HR
  clear hcx
  have HB1 := Lib.hid hb
  have l0 := new_lt hb
  have n0 : ¬ w.heap.size = w1.heap.size := by omega
  clear hb ho
  unfold ptV
  dsimp only
  go_wp2_with fail
  refine (HKY.out _ _ _ (HI.out.alloc _)).mono ?_
  rintro e w3 ⟨rfl, hb3⟩
  have HA3 := Lib.hid ((AtL.new w1 [.int .i64 0, .bool false, .slice (some ⟨g, off, none⟩) 1 cc, .int .u8 fin, .int .i64 s] 60).on hb3)
  have HI3 := Lib.hid ((HI.out.alloc _).on hb3)
  have HB3 := Lib.hid (below_past HB1.out hb3)
  have HC3 := Lib.hid (below_on (below_mk _ _) hb3)
  clear hb3 l0 n0
  obtain ⟨q0, q1, q2, q3, q4⟩ := HA3.out.five
  obtain ⟨hcc, hf⟩ := bcell HB3.out
  have l0 := new_lt HB3.out
  have l1 := HA3.out.1
  have n0 : ¬ w.heap.size = w3.heap.size := by omega
  have n1 : ¬ w1.heap.size = w3.heap.size := by omega
  unfold tkV badTk noEv
  dsimp only
  go_wp2_with fail
  refine (HMS.out _ _ _ (HI3.out.alloc _)).mono ?_
  rintro e w4 ⟨rfl, hb4⟩
  have HK4 := Lib.hid ((AtL.new w3 [.int .i64 5, .int .i64 0, .int .i64 0, .int .i64 0, .int .i64 0, .int .i64 0, .int .i64 0, .int .i64 0, .slice none 0 0, .int .i64 0, .bool false, .bool false] 28).on hb4)
  have hz : ∀ o, w4.frozen? ⟨w3.heap.size, o, none⟩ = false := fun o => (hb4.frozen (p := ⟨w3.heap.size, o, none⟩) (by simp)).trans (by simp)
  have HB4 := Lib.hid (below_past HB3.out hb4)
  have HC4 := Lib.hid (below_past HC3.out hb4)
  clear hb4 l0 l1 n0 n1 q0 q1 q2 q3 q4 hcc hf
  obtain ⟨k0, k1, k2, k3, k4, k5, k6, k7, k8, k9, k10, k11⟩ := HK4.out.twelve
  unfold tkV badTk noEv
  dsimp only
  go_upto_region 13 with (fail)
  refine wp_gen (fun W' => AtL W' w3.heap.size [.int .i64 5, .int .i64 0, .int .i64 0, .int .i64 0, .int .i64 0, .int .i64 0, .int .i64 0, .int .i64 0, .slice none 0 0, .int .i64 0, .bool false, .bool false] ∧ Below _ (w.alloc _) W' ∧ Below _ w1 W' ∧ ∀ o, W'.frozen? ⟨w3.heap.size, o, none⟩ = false) ⟨sets_at [.int .i64 5, .int .i64 0, .int .i64 0, .int .i64 0, .int .i64 0, .int .i64 0, .int .i64 0, .int .i64 0, .slice none 0 0, .int .i64 0, .bool false, .bool false] HK4.out rfl, sets_below HB3.out.size [.int .i64 5, .int .i64 0, .int .i64 0, .int .i64 0, .int .i64 0, .int .i64 0, .int .i64 0, .int .i64 0, .slice none 0 0, .int .i64 0, .bool false, .bool false] 0 _ _ HB4.out, sets_below HC3.out.size [.int .i64 5, .int .i64 0, .int .i64 0, .int .i64 0, .int .i64 0, .int .i64 0, .int .i64 0, .int .i64 0, .slice none 0 0, .int .i64 0, .bool false, .bool false] 0 _ _ HC4.out, fun o => by simp [hz]⟩ ?_
  clear k0 k1 k2 k3 k4 k5 k6 k7 k8 k9 k10 k11 hz
  rintro w5 ⟨hA5, hB5, hC5, hz⟩
  have HB5 := Lib.hid hB5
  have HC5 := Lib.hid hC5
  obtain ⟨k0, k1, k2, k3, k4, k5, k6, k7, k8, k9, k10, k11⟩ := hA5.twelve
  obtain ⟨hcc, hf⟩ := bcell hB5
  have l0 := new_lt HB3.out
  have n0 : ¬ w.heap.size = w3.heap.size := by omega
  have n1 : ¬ w3.heap.size = w.heap.size := by omega
  clear hA5 hB5 hC5 HB4 HC4 HK4
  go_wp2_with fail
  refine (HR2.out _ HC5.out).mono ?_
  rintro e w9 ⟨v, rfl, ho, hb9⟩
  obtain ⟨px, cx, hv⟩ := ho.slice
  subst hv
  have hb6 := HB5.out.trans (hb9.mono HB5.out.size)
  have HE : Hid (NewTk w (rTk d (s + 2)) (.returned (tkV (rTk d (s + 2)) (.slice px d.length cx))) (sets w9 w.heap.size 0 (tkL (rTk d (s + 2)) (.slice px d.length cx)))) := tk_end (tkL (rTk d (s + 2)) (.slice px d.length cx)) (ho.lower HB5.out.size) hb6
  clear l0 n0 n1 hcc hf
  obtain ⟨hcc, hf⟩ := bcell hb6
  clear ho hb9 hb6
  unfold tkV rTk rawEv
  dsimp only
  go_wp2_with fail
  refine bodyPost_ret (v := tkV (rTk d (s + 2)) (.slice px d.length cx)) ?_ rfl HE.out
  simp [results, Tryd.results31, tkV, rTk, rawEv, go_sem, hcc]

end Go.Proofs.YtcchhlcgamcceaaDoor

/- The model's tokens: l3Escaped. -/
namespace Go.Proofs.YtcchhlcgamcceaaDoor
open Go.RowKit
set_option linter.unusedVariables false

set_option maxRecDepth 100000 in
set_option maxHeartbeats 4000000 in
theorem l3Escaped_seq (b off n c : Nat) (t : Tk) (w : World) (hi : 1 < n) (hn : n ≤ 1048576) (hb : b < w.heap.size) (hc : w.cell? ⟨b, off + 1, none⟩ = some (.int .u8 91))
    (HG : Hid (∀ w', Below w.heap.size w w' → Calls Tryd.prog 31 #[.slice (some ⟨b, off, none⟩) n c] w' (NewTk w' t))) :
    Calls Tryd.prog 16 #[.slice (some ⟨b, off, none⟩) n c] w (NewTk w t) := by
  go_enter Tryd.func16, Tryd.ntmps16
  go_wp2_with fail
  refine (HG.out _ (below_mk _ _)).mono ?_
  rintro e w9 ⟨v, rfl, ho, hb9⟩
  obtain ⟨px, cx, hv⟩ := ho.slice
  subst hv
  have HE : Hid (NewTk w t (.returned (tkV t (.slice px t.ev.data.length cx))) (sets w9 w.heap.size 0 (tkL t (.slice px t.ev.data.length cx)))) := tk_end (tkL t (.slice px t.ev.data.length cx)) ho hb9
  obtain ⟨hcc, hf⟩ := bcell hb9
  clear ho hb9
  unfold tkV
  go_wp2_with fail
  refine bodyPost_ret (v := tkV t (.slice px t.ev.data.length cx)) ?_ rfl HE.out
  simp [results, Tryd.results16, tkV, go_sem, hcc]

set_option maxRecDepth 100000 in
set_option maxHeartbeats 4000000 in
theorem l3Escaped_o2 (b off n c : Nat) (w : World) (hi : n = 2) (hb : b < w.heap.size) (hc : w.cell? ⟨b, off + 1, none⟩ = some (.int .u8 79)) :
    Calls Tryd.prog 16 #[.slice (some ⟨b, off, none⟩) n c] w (PlainTk w (badTk 6)) := by
  subst hi
  go_enter Tryd.func16, Tryd.ntmps16
  go_wp2_with fail
  refine (l3Bad_any _ _).mono ?_
  rintro e w9 ⟨rfl, hb9⟩
  have HE : Hid (PlainTk w (badTk 6) (.returned (tkV (badTk 6) (.slice none 0 0))) (sets w9 w.heap.size 0 (tkL (badTk 6) (.slice none 0 0)))) := tk_end_plain (tkL (badTk 6) (.slice none 0 0)) hb9
  obtain ⟨hcc, hf⟩ := bcell hb9
  clear hb9
  unfold tkV badTk noEv
  go_wp2_with fail
  refine bodyPost_ret (v := tkV (badTk 6) (.slice none 0 0)) ?_ rfl HE.out
  simp [results, Tryd.results16, tkV, badTk, noEv, go_sem, hcc]

set_option maxRecDepth 100000 in
set_option maxHeartbeats 4000000 in
theorem l3Escaped_let (b off n c : Nat) (x k : Int) (w : World) (hi : 2 < n) (hn : n ≤ 1048576) (hb : b < w.heap.size) (hc : w.cell? ⟨b, off + 1, none⟩ = some (.int .u8 79)) (hc2 : w.cell? ⟨b, off + 2, none⟩ = some (.int .u8 x)) (hk : letterK x = k) (h0 : (k == 0) = false) :
    Calls Tryd.prog 16 #[.slice (some ⟨b, off, none⟩) n c] w (PlainTk w (keyTk k 0 3)) := by
  have HL := Lib.hid (fun w => l3Letter_any x w)
  rw [hk] at HL
  have h3 : ¬ (n : Int) < 3 := by omega
  have e0 : (k != 0) = true := by rw [bne, h0]; rfl
  clear hk
  go_enter Tryd.func16, Tryd.ntmps16
  go_wp2_with fail
  refine (HL.out _).mono ?_
  rintro e w1 ⟨rfl, rfl⟩
  go_wp2_with fail
  refine (HL.out _).mono ?_
  rintro e w1 ⟨rfl, rfl⟩
  go_wp2_with fail
  refine (l3Key_any _ _ _ _).mono ?_
  rintro e w9 ⟨rfl, hb9⟩
  have HE : Hid (PlainTk w (keyTk k 0 3) (.returned (tkV (keyTk k 0 3) (.slice none 0 0))) (sets w9 w.heap.size 0 (tkL (keyTk k 0 3) (.slice none 0 0)))) := tk_end_plain (tkL (keyTk k 0 3) (.slice none 0 0)) hb9
  obtain ⟨hcc, hf⟩ := bcell hb9
  clear hb9
  unfold tkV keyTk keyEv
  go_wp2_with fail
  refine bodyPost_ret (v := tkV (keyTk k 0 3) (.slice none 0 0)) ?_ rfl HE.out
  simp [results, Tryd.results16, tkV, keyTk, keyEv, go_sem, hcc]

set_option maxRecDepth 100000 in
set_option maxHeartbeats 4000000 in
theorem l3Escaped_oraw (b off n c : Nat) (x : Int) (t : Tk) (w : World) (hi : 2 < n) (hn : n ≤ 1048576) (hnc : n ≤ c) (hb : b < w.heap.size) (hc : w.cell? ⟨b, off + 1, none⟩ = some (.int .u8 79)) (hc2 : w.cell? ⟨b, off + 2, none⟩ = some (.int .u8 x)) (hk : letterK x = 0)
    (HG : Hid (∀ w', Below w.heap.size w w' → Calls Tryd.prog 18 #[.slice (some ⟨b, off, none⟩) 3 c] w' (NewTk w' t))) :
    Calls Tryd.prog 16 #[.slice (some ⟨b, off, none⟩) n c] w (NewTk w t) := by
  have HL := Lib.hid (fun w => l3Letter_any x w)
  rw [hk] at HL
  have h3 : ¬ (n : Int) < 3 := by omega
  clear hk
  go_enter Tryd.func16, Tryd.ntmps16
  go_wp2_with fail
  refine (HL.out _).mono ?_
  rintro e w1 ⟨rfl, rfl⟩
  go_wp2_with fail
  refine (HG.out _ (below_mk _ _)).mono ?_
  rintro e w9 ⟨v, rfl, ho, hb9⟩
  obtain ⟨px, cx, hv⟩ := ho.slice
  subst hv
  have HE : Hid (NewTk w t (.returned (tkV t (.slice px t.ev.data.length cx))) (sets w9 w.heap.size 0 (tkL t (.slice px t.ev.data.length cx)))) := tk_end (tkL t (.slice px t.ev.data.length cx)) ho hb9
  obtain ⟨hcc, hf⟩ := bcell hb9
  clear ho hb9
  unfold tkV
  go_wp2_with fail
  refine bodyPost_ret (v := tkV t (.slice px t.ev.data.length cx)) ?_ rfl HE.out
  simp [results, Tryd.results16, tkV, go_sem, hcc]

set_option maxRecDepth 100000 in
set_option maxHeartbeats 4000000 in
theorem l3Escaped_plain (b off n c : Nat) (x : Int) (w : World) (hi : 1 < n) (hn : n ≤ 1048576) (hb : b < w.heap.size) (hc : w.cell? ⟨b, off + 1, none⟩ = some (.int .u8 x)) (h1 : (x == 91) = false) (h2 : (x == 79) = false) (h3 : 32 ≤ x) (h4 : x < 127) :
    Calls Tryd.prog 16 #[.slice (some ⟨b, off, none⟩) n c] w (PlainTk w (keyTk x 2 2)) := by
  have hw : IntKind.i64.wrap x = x := IntWalk.i64_in _ ⟨by omega, by omega⟩
  go_enter Tryd.func16, Tryd.ntmps16
  go_wp2_with fail
  refine (l3Key_any _ _ _ _).mono ?_
  rintro e w9 ⟨rfl, hb9⟩
  have HE : Hid (PlainTk w (keyTk x 2 2) (.returned (tkV (keyTk x 2 2) (.slice none 0 0))) (sets w9 w.heap.size 0 (tkL (keyTk x 2 2) (.slice none 0 0)))) := tk_end_plain (tkL (keyTk x 2 2) (.slice none 0 0)) hb9
  obtain ⟨hcc, hf⟩ := bcell hb9
  clear hb9
  unfold tkV keyTk keyEv
  go_wp2_with fail
  refine bodyPost_ret (v := tkV (keyTk x 2 2) (.slice none 0 0)) ?_ rfl HE.out
  simp [results, Tryd.results16, tkV, keyTk, keyEv, go_sem, hcc]

set_option maxRecDepth 100000 in
set_option maxHeartbeats 4000000 in
theorem l3Escaped_esc (b off n c : Nat) (x : Int) (w : World) (hi : 1 < n) (hn : n ≤ 1048576) (hb : b < w.heap.size) (hc : w.cell? ⟨b, off + 1, none⟩ = some (.int .u8 x)) (h1 : (x == 91) = false) (h2 : (x == 79) = false) (h3 : x < 32 ∨ (32 ≤ x ∧ 127 ≤ x)) :
    Calls Tryd.prog 16 #[.slice (some ⟨b, off, none⟩) n c] w (PlainTk w (keyTk 2000004 0 1)) := by
  rcases h3 with h3 | ⟨h3, h4⟩
  all_goals
    go_enter Tryd.func16, Tryd.ntmps16
    go_wp2_with fail
    refine (l3Key_any _ _ _ _).mono ?_
    rintro e w9 ⟨rfl, hb9⟩
    have HE : Hid (PlainTk w (keyTk 2000004 0 1) (.returned (tkV (keyTk 2000004 0 1) (.slice none 0 0))) (sets w9 w.heap.size 0 (tkL (keyTk 2000004 0 1) (.slice none 0 0)))) := tk_end_plain (tkL (keyTk 2000004 0 1) (.slice none 0 0)) hb9
    obtain ⟨hcc, hf⟩ := bcell hb9
    clear hb9
    unfold tkV keyTk keyEv
    go_wp2_with fail
    refine bodyPost_ret (v := tkV (keyTk 2000004 0 1) (.slice none 0 0)) ?_ rfl HE.out
    simp [results, Tryd.results16, tkV, keyTk, keyEv, go_sem, hcc]

end Go.Proofs.YtcchhlcgamcceaaDoor
