/- The model's tokens: what the ways of l3Sequence share. -/
import Derived.Test.YtjopjddhgaiddabGreatDoorQTokPureToTokImpl
import Derived.Test.YtjopjddhgaiddabGreatDoorQSpecMouse3ToSpecMouse4
import Derived.Test.YtjopjddhgaiddabGreatDoorQPiecesInToPartsSpec
import Derived.Deep.Cut
namespace Go.Proofs.YtjopjddhgaiddabGreatDoor
open Go.RowKit
set_option linter.unusedVariables false

theorem NewTk.more {w w' : World} {t : Tk} {en : Ending} (h : NewTk w t en w') (A : Obj) : NewTk w t en (w'.alloc A) := by
  obtain ⟨v, he, ho, hb⟩ := h
  exact ⟨v, he, ho.on (below_mk _ _), below_on hb (below_mk _ _)⟩
theorem wp_gen {P : Program} {code : Code} {Q : Exit → Act → World → Prop} {a : Act} {W : World} (C : World → Prop) (h : C W) (k : ∀ W', C W' → Code.wp P code Q a W') : Code.wp P code Q a W := k W h
theorem AtL.twelve {w : World} {b : Nat} {v0 v1 v2 v3 v4 v5 v6 v7 v8 v9 v10 v11 : Value} (h : AtL w b [v0, v1, v2, v3, v4, v5, v6, v7, v8, v9, v10, v11]) : w.cell? ⟨b, 0, none⟩ = some v0 ∧ w.cell? ⟨b, 1, none⟩ = some v1 ∧ w.cell? ⟨b, 2, none⟩ = some v2 ∧ w.cell? ⟨b, 3, none⟩ = some v3 ∧ w.cell? ⟨b, 4, none⟩ = some v4 ∧ w.cell? ⟨b, 5, none⟩ = some v5 ∧ w.cell? ⟨b, 6, none⟩ = some v6 ∧ w.cell? ⟨b, 7, none⟩ = some v7 ∧ w.cell? ⟨b, 8, none⟩ = some v8 ∧ w.cell? ⟨b, 9, none⟩ = some v9 ∧ w.cell? ⟨b, 10, none⟩ = some v10 ∧ w.cell? ⟨b, 11, none⟩ = some v11 :=
  ⟨h.get 0 rfl, h.get 1 rfl, h.get 2 rfl, h.get 3 rfl, h.get 4 rfl, h.get 5 rfl, h.get 6 rfl, h.get 7 rfl, h.get 8 rfl, h.get 9 rfl, h.get 10 rfl, h.get 11 rfl⟩

end Go.Proofs.YtjopjddhgaiddabGreatDoor

/- The model's tokens: l3Sequence. -/
namespace Go.Proofs.YtjopjddhgaiddabGreatDoor
open Go.RowKit
set_option linter.unusedVariables false

set_option maxRecDepth 100000 in
set_option maxHeartbeats 4000000 in
theorem l3Sequence_wait (p q : Option Addr) (n c c' : Nat) (w : World) (hn : 2 ≤ n) (h24 : n < 24) (hc : n ≤ c) (hq : (c = 2 ∧ q = p ∧ c' = 0) ∨ (¬ c = 2 ∧ q = p.map (·.add 2) ∧ c' = c - 2))
    (HP : Hid (∀ o, Calls Tryz.prog 129 #[.slice q (n - 2) c'] (w.alloc o) (NewPt (w.alloc o) ⟨6, false, [], 0, 0⟩))) :
    Calls Tryz.prog 113 #[.slice p n c] w (PlainTk w (badTk 6)) := by
  have hm : lesser (n : Int) 24 = n := by unfold lesser; rw [if_pos (by omega)]
  rcases hq with ⟨rfl, rfl, rfl⟩ | ⟨h2, rfl, rfl⟩
  · obtain rfl : n = 2 := by omega
    clear hm
    go_enter Tryz.func113, Tryz.ntmps113
    go_wp2_with fail
    refine (l1Min_any _ _ _).mono ?_
    rintro e w' ⟨rfl, rfl⟩
    simp only [show lesser 2 24 = 2 from rfl]
    go_wp2_with fail
    refine (HP.out _).mono ?_
    rintro e w1 ⟨v, rfl, ho, hb⟩
    obtain ⟨pp, cc, rfl⟩ := ho.slice
    have HB1 := Lib.hid hb
    have l0 := new_lt hb
    have n0 : ¬ w.heap.size = w1.heap.size := by omega
    clear hb ho
    unfold ptV
    dsimp only
    go_wp2_with fail
    refine (l3Bad_any _ _).mono ?_
    rintro e w2 ⟨rfl, hb2⟩
    have hb3 := below_past HB1.out hb2
    have HE : Hid (PlainTk w (badTk 6) (.returned (tkV (badTk 6) (.slice none 0 0))) (sets w2 w.heap.size 0 (tkL (badTk 6) (.slice none 0 0)))) := tk_end_plain (tkL (badTk 6) (.slice none 0 0)) hb3
    obtain ⟨hcc, hf⟩ := bcell hb3
    clear hb2 hb3
    unfold tkV badTk noEv
    go_wp2_with fail
    refine bodyPost_ret (v := tkV (badTk 6) (.slice none 0 0)) ?_ rfl HE.out
    simp [results, Tryz.results113, tkV, badTk, noEv, go_sem, hcc]
  · skip
    go_enter Tryz.func113, Tryz.ntmps113
    go_wp2_with fail
    refine (l1Min_any _ _ _).mono ?_
    rintro e w' ⟨rfl, rfl⟩
    rw [hm]
    go_wp2_with fail
    refine (HP.out _).mono ?_
    rintro e w1 ⟨v, rfl, ho, hb⟩
    obtain ⟨pp, cc, rfl⟩ := ho.slice
    have HB1 := Lib.hid hb
    have l0 := new_lt hb
    have n0 : ¬ w.heap.size = w1.heap.size := by omega
    clear hb ho
    unfold ptV
    dsimp only
    go_wp2_with fail
    refine (l3Bad_any _ _).mono ?_
    rintro e w2 ⟨rfl, hb2⟩
    have hb3 := below_past HB1.out hb2
    have HE : Hid (PlainTk w (badTk 6) (.returned (tkV (badTk 6) (.slice none 0 0))) (sets w2 w.heap.size 0 (tkL (badTk 6) (.slice none 0 0)))) := tk_end_plain (tkL (badTk 6) (.slice none 0 0)) hb3
    obtain ⟨hcc, hf⟩ := bcell hb3
    clear hb2 hb3
    unfold tkV badTk noEv
    go_wp2_with fail
    refine bodyPost_ret (v := tkV (badTk 6) (.slice none 0 0)) ?_ rfl HE.out
    simp [results, Tryz.results113, tkV, badTk, noEv, go_sem, hcc]

set_option maxRecDepth 100000 in
set_option maxHeartbeats 4000000 in
theorem l3Sequence_full (p : Option Addr) (n c : Nat) (d : List UInt8) (w : World) (h24 : 24 ≤ n) (hc : n ≤ c)
    (HP : Hid (∀ o, Calls Tryz.prog 129 #[.slice (p.map (·.add 2)) 22 (c - 2)] (w.alloc o) (NewPt (w.alloc o) ⟨6, false, [], 0, 0⟩)))
    (HR : Hid (∀ w', Below w.heap.size w w' → Calls Tryz.prog 81 #[.slice p n c] w' (NewTk w' (rTk d 24)))) :
    Calls Tryz.prog 113 #[.slice p n c] w (NewTk w (rTk d 24)) := by
  have hm : lesser (n : Int) 24 = 24 := by unfold lesser; rw [if_neg (by omega)]
  have h2 : ¬ c = 2 := by omega
  go_enter Tryz.func113, Tryz.ntmps113
  go_wp2_with fail
  refine (l1Min_any _ _ _).mono ?_
  rintro e w' ⟨rfl, rfl⟩
  rw [hm]
  go_wp2_with fail
  refine (HP.out _).mono ?_
  rintro e w1 ⟨v, rfl, ho, hb⟩
  obtain ⟨pp, cc, rfl⟩ := ho.slice
  have HR2 := Lib.hid (fun A => HR.out _ (below_on (below_on (below_mk _ _) hb) (below_mk _ A)))
  clear HR
  have HB1 := Lib.hid hb
  have l0 := new_lt hb
  have n0 : ¬ w.heap.size = w1.heap.size := by omega
  clear hb ho
  unfold ptV
  dsimp only
  go_wp2_with fail
  refine (HR2.out _).mono ?_
  rintro e w9 ⟨v, rfl, ho, hb9⟩
  obtain ⟨px, cx, hv⟩ := ho.slice
  subst hv
  have hb6 := below_past HB1.out hb9
  have HE : Hid (NewTk w (rTk d 24) (.returned (tkV (rTk d 24) (.slice px d.length cx))) (sets w9 w.heap.size 0 (tkL (rTk d 24) (.slice px d.length cx)))) := tk_end (tkL (rTk d 24) (.slice px d.length cx)) (ho.lower (past_le HB1.out _)) hb6
  clear l0 n0
  obtain ⟨hcc, hf⟩ := bcell hb6
  clear ho hb9 hb6
  unfold tkV rTk rawEv
  dsimp only
  go_wp2_with fail
  refine bodyPost_ret (v := tkV (rTk d 24) (.slice px d.length cx)) ?_ rfl HE.out
  simp [results, Tryz.results113, tkV, rTk, rawEv, go_sem, hcc]

set_option maxRecDepth 100000 in
set_option maxHeartbeats 4000000 in
theorem l3Sequence_text (p : Option Addr) (n c k s : Nat) (r : Pt) (w : World) (hk : 3 ≤ k) (hkc : k ≤ c) (hs : r.size = (s : Int)) (hs2 : s ≤ 22) (hsk : s + 2 ≤ k) (hm : lesser (n : Int) 24 = k) (hl : r.nums.length ≤ 4) (hN : ∀ x ∈ r.nums, 0 ≤ x ∧ x ≤ 9999999)
    (HP : Hid (∀ o, Calls Tryz.prog 129 #[.slice (p.map (·.add 2)) (k - 2) (c - 2)] (w.alloc o) (NewPt (w.alloc o) r))) (h6 : (r.code == 6) = false) (h0 : (r.code == 0) = false) (d : List UInt8) (HR : Hid (∀ w', Below w.heap.size w w' → Calls Tryz.prog 81 #[.slice p (s + 2) c] w' (NewTk w' (rTk d (s + 2))))) :
    Calls Tryz.prog 113 #[.slice p n c] w (NewTk w (rTk d (s + 2))) := by
  have h2 : ¬ c = 2 := by omega
  obtain ⟨code, priv, nums, fin, size⟩ := r
  dsimp only at *
  subst hs
  clear hN
  go_enter Tryz.func113, Tryz.ntmps113
  go_wp2_with fail
  refine (l1Min_any _ _ _).mono ?_
  rintro e w' ⟨rfl, rfl⟩
  rw [hm]
  go_wp2_with fail
  refine (HP.out _).mono ?_
  rintro e w1 ⟨v, rfl, ho, hb⟩
  obtain ⟨pp, cc, rfl⟩ := ho.slice
  have HR2 := Lib.hid (fun A => HR.out _ (below_on (below_on (below_mk _ _) hb) (below_mk _ A)))
  clear HR
  have HB1 := Lib.hid hb
  have l0 := new_lt hb
  have n0 : ¬ w.heap.size = w1.heap.size := by omega
  clear hb ho
  unfold ptV
  dsimp only
  go_wp2_with fail
  refine (HR2.out _).mono ?_
  rintro e w9 ⟨v, rfl, ho, hb9⟩
  obtain ⟨px, cx, hv⟩ := ho.slice
  subst hv
  have hb6 := below_past HB1.out hb9
  have HE : Hid (NewTk w (rTk d (s + 2)) (.returned (tkV (rTk d (s + 2)) (.slice px d.length cx))) (sets w9 w.heap.size 0 (tkL (rTk d (s + 2)) (.slice px d.length cx)))) := tk_end (tkL (rTk d (s + 2)) (.slice px d.length cx)) (ho.lower (past_le HB1.out _)) hb6
  clear l0 n0
  obtain ⟨hcc, hf⟩ := bcell hb6
  clear ho hb9 hb6
  unfold tkV rTk rawEv
  dsimp only
  go_wp2_with fail
  refine bodyPost_ret (v := tkV (rTk d (s + 2)) (.slice px d.length cx)) ?_ rfl HE.out
  simp [results, Tryz.results113, tkV, rTk, rawEv, go_sem, hcc]

set_option maxRecDepth 100000 in
set_option maxHeartbeats 4000000 in
theorem l3Sequence_paste (p : Option Addr) (n c k s : Nat) (r : Pt) (w : World) (hk : 3 ≤ k) (hkc : k ≤ c) (hs : r.size = (s : Int)) (hs2 : s ≤ 22) (hsk : s + 2 ≤ k) (hm : lesser (n : Int) 24 = k) (hl : r.nums.length ≤ 4) (hN : ∀ x ∈ r.nums, 0 ≤ x ∧ x ≤ 9999999)
    (HP : Hid (∀ o, Calls Tryz.prog 129 #[.slice (p.map (·.add 2)) (k - 2) (c - 2)] (w.alloc o) (NewPt (w.alloc o) r))) (h0 : r.code = 0) (x : Int) (hp : r.priv = false) (hfin : (r.fin == 126) = true) (hx : r.nums = [x]) (hx2 : (x == 200) = true) :
    Calls Tryz.prog 113 #[.slice p n c] w (NewTk w (pasteOn (s + 2))) := by
  have h2 : ¬ c = 2 := by omega
  have hr0 : r.code = 0 := h0
  obtain ⟨code, priv, nums, fin, size⟩ := r
  dsimp only at *
  subst hs
  subst hr0
  subst hp hx
  clear hN h0
  go_enter Tryz.func113, Tryz.ntmps113
  go_wp2_with fail
  refine (l1Min_any _ _ _).mono ?_
  rintro e w' ⟨rfl, rfl⟩
  rw [hm]
  go_wp2_with fail
  refine (HP.out _).mono ?_
  rintro e w1 ⟨v, rfl, ho, hb⟩
  obtain ⟨pp, cc, rfl⟩ := ho.slice
  obtain ⟨g, off, rfl, hg, hcx⟩ := ho.is.2.cons
  have hx0 : w1.cell? ⟨g, off, none⟩ = some (.int .i64 x) := hcx 0 (by simp)
  have HI := Lib.hid ho.is.2
  obtain ⟨hcc, hf⟩ := bcell hb
  clear hcx
  have HB1 := Lib.hid hb
  have l0 := new_lt hb
  have n0 : ¬ w.heap.size = w1.heap.size := by omega
  clear hb ho
  unfold ptV
  dsimp only
  go_wp2_with fail
  have HE : Hid (NewTk w (pasteOn (s + 2)) (.returned (tkV (pasteOn (s + 2)) (.slice none 0 0))) ((sets w1 w.heap.size 0 (tkL (pasteOn (s + 2)) (.slice none 0 0))))) := tk_end (tkL (pasteOn (s + 2)) (.slice none 0 0)) (own_nil _ _) HB1.out
  have HE2 := fun A => Lib.hid (HE.out.more A)
  refine bodyPost_ret (v := tkV (pasteOn (s + 2)) (.slice none 0 0)) ?_ rfl (HE2 _).out
  simp [results, Tryz.results113, tkV, pasteOn, noEv, go_sem, hcc, l0]

end Go.Proofs.YtjopjddhgaiddabGreatDoor
