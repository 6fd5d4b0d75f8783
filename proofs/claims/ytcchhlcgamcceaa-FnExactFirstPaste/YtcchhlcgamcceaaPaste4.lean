/- Pastes: tokenWithin of the program. -/
import Derived.Test.YtcchhlcgamcceaaPaste3
namespace Go.Proofs.Ytcchhlcgamcceaa
open Go.RowKit

/-- the panic of what has not arrived -/
def waitPanic : List PanicEntry := [{ v := .iface 9 (.string ⟨#[116, 104, 101, 32, 116, 111, 107, 101, 110, 32, 105, 115, 32, 105, 110, 99, 111, 109, 112, 108, 101, 116, 101]⟩), recovered := false }]
/-- what a call leaves that waits -/
def Waits (w : World) (e : Ending) (w' : World) : Prop := e = .panicked waitPanic ∧ Below w.heap.size w w'

theorem pasteToken_cut (p : Option Addr) (c k : Nat) (l : List UInt8) (w : World) (h : Bs w w.heap.size p l) (hk : k ≤ l.length) (h0 : 0 < k) (hl : l.length ≤ 1048576) :
    Calls Try.prog 86 #[.slice p k c] w (NewTok w (pasteEv (l.take k)) k true false) := by
  have e : (l.take k).length = k := by simp; omega
  have := pasteToken_any p c (l.take k) w (h.head k) (by simp; omega) (by intro e'; rw [e'] at e; simp at e; omega)
  rw [e] at this
  exact this

set_option maxRecDepth 100000 in
set_option maxHeartbeats 4000000 in
theorem tokenWithin_long (p : Option Addr) (c : Nat) (l : List UInt8) (w : World) (h : Bs w w.heap.size p l) (hc : l.length ≤ c) (hl : l.length ≤ 1048576) (h32 : 32 ≤ unt l) :
    Calls Try.prog 64 #[.slice p l.length c] w (NewTok w (pasteEv (l.take 32)) 32 true false) := by
  have hkl := unt_le l
  have HT := Lib.hid (fun o => certainSize_any p c l (w.alloc o) (h.alloc o) hc hl)
  have HP := Lib.hid (fun (o : Obj) (w1 : World) (hb : Below (w.alloc o).heap.size (w.alloc o) w1) => pasteToken_cut p c 32 l w1 ((h.alloc o).on hb) (by omega) (by omega) hl)
  clear h
  generalize unt l = k at *
  generalize hd : l.take 32 = d at *
  have h3 : d.length = 32 := by rw [← hd]; simp; omega
  clear hd
  go_enter Try.func64, Try.ntmps64
  go_wp2_with fail
  refine (HT.out _).mono ?_
  rintro e w1 ⟨rfl, hb1⟩
  have HB1 := Lib.hid hb1
  have HQ := Lib.hid (HP.out _ _ hb1)
  obtain ⟨hc1, hf1⟩ := bcell hb1
  clear hb1 HP
  go_wp2_with fail
  refine (HQ.out).mono ?_
  rintro e w2 ⟨v, rfl, ho, hb2⟩
  have hb := HB1.out.trans (hb2.mono HB1.out.size)
  obtain ⟨hcc, hf⟩ := bcell hb
  obtain ⟨pp, cc, hv⟩ := ho.slice
  subst hv
  have HE : Hid (NewTok w (pasteEv d) 32 true false (.returned (tokV (pasteEv d) (.slice pp d.length cc) 32 true false)) (sets w2 w.heap.size 0 (tokL (pasteEv d) (.slice pp d.length cc) 32 true false))) := tok_end (tokL (pasteEv d) (.slice pp d.length cc) 32 true false) (ho.lower HB1.out.size) hb
  clear hb2 ho hb hc1 hf1 h3
  unfold tokV pasteEv
  dsimp only
  go_wp2_with fail
  refine bodyPost_ret (v := tokV (pasteEv d) (.slice pp d.length cc) 32 true false) ?_ rfl HE.out
  simp [results, Try.results64, tokV, pasteEv, go_sem, hcc]

/-- the test for the end, as tokenWithin makes it -/
theorem ends_call (p : Option Addr) (c : Nat) (l : List UInt8) (hc : l.length ≤ c) (hl : l.length ≤ 1048576) (q : Bool) (hq : decide (unt l + 6 ≤ l.length) = q) :
    (¬ c = unt l → ∀ w1, Bs w1 w1.heap.size p l → Calls Try.prog 87 #[.slice (p.map (·.add (unt l))) (l.length - unt l) (c - unt l), .slice (some ⟨w1.heap.size, 0, none⟩) 6 6] (w1.alloc (.cells endC 5 (6, 7))) fun e w' => e = .returned (.bool q) ∧ w1.alloc (.cells endC 5 (6, 7)) = w') ∧
    (c = unt l → ∀ w1, Bs w1 w1.heap.size p l → Calls Try.prog 87 #[.slice p 0 0, .slice (some ⟨w1.heap.size, 0, none⟩) 6 6] (w1.alloc (.cells endC 5 (6, 7))) fun e w' => e = .returned (.bool q) ∧ w1.alloc (.cells endC 5 (6, 7)) = w') := by
  have hkl := unt_le l
  have HH := fun (w1 : World) (hb : Bs w1 w1.heap.size p l) => hasPrefix_any (if c = unt l then p else p.map (·.add (unt l))) (some ⟨w1.heap.size, 0, none⟩) (c - unt l) 6 (l.drop (unt l)) endB (w1.alloc (.cells endC 5 (6, 7))) ((hb.alloc _).tail (unt l) c hc) (end_bs w1) (by simp; omega) (by simp; omega) (by simp [endB])
  rw [ends_iff, hq, show endB.length = 6 from rfl, List.length_drop] at HH
  constructor
  · intro hck
    rw [if_neg hck] at HH
    exact HH
  · intro hck
    rw [if_pos hck, show c - unt l = 0 by omega, show l.length - unt l = 0 by omega] at HH
    exact HH

set_option maxRecDepth 100000 in
set_option maxHeartbeats 4000000 in
theorem tokenWithin_wait (p : Option Addr) (c : Nat) (l : List UInt8) (w : World) (h : Bs w w.heap.size p l) (hc : l.length ≤ c) (hl : l.length ≤ 1048576) (h32 : ¬ 32 ≤ unt l) (h6 : l.length < unt l + 6) :
    Calls Try.prog 64 #[.slice p l.length c] w (Waits w) := by
  have hkl := unt_le l
  have HT := Lib.hid (fun o => certainSize_any p c l (w.alloc o) (h.alloc o) hc hl)
  have HK := Lib.hid (fun (o : Obj) (w1 : World) (hb : Below (w.alloc o).heap.size (w.alloc o) w1) => (h.alloc o).on hb)
  obtain ⟨H1, H2⟩ := ends_call p c l hc hl false (by simp; omega)
  clear h
  unfold endC at H1 H2
  have hcv := fun W => conv_end W
  unfold endC at hcv
  have g2 : decide ((32 : Int) ≤ (unt l : Int)) = false := by simp; omega
  by_cases hck : c = unt l
  · have HH := Lib.hid (H2 hck)
    clear H1 H2
    generalize unt l = k at *
    subst hck
    go_enter Try.func64, Try.ntmps64
    go_wp2_with fail
    refine (HT.out _).mono ?_
    rintro e w1 ⟨rfl, hb1⟩
    have HB1 := Lib.hid hb1
    have HQ := Lib.hid (HH.out _ (HK.out _ _ hb1))
    obtain ⟨hc1, hf1⟩ := bcell hb1
    clear hb1 HH
    go_wp2_with fail
    refine HQ.out.mono ?_
    rintro e w2 ⟨rfl, rfl⟩
    go_wp2_with fail
    exact ⟨rfl, rfl, below_on (below_on (below_mk _ _) HB1.out) (below_mk _ _)⟩
  · have HH := Lib.hid (H1 hck)
    clear H1 H2
    generalize unt l = k at *
    go_enter Try.func64, Try.ntmps64
    go_wp2_with fail
    refine (HT.out _).mono ?_
    rintro e w1 ⟨rfl, hb1⟩
    have HB1 := Lib.hid hb1
    have HQ := Lib.hid (HH.out _ (HK.out _ _ hb1))
    obtain ⟨hc1, hf1⟩ := bcell hb1
    clear hb1 HH
    go_wp2_with fail
    refine HQ.out.mono ?_
    rintro e w2 ⟨rfl, rfl⟩
    go_wp2_with fail
    exact ⟨rfl, rfl, below_on (below_on (below_mk _ _) HB1.out) (below_mk _ _)⟩

set_option maxRecDepth 100000 in
set_option maxHeartbeats 4000000 in
theorem tokenWithin_some (p : Option Addr) (c : Nat) (l : List UInt8) (w : World) (h : Bs w w.heap.size p l) (hc : l.length ≤ c) (hl : l.length ≤ 1048576) (h32 : ¬ 32 ≤ unt l) (h6 : ¬ l.length < unt l + 6) (h0 : 0 < unt l) :
    Calls Try.prog 64 #[.slice p l.length c] w (NewTok w (pasteEv (l.take (unt l))) (unt l) true false) := by
  have hkl := unt_le l
  have HT := Lib.hid (fun o => certainSize_any p c l (w.alloc o) (h.alloc o) hc hl)
  have HK := Lib.hid (fun (o : Obj) (w1 : World) (hb : Below (w.alloc o).heap.size (w.alloc o) w1) => (h.alloc o).on hb)
  obtain ⟨H1, H2⟩ := ends_call p c l hc hl true (by simp; omega)
  have HP := Lib.hid (fun (o : Obj) (w1 : World) (o2 : Obj) (hb : Below (w.alloc o).heap.size (w.alloc o) w1) => pasteToken_cut p c (unt l) l (w1.alloc o2) (((h.alloc o).on hb).alloc o2) hkl h0 hl)
  clear h
  unfold endC at H1 H2
  have hcv := fun W => conv_end W
  unfold endC at hcv
  have g2 : decide ((32 : Int) ≤ (unt l : Int)) = false := by simp; omega
  have g3 : (0 : Int) < (unt l : Int) := by omega
  by_cases hck : c = unt l
  · exact absurd hck (by omega)
  · have HH := Lib.hid (H1 hck)
    clear H1 H2
    generalize unt l = k at *
    generalize l.take k = d at *
    go_enter Try.func64, Try.ntmps64
    go_wp2_with fail
    refine (HT.out _).mono ?_
    rintro e w1 ⟨rfl, hb1⟩
    have HB1 := Lib.hid hb1
    have HQ := Lib.hid (HH.out _ (HK.out _ _ hb1))
    obtain ⟨hc1, hf1⟩ := bcell hb1
    have HR := Lib.hid (fun o2 => HP.out _ _ o2 hb1)
    clear hb1 HH
    go_wp2_with fail
    refine HQ.out.mono ?_
    rintro e w2 ⟨rfl, rfl⟩
    clear HP
    go_wp2_with fail
    refine (HR.out _).mono ?_
    rintro e w2 ⟨v, rfl, ho, hb2⟩
    have hb := (HB1.out.trans ((below_mk w1 _).mono HB1.out.size)).trans (hb2.mono (Nat.le_trans HB1.out.size (by simp)))
    obtain ⟨hcc, hf⟩ := bcell hb
    obtain ⟨pp, cc, hv⟩ := ho.slice
    subst hv
    have HE : Hid (NewTok w (pasteEv d) k true false (.returned (tokV (pasteEv d) (.slice pp d.length cc) k true false)) (sets w2 w.heap.size 0 (tokL (pasteEv d) (.slice pp d.length cc) k true false))) := tok_end (tokL (pasteEv d) (.slice pp d.length cc) k true false) (ho.lower (Nat.le_trans HB1.out.size (by simp))) hb
    clear hb2 ho hb hc1 hf1
    unfold tokV pasteEv
    dsimp only
    go_wp2_with fail
    refine bodyPost_ret (v := tokV (pasteEv d) (.slice pp d.length cc) k true false) ?_ rfl HE.out
    simp [results, Try.results64, tokV, pasteEv, go_sem, hcc]

set_option maxRecDepth 100000 in
set_option maxHeartbeats 4000000 in
theorem tokenWithin_end (p : Option Addr) (c : Nat) (l : List UInt8) (w : World) (h : Bs w w.heap.size p l) (hc : l.length ≤ c) (hl : l.length ≤ 1048576) (h32 : ¬ 32 ≤ unt l) (h6 : ¬ l.length < unt l + 6) (h0 : ¬ 0 < unt l) :
    Calls Try.prog 64 #[.slice p l.length c] w (NewTok w noEv 6 false true) := by
  have hkl := unt_le l
  have HT := Lib.hid (fun o => certainSize_any p c l (w.alloc o) (h.alloc o) hc hl)
  have HK := Lib.hid (fun (o : Obj) (w1 : World) (hb : Below (w.alloc o).heap.size (w.alloc o) w1) => (h.alloc o).on hb)
  obtain ⟨H1, H2⟩ := ends_call p c l hc hl true (by simp; omega)
  clear h
  unfold endC at H1 H2
  have hcv := fun W => conv_end W
  unfold endC at hcv
  have g2 : decide ((32 : Int) ≤ (unt l : Int)) = false := by simp; omega
  have g3 : ¬ ((0 : Int) < (unt l : Int)) := by omega
  by_cases hck : c = unt l
  · exact absurd hck (by omega)
  · have HH := Lib.hid (H1 hck)
    clear H1 H2
    generalize unt l = k at *
    go_enter Try.func64, Try.ntmps64
    go_wp2_with fail
    refine (HT.out _).mono ?_
    rintro e w1 ⟨rfl, hb1⟩
    have HB1 := Lib.hid hb1
    have HQ := Lib.hid (HH.out _ (HK.out _ _ hb1))
    obtain ⟨hc1, hf1⟩ := bcell hb1
    clear hb1 HH
    go_wp2_with fail
    refine HQ.out.mono ?_
    rintro e w2 ⟨rfl, rfl⟩
    have hb := HB1.out.trans ((below_mk w1 (.cells #[.int .u8 27, .int .u8 91, .int .u8 50, .int .u8 48, .int .u8 49, .int .u8 126] 5 (6, 7))).mono HB1.out.size)
    clear HQ hc1 hf1
    generalize w1.alloc (.cells #[.int .u8 27, .int .u8 91, .int .u8 50, .int .u8 48, .int .u8 49, .int .u8 126] 5 (6, 7)) = w2 at *
    have HE : Hid (NewTok w noEv 6 false true (.returned (tokV noEv (.slice none 0 0) 6 false true)) (sets w2 w.heap.size 0 (tokL noEv (.slice none 0 0) 6 false true))) := tok_end (tokL noEv (.slice none 0 0) 6 false true) (own_nil _ _) hb
    obtain ⟨hcc, hf⟩ := bcell hb
    clear hb
    go_wp2_with fail
    refine bodyPost_ret (v := tokV noEv (.slice none 0 0) 6 false true) ?_ rfl HE.out
    simp [results, Try.results64, tokV, noEv, go_sem, hcc]

end Go.Proofs.Ytcchhlcgamcceaa
