/- DecoderFault of the model and of the program. -/
import Derived.Test.YtbmfdakagcbpiaaDoorQDec
import Derived.Test.YtbmfdakagcbpiaaDoorQTokImpl8
import Derived.Test.YtbmfdakagcbpiaaDoorQTokSpec4ToFlush2
import Derived.Test.YtbmfdakagcbpiaaDoorQPaste3ToPaste5
import Derived.Test.YtbmfdakagcbpiaaDoorQTokFactsToPasteMore
import Derived.Test.YtbmfdakagcbpiaaDoorQTakes
import Derived.Test.YtbmfdakagcbpiaaDoorQTokToFields
namespace Go.Proofs.YtbmfdakagcbpiaaDoor
open Go.RowKit
set_option linter.unusedVariables false

/-- the first token, within a paste or not -/
def certTok (l : List UInt8) (q : Bool) : Tk := if q = true then firstPaste l else firstTok l

/-- what is wrong with a decoder -/
def dcFault (d : Dc) : Int :=
  if inR d.due 0 2000000 = false then 3
  else if d.pend = [] then (if d.due = 0 then 0 else 7)
  else if (certTok d.pend d.paste).code = 6 then 0 else 7

set_option maxRecDepth 100000 in
set_option maxHeartbeats 1000000 in
theorem implCertain_any (p : Option Addr) (c : Nat) (l : List UInt8) (q : Bool) (w : World) (h : Bs w w.heap.size p l) (ht : Tabs w) (hc : l.length ≤ c) (hl : l.length ≤ 1048576) :
    Calls Tryd.prog 14 #[.slice p l.length c, .bool q] w (NewTk w (certTok l q)) := by
  have HP := Lib.hid (fun o => implFirstPaste_any p c l (w.alloc o) (h.alloc _) hc hl)
  have HF := Lib.hid (fun o => implFirstToken_any p c l (w.alloc o) (h.alloc _) (ht.on (below_mk _ _)) hc hl)
  unfold certTok
  generalize firstPaste l = t1 at *
  generalize firstTok l = t2 at *
  clear h ht
  cases q
  · go_enter Tryd.func14, Tryd.ntmps14
    go_wp2_with fail
    refine (HF.out _).mono ?_
    rintro e w1 ⟨v, rfl, ho, hb⟩
    obtain ⟨pp, cc, hv⟩ := ho.slice
    subst hv
    have HE := Lib.hid (tk_end (t := t2) (tkL t2 (.slice pp t2.ev.data.length cc)) ho hb)
    obtain ⟨hcc, hf⟩ := bcell hb
    clear ho hb
    unfold tkV
    go_wp2_with fail
    refine bodyPost_ret (v := tkV t2 (.slice pp t2.ev.data.length cc)) ?_ rfl HE.out
    simp [results, Tryd.results14, tkV, go_sem, hcc]
  · go_enter Tryd.func14, Tryd.ntmps14
    go_wp2_with fail
    refine (HP.out _).mono ?_
    rintro e w1 ⟨v, rfl, ho, hb⟩
    obtain ⟨pp, cc, hv⟩ := ho.slice
    subst hv
    have HE := Lib.hid (tk_end (t := t1) (tkL t1 (.slice pp t1.ev.data.length cc)) ho hb)
    obtain ⟨hcc, hf⟩ := bcell hb
    clear ho hb
    unfold tkV
    go_wp2_with fail
    refine bodyPost_ret (v := tkV t1 (.slice pp t1.ev.data.length cc)) ?_ rfl HE.out
    simp [results, Tryd.results14, tkV, go_sem, hcc]

set_option maxRecDepth 100000 in
set_option maxHeartbeats 1000000 in
theorem l4First_any (p : Option Addr) (c : Nat) (l : List UInt8) (q : Bool) (w : World) (h : Bs w w.heap.size p l) (hc : l.length ≤ c) (hl : l.length ≤ 1048576) :
    Calls Tryd.prog 11 #[.slice p l.length c, .bool q] w (NewTk w (certTok l q)) := by
  have HP := Lib.hid (fun o => specFirstPaste_any p c l (w.alloc o) (h.alloc _) hc hl)
  have HF := Lib.hid (fun o => specFirstToken_any p c l (w.alloc o) (h.alloc _) hc hl)
  unfold certTok
  generalize firstPaste l = t1 at *
  generalize firstTok l = t2 at *
  clear h
  cases q
  · go_enter Tryd.func11, Tryd.ntmps11
    go_wp2_with fail
    refine (HF.out _).mono ?_
    rintro e w1 ⟨v, rfl, ho, hb⟩
    obtain ⟨pp, cc, hv⟩ := ho.slice
    subst hv
    have HE := Lib.hid (tk_end (t := t2) (tkL t2 (.slice pp t2.ev.data.length cc)) ho hb)
    obtain ⟨hcc, hf⟩ := bcell hb
    clear ho hb
    unfold tkV
    go_wp2_with fail
    refine bodyPost_ret (v := tkV t2 (.slice pp t2.ev.data.length cc)) ?_ rfl HE.out
    simp [results, Tryd.results11, tkV, go_sem, hcc]
  · go_enter Tryd.func11, Tryd.ntmps11
    go_wp2_with fail
    refine (HP.out _).mono ?_
    rintro e w1 ⟨v, rfl, ho, hb⟩
    obtain ⟨pp, cc, hv⟩ := ho.slice
    subst hv
    have HE := Lib.hid (tk_end (t := t1) (tkL t1 (.slice pp t1.ev.data.length cc)) ho hb)
    obtain ⟨hcc, hf⟩ := bcell hb
    clear ho hb
    unfold tkV
    go_wp2_with fail
    refine bodyPost_ret (v := tkV t1 (.slice pp t1.ev.data.length cc)) ?_ rfl HE.out
    simp [results, Tryd.results11, tkV, go_sem, hcc]

/-- the token's code, of the model or of the program -/
theorem dcFault_range {d : Dc} (h : inR d.due 0 2000000 = false) : dcFault d = 3 := by unfold dcFault; rw [if_pos h]
theorem dcFault_none {d : Dc} (h : inR d.due 0 2000000 = true) (h0 : d.pend = []) : dcFault d = if d.due = 0 then 0 else 7 := by unfold dcFault; rw [if_neg (by rw [h]; simp), if_pos h0]
theorem dcFault_some {d : Dc} (h : inR d.due 0 2000000 = true) (h0 : d.pend ≠ []) : dcFault d = if (certTok d.pend d.paste).code = 6 then 0 else 7 := by unfold dcFault; rw [if_neg (by rw [h]; simp), if_neg h0]

set_option maxRecDepth 100000 in
set_option maxHeartbeats 1000000 in
theorem implDecoderFault_range (d : Dc) (p : Option Addr) (c : Nat) (w : World) (hr : inR d.due 0 2000000 = false) :
    Calls Tryd.prog 7 #[dcV d p c] w fun e w' => e = .returned (.int .i64 (dcFault d)) ∧ Below w.heap.size w w' := by
  have HF := Lib.hid (dcFault_range hr)
  unfold dcV
  go_enter Tryd.func7, Tryd.ntmps7
  go_wp2_with fail
  refine (isWithin_two _ _ _ _ _ _ (by simp)).mono ?_
  rw [hr]
  rintro e w1 ⟨rfl, rfl⟩
  go_wp2_with fail
  go_ret
  exact ⟨ret_int HF.out.symm, below_on (below_mk _ _) (below_mk _ _)⟩

set_option maxRecDepth 100000 in
set_option maxHeartbeats 1000000 in
theorem implDecoderFault_none (d : Dc) (p : Option Addr) (c : Nat) (w : World) (hr : inR d.due 0 2000000 = true) (h0 : d.pend = []) :
    Calls Tryd.prog 7 #[dcV d p c] w fun e w' => e = .returned (.int .i64 (dcFault d)) ∧ Below w.heap.size w w' := by
  have HF := Lib.hid (dcFault_none hr h0)
  unfold dcV
  rw [h0]
  cases hz : (d.due == 0)
  · have hz' : ¬ d.due = 0 := by simpa using hz
    have hz2 : (d.due != 0) = true := by simpa using hz'
    go_enter Tryd.func7, Tryd.ntmps7
    go_wp2_with fail
    refine (isWithin_two _ _ _ _ _ _ (by simp)).mono ?_
    rw [hr]
    rintro e w1 ⟨rfl, rfl⟩
    go_wp2_with fail
    go_ret
    exact ⟨ret_int (by rw [HF.out, if_neg hz']), below_on (below_mk _ _) (below_mk _ _)⟩
  · have hz' : d.due = 0 := by simpa using hz
    have hz2 : (d.due != 0) = false := by simpa using hz'
    go_enter Tryd.func7, Tryd.ntmps7
    go_wp2_with fail
    refine (isWithin_two _ _ _ _ _ _ (by simp)).mono ?_
    rw [show inR 0 0 2000000 = true from rfl]
    rintro e w1 ⟨rfl, rfl⟩
    go_wp2_with fail
    go_ret
    exact ⟨ret_int (by rw [HF.out, if_pos hz']), below_on (below_mk _ _) (below_mk _ _)⟩

set_option maxRecDepth 100000 in
set_option maxHeartbeats 1000000 in
theorem implDecoderFault_some (d : Dc) (p : Option Addr) (c : Nat) (w : World) (hr : inR d.due 0 2000000 = true) (h0 : d.pend ≠ []) (h : Bs w w.heap.size p d.pend) (ht : Tabs w) (hc : d.pend.length ≤ c) (hl : d.pend.length ≤ 1048576) :
    Calls Tryd.prog 7 #[dcV d p c] w fun e w' => e = .returned (.int .i64 (dcFault d)) ∧ Below w.heap.size w w' := by
  have HF := Lib.hid (dcFault_some hr h0)
  have hpos : 0 < d.pend.length := List.length_pos_iff.2 h0
  have e0 : ¬ (d.pend.length : Int) = 0 := by omega
  have HC := Lib.hid (fun o1 o2 => implCertain_any p c d.pend d.paste ((w.alloc o1).alloc o2) ((h.alloc _).alloc _) ((ht.on (below_mk _ _)).on (below_mk _ _)) hc hl)
  generalize certTok d.pend d.paste = t at *
  clear h ht h0
  unfold dcV
  cases hz : (t.code == 6)
  all_goals
    have hz2 : (t.code != 6) = !(t.code == 6) := rfl
    rw [hz] at hz2
    go_enter Tryd.func7, Tryd.ntmps7
    go_wp2_with fail
    refine (isWithin_two _ _ _ _ _ _ (by simp)).mono ?_
    rw [hr]
    rintro e w1 ⟨rfl, rfl⟩
    go_wp2_with fail
    refine (HC.out _ _).mono ?_
    rintro e w2 ⟨v, rfl, ho, hb⟩
    have D2 := below_on (below_on (below_mk w _) (below_mk _ _)) hb
    unfold tkV
    clear ho hb
    have hfd := fld_code
    go_wp2_with fail
    go_ret
    exact ⟨ret_int (by rw [HF.out]; simp at hz; simp [hz]), D2⟩

theorem implDecoderFault_any (d : Dc) (p : Option Addr) (c : Nat) (w : World) (h : Bs w w.heap.size p d.pend) (ht : Tabs w) (hc : d.pend.length ≤ c) (hl : d.pend.length ≤ 1048576) :
    Calls Tryd.prog 7 #[dcV d p c] w fun e w' => e = .returned (.int .i64 (dcFault d)) ∧ Below w.heap.size w w' := by
  cases hr : inR d.due 0 2000000
  · exact implDecoderFault_range d p c w hr
  by_cases h0 : d.pend = []
  · exact implDecoderFault_none d p c w hr h0
  · exact implDecoderFault_some d p c w hr h0 h ht hc hl

end Go.Proofs.YtbmfdakagcbpiaaDoor

/- DecoderFault of the model. -/
namespace Go.Proofs.YtbmfdakagcbpiaaDoor
open Go.RowKit
set_option linter.unusedVariables false

set_option maxRecDepth 100000 in
set_option maxHeartbeats 1000000 in
theorem specDecoderFault_range (d : Dc) (p : Option Addr) (c : Nat) (w : World) (hr : inR d.due 0 2000000 = false) :
    Calls Tryd.prog 5 #[dcV d p c] w fun e w' => e = .returned (.int .i64 (dcFault d)) ∧ Below w.heap.size w w' := by
  have HF := Lib.hid (dcFault_range hr)
  unfold dcV
  go_enter Tryd.func5, Tryd.ntmps5
  go_wp2_with fail
  refine (l1In_any _ _ _ _).mono ?_
  rw [hr]
  rintro e w1 ⟨rfl, rfl⟩
  go_wp2_with fail
  go_ret
  exact ⟨ret_int HF.out.symm, below_mk _ _⟩

set_option maxRecDepth 100000 in
set_option maxHeartbeats 1000000 in
theorem specDecoderFault_none (d : Dc) (p : Option Addr) (c : Nat) (w : World) (hr : inR d.due 0 2000000 = true) (h0 : d.pend = []) :
    Calls Tryd.prog 5 #[dcV d p c] w fun e w' => e = .returned (.int .i64 (dcFault d)) ∧ Below w.heap.size w w' := by
  have HF := Lib.hid (dcFault_none hr h0)
  unfold dcV
  rw [h0]
  cases hz : (d.due == 0)
  · have hz' : ¬ d.due = 0 := by simpa using hz
    have hz2 : (d.due != 0) = true := by simpa using hz'
    go_enter Tryd.func5, Tryd.ntmps5
    go_wp2_with fail
    refine (l1In_any _ _ _ _).mono ?_
    rw [hr]
    rintro e w1 ⟨rfl, rfl⟩
    go_wp2_with fail
    go_ret
    exact ⟨ret_int (by rw [HF.out, if_neg hz']), below_mk _ _⟩
  · have hz' : d.due = 0 := by simpa using hz
    have hz2 : (d.due != 0) = false := by simpa using hz'
    go_enter Tryd.func5, Tryd.ntmps5
    go_wp2_with fail
    refine (l1In_any _ _ _ _).mono ?_
    rw [show inR 0 0 2000000 = true from rfl]
    rintro e w1 ⟨rfl, rfl⟩
    go_wp2_with fail
    go_ret
    exact ⟨ret_int (by rw [HF.out, if_pos hz']), below_mk _ _⟩

set_option maxRecDepth 100000 in
set_option maxHeartbeats 1000000 in
theorem specDecoderFault_some (d : Dc) (p : Option Addr) (c : Nat) (w : World) (hr : inR d.due 0 2000000 = true) (h0 : d.pend ≠ []) (h : Bs w w.heap.size p d.pend) (hc : d.pend.length ≤ c) (hl : d.pend.length ≤ 1048576) :
    Calls Tryd.prog 5 #[dcV d p c] w fun e w' => e = .returned (.int .i64 (dcFault d)) ∧ Below w.heap.size w w' := by
  have HF := Lib.hid (dcFault_some hr h0)
  have hpos : 0 < d.pend.length := List.length_pos_iff.2 h0
  have e0 : ¬ (d.pend.length : Int) = 0 := by omega
  have HC := Lib.hid (fun o1 => l4First_any p c d.pend d.paste (w.alloc o1) (h.alloc _) hc hl)
  generalize certTok d.pend d.paste = t at *
  clear h h0
  unfold dcV
  cases hz : (t.code == 6)
  all_goals
    have hz2 : (t.code != 6) = !(t.code == 6) := rfl
    rw [hz] at hz2
    go_enter Tryd.func5, Tryd.ntmps5
    go_wp2_with fail
    refine (l1In_any _ _ _ _).mono ?_
    rw [hr]
    rintro e w1 ⟨rfl, rfl⟩
    go_wp2_with fail
    refine (HC.out _).mono ?_
    rintro e w2 ⟨v, rfl, ho, hb⟩
    have D2 := below_on (below_mk w _) hb
    unfold tkV
    clear ho hb
    have hfd := fld_code
    go_wp2_with fail
    go_ret
    exact ⟨ret_int (by rw [HF.out]; simp at hz; simp [hz]), D2⟩

theorem specDecoderFault_any (d : Dc) (p : Option Addr) (c : Nat) (w : World) (h : Bs w w.heap.size p d.pend) (hc : d.pend.length ≤ c) (hl : d.pend.length ≤ 1048576) :
    Calls Tryd.prog 5 #[dcV d p c] w fun e w' => e = .returned (.int .i64 (dcFault d)) ∧ Below w.heap.size w w' := by
  cases hr : inR d.due 0 2000000
  · exact specDecoderFault_range d p c w hr
  by_cases h0 : d.pend = []
  · exact specDecoderFault_none d p c w hr h0
  · exact specDecoderFault_some d p c w hr h0 h hc hl

end Go.Proofs.YtbmfdakagcbpiaaDoor

/- The walk of the law over DecoderFault. -/
namespace Go.Proofs.YtbmfdakagcbpiaaDoor
open Go.RowKit
set_option linter.unusedVariables false

set_option maxRecDepth 100000 in
set_option maxHeartbeats 2000000 in
theorem lawDecoderFault_any (a : Dc) (p : Option Addr) (c : Nat) (w : World) (h : Bs w w.heap.size p a.pend) (hn : a.pend.length ≤ 9223372036854775807) (ht : Tabs w) :
    Calls Tryd.prog 3 #[dcV a p c] w fun e w' => e = .returned (.bool true) ∧ Below w.heap.size w w' := by
  have b0 := below_mk w (.cells (dcL a p c).toArray 24)
  have A0 := AtL.new w (dcL a p c) 24
  unfold dcL at b0 A0
  unfold dcV
  by_cases hs : leftOf 1048576 a.pend.length < 0
  · go_enter Tryd.func3, Tryd.ntmps3
    go_wp2_with (go_at_call 4; refine (szDecoder_any a p c _ _ hn (by omega) (by omega)).mono ?_; rintro en w1 ⟨rfl, b1⟩)
    go_ret
    exact ⟨rfl, below_on b0 b1⟩
  have hs0 : 0 ≤ leftOf 1048576 a.pend.length := by omega
  have hl : a.pend.length ≤ 1048576 := by have := (leftOf_le hs0).2; omega
  have hne : ((dcFault a) != (dcFault a)) = false := by simp
  generalize hr : leftOf 1048576 a.pend.length = r at *
  have HR := Lib.hid hr
  clear hr
  go_enter Tryd.func3, Tryd.ntmps3
  go_wp2_with fail
  refine (szDecoder_any a p c _ _ hn (by omega) (by omega)).mono ?_
  rw [HR.out]
  rintro en w1 ⟨rfl, b1⟩
  have A1 := A0.on b1
  have D1 := below_on b0 b1
  clear b0 b1 A0
  obtain ⟨x0, x1, x2⟩ := A1.three
  go_wp2_with fail
  refine (toDecoder_any a p c _ (h.on D1) hl).mono ?_
  rintro e w2 ⟨p2, rfl, o2, b2⟩
  clear x0 x1 x2
  have n2 := o2.bs.2
  have A2 := A1.on b2
  have D2 := below_on D1 b2
  clear A1 D1 b2 o2
  unfold dcV
  go_wp2_with fail
  refine (specDecoderFault_any a p2 _ _ n2 (Nat.le_refl _) hl).mono ?_
  rintro e w3 ⟨rfl, b3⟩
  have A3 := A2.on b3
  have D3 := below_on D2 b3
  clear A2 D2 b3 n2
  obtain ⟨x0, x1, x2⟩ := A3.three
  go_wp2_with fail
  refine (toDecoder_any a p c _ (h.on D3) hl).mono ?_
  rintro e w4 ⟨p4, rfl, o4, b4⟩
  clear x0 x1 x2
  unfold dcV
  have B4 := below_mk w4 (.cells #[.slice p4 a.pend.length a.pend.length, .bool a.paste, .int .i64 a.due] 27)
  have X4 := AtL.new w4 [.slice p4 a.pend.length a.pend.length, .bool a.paste, .int .i64 a.due] 27
  have n4 := (o4.on B4).bs.2
  have A4 := (A3.on b4).on B4
  have D4 := below_on (below_on D3 b4) B4
  clear A3 D3 b4 o4 B4
  obtain ⟨x0, x1, x2⟩ := X4.three
  go_wp2_with fail
  refine (implDecoderFault_any a p4 _ _ n4 (ht.on D4) (Nat.le_refl _) hl).mono ?_
  rintro e w6 ⟨rfl, b6⟩
  clear x0 x1 x2
  have n6 := n4.on b6
  have X6 := X4.on b6
  have A6 := A4.on b6
  have D6 := below_on D4 b6
  clear n4 X4 A4 D4 b6
  have HX7 := Lib.hid (fun W' (hb : Below w6.heap.size w6 W') => (X6.on hb).three)
  have HA7 := Lib.hid (fun W' (hb : Below w6.heap.size w6 W') => (A6.on hb).three)
  have HT7 : Hid (∀ W', Below w6.heap.size w6 W' → Calls Tryd.prog 6 #[.agg #[.slice p a.pend.length c, .bool a.paste, .int .i64 a.due]] W' fun e W2 => ∃ p1, e = .returned (.agg #[.slice p1 a.pend.length a.pend.length, .bool a.paste, .int .i64 a.due]) ∧ Bs W2 W2.heap.size p1 a.pend ∧ Below W'.heap.size W' W2 ∧ Below w6.heap.size w6 W2) := fun W' hb =>
    (toDecoder_any a p c W' (h.on (below_on D6 hb)) hl).mono fun _ _ ⟨p1, he, ho, hb2⟩ => ⟨p1, he, ho.bs.2, hb2, below_on hb hb2⟩
  have HSM6 : Hid (Below w6.heap.size w6 w6.drew) := ⟨rfl, rfl, rfl, Nat.le_refl _, fun _ _ => rfl⟩
  have HE7 : Hid (∀ W' p1, Bs W' W'.heap.size p1 a.pend → Below w6.heap.size w6 W' → Calls Tryd.prog 8 #[.agg #[.slice p4 a.pend.length a.pend.length, .bool a.paste, .int .i64 a.due], .agg #[.slice p1 a.pend.length a.pend.length, .bool a.paste, .int .i64 a.due]] W' fun e W2 => e = .returned (.bool true) ∧ Below w6.heap.size w6 W2) := fun W' p1 h1 hb =>
    (eqDecoder_same a p4 p1 _ _ W' (n6.on hb) h1 hl).mono fun _ _ ⟨he, hb2⟩ => ⟨he, below_on hb hb2⟩
  go_wp2_with fail
  refine wp_region_noPanic ?_
  refine wp_region_held_drew (S := fun W' => Below (w6).heap.size (w6) W') (by kernel_rfl) (below_drewN (Below.refl _ _) 1) (fun hHeld => ?_)
  refine takeR 0 22 (.agg #[.slice p4 a.pend.length a.pend.length, .bool a.paste, .int .i64 a.due]) (by kernel_rfl) (by kernel_rfl) (by kernel_rfl) (by kernel_rfl) (fun _ _ _ h => h) (by kernel_rfl) (fun w o hSw ho => ?_) hHeld ?_
  · obtain rfl := Option.some.inj ho; obtain ⟨z0, z1, z2⟩ := HX7.out _ hSw; go_simp
  simp only [Act.put, List.setIfInBounds_toArray, List.set_cons_zero, List.set_cons_succ]
  refine takeR 1 23 (.agg #[.slice p a.pend.length c, .bool a.paste, .int .i64 a.due]) (by kernel_rfl) (by kernel_rfl) (by kernel_rfl) (by kernel_rfl) (fun _ _ _ h => h) (by kernel_rfl) (fun w o hSw ho => ?_) hHeld ?_
  · obtain rfl := Option.some.inj ho; obtain ⟨z0, z1, z2⟩ := HA7.out _ hSw; go_simp
  simp only [Act.put, List.setIfInBounds_toArray, List.set_cons_zero, List.set_cons_succ]
  refine oneR 2 (by kernel_rfl) (by kernel_rfl) (fun o ho K' hK => ?_)
  obtain rfl := Option.some.inj ho
  clear ho
  go_simp
  refine (HT7.out _ hHeld).mono ?_
  rintro e V7 ⟨r7, rfl, hx7, hb7, hc7⟩
  clear hHeld
  go_wp2_with fail
  refine hK.out _ _ (hc7) (fun hHeld => ?_)
  clear hK K'
  try simp only [Act.put, List.setIfInBounds_toArray, List.set_cons_zero, List.set_cons_succ]
  refine oneR 3 (by kernel_rfl) (by kernel_rfl) (fun o ho K' hK => ?_)
  obtain rfl := Option.some.inj ho
  clear ho
  go_simp
  refine (HE7.out _ _ hx7 hc7).mono ?_
  rintro e U7 ⟨rfl, hd7⟩
  clear hHeld
  go_wp2_with fail
  refine hK.out _ _ (hd7) (fun hHeld => ?_)
  clear hK K'
  try simp only [Act.put, List.setIfInBounds_toArray, List.set_cons_zero, List.set_cons_succ]
  refine takeR 4 26 (.bool false) (by kernel_rfl) (by kernel_rfl) (by kernel_rfl) (by kernel_rfl) (fun _ _ _ h => h) (by kernel_rfl) (fun w o hSw ho => ?_) hHeld ?_
  · obtain rfl := Option.some.inj ho; go_simp
  simp only [Act.put, List.setIfInBounds_toArray, List.set_cons_zero, List.set_cons_succ]
  refine wpAnyH_done (by kernel_rfl) ?_ _
  refine NoPanic.normal ?_
  have D8 := below_on D6 hHeld
  clear HX7 HA7 HT7 HE7 hx7 hb7 hc7 hd7 hHeld n6 X6 A6
  go_wp2_with fail
  go_ret
  exact ⟨rfl, D8⟩

end Go.Proofs.YtbmfdakagcbpiaaDoor
