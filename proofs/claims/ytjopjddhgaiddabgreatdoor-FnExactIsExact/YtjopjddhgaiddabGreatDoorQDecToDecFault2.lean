/- Decoders as data; the law's own helpers over them; SameDecoders of the model and of the program. -/
import Derived.Test.YtjopjddhgaiddabGreatDoorQFaultToFirstFull
import Derived.Test.YtjopjddhgaiddabGreatDoorQPutToBytesRes
import Derived.Test.YtjopjddhgaiddabGreatDoorQBytesToCells
import Derived.Deep.QuietTactic
import Derived.Test.YtjopjddhgaiddabGreatDoorQTokImpl6ToTokImpl8
import Derived.Test.YtjopjddhgaiddabGreatDoorQTokSpec3ToFlush2
import Derived.Test.YtjopjddhgaiddabGreatDoorQPaste3ToPaste5
import Derived.Test.YtjopjddhgaiddabGreatDoorQTokFactsToPasteMore
import Derived.Test.YtjopjddhgaiddabGreatDoorQTokToTokRes
import Derived.Test.YtjopjddhgaiddabGreatDoorQFlush3ToFlush4
namespace Go.Proofs.YtjopjddhgaiddabGreatDoor
open Go.RowKit
set_option linter.unusedVariables false

/-- a decoder as data -/
structure Dc where
  pend : List UInt8
  paste : Bool
  due : Int

/-- a decoder as a value: its bytes lie at p -/
def dcV (d : Dc) (p : Option Addr) (c : Nat) : Value := .agg #[.slice p d.pend.length c, .bool d.paste, .int .i64 d.due]
/-- its cells -/
def dcL (d : Dc) (p : Option Addr) (c : Nat) : List Value := [.slice p d.pend.length c, .bool d.paste, .int .i64 d.due]

theorem AtL.three {w : World} {b : Nat} {v0 v1 v2 : Value} (h : AtL w b [v0, v1, v2]) : w.cell? ⟨b, 0, none⟩ = some v0 ∧ w.cell? ⟨b, 1, none⟩ = some v1 ∧ w.cell? ⟨b, 2, none⟩ = some v2 :=
  ⟨h.get 0 rfl, h.get 1 rfl, h.get 2 rfl⟩


/-- what a call leaves that hands back a decoder of its own -/
def NewDc (w : World) (d : Dc) (en : Ending) (w' : World) : Prop :=
  ∃ p, en = .returned (dcV d p d.pend.length) ∧ Own w' w.heap.size (.slice p d.pend.length d.pend.length) d.pend ∧ Below w.heap.size w w'



/-- two decoders are the same -/
def dcEq (a b : Dc) : Bool := (a.pend == b.pend) && ((a.paste == b.paste) && (a.due == b.due))
theorem dcEq_refl (a : Dc) : dcEq a a = true := by simp [dcEq]



end Go.Proofs.YtjopjddhgaiddabGreatDoor

/- DecoderFault of the model and of the program. -/
namespace Go.Proofs.YtjopjddhgaiddabGreatDoor
open Go.RowKit
set_option linter.unusedVariables false

/-- the first token, within a paste or not -/
def certTok (l : List UInt8) (q : Bool) : Tk := if q = true then firstPaste l else firstTok l

/-- what is wrong with a decoder -/
def dcFault (d : Dc) : Int :=
  if inR d.due 0 2000000 = false then 3
  else if d.pend = [] then (if d.due = 0 then 0 else 7)
  else if (certTok d.pend d.paste).code = 6 then 0 else 7

set_option maxRecDepth 100000 in
set_option maxHeartbeats 1000000 in
theorem implCertain_any (p : Option Addr) (c : Nat) (l : List UInt8) (q : Bool) (w : World) (h : Bs w w.heap.size p l) (ht : Tabs w) (hc : l.length ≤ c) (hl : l.length ≤ 1048576) :
    Calls Tryz.prog 37 #[.slice p l.length c, .bool q] w (NewTk w (certTok l q)) := by
  have HP := Lib.hid (fun o => implFirstPaste_any p c l (w.alloc o) (h.alloc _) hc hl)
  have HF := Lib.hid (fun o => implFirstToken_any p c l (w.alloc o) (h.alloc _) (ht.on (below_mk _ _)) hc hl)
  unfold certTok
  generalize firstPaste l = t1 at *
  generalize firstTok l = t2 at *
  clear h ht
  cases q
  · go_enter Tryz.func37, Tryz.ntmps37
    go_wp2_with fail
    refine (HF.out _).mono ?_
    rintro e w1 ⟨v, rfl, ho, hb⟩
    obtain ⟨pp, cc, hv⟩ := ho.slice
    subst hv
    have HE := Lib.hid (tk_end (t := t2) (tkL t2 (.slice pp t2.ev.data.length cc)) ho hb)
    obtain ⟨hcc, hf⟩ := bcell hb
    clear ho hb
    unfold tkV
    go_wp2_with fail
    refine bodyPost_ret (v := tkV t2 (.slice pp t2.ev.data.length cc)) ?_ rfl HE.out
    simp [results, Tryz.results37, tkV, go_sem, hcc]
  · go_enter Tryz.func37, Tryz.ntmps37
    go_wp2_with fail
    refine (HP.out _).mono ?_
    rintro e w1 ⟨v, rfl, ho, hb⟩
    obtain ⟨pp, cc, hv⟩ := ho.slice
    subst hv
    have HE := Lib.hid (tk_end (t := t1) (tkL t1 (.slice pp t1.ev.data.length cc)) ho hb)
    obtain ⟨hcc, hf⟩ := bcell hb
    clear ho hb
    unfold tkV
    go_wp2_with fail
    refine bodyPost_ret (v := tkV t1 (.slice pp t1.ev.data.length cc)) ?_ rfl HE.out
    simp [results, Tryz.results37, tkV, go_sem, hcc]

set_option maxRecDepth 100000 in
set_option maxHeartbeats 1000000 in
theorem l4First_any (p : Option Addr) (c : Nat) (l : List UInt8) (q : Bool) (w : World) (h : Bs w w.heap.size p l) (hc : l.length ≤ c) (hl : l.length ≤ 1048576) :
    Calls Tryz.prog 25 #[.slice p l.length c, .bool q] w (NewTk w (certTok l q)) := by
  have HP := Lib.hid (fun o => specFirstPaste_any p c l (w.alloc o) (h.alloc _) hc hl)
  have HF := Lib.hid (fun o => specFirstToken_any p c l (w.alloc o) (h.alloc _) hc hl)
  unfold certTok
  generalize firstPaste l = t1 at *
  generalize firstTok l = t2 at *
  clear h
  cases q
  · go_enter Tryz.func25, Tryz.ntmps25
    go_wp2_with fail
    refine (HF.out _).mono ?_
    rintro e w1 ⟨v, rfl, ho, hb⟩
    obtain ⟨pp, cc, hv⟩ := ho.slice
    subst hv
    have HE := Lib.hid (tk_end (t := t2) (tkL t2 (.slice pp t2.ev.data.length cc)) ho hb)
    obtain ⟨hcc, hf⟩ := bcell hb
    clear ho hb
    unfold tkV
    go_wp2_with fail
    refine bodyPost_ret (v := tkV t2 (.slice pp t2.ev.data.length cc)) ?_ rfl HE.out
    simp [results, Tryz.results25, tkV, go_sem, hcc]
  · go_enter Tryz.func25, Tryz.ntmps25
    go_wp2_with fail
    refine (HP.out _).mono ?_
    rintro e w1 ⟨v, rfl, ho, hb⟩
    obtain ⟨pp, cc, hv⟩ := ho.slice
    subst hv
    have HE := Lib.hid (tk_end (t := t1) (tkL t1 (.slice pp t1.ev.data.length cc)) ho hb)
    obtain ⟨hcc, hf⟩ := bcell hb
    clear ho hb
    unfold tkV
    go_wp2_with fail
    refine bodyPost_ret (v := tkV t1 (.slice pp t1.ev.data.length cc)) ?_ rfl HE.out
    simp [results, Tryz.results25, tkV, go_sem, hcc]

/-- the token's code, of the model or of the program -/
theorem dcFault_range {d : Dc} (h : inR d.due 0 2000000 = false) : dcFault d = 3 := by unfold dcFault; rw [if_pos h]
theorem dcFault_none {d : Dc} (h : inR d.due 0 2000000 = true) (h0 : d.pend = []) : dcFault d = if d.due = 0 then 0 else 7 := by unfold dcFault; rw [if_neg (by rw [h]; simp), if_pos h0]
theorem dcFault_some {d : Dc} (h : inR d.due 0 2000000 = true) (h0 : d.pend ≠ []) : dcFault d = if (certTok d.pend d.paste).code = 6 then 0 else 7 := by unfold dcFault; rw [if_neg (by rw [h]; simp), if_neg h0]

set_option maxRecDepth 100000 in
set_option maxHeartbeats 1000000 in
theorem implDecoderFault_range (d : Dc) (p : Option Addr) (c : Nat) (w : World) (hr : inR d.due 0 2000000 = false) :
    Calls Tryz.prog 34 #[dcV d p c] w fun e w' => e = .returned (.int .i64 (dcFault d)) ∧ Below w.heap.size w w' := by
  have HF := Lib.hid (dcFault_range hr)
  unfold dcV
  go_enter Tryz.func34, Tryz.ntmps34
  go_wp2_with fail
  refine (isWithin_two _ _ _ _ _ _ (by simp)).mono ?_
  rw [hr]
  rintro e w1 ⟨rfl, rfl⟩
  go_wp2_with fail
  go_ret
  exact ⟨ret_int HF.out.symm, below_on (below_mk _ _) (below_mk _ _)⟩

set_option maxRecDepth 100000 in
set_option maxHeartbeats 1000000 in
theorem implDecoderFault_none (d : Dc) (p : Option Addr) (c : Nat) (w : World) (hr : inR d.due 0 2000000 = true) (h0 : d.pend = []) :
    Calls Tryz.prog 34 #[dcV d p c] w fun e w' => e = .returned (.int .i64 (dcFault d)) ∧ Below w.heap.size w w' := by
  have HF := Lib.hid (dcFault_none hr h0)
  unfold dcV
  rw [h0]
  cases hz : (d.due == 0)
  · have hz' : ¬ d.due = 0 := by simpa using hz
    have hz2 : (d.due != 0) = true := by simpa using hz'
    go_enter Tryz.func34, Tryz.ntmps34
    go_wp2_with fail
    refine (isWithin_two _ _ _ _ _ _ (by simp)).mono ?_
    rw [hr]
    rintro e w1 ⟨rfl, rfl⟩
    go_wp2_with fail
    go_ret
    exact ⟨ret_int (by rw [HF.out, if_neg hz']), below_on (below_mk _ _) (below_mk _ _)⟩
  · have hz' : d.due = 0 := by simpa using hz
    have hz2 : (d.due != 0) = false := by simpa using hz'
    go_enter Tryz.func34, Tryz.ntmps34
    go_wp2_with fail
    refine (isWithin_two _ _ _ _ _ _ (by simp)).mono ?_
    rw [show inR 0 0 2000000 = true from rfl]
    rintro e w1 ⟨rfl, rfl⟩
    go_wp2_with fail
    go_ret
    exact ⟨ret_int (by rw [HF.out, if_pos hz']), below_on (below_mk _ _) (below_mk _ _)⟩

set_option maxRecDepth 100000 in
set_option maxHeartbeats 1000000 in
theorem implDecoderFault_some (d : Dc) (p : Option Addr) (c : Nat) (w : World) (hr : inR d.due 0 2000000 = true) (h0 : d.pend ≠ []) (h : Bs w w.heap.size p d.pend) (ht : Tabs w) (hc : d.pend.length ≤ c) (hl : d.pend.length ≤ 1048576) :
    Calls Tryz.prog 34 #[dcV d p c] w fun e w' => e = .returned (.int .i64 (dcFault d)) ∧ Below w.heap.size w w' := by
  have HF := Lib.hid (dcFault_some hr h0)
  have hpos : 0 < d.pend.length := List.length_pos_iff.2 h0
  have e0 : ¬ (d.pend.length : Int) = 0 := by omega
  have HC := Lib.hid (fun o1 o2 => implCertain_any p c d.pend d.paste ((w.alloc o1).alloc o2) ((h.alloc _).alloc _) ((ht.on (below_mk _ _)).on (below_mk _ _)) hc hl)
  generalize certTok d.pend d.paste = t at *
  clear h ht h0
  unfold dcV
  cases hz : (t.code == 6)
  all_goals
    have hz2 : (t.code != 6) = !(t.code == 6) := rfl
    rw [hz] at hz2
    go_enter Tryz.func34, Tryz.ntmps34
    go_wp2_with fail
    refine (isWithin_two _ _ _ _ _ _ (by simp)).mono ?_
    rw [hr]
    rintro e w1 ⟨rfl, rfl⟩
    go_wp2_with fail
    refine (HC.out _ _).mono ?_
    rintro e w2 ⟨v, rfl, ho, hb⟩
    have D2 := below_on (below_on (below_mk w _) (below_mk _ _)) hb
    unfold tkV
    clear ho hb
    have hfd := fld_code
    go_wp2_with fail
    go_ret
    exact ⟨ret_int (by rw [HF.out]; simp at hz; simp [hz]), D2⟩

theorem implDecoderFault_any (d : Dc) (p : Option Addr) (c : Nat) (w : World) (h : Bs w w.heap.size p d.pend) (ht : Tabs w) (hc : d.pend.length ≤ c) (hl : d.pend.length ≤ 1048576) :
    Calls Tryz.prog 34 #[dcV d p c] w fun e w' => e = .returned (.int .i64 (dcFault d)) ∧ Below w.heap.size w w' := by
  cases hr : inR d.due 0 2000000
  · exact implDecoderFault_range d p c w hr
  by_cases h0 : d.pend = []
  · exact implDecoderFault_none d p c w hr h0
  · exact implDecoderFault_some d p c w hr h0 h ht hc hl

end Go.Proofs.YtjopjddhgaiddabGreatDoor

/- The decoder's loop as plain data: the tokens that a rule takes off the pending bytes. -/
namespace Go.Proofs.YtjopjddhgaiddabGreatDoor
open Go.RowKit
set_option linter.unusedVariables false

/-- a rule: the bytes, and whether they are within a paste -/
abbrev Rule := List UInt8 → Bool → Tk
def GoodRule (f : Rule) : Prop := ∀ l q, (f l q).code = 0 → GoodTk (f l q) l.length

/-- the event of a token, if it has one -/
def tkEvs (t : Tk) : List Ev := if t.none = true then [] else [t.ev]

/-- the events, what is left, the mode -/
def takeN (f : Rule) : Nat → List UInt8 → Bool → List Ev × List UInt8 × Bool
  | 0, l, q => ([], l, q)
  | n + 1, l, q =>
    if (f l q).code = 0 then (tkEvs (f l q) ++ (takeN f n (l.drop (f l q).size.toNat) (f l q).paste).1, (takeN f n (l.drop (f l q).size.toNat) (f l q).paste).2)
    else ([], l, q)
def takeAll (f : Rule) (l : List UInt8) (q : Bool) : List Ev × List UInt8 × Bool := takeN f (l.length + 1) l q

theorem takeN_enough {f : Rule} (hf : GoodRule f) : ∀ (n m : Nat) (l : List UInt8) (q : Bool), l.length < n → l.length < m → takeN f n l q = takeN f m l q
  | 0, _, _, _, h, _ => by omega
  | _, 0, _, _, _, h => by omega
  | n + 1, m + 1, l, q, hn, hm => by
    unfold takeN
    by_cases hc : (f l q).code = 0
    · obtain ⟨⟨k, hk, h1, h2⟩, _⟩ := hf l q hc
      have hd : (l.drop (f l q).size.toNat).length < l.length := by rw [hk]; simp; omega
      rw [if_pos hc, if_pos hc, takeN_enough hf n m _ _ (by omega) (by omega)]
    · rw [if_neg hc, if_neg hc]
theorem takeAll_step {f : Rule} (hf : GoodRule f) {l : List UInt8} {q : Bool} (hc : (f l q).code = 0) :
    takeAll f l q = (tkEvs (f l q) ++ (takeAll f (l.drop (f l q).size.toNat) (f l q).paste).1, (takeAll f (l.drop (f l q).size.toNat) (f l q).paste).2) := by
  obtain ⟨⟨k, hk, h1, h2⟩, _⟩ := hf l q hc
  have hd : (l.drop (f l q).size.toNat).length < l.length := by rw [hk]; simp; omega
  conv => lhs; unfold takeAll takeN
  rw [if_pos hc, takeN_enough hf l.length ((l.drop (f l q).size.toNat).length + 1) _ _ hd (by omega)]
  rfl
theorem takeAll_stop {f : Rule} {l : List UInt8} {q : Bool} (hc : ¬ (f l q).code = 0) : takeAll f l q = ([], l, q) := by
  unfold takeAll takeN
  rw [if_neg hc]

/-- an induction over the tokens -/
theorem takeAll_ind {f : Rule} (hf : GoodRule f) {P : List UInt8 → Bool → Prop} (stop : ∀ l q, ¬ (f l q).code = 0 → P l q)
    (step : ∀ l q, (f l q).code = 0 → P (l.drop (f l q).size.toNat) (f l q).paste → P l q) : ∀ (n : Nat) (l : List UInt8) (q : Bool), l.length < n → P l q
  | 0, _, _, h => by omega
  | n + 1, l, q, h => by
    by_cases hc : (f l q).code = 0
    · obtain ⟨⟨k, hk, h1, h2⟩, _⟩ := hf l q hc
      exact step l q hc (takeAll_ind hf stop step n _ _ (by rw [hk]; simp; omega))
    · exact stop l q hc

theorem takeAll_end {f : Rule} (hf : GoodRule f) (l : List UInt8) (q : Bool) : ¬ (f (takeAll f l q).2.1 (takeAll f l q).2.2).code = 0 := by
  refine takeAll_ind hf (P := fun l q => ¬ (f (takeAll f l q).2.1 (takeAll f l q).2.2).code = 0) ?_ ?_ (l.length + 1) l q (by omega)
  · intro l q hc; rw [takeAll_stop hc]; exact hc
  · intro l q hc ih; rw [takeAll_step hf hc]; exact ih
theorem takeAll_len {f : Rule} (hf : GoodRule f) (l : List UInt8) (q : Bool) : (takeAll f l q).2.1.length ≤ l.length ∧ (takeAll f l q).1.length + (takeAll f l q).2.1.length ≤ l.length := by
  refine takeAll_ind hf (P := fun l q => (takeAll f l q).2.1.length ≤ l.length ∧ (takeAll f l q).1.length + (takeAll f l q).2.1.length ≤ l.length) ?_ ?_ (l.length + 1) l q (by omega)
  · intro l q hc; rw [takeAll_stop hc]; simp
  · intro l q hc ih
    obtain ⟨⟨k, hk, h1, h2⟩, _⟩ := hf l q hc
    have hd : (l.drop (f l q).size.toNat).length + k = l.length := by rw [hk]; simp; omega
    have he : (tkEvs (f l q)).length ≤ 1 := by unfold tkEvs; split <;> simp
    rw [takeAll_step hf hc]
    simp only [List.length_append]
    omega
theorem takeAll_events {f : Rule} (hf : GoodRule f) (l : List UInt8) (q : Bool) : ∀ e ∈ (takeAll f l q).1, e.fault = 0 := by
  refine takeAll_ind hf (P := fun l q => ∀ e ∈ (takeAll f l q).1, e.fault = 0) ?_ ?_ (l.length + 1) l q (by omega)
  · intro l q hc; rw [takeAll_stop hc]; simp
  · intro l q hc ih
    obtain ⟨_, hv⟩ := hf l q hc
    rw [takeAll_step hf hc]
    intro e he
    rcases List.mem_append.1 he with he | he
    · unfold tkEvs at he
      split at he
      · simp at he
      · rename_i hn
        simp at he
        subst he
        exact hv.resolve_left hn
    · exact ih e he
theorem takeAll_small {f : Rule} (hf : GoodRule f) {M : Nat} (hs : ∀ l q, (f l q).ev.data.length ≤ M) (l : List UInt8) (q : Bool) : ∀ e ∈ (takeAll f l q).1, e.data.length ≤ M := by
  refine takeAll_ind hf (P := fun l q => ∀ e ∈ (takeAll f l q).1, e.data.length ≤ M) ?_ ?_ (l.length + 1) l q (by omega)
  · intro l q hc; rw [takeAll_stop hc]; simp
  · intro l q hc ih
    rw [takeAll_step hf hc]
    intro e he
    rcases List.mem_append.1 he with he | he
    · unfold tkEvs at he
      split at he
      · simp at he
      · simp at he
        subst he
        exact hs l q
    · exact ih e he

/-- what comes later does not change what was taken -/
theorem takeAll_more {f : Rule} (hf : GoodRule f) (hm : ∀ l m q, (f l q).code = 0 → f (l ++ m) q = f l q) (m l : List UInt8) (q : Bool) :
    takeAll f (l ++ m) q = ((takeAll f l q).1 ++ (takeAll f ((takeAll f l q).2.1 ++ m) (takeAll f l q).2.2).1, (takeAll f ((takeAll f l q).2.1 ++ m) (takeAll f l q).2.2).2) := by
  refine takeAll_ind hf (P := fun l q => takeAll f (l ++ m) q = ((takeAll f l q).1 ++ (takeAll f ((takeAll f l q).2.1 ++ m) (takeAll f l q).2.2).1, (takeAll f ((takeAll f l q).2.1 ++ m) (takeAll f l q).2.2).2)) ?_ ?_ (l.length + 1) l q (by omega)
  · intro l q hc; rw [takeAll_stop hc]; simp
  · intro l q hc ih
    obtain ⟨⟨k, hk, h1, h2⟩, _⟩ := hf l q hc
    have hc2 : (f (l ++ m) q).code = 0 := by rw [hm l m q hc]; exact hc
    rw [takeAll_step hf hc2, takeAll_step hf hc, hm l m q hc]
    have hd : (l ++ m).drop (f l q).size.toNat = l.drop (f l q).size.toNat ++ m := by rw [List.drop_append_of_le_length (by rw [hk]; simp; omega)]
    rw [hd, ih]
    simp

theorem certTok_good : GoodRule certTok := by
  intro l q h
  unfold certTok at *
  split at h
  · rename_i hq; rw [if_pos hq]; exact firstPaste_good l h
  · rename_i hq; rw [if_neg hq]; exact firstTok_good l h
theorem certTok_more (l m : List UInt8) (q : Bool) (h : (certTok l q).code = 0) : certTok (l ++ m) q = certTok l q := by
  unfold certTok at *
  split at h
  · rename_i hq; rw [if_pos hq, if_pos hq]; exact firstPaste_more l m h
  · rename_i hq; rw [if_neg hq, if_neg hq]; exact firstTok_more l m h
theorem flushTok_goodRule : GoodRule flushTok := by
  intro l q h
  by_cases hne : l = []
  · subst hne; exact absurd h (by simp [flushTok, badTk])
  · exact (flushTok_good l q hne).2

end Go.Proofs.YtjopjddhgaiddabGreatDoor

/- DecoderFault of the model. -/
namespace Go.Proofs.YtjopjddhgaiddabGreatDoor
open Go.RowKit
set_option linter.unusedVariables false









end Go.Proofs.YtjopjddhgaiddabGreatDoor
