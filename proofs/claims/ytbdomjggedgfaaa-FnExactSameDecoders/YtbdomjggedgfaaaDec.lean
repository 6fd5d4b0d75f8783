/- Decoders as data; the law's own helpers over them; SameDecoders of the model and of the program. -/
import Derived.Test.YtbdomjggedgfaaaEvOps
import Derived.Test.YtbdomjggedgfaaaMarks0
import Derived.Test.YtbdomjggedgfaaaCells
import Derived.Deep.QuietTactic
namespace Go.Proofs.Ytbdomjggedgfaaa
open Go.RowKit
set_option linter.unusedVariables false

/-- a decoder as data -/
structure Dc where
  pend : List UInt8
  paste : Bool
  due : Int

/-- a decoder as a value: its bytes lie at p -/
def dcV (d : Dc) (p : Option Addr) (c : Nat) : Value := .agg #[.slice p d.pend.length c, .bool d.paste, .int .i64 d.due]
/-- its cells -/
def dcL (d : Dc) (p : Option Addr) (c : Nat) : List Value := [.slice p d.pend.length c, .bool d.paste, .int .i64 d.due]

theorem AtL.three {w : World} {b : Nat} {v0 v1 v2 : Value} (h : AtL w b [v0, v1, v2]) : w.cell? ⟨b, 0, none⟩ = some v0 ∧ w.cell? ⟨b, 1, none⟩ = some v1 ∧ w.cell? ⟨b, 2, none⟩ = some v2 :=
  ⟨h.get 0 rfl, h.get 1 rfl, h.get 2 rfl⟩

set_option maxRecDepth 100000 in
set_option maxHeartbeats 800000 in
theorem szDecoder_any (d : Dc) (p : Option Addr) (c : Nat) (left : Int) (w : World) (hn : d.pend.length ≤ 9223372036854775807) (h0 : 0 ≤ left) (h1 : left ≤ 1048576) :
    Calls Try.prog 17 #[dcV d p c, .int .i64 left] w fun en w' => en = .returned (.int .i64 (leftOf left d.pend.length)) ∧ Below w.heap.size w w' := by
  unfold dcV
  by_cases h : leftOf left d.pend.length < 0
  · have HN := Lib.hid (leftOf_neg h)
    go_enter Try.func17, Try.ntmps17
    go_wp2_with (go_at_call 45; refine (szByteS_any _ _ _ _ _ hn h0 h1).mono ?_; rintro en w1 ⟨rfl, rfl⟩)
    go_ret
    exact ⟨ret_int HN.out.symm, (Below.refl _ _).alloc (Nat.le_refl _) _⟩
  · go_enter Try.func17, Try.ntmps17
    go_wp2_with (go_at_call 45; refine (szByteS_any _ _ _ _ _ hn h0 h1).mono ?_; rintro en w1 ⟨rfl, rfl⟩)
    go_ret
    exact ⟨rfl, (Below.refl _ _).alloc (Nat.le_refl _) _⟩

/-- what a call leaves that hands back a decoder of its own -/
def NewDc (w : World) (d : Dc) (en : Ending) (w' : World) : Prop :=
  ∃ p, en = .returned (dcV d p d.pend.length) ∧ Own w' w.heap.size (.slice p d.pend.length d.pend.length) d.pend ∧ Below w.heap.size w w'

set_option maxRecDepth 100000 in
set_option maxHeartbeats 2000000 in
theorem toDecoder_any (d : Dc) (p : Option Addr) (c : Nat) (w : World) (h : Bs w w.heap.size p d.pend) (hl : d.pend.length ≤ 1048576) :
    Calls Try.prog 19 #[dcV d p c] w (NewDc w d) := by
  unfold dcV
  go_enter Try.func19, Try.ntmps19
  go_wp2_with fail
  refine (toByteS_any _ _ _ _ (((h.alloc _).alloc _).alloc _) hl).mono ?_
  rintro en w1 ⟨rfl, rfl⟩
  go_wp2
  refine bodyPost_ret (v := dcV d (some ⟨w.heap.size + 1 + 1 + 1, 0, none⟩) d.pend.length) (by simp [results, Try.results19, dcV, go_sem]) rfl ⟨_, rfl, (own_lit _ _ _ _ _ (by simp) rfl rfl hl).lower (by simp; omega), ?_⟩
  exact ((((Below.refl _ _).alloc (Nat.le_refl _) _).alloc (by simp) _).alloc (by simp; omega) _).alloc (by simp; omega) _

set_option maxRecDepth 100000 in
set_option maxHeartbeats 2000000 in
theorem eqDecoder_same (e : Dc) (p q : Option Addr) (c d : Nat) (w : World) (h : Bs w w.heap.size p e.pend) (k : Bs w w.heap.size q e.pend) (hl : e.pend.length ≤ 1048576) :
    Calls Try.prog 21 #[dcV e p c, dcV e q d] w fun en w' => en = .returned (.bool true) ∧ Below w.heap.size w w' := by
  have h1 : (e.paste != e.paste) = false := by simp
  have h2 : (e.due != e.due) = false := by simp
  unfold dcV
  go_enter Try.func21, Try.ntmps21
  go_wp2_with fail
  refine (eqByteS_same _ _ _ _ _ _ ((h.alloc _).alloc _) ((k.alloc _).alloc _) hl).mono ?_
  rintro en w1 ⟨rfl, hb⟩
  obtain ⟨hc, hf⟩ := bcell hb
  go_wp2
  go_ret
  exact ⟨rfl, below_on (((Below.refl _ _).alloc (Nat.le_refl _) _).alloc (by simp) _) hb⟩

/-- two decoders are the same -/
def dcEq (a b : Dc) : Bool := (a.pend == b.pend) && ((a.paste == b.paste) && (a.due == b.due))
theorem dcEq_refl (a : Dc) : dcEq a a = true := by simp [dcEq]

set_option maxRecDepth 100000 in
set_option maxHeartbeats 2000000 in
theorem specSameDecoders_any (a b : Dc) (p q : Option Addr) (c d : Nat) (w : World) (h : Bs w w.heap.size p a.pend) (k : Bs w w.heap.size q b.pend) :
    Calls Try.prog 18 #[dcV a p c, dcV b q d] w fun en w' => en = .returned (.bool (dcEq a b)) ∧ Below w.heap.size w w' := by
  have h1 := fun o1 o2 => convert_str (P := Try.prog) Try.underlying22 Try.underlying5 Try.underlying9 p c a.pend ((w.alloc o1).alloc o2) (B := ((w.alloc o1).alloc o2).heap.size) ((h.alloc _).alloc _)
  have h2 := fun o1 o2 => convert_str (P := Try.prog) Try.underlying22 Try.underlying5 Try.underlying9 q d b.pend ((w.alloc o1).alloc o2) (B := ((w.alloc o1).alloc o2).heap.size) ((k.alloc _).alloc _)
  clear h k
  unfold dcV
  cases k0 : (a.pend == b.pend)
  all_goals cases k1 : (a.paste == b.paste)
  all_goals
    go_enter Try.func18, Try.ntmps18
    go_wp2
    go_ret
    exact ⟨ret_bool (by simp [dcEq, *]), (below_on (below_mk _ _) (below_mk _ _))⟩

set_option maxRecDepth 100000 in
set_option maxHeartbeats 2000000 in
theorem implSameDecoders_any (a b : Dc) (p q : Option Addr) (c d : Nat) (w : World) (h : Bs w w.heap.size p a.pend) (k : Bs w w.heap.size q b.pend) :
    Calls Try.prog 20 #[dcV a p c, dcV b q d] w fun en w' => en = .returned (.bool (dcEq a b)) ∧ Below w.heap.size w w' := by
  have H := Lib.hid h
  have K := Lib.hid k
  clear h k
  unfold dcV
  cases k0 : (a.pend == b.pend)
  all_goals cases k1 : (a.paste == b.paste)
  all_goals
    go_enter Try.func20, Try.ntmps20
    go_wp2_with (go_at_call 47; refine (implSameBytes_any _ _ _ _ _ _ _ ((H.out.alloc _).alloc _) ((K.out.alloc _).alloc _)).mono ?_; rw [k0]; rintro en w1 ⟨rfl, rfl⟩)
    go_ret
    exact ⟨ret_bool (by simp [dcEq, *]), (below_on (below_mk _ _) (below_mk _ _))⟩

end Go.Proofs.Ytbdomjggedgfaaa
