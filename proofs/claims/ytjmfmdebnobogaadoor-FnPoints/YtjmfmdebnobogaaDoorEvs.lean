/- Slices of events: the contracts of szEventS and of the comparisons of two events. -/
import Derived.Test.YtjmfmdebnobogaaDoorEvOps
import Derived.BigGuardPart
import Derived.Deep.DeepCutAuto
namespace Go.Proofs.YtjmfmdebnobogaaDoor
open Go.RowKit

/-- the slice value '.slice p l.length c' holds the events l, in blocks below B -/
def Es (w : World) (B : Nat) (p : Option Addr) (l : List Ev) : Prop :=
  l ≠ [] → ∃ b off, p = some ⟨b, off, none⟩ ∧ b < B ∧ ∀ i (h : i < l.length), ∃ q c, EvAt w b (off + i * 8) l[i] q c ∧ Bs w B q l[i].data

theorem Es.keep {w w' : World} {B B' : Nat} {p : Option Addr} {l : List Ev} (h : Es w B p l) (hB : B ≤ B') (hk : ∀ a : Addr, a.block < B → w'.cell? a = w.cell? a) : Es w' B' p l := by
  intro hl
  obtain ⟨b, off, e, hb, hc⟩ := h hl
  refine ⟨b, off, e, by omega, fun i hi => ?_⟩
  obtain ⟨q, c, h1, h2⟩ := hc i hi
  exact ⟨q, c, h1.keep fun o => hk ⟨b, o, none⟩ hb, h2.keep hB hk⟩
theorem Es.on {w w' : World} {p : Option Addr} {l : List Ev} (h : Es w w.heap.size p l) (hb : Below w.heap.size w w') : Es w' w'.heap.size p l := h.keep hb.size fun _ ha => hb.cell ha

/-- two events are the same -/
def evEq (a b : Ev) : Bool :=
  ((((((a.kind == b.kind && a.code == b.code) && a.mods == b.mods) && a.button == b.button) && a.act == b.act) && a.col == b.col) && a.row == b.row) && a.data == b.data

theorem evEq_iff (a b : Ev) : evEq a b = true ↔ a = b := by
  cases a; cases b
  simp [evEq, and_assoc]

/-- what is left of a budget, and what is known where some is -/
def SzPost (w : World) (left : Int) (P : Prop) (e : Ending) (w' : World) : Prop :=
  ∃ r : Int, e = .returned (.int .i64 r) ∧ (0 ≤ r → r ≤ left ∧ P) ∧ Below w.heap.size w w'

theorem leftOf_post {left : Int} {n : Nat} : 0 ≤ leftOf left n → leftOf left n ≤ left ∧ (n : Int) ≤ left := fun h => leftOf_le h


set_option maxRecDepth 100000 in
set_option maxHeartbeats 8000000 in
theorem l1Same_any (a b : Ev) (p q : Option Addr) (c d : Nat) (ba oa bb ob : Nat) (w : World) {B C : Nat} (ha : EvAt w ba oa a p c) (hb : EvAt w bb ob b q d) (h : Bs w B p a.data) (k : Bs w C q b.data) :
    Calls Tryd.prog 66 #[.pointer (some ⟨ba, oa, none⟩), .pointer (some ⟨bb, ob, none⟩)] w fun en w' => en = .returned (.bool (evEq a b)) ∧ ∃ n, w' = w.drewN n := by
  obtain ⟨c0, c1, c2, c3, c4, c5, c6, c7⟩ := ha
  obtain ⟨d0, d1, d2, d3, d4, d5, d6, d7⟩ := hb
  have h1 := fun n => convert_str (P := Tryd.prog) Tryd.underlying22 Tryd.underlying5 Tryd.underlying9 p c a.data (w.drewN n) (B := B) (h.keep (Nat.le_refl _) fun _ _ => rfl)
  have h2 := fun n => convert_str (P := Tryd.prog) Tryd.underlying22 Tryd.underlying5 Tryd.underlying9 q d b.data (w.drewN n) (B := C) (k.keep (Nat.le_refl _) fun _ _ => rfl)
  clear h k
  cases k0 : (a.kind == b.kind)
  · go_enter Tryd.func66, Tryd.ntmps66
    go_upto_region 1 with (fail)
    simp only [List.append_eq, List.cons_append, List.nil_append]
    go_quiet (fail)
    go_wp2
    go_ret
    exact ⟨ret_bool (by simp [evEq, *]), _, rfl⟩
  cases k1 : (a.code == b.code)
  · go_enter Tryd.func66, Tryd.ntmps66
    go_upto_region 1 with (fail)
    simp only [List.append_eq, List.cons_append, List.nil_append]
    go_quiet (fail)
    go_wp2
    go_ret
    exact ⟨ret_bool (by simp [evEq, *]), _, rfl⟩
  cases k2 : (a.mods == b.mods)
  · go_enter Tryd.func66, Tryd.ntmps66
    go_upto_region 1 with (fail)
    simp only [List.append_eq, List.cons_append, List.nil_append]
    go_quiet (fail)
    go_wp2
    go_ret
    exact ⟨ret_bool (by simp [evEq, *]), _, rfl⟩
  cases k3 : (a.button == b.button)
  · go_enter Tryd.func66, Tryd.ntmps66
    go_upto_region 1 with (fail)
    simp only [List.append_eq, List.cons_append, List.nil_append]
    go_quiet (fail)
    go_wp2
    go_ret
    exact ⟨ret_bool (by simp [evEq, *]), _, rfl⟩
  cases k4 : (a.act == b.act)
  · go_enter Tryd.func66, Tryd.ntmps66
    go_upto_region 1 with (fail)
    simp only [List.append_eq, List.cons_append, List.nil_append]
    go_quiet (fail)
    go_wp2
    go_ret
    exact ⟨ret_bool (by simp [evEq, *]), _, rfl⟩
  cases k5 : (a.col == b.col)
  · go_enter Tryd.func66, Tryd.ntmps66
    go_upto_region 1 with (fail)
    simp only [List.append_eq, List.cons_append, List.nil_append]
    go_quiet (fail)
    go_wp2
    go_ret
    exact ⟨ret_bool (by simp [evEq, *]), _, rfl⟩
  cases k6 : (a.row == b.row)
  · go_enter Tryd.func66, Tryd.ntmps66
    go_upto_region 1 with (fail)
    simp only [List.append_eq, List.cons_append, List.nil_append]
    go_quiet (fail)
    go_wp2
    go_ret
    exact ⟨ret_bool (by simp [evEq, *]), _, rfl⟩
  go_enter Tryd.func66, Tryd.ntmps66
  go_upto_region 1 with (fail)
  simp only [List.append_eq, List.cons_append, List.nil_append]
  go_quiet (fail)
  go_wp2
  go_ret
  exact ⟨ret_bool (by simp [evEq, *]), _, rfl⟩

set_option maxRecDepth 100000 in
set_option maxHeartbeats 4000000 in
theorem sameEvent_any (a b : Ev) (p q : Option Addr) (c d : Nat) (w : World) (h : Bs w w.heap.size p a.data) (k : Bs w w.heap.size q b.data) :
    Calls Tryd.prog 65 #[evV a p c, evV b q d] w fun en w' => en = .returned (.bool (evEq a b)) ∧ Below w.heap.size w w' := by
  unfold evV
  have H := Lib.hid h
  have K := Lib.hid k
  clear h k
  go_enter Tryd.func65, Tryd.ntmps65
  go_wp2_with (go_at_call 24; refine (implSameBytes_any _ _ _ _ _ _ _ ((H.out.alloc _).alloc _) ((K.out.alloc _).alloc _)).mono ?_; rintro en w1 ⟨rfl, rfl⟩)
  all_goals
    go_ret
    exact ⟨ret_bool (by simp [evEq, *]), ((Below.refl _ _).alloc (Nat.le_refl _) _).alloc (by simp) _⟩

end Go.Proofs.YtjmfmdebnobogaaDoor
