/- Slices of events: the contracts of szEventS and of the comparisons of two events. -/
import Derived.Test.YtnmnklilmcpkaaaQFaultToLws
import Derived.BigGuardPart
import Derived.Deep.DeepCutAuto
namespace Go.Proofs.Ytnmnklilmcpkaaa
open Go.RowKit

/-- the slice value '.slice p l.length c' holds the events l, in blocks below B -/
def Es (w : World) (B : Nat) (p : Option Addr) (l : List Ev) : Prop :=
  l ≠ [] → ∃ b off, p = some ⟨b, off, none⟩ ∧ b < B ∧ ∀ i (h : i < l.length), ∃ q c, EvAt w b (off + i * 8) l[i] q c ∧ Bs w B q l[i].data

theorem Es.keep {w w' : World} {B B' : Nat} {p : Option Addr} {l : List Ev} (h : Es w B p l) (hB : B ≤ B') (hk : ∀ a : Addr, a.block < B → w'.cell? a = w.cell? a) : Es w' B' p l := by
  intro hl
  obtain ⟨b, off, e, hb, hc⟩ := h hl
  refine ⟨b, off, e, by omega, fun i hi => ?_⟩
  obtain ⟨q, c, h1, h2⟩ := hc i hi
  exact ⟨q, c, h1.keep fun o => hk ⟨b, o, none⟩ hb, h2.keep hB hk⟩
theorem Es.on {w w' : World} {p : Option Addr} {l : List Ev} (h : Es w w.heap.size p l) (hb : Below w.heap.size w w') : Es w' w'.heap.size p l := h.keep hb.size fun _ ha => hb.cell ha

/-- two events are the same -/
def evEq (a b : Ev) : Bool :=
  ((((((a.kind == b.kind && a.code == b.code) && a.mods == b.mods) && a.button == b.button) && a.act == b.act) && a.col == b.col) && a.row == b.row) && a.data == b.data

theorem evEq_iff (a b : Ev) : evEq a b = true ↔ a = b := by
  cases a; cases b
  simp [evEq, and_assoc]

/-- what is left of a budget, and what is known where some is -/
def SzPost (w : World) (left : Int) (P : Prop) (e : Ending) (w' : World) : Prop :=
  ∃ r : Int, e = .returned (.int .i64 r) ∧ (0 ≤ r → r ≤ left ∧ P) ∧ Below w.heap.size w w'

theorem leftOf_post {left : Int} {n : Nat} : 0 ≤ leftOf left n → leftOf left n ≤ left ∧ (n : Int) ≤ left := fun h => leftOf_le h



set_option maxRecDepth 100000 in
set_option maxHeartbeats 4000000 in
theorem sameEvent_any (a b : Ev) (p q : Option Addr) (c d : Nat) (w : World) (h : Bs w w.heap.size p a.data) (k : Bs w w.heap.size q b.data) :
    Calls Try.prog 51 #[evV a p c, evV b q d] w fun en w' => en = .returned (.bool (evEq a b)) ∧ Below w.heap.size w w' := by
  unfold evV
  have H := Lib.hid h
  have K := Lib.hid k
  clear h k
  go_enter Try.func51, Try.ntmps51
  go_wp2_with (go_at_call 60; refine (implSameBytes_any _ _ _ _ _ _ _ ((H.out.alloc _).alloc _) ((K.out.alloc _).alloc _)).mono ?_; rintro en w1 ⟨rfl, rfl⟩)
  all_goals
    go_ret
    exact ⟨ret_bool (by simp [evEq, *]), ((Below.refl _ _).alloc (Nat.le_refl _) _).alloc (by simp) _⟩

end Go.Proofs.Ytnmnklilmcpkaaa

/- Two slices of events compared: SameEvents of the model and of the program. -/
namespace Go.Proofs.Ytnmnklilmcpkaaa
open Go.RowKit

/-- two lists of events are the same -/
def sameEvs : List Ev → List Ev → Bool
  | [], [] => true
  | a :: x, b :: y => evEq a b && sameEvs x y
  | _, _ => false

theorem sameEvs_len : ∀ (x y : List Ev), x.length ≠ y.length → sameEvs x y = false
  | [], [], h => absurd rfl h
  | [], _ :: _, _ => rfl
  | _ :: _, [], _ => rfl
  | a :: x, b :: y, h => by
    simp only [sameEvs]
    rw [sameEvs_len x y (by simp at h; exact h)]
    simp
theorem sameEvs_drop (x y : List Ev) (k : Nat) (hx : k < x.length) (hy : k < y.length) : sameEvs (x.drop k) (y.drop k) = (evEq x[k] y[k] && sameEvs (x.drop (k + 1)) (y.drop (k + 1))) := by
  rw [List.drop_eq_getElem_cons hx, List.drop_eq_getElem_cons hy, sameEvs]
theorem sameEvs_end (x y : List Ev) (h : x.length = y.length) : sameEvs (x.drop x.length) (y.drop x.length) = true := by
  rw [List.drop_length, h, List.drop_length, sameEvs]
theorem sameEvs_refl : ∀ x : List Ev, sameEvs x x = true
  | [] => rfl
  | a :: x => by simp only [sameEvs, (evEq_iff a a).2 rfl, sameEvs_refl x, Bool.and_self]



set_option maxRecDepth 100000 in
set_option maxHeartbeats 4000000 in
theorem equalFunc_any (p q : Option Addr) (c d : Nat) (x y : List Ev) (w : World) (h : Es w w.heap.size p x) (k : Es w w.heap.size q y) (hx : x.length ≤ 1048576) :
    Calls Try.prog 50 #[.slice p x.length c, .slice q y.length d, .func (.func 51) #[] #[]] w fun e w' => e = .returned (.bool (sameEvs x y)) ∧ Below w.heap.size w w' := by
  cases hne : ((x.length : Int) != (y.length : Int))
  · have HL : Hid (x.length = y.length) := by simp at hne; exact Int.ofNat.inj hne
    have hly : x.length ≤ y.length := Nat.le_of_eq HL.out
    have hly2 : y.length ≤ x.length := Nat.le_of_eq HL.out.symm
    have H := Lib.hid h
    have K := Lib.hid k
    clear h k
    go_enter Try.func50, Try.ntmps50
    go_wp2
    go_loopw [7, 8, 9, 17] (fun _ _ _ i wr => ∃ j : Nat, j ≤ x.length ∧ i = .int .i64 j ∧ sameEvs x y = sameEvs (x.drop j) (y.drop j) ∧ Below w.heap.size w wr) (fun _ _ _ i _ => x.length - (intOf i).toNat)
    case atStart => exact ⟨0, by omega, rfl, rfl, Below.refl _ _⟩
    case round =>
      obtain ⟨j, hj, rfl, hs, hb⟩ := hrel
      have HS := Lib.hid hs
      clear hs
      by_cases hlt : j < x.length
      · have hlt' : j < y.length := by omega
        obtain ⟨b, off, rfl, hbl, hc⟩ := (H.out.on hb) (by intro e; simp [e] at hlt)
        obtain ⟨b', off', rfl, hbl', hc'⟩ := (K.out.on hb) (by intro e; simp [e] at hlt')
        obtain ⟨q1, d1, he, hbs⟩ := hc j hlt
        obtain ⟨q2, d2, he', hbs'⟩ := hc' j hlt'
        have HD := Lib.hid (sameEvs_drop x y j hlt hlt')
        obtain ⟨c0, c1, c2, c3, c4, c5, c6, c7⟩ := he
        obtain ⟨e0, e1, e2, e3, e4, e5, e6, e7⟩ := he'
        clear hc hc'
        cases hq : evEq x[j] y[j]
        · go_wp2_with (go_at_call 51; refine (sameEvent_any x[j] y[j] q1 q2 d1 d2 _ ((hbs.alloc _).alloc _) ((hbs'.alloc _).alloc _)).mono ?_; rintro en w1 ⟨rfl, hb1⟩)
          go_ret
          exact ⟨ret_bool (by rw [HS.out, HD.out, hq]; rfl), below_on ((hb.alloc hb.size _).alloc (by have := hb.size; simp; omega) _) hb1⟩
        · go_wp2_with (go_at_call 51; refine (sameEvent_any x[j] y[j] q1 q2 d1 d2 _ ((hbs.alloc _).alloc _) ((hbs'.alloc _).alloc _)).mono ?_; rintro en w1 ⟨rfl, hb1⟩)
          exact ⟨⟨j + 1, by omega, by go_num, by rw [HS.out, HD.out, hq]; rfl, below_on ((hb.alloc hb.size _).alloc (by have := hb.size; simp; omega) _) hb1⟩, by simp [intOf]; omega⟩
      · obtain rfl : j = x.length := by omega
        have HE := Lib.hid (sameEvs_end x y HL.out)
        go_wp2
        go_ret
        exact ⟨ret_bool (by rw [HS.out, HE.out]), hb⟩
  · have HE := Lib.hid (sameEvs_len x y (by simp at hne; omega))
    go_enter Try.func50, Try.ntmps50
    go_wp2
    go_ret
    exact ⟨ret_bool (by rw [HE.out]), Below.refl _ _⟩

set_option maxRecDepth 100000 in
set_option maxHeartbeats 400000 in
theorem implSameEvents_any (p q : Option Addr) (c d : Nat) (x y : List Ev) (w : World) (h : Es w w.heap.size p x) (k : Es w w.heap.size q y) (hx : x.length ≤ 1048576) :
    Calls Try.prog 33 #[.slice p x.length c, .slice q y.length d] w fun e w' => e = .returned (.bool (sameEvs x y)) ∧ Below w.heap.size w w' := by
  go_enter Try.func33, Try.ntmps33
  go_wp2_with fail
  refine (equalFunc_any _ _ _ _ _ _ _ h k hx).mono ?_
  rintro e w' ⟨rfl, hb⟩
  go_wp2
  go_ret
  exact ⟨rfl, hb⟩

end Go.Proofs.Ytnmnklilmcpkaaa
