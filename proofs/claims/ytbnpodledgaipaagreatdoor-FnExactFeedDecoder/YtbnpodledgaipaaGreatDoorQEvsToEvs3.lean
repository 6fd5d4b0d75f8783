/- Slices of events: the contracts of szEventS and of the comparisons of two events. -/
import Derived.Test.YtbnpodledgaipaaGreatDoorQFaultToSpecFault
import Derived.BigGuardPart
import Derived.Deep.DeepCutAuto
import Derived.Laws.Rows
namespace Go.Proofs.YtbnpodledgaipaaGreatDoor
open Go.RowKit

/-- the slice value '.slice p l.length c' holds the events l, in blocks below B -/
def Es (w : World) (B : Nat) (p : Option Addr) (l : List Ev) : Prop :=
  l ≠ [] → ∃ b off, p = some ⟨b, off, none⟩ ∧ b < B ∧ ∀ i (h : i < l.length), ∃ q c, EvAt w b (off + i * 8) l[i] q c ∧ Bs w B q l[i].data

theorem Es.keep {w w' : World} {B B' : Nat} {p : Option Addr} {l : List Ev} (h : Es w B p l) (hB : B ≤ B') (hk : ∀ a : Addr, a.block < B → w'.cell? a = w.cell? a) : Es w' B' p l := by
  intro hl
  obtain ⟨b, off, e, hb, hc⟩ := h hl
  refine ⟨b, off, e, by omega, fun i hi => ?_⟩
  obtain ⟨q, c, h1, h2⟩ := hc i hi
  exact ⟨q, c, h1.keep fun o => hk ⟨b, o, none⟩ hb, h2.keep hB hk⟩
theorem Es.on {w w' : World} {p : Option Addr} {l : List Ev} (h : Es w w.heap.size p l) (hb : Below w.heap.size w w') : Es w' w'.heap.size p l := h.keep hb.size fun _ ha => hb.cell ha

/-- two events are the same -/
def evEq (a b : Ev) : Bool :=
  ((((((a.kind == b.kind && a.code == b.code) && a.mods == b.mods) && a.button == b.button) && a.act == b.act) && a.col == b.col) && a.row == b.row) && a.data == b.data

theorem evEq_iff (a b : Ev) : evEq a b = true ↔ a = b := by
  cases a; cases b
  simp [evEq, and_assoc]

/-- what is left of a budget, and what is known where some is -/
def SzPost (w : World) (left : Int) (P : Prop) (e : Ending) (w' : World) : Prop :=
  ∃ r : Int, e = .returned (.int .i64 r) ∧ (0 ≤ r → r ≤ left ∧ P) ∧ Below w.heap.size w w'

theorem leftOf_post {left : Int} {n : Nat} : 0 ≤ leftOf left n → leftOf left n ≤ left ∧ (n : Int) ≤ left := fun h => leftOf_le h



set_option maxRecDepth 100000 in
set_option maxHeartbeats 4000000 in
theorem sameEvent_any (a b : Ev) (p q : Option Addr) (c d : Nat) (w : World) (h : Bs w w.heap.size p a.data) (k : Bs w w.heap.size q b.data) :
    Calls Tryz.prog 95 #[evV a p c, evV b q d] w fun en w' => en = .returned (.bool (evEq a b)) ∧ Below w.heap.size w w' := by
  unfold evV
  have H := Lib.hid h
  have K := Lib.hid k
  clear h k
  go_enter Tryz.func95, Tryz.ntmps95
  go_wp2_with (go_at_call 90; refine (implSameBytes_any _ _ _ _ _ _ _ ((H.out.alloc _).alloc _) ((K.out.alloc _).alloc _)).mono ?_; rintro en w1 ⟨rfl, rfl⟩)
  all_goals
    go_ret
    exact ⟨ret_bool (by simp [evEq, *]), ((Below.refl _ _).alloc (Nat.le_refl _) _).alloc (by simp) _⟩

end Go.Proofs.YtbnpodledgaipaaGreatDoor

/- Two slices of events compared: SameEvents of the model and of the program. -/
namespace Go.Proofs.YtbnpodledgaipaaGreatDoor
open Go.RowKit

/-- two lists of events are the same -/
def sameEvs : List Ev → List Ev → Bool
  | [], [] => true
  | a :: x, b :: y => evEq a b && sameEvs x y
  | _, _ => false

theorem sameEvs_len : ∀ (x y : List Ev), x.length ≠ y.length → sameEvs x y = false
  | [], [], h => absurd rfl h
  | [], _ :: _, _ => rfl
  | _ :: _, [], _ => rfl
  | a :: x, b :: y, h => by
    simp only [sameEvs]
    rw [sameEvs_len x y (by simp at h; exact h)]
    simp
theorem sameEvs_drop (x y : List Ev) (k : Nat) (hx : k < x.length) (hy : k < y.length) : sameEvs (x.drop k) (y.drop k) = (evEq x[k] y[k] && sameEvs (x.drop (k + 1)) (y.drop (k + 1))) := by
  rw [List.drop_eq_getElem_cons hx, List.drop_eq_getElem_cons hy, sameEvs]
theorem sameEvs_end (x y : List Ev) (h : x.length = y.length) : sameEvs (x.drop x.length) (y.drop x.length) = true := by
  rw [List.drop_length, h, List.drop_length, sameEvs]
theorem sameEvs_refl : ∀ x : List Ev, sameEvs x x = true
  | [] => rfl
  | a :: x => by simp only [sameEvs, (evEq_iff a a).2 rfl, sameEvs_refl x, Bool.and_self]



set_option maxRecDepth 100000 in
set_option maxHeartbeats 4000000 in
theorem equalFunc_any (p q : Option Addr) (c d : Nat) (x y : List Ev) (w : World) (h : Es w w.heap.size p x) (k : Es w w.heap.size q y) (hx : x.length ≤ 1048576) :
    Calls Tryz.prog 94 #[.slice p x.length c, .slice q y.length d, .func (.func 95) #[] #[]] w fun e w' => e = .returned (.bool (sameEvs x y)) ∧ Below w.heap.size w w' := by
  cases hne : ((x.length : Int) != (y.length : Int))
  · have HL : Hid (x.length = y.length) := by simp at hne; exact Int.ofNat.inj hne
    have hly : x.length ≤ y.length := Nat.le_of_eq HL.out
    have hly2 : y.length ≤ x.length := Nat.le_of_eq HL.out.symm
    have H := Lib.hid h
    have K := Lib.hid k
    clear h k
    go_enter Tryz.func94, Tryz.ntmps94
    go_wp2
    go_loopw [7, 8, 9, 17] (fun _ _ _ i wr => ∃ j : Nat, j ≤ x.length ∧ i = .int .i64 j ∧ sameEvs x y = sameEvs (x.drop j) (y.drop j) ∧ Below w.heap.size w wr) (fun _ _ _ i _ => x.length - (intOf i).toNat)
    case atStart => exact ⟨0, by omega, rfl, rfl, Below.refl _ _⟩
    case round =>
      obtain ⟨j, hj, rfl, hs, hb⟩ := hrel
      have HS := Lib.hid hs
      clear hs
      by_cases hlt : j < x.length
      · have hlt' : j < y.length := by omega
        obtain ⟨b, off, rfl, hbl, hc⟩ := (H.out.on hb) (by intro e; simp [e] at hlt)
        obtain ⟨b', off', rfl, hbl', hc'⟩ := (K.out.on hb) (by intro e; simp [e] at hlt')
        obtain ⟨q1, d1, he, hbs⟩ := hc j hlt
        obtain ⟨q2, d2, he', hbs'⟩ := hc' j hlt'
        have HD := Lib.hid (sameEvs_drop x y j hlt hlt')
        obtain ⟨c0, c1, c2, c3, c4, c5, c6, c7⟩ := he
        obtain ⟨e0, e1, e2, e3, e4, e5, e6, e7⟩ := he'
        clear hc hc'
        cases hq : evEq x[j] y[j]
        · go_wp2_with (go_at_call 95; refine (sameEvent_any x[j] y[j] q1 q2 d1 d2 _ ((hbs.alloc _).alloc _) ((hbs'.alloc _).alloc _)).mono ?_; rintro en w1 ⟨rfl, hb1⟩)
          go_ret
          exact ⟨ret_bool (by rw [HS.out, HD.out, hq]; rfl), below_on ((hb.alloc hb.size _).alloc (by have := hb.size; simp; omega) _) hb1⟩
        · go_wp2_with (go_at_call 95; refine (sameEvent_any x[j] y[j] q1 q2 d1 d2 _ ((hbs.alloc _).alloc _) ((hbs'.alloc _).alloc _)).mono ?_; rintro en w1 ⟨rfl, hb1⟩)
          exact ⟨⟨j + 1, by omega, by go_num, by rw [HS.out, HD.out, hq]; rfl, below_on ((hb.alloc hb.size _).alloc (by have := hb.size; simp; omega) _) hb1⟩, by simp [intOf]; omega⟩
      · obtain rfl : j = x.length := by omega
        have HE := Lib.hid (sameEvs_end x y HL.out)
        go_wp2
        go_ret
        exact ⟨ret_bool (by rw [HS.out, HE.out]), hb⟩
  · have HE := Lib.hid (sameEvs_len x y (by simp at hne; omega))
    go_enter Tryz.func94, Tryz.ntmps94
    go_wp2
    go_ret
    exact ⟨ret_bool (by rw [HE.out]), Below.refl _ _⟩

set_option maxRecDepth 100000 in
set_option maxHeartbeats 400000 in
theorem implSameEvents_any (p q : Option Addr) (c d : Nat) (x y : List Ev) (w : World) (h : Es w w.heap.size p x) (k : Es w w.heap.size q y) (hx : x.length ≤ 1048576) :
    Calls Tryz.prog 32 #[.slice p x.length c, .slice q y.length d] w fun e w' => e = .returned (.bool (sameEvs x y)) ∧ Below w.heap.size w w' := by
  go_enter Tryz.func32, Tryz.ntmps32
  go_wp2_with fail
  refine (equalFunc_any _ _ _ _ _ _ _ h k hx).mono ?_
  rintro e w' ⟨rfl, hb⟩
  go_wp2
  go_ret
  exact ⟨rfl, hb⟩

end Go.Proofs.YtbnpodledgaipaaGreatDoor

/- toEventS: a new slice of events. -/
namespace Go.Proofs.YtbnpodledgaipaaGreatDoor
open Go.RowKit

/-- the world behind the store of an event at cell o of block g -/
def putEv (w : World) (g o : Nat) (e : Ev) (q : Option Addr) (c : Nat) : World :=
  (((((((w.setCell ⟨g, o, none⟩ (.int .i64 e.kind)).setCell ⟨g, o + 1, none⟩ (.int .i64 e.code)).setCell ⟨g, o + 2, none⟩ (.int .i64 e.mods)).setCell ⟨g, o + 3, none⟩ (.int .i64 e.button)).setCell ⟨g, o + 4, none⟩ (.int .i64 e.act)).setCell ⟨g, o + 5, none⟩ (.int .i64 e.col)).setCell ⟨g, o + 6, none⟩ (.int .i64 e.row)).setCell ⟨g, o + 7, none⟩ (.slice q e.data.length c)

/-- the array of its block -/
def putArr (a : Array Value) (o : Nat) (e : Ev) (q : Option Addr) (c : Nat) : Array Value :=
  (((((((a.setIfInBounds o (.int .i64 e.kind)).setIfInBounds (o + 1) (.int .i64 e.code)).setIfInBounds (o + 2) (.int .i64 e.mods)).setIfInBounds (o + 3) (.int .i64 e.button)).setIfInBounds (o + 4) (.int .i64 e.act)).setIfInBounds (o + 5) (.int .i64 e.col)).setIfInBounds (o + 6) (.int .i64 e.row)).setIfInBounds (o + 7) (.slice q e.data.length c)

theorem putArr_size (a : Array Value) (o : Nat) (e : Ev) (q : Option Addr) (c : Nat) : (putArr a o e q c).size = a.size := by simp [putArr]
theorem putArr_other (a : Array Value) (o i : Nat) (e : Ev) (q : Option Addr) (c : Nat) (h : i < o ∨ o + 8 ≤ i) : (putArr a o e q c)[i]? = a[i]? := by
  unfold putArr
  repeat rw [Array.getElem?_setIfInBounds_ne (by omega)]

theorem putEv_heap (w : World) (g o : Nat) (a : Array Value) (t : TypeId) (e : Ev) (q : Option Addr) (c : Nat) (h : w.heap[g]? = some (.cells a t (0, 0))) :
    (putEv w g o e q c).heap[g]? = some (.cells (putArr a o e q c) t (0, 0)) := by
  unfold putEv putArr
  iterate 8 refine heap_setCell_same _ g _ _ t _ ?_
  exact h

theorem putEv_other (w : World) (g o b : Nat) (e : Ev) (q : Option Addr) (c : Nat) (h : b ≠ g) : (putEv w g o e q c).heap[b]? = w.heap[b]? := by
  unfold putEv
  repeat rw [Below.heap_setCell _ _ _ _ (by exact h)]

theorem putEv_size (w : World) (g o : Nat) (e : Ev) (q : Option Addr) (c : Nat) : (putEv w g o e q c).heap.size = w.heap.size := by simp [putEv, World.setCell]

theorem putEv_at (w : World) (g o : Nat) (a : Array Value) (t : TypeId) (e : Ev) (q : Option Addr) (c : Nat) (h : w.heap[g]? = some (.cells a t (0, 0))) (ho : o + 8 ≤ a.size) :
    EvAt (putEv w g o e q c) g o e q c := by
  have hh := putEv_heap w g o a t e q c h
  have hc : ∀ i, (putEv w g o e q c).cell? ⟨g, i, none⟩ = (putArr a o e q c)[i]? := fun i => cell_of_row _ g i _ t (0, 0) hh
  constructor <;> (rw [hc]; unfold putArr; simp [Array.getElem?_setIfInBounds]; try omega)

theorem putEv_frame (w : World) (g o : Nat) (e : Ev) (q : Option Addr) (c : Nat) {B : Nat} (hB : B ≤ g) : Below B w (putEv w g o e q c) :=
  ⟨by simp [putEv, World.setCell], by simp [putEv, World.setCell], by simp [putEv, World.setCell], Nat.le_of_eq (putEv_size w g o e q c).symm, fun b hb => putEv_other w g o b e q c (by omega)⟩

theorem Tryz.info_ev : (Tryz.prog.info? 26).map (fun i => (i.zero, i.size, i.bytes)) = some (some (.agg #[.int .i64 0, .int .i64 0, .int .i64 0, .int .i64 0, .int .i64 0, .int .i64 0, .int .i64 0, .slice none 0 0]), 8, 80) := by kernel_rfl

/-- toEventS behind k rounds -/
structure EvsRel (w : World) (l : List Ev) (k : Nat) (wr : World) : Prop where
  below : Below w.heap.size w wr
  size : w.heap.size < wr.heap.size
  row : ∃ a, wr.heap[w.heap.size]? = some (.cells a 26 (0, 0)) ∧ a.size = l.length * 8
  evs : ∀ j (_ : j < k) (hl : j < l.length), ∃ q c, EvAt wr w.heap.size (j * 8) l[j] q c ∧ Bsx wr (w.heap.size + 1) wr.heap.size q l[j].data

theorem EvsRel.step {w wr w1 : World} {l : List Ev} {k : Nat} (h : EvsRel w l k wr) (hk : k < l.length) (hb : Below wr.heap.size wr w1) {q : Option Addr} (c : Nat) (hq : Bsx w1 wr.heap.size w1.heap.size q l[k].data) :
    EvsRel w l (k + 1) (putEv w1 w.heap.size (k * 8) l[k] q c) := by
  obtain ⟨a, ha, hs⟩ := h.row
  have hz := h.size
  have ha1 : w1.heap[w.heap.size]? = some (.cells a 26 (0, 0)) := (hb.block _ hz).trans ha
  refine ⟨(below_on h.below hb).trans (putEv_frame _ _ _ _ _ _ (Nat.le_refl _)), by rw [putEv_size]; have := hb.size; omega, ⟨_, putEv_heap _ _ _ _ _ _ _ _ ha1, by rw [putArr_size, hs]⟩, fun j hj hl => ?_⟩
  have hfar : ∀ b, w.heap.size + 1 ≤ b → ∀ o, (putEv w1 w.heap.size (k * 8) l[k] q c).cell? ⟨b, o, none⟩ = w1.cell? ⟨b, o, none⟩ := fun b hbb o =>
    World.cell?_of_block (a := ⟨b, o, none⟩) (putEv_other _ _ _ _ _ _ _ (by show b ≠ w.heap.size; omega))
  by_cases e : j = k
  · subst e
    refine ⟨q, c, putEv_at _ _ _ _ _ _ _ _ ha1 (by rw [hs]; omega), ?_⟩
    intro hd
    obtain ⟨b, off, e1, e2, e3, e4⟩ := hq hd
    exact ⟨b, off, e1, by omega, by rw [putEv_size]; exact e3, fun i hi => by rw [hfar b (by omega)]; exact e4 i hi⟩
  · obtain ⟨q', c', he, hd⟩ := h.evs j (by omega) hl
    refine ⟨q', c', ?_, ?_⟩
    · have hcell : ∀ o, o < k * 8 → (putEv w1 w.heap.size (k * 8) l[k] q c).cell? ⟨w.heap.size, o, none⟩ = wr.cell? ⟨w.heap.size, o, none⟩ := fun o ho => by
        rw [cell_of_row _ _ o _ _ _ (putEv_heap _ _ _ _ _ _ _ _ ha1), putArr_other _ _ _ _ _ _ (.inl ho), cell_of_row _ _ o _ _ _ ha]
      have hjk : j * 8 + 8 ≤ k * 8 := by omega
      obtain ⟨c0, c1, c2, c3, c4, c5, c6, c7⟩ := he
      exact ⟨(hcell _ (by omega)).trans c0, (hcell _ (by omega)).trans c1, (hcell _ (by omega)).trans c2, (hcell _ (by omega)).trans c3, (hcell _ (by omega)).trans c4, (hcell _ (by omega)).trans c5, (hcell _ (by omega)).trans c6, (hcell _ (by omega)).trans c7⟩
    · intro hne
      obtain ⟨b, off, e1, e2, e3, e4⟩ := hd hne
      refine ⟨b, off, e1, e2, by rw [putEv_size]; have := hb.size; omega, fun i hi => ?_⟩
      rw [hfar b e2]
      exact (hb.cell (p := ⟨b, off + i, none⟩) e3).trans (e4 i hi)

end Go.Proofs.YtbnpodledgaipaaGreatDoor
