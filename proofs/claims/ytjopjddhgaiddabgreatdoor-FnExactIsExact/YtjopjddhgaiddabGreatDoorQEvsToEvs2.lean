/- Slices of events: the contracts of szEventS and of the comparisons of two events. -/
import Derived.Test.YtjopjddhgaiddabGreatDoorQFaultToFirstFull
import Derived.BigGuardPart
import Derived.Deep.DeepCutAuto
import Derived.Test.YtjopjddhgaiddabGreatDoorQDrawsToDraws7
import Derived.Test.YtjopjddhgaiddabGreatDoorQPutToBytesRes
import Derived.Test.YtjopjddhgaiddabGreatDoorQTokToTokRes
import Derived.Maps.AppendAt
namespace Go.Proofs.YtjopjddhgaiddabGreatDoor
open Go.RowKit

/-- the slice value '.slice p l.length c' holds the events l, in blocks below B -/
def Es (w : World) (B : Nat) (p : Option Addr) (l : List Ev) : Prop :=
  l ≠ [] → ∃ b off, p = some ⟨b, off, none⟩ ∧ b < B ∧ ∀ i (h : i < l.length), ∃ q c, EvAt w b (off + i * 8) l[i] q c ∧ Bs w B q l[i].data

theorem Es.keep {w w' : World} {B B' : Nat} {p : Option Addr} {l : List Ev} (h : Es w B p l) (hB : B ≤ B') (hk : ∀ a : Addr, a.block < B → w'.cell? a = w.cell? a) : Es w' B' p l := by
  intro hl
  obtain ⟨b, off, e, hb, hc⟩ := h hl
  refine ⟨b, off, e, by omega, fun i hi => ?_⟩
  obtain ⟨q, c, h1, h2⟩ := hc i hi
  exact ⟨q, c, h1.keep fun o => hk ⟨b, o, none⟩ hb, h2.keep hB hk⟩
theorem Es.on {w w' : World} {p : Option Addr} {l : List Ev} (h : Es w w.heap.size p l) (hb : Below w.heap.size w w') : Es w' w'.heap.size p l := h.keep hb.size fun _ ha => hb.cell ha

/-- two events are the same -/
def evEq (a b : Ev) : Bool :=
  ((((((a.kind == b.kind && a.code == b.code) && a.mods == b.mods) && a.button == b.button) && a.act == b.act) && a.col == b.col) && a.row == b.row) && a.data == b.data

theorem evEq_iff (a b : Ev) : evEq a b = true ↔ a = b := by
  cases a; cases b
  simp [evEq, and_assoc]

/-- what is left of a budget, and what is known where some is -/
def SzPost (w : World) (left : Int) (P : Prop) (e : Ending) (w' : World) : Prop :=
  ∃ r : Int, e = .returned (.int .i64 r) ∧ (0 ≤ r → r ≤ left ∧ P) ∧ Below w.heap.size w w'

theorem leftOf_post {left : Int} {n : Nat} : 0 ≤ leftOf left n → leftOf left n ≤ left ∧ (n : Int) ≤ left := fun h => leftOf_le h


set_option maxRecDepth 100000 in
set_option maxHeartbeats 8000000 in
theorem l1Same_any (a b : Ev) (p q : Option Addr) (c d : Nat) (ba oa bb ob : Nat) (w : World) {B C : Nat} (ha : EvAt w ba oa a p c) (hb : EvAt w bb ob b q d) (h : Bs w B p a.data) (k : Bs w C q b.data) :
    Calls Tryz.prog 27 #[.pointer (some ⟨ba, oa, none⟩), .pointer (some ⟨bb, ob, none⟩)] w fun en w' => en = .returned (.bool (evEq a b)) ∧ ∃ n, w' = w.drewN n := by
  obtain ⟨c0, c1, c2, c3, c4, c5, c6, c7⟩ := ha
  obtain ⟨d0, d1, d2, d3, d4, d5, d6, d7⟩ := hb
  have h1 := fun n => convert_str (P := Tryz.prog) Tryz.underlying24 Tryz.underlying5 Tryz.underlying9 p c a.data (w.drewN n) (B := B) (h.keep (Nat.le_refl _) fun _ _ => rfl)
  have h2 := fun n => convert_str (P := Tryz.prog) Tryz.underlying24 Tryz.underlying5 Tryz.underlying9 q d b.data (w.drewN n) (B := C) (k.keep (Nat.le_refl _) fun _ _ => rfl)
  clear h k
  cases k0 : (a.kind == b.kind)
  · go_enter Tryz.func27, Tryz.ntmps27
    go_upto_region 1 with (fail)
    simp only [List.append_eq, List.cons_append, List.nil_append]
    go_quiet (fail)
    go_wp2
    go_ret
    exact ⟨ret_bool (by simp [evEq, *]), _, rfl⟩
  cases k1 : (a.code == b.code)
  · go_enter Tryz.func27, Tryz.ntmps27
    go_upto_region 1 with (fail)
    simp only [List.append_eq, List.cons_append, List.nil_append]
    go_quiet (fail)
    go_wp2
    go_ret
    exact ⟨ret_bool (by simp [evEq, *]), _, rfl⟩
  cases k2 : (a.mods == b.mods)
  · go_enter Tryz.func27, Tryz.ntmps27
    go_upto_region 1 with (fail)
    simp only [List.append_eq, List.cons_append, List.nil_append]
    go_quiet (fail)
    go_wp2
    go_ret
    exact ⟨ret_bool (by simp [evEq, *]), _, rfl⟩
  cases k3 : (a.button == b.button)
  · go_enter Tryz.func27, Tryz.ntmps27
    go_upto_region 1 with (fail)
    simp only [List.append_eq, List.cons_append, List.nil_append]
    go_quiet (fail)
    go_wp2
    go_ret
    exact ⟨ret_bool (by simp [evEq, *]), _, rfl⟩
  cases k4 : (a.act == b.act)
  · go_enter Tryz.func27, Tryz.ntmps27
    go_upto_region 1 with (fail)
    simp only [List.append_eq, List.cons_append, List.nil_append]
    go_quiet (fail)
    go_wp2
    go_ret
    exact ⟨ret_bool (by simp [evEq, *]), _, rfl⟩
  cases k5 : (a.col == b.col)
  · go_enter Tryz.func27, Tryz.ntmps27
    go_upto_region 1 with (fail)
    simp only [List.append_eq, List.cons_append, List.nil_append]
    go_quiet (fail)
    go_wp2
    go_ret
    exact ⟨ret_bool (by simp [evEq, *]), _, rfl⟩
  cases k6 : (a.row == b.row)
  · go_enter Tryz.func27, Tryz.ntmps27
    go_upto_region 1 with (fail)
    simp only [List.append_eq, List.cons_append, List.nil_append]
    go_quiet (fail)
    go_wp2
    go_ret
    exact ⟨ret_bool (by simp [evEq, *]), _, rfl⟩
  go_enter Tryz.func27, Tryz.ntmps27
  go_upto_region 1 with (fail)
  simp only [List.append_eq, List.cons_append, List.nil_append]
  go_quiet (fail)
  go_wp2
  go_ret
  exact ⟨ret_bool (by simp [evEq, *]), _, rfl⟩

set_option maxRecDepth 100000 in
set_option maxHeartbeats 4000000 in
theorem sameEvent_any (a b : Ev) (p q : Option Addr) (c d : Nat) (w : World) (h : Bs w w.heap.size p a.data) (k : Bs w w.heap.size q b.data) :
    Calls Tryz.prog 40 #[evV a p c, evV b q d] w fun en w' => en = .returned (.bool (evEq a b)) ∧ Below w.heap.size w w' := by
  unfold evV
  have H := Lib.hid h
  have K := Lib.hid k
  clear h k
  go_enter Tryz.func40, Tryz.ntmps40
  go_wp2_with (go_at_call 69; refine (implSameBytes_any _ _ _ _ _ _ _ ((H.out.alloc _).alloc _) ((K.out.alloc _).alloc _)).mono ?_; rintro en w1 ⟨rfl, rfl⟩)
  all_goals
    go_ret
    exact ⟨ret_bool (by simp [evEq, *]), ((Below.refl _ _).alloc (Nat.le_refl _) _).alloc (by simp) _⟩

end Go.Proofs.YtjopjddhgaiddabGreatDoor

/- Slices of events of the call's own, each event's data in a block of its own. -/
namespace Go.Proofs.YtjopjddhgaiddabGreatDoor
open Go.RowKit

/-- an event, and where its data lie -/
abbrev EvRow := Ev × Option Addr × Nat
def rowCells (r : EvRow) : List Value := (evC r.1 r.2.1 r.2.2).toList
def rowSlice (r : EvRow) : Value := .slice r.2.1 r.1.data.length r.2.2

/-- v is a slice of the call's own that holds the events of rows; their data are the call's own -/
def EvsOwn (W : World) (base : Nat) (v : Value) (rows : List EvRow) : Prop :=
  W.ownsRow base 31 8 v rows.length (rows.flatMap rowCells) ∧ ∀ r ∈ rows, Own W base (rowSlice r) r.1.data

theorem rows_ne {W : World} {b1 b2 n : Nat} {v1 v2 : Value} {xs : List Value} {l : List UInt8} (h : W.ownsRow b1 31 8 v1 n xs) (k : Own W b2 v2 l) : v1.ownBlock = none ∨ v2.ownBlock ≠ v1.ownBlock := by
  rcases h.2 with ⟨rfl, _⟩ | ⟨g, cap, cur, rfl, _, hh, _⟩
  · exact .inl rfl
  refine .inr fun e => ?_
  rcases k.2 with ⟨rfl, _⟩ | ⟨g', cap', cur', rfl, _, hh', _⟩
  · simp [Value.ownBlock] at e
  · simp [Value.ownBlock] at e
    subst e
    rw [hh] at hh'
    simp at hh'

theorem EvsOwn.kept {W W' : World} {base : Nat} {v : Value} {rows : List EvRow} {row : Option Nat} (h : EvsOwn W base v rows) (hg : W.grownBy W' row) (hv : v.ownBlock ≠ row ∨ v.ownBlock = none) (hd : ∀ r ∈ rows, ∀ j, (rowSlice r).ownBlock = some j → some j ≠ row) : EvsOwn W' base v rows :=
  ⟨World.ownsRow.kept h.1 hg (hv.symm.imp id id), fun r hr => (h.2 r hr).far hg (hd r hr)⟩

theorem EvsOwn.snoc {W : World} {base : Nat} {v' : Value} {rows : List EvRow} {r : EvRow} (h : W.ownsRow base 31 8 v' (rows.length + 1) (rows.flatMap rowCells ++ rowCells r)) (hd : ∀ r ∈ rows, Own W base (rowSlice r) r.1.data) (hr : Own W base (rowSlice r) r.1.data) : EvsOwn W base v' (rows ++ [r]) := by
  refine ⟨by simpa using h, fun x hx => ?_⟩
  rcases List.mem_append.1 hx with h' | h'
  · exact hd x h'
  · simp at h'; subst h'; exact hr

theorem flat_at : ∀ (rows : List EvRow) (i k : Nat) (hi : i < rows.length), k < 8 → (rows.flatMap rowCells)[i * 8 + k]? = (rowCells rows[i])[k]?
  | [], _, _, hi, _ => by simp at hi
  | r :: rs, 0, k, _, hk => by
    rw [List.flatMap_cons, List.getElem?_append_left (by simp [rowCells, evC]; omega)]
    simp
  | r :: rs, i + 1, k, hi, hk => by
    have e : (rowCells r).length = 8 := by simp [rowCells, evC]
    rw [List.flatMap_cons, List.getElem?_append_right (by omega), e]
    have e2 : (i + 1) * 8 + k - 8 = i * 8 + k := by omega
    rw [e2, flat_at rs i k (by simpa using hi) hk]
    simp

theorem EvsOwn.es {W : World} {base : Nat} {p : Option Addr} {n c : Nat} {rows : List EvRow} (h : EvsOwn W base (.slice p n c) rows) : n = rows.length ∧ Es W W.heap.size p (rows.map Prod.fst) := by
  rcases h.1.2 with ⟨e, e0⟩ | ⟨g, cap, cur, e, _, hh, _⟩
  · simp at e
    refine ⟨by omega, fun hne => absurd (List.eq_nil_of_length_eq_zero e0) (by simpa using hne)⟩
  · simp only [Value.slice.injEq] at e
    obtain ⟨rfl, rfl, rfl⟩ := e
    have hlt : g < W.heap.size := (Array.getElem?_eq_some_iff.1 hh).1
    refine ⟨rfl, fun _ => ⟨g, 0, rfl, hlt, fun i hi => ?_⟩⟩
    rw [List.length_map] at hi
    have hc : ∀ k, k < 8 → W.cell? ⟨g, 0 + i * 8 + k, none⟩ = (rowCells rows[i])[k]? := by
      intro k hk
      have := World.ownsRow.cellAt h.1 (i * 8 + k) (by omega)
      rw [flat_at rows i k hi hk] at this
      simpa using this
    have ho := h.2 rows[i] (List.getElem_mem _)
    refine ⟨rows[i].2.1, rows[i].2.2, ?_, ?_⟩
    · simp only [List.getElem_map]
      exact ⟨hc 0 (by omega), hc 1 (by omega), hc 2 (by omega), hc 3 (by omega), hc 4 (by omega), hc 5 (by omega), hc 6 (by omega), hc 7 (by omega)⟩
    · simp only [List.getElem_map]
      exact ho.bs.2

theorem EvsOwn.lt {W : World} {base : Nat} {v : Value} {rows : List EvRow} (h : EvsOwn W base v rows) : ∀ j, v.ownBlock = some j → base ≤ j ∧ j < W.heap.size := World.ownsRow.lt h.1
theorem EvsOwn.below {W W' : World} {base : Nat} {v : Value} {rows : List EvRow} (h : EvsOwn W base v rows) (hb : Below W.heap.size W W') : EvsOwn W' base v rows :=
  h.kept (grown_of_below hb (some W.heap.size)) (.inl fun e => Nat.lt_irrefl _ (h.lt _ e).2) (fun r hr j hj e => by cases e; exact Nat.lt_irrefl _ ((h.2 r hr).lt _ hj).2)
theorem EvsOwn.alloc {W : World} {base : Nat} {v : Value} {rows : List EvRow} (h : EvsOwn W base v rows) (o : Obj) : EvsOwn (W.alloc o) base v rows := h.below ((Below.refl _ _).alloc (Nat.le_refl _) o)
theorem EvsOwn.src {W W' : World} {base g : Nat} {v : Value} {rows : List EvRow} (h : EvsOwn W base v rows) (hg : W.grownBy W' (some g)) (hlt : g < base) : EvsOwn W' base v rows :=
  h.kept hg (.inl fun e => by have := (h.lt _ e).1; omega) (fun r hr j hj e => by cases e; have := ((h.2 r hr).lt _ hj).1; omega)

/-- an append to another slice of events -/
theorem EvsOwn.beside {W W' : World} {base b2 n : Nat} {v va : Value} {xs : List Value} {rows : List EvRow} (h : EvsOwn W base v rows) (ha : W.ownsRow b2 31 8 va n xs) (hne : va.ownBlock ≠ v.ownBlock) (hg : W.grownBy W' va.ownBlock) : EvsOwn W' base v rows :=
  h.kept hg (.inl fun e => hne e.symm) (fun r hr j hj e => by
    rcases rows_ne ha (h.2 r hr) with h0 | h0
    · rw [h0] at e; cases e
    · exact h0 (hj.trans e))

/-- an append of one event -/
theorem EvsOwn.append {W W' : World} {base : Nat} {v v' : Value} {rows : List EvRow} {r : EvRow} (h : EvsOwn W base v rows) (hr : Own W base (rowSlice r) r.1.data)
    (hn : W'.ownsRow base 31 8 v' (rows.length + 1) (rows.flatMap rowCells ++ rowCells r)) (hg : W.grownBy W' v.ownBlock) : EvsOwn W' base v' (rows ++ [r]) := by
  have hk : ∀ {x : EvRow}, Own W base (rowSlice x) x.1.data → Own W' base (rowSlice x) x.1.data := fun {x} hx => hx.far hg (fun j hj e => by
    rcases rows_ne h.1 hx with h0 | h0
    · rw [h0] at e; cases e
    · exact h0 (hj.trans e))
  exact EvsOwn.snoc hn (fun x hx => hk (h.2 x hx)) (hk hr)

theorem EvsOwn.place {W : World} {base : Nat} {v : Value} {rows : List EvRow} (h : EvsOwn W base v rows) (h0 : v ≠ .slice none 0 0) :
    ∃ g cap, v = .slice (some ⟨g, 0, none⟩) rows.length cap ∧ base ≤ g ∧ g < W.heap.size ∧ ∀ o, W.frozen? ⟨g, o, none⟩ = false := by
  rcases h.1.2 with ⟨e, _⟩ | ⟨g, cap, cur, e, hb, hh, _⟩
  · exact absurd e h0
  · exact ⟨g, cap, e, hb, (Array.getElem?_eq_some_iff.1 hh).1, fun o => by simp [World.frozen?, hh]⟩

/-- the first event's modifiers are set -/
theorem EvsOwn.bump {W : World} {base g n c : Nat} {r : EvRow} {rs : List EvRow} (h : EvsOwn W base (.slice (some ⟨g, 0, none⟩) n c) (r :: rs)) (m : Int) :
    EvsOwn (W.setCell ⟨g, 2, none⟩ (.int .i64 m)) base (.slice (some ⟨g, 0, none⟩) n c) (({ r.1 with mods := m }, r.2) :: rs) := by
  have hn := h.es.1
  subst hn
  have hs := (World.ownsRow.stored h.1 2 (.int .i64 m)).1
  have hg : W.grownBy (W.setCell ⟨g, 2, none⟩ (.int .i64 m)) (some g) := ⟨rfl, rfl, rfl, by simp, fun b _ hb => Below.heap_setCell _ _ _ _ (fun e => hb (by rw [e]))⟩
  have hk : ∀ x ∈ r :: rs, Own (W.setCell ⟨g, 2, none⟩ (.int .i64 m)) base (rowSlice x) x.1.data := fun x hx => (h.2 x hx).far hg (fun j hj e => by
    rcases rows_ne h.1 (h.2 x hx) with h0 | h0
    · simp [Value.ownBlock] at h0
    · exact h0 (hj.trans e))
  refine ⟨?_, fun x hx => ?_⟩
  · simpa [rowCells, evC] using hs
  · rcases List.mem_cons.1 hx with rfl | hx
    · exact hk r (by simp)
    · exact hk x (by simp [hx])

end Go.Proofs.YtjopjddhgaiddabGreatDoor

/- Marks over slices of events of the call's own: what markEventS leaves. -/
namespace Go.Proofs.YtjopjddhgaiddabGreatDoor
open Go.RowKit
set_option linter.unusedVariables false

/-- the rows' data lie in blocks apart -/
def Apart (rows : List EvRow) : Prop := rows.Pairwise fun r s => ∀ j, (rowSlice r).ownBlock = some j → (rowSlice s).ownBlock ≠ some j

/-- an event with the numbers k to k + 6 and the data d -/
def numEv (k : Nat) (d : List UInt8) : Ev := ⟨(k : Int), ((k + 1 : Nat) : Int), ((k + 2 : Nat) : Int), ((k + 3 : Nat) : Int), ((k + 4 : Nat) : Int), ((k + 5 : Nat) : Int), ((k + 6 : Nat) : Int), d⟩
/-- an event marked from k on -/
def mkEv (k n : Nat) : Ev := numEv k (marksL (k + 7) n)
def mkRows : Nat → List EvRow → List EvRow
  | _, [] => []
  | k, r :: rs => (mkEv k r.1.data.length, r.2) :: mkRows (k + 7 + r.1.data.length) rs
def mkTop : Nat → List EvRow → Nat
  | k, [] => k
  | k, r :: rs => mkTop (k + 7 + r.1.data.length) rs

theorem mkRows_len : ∀ (rs : List EvRow) (k : Nat), (mkRows k rs).length = rs.length
  | [], _ => rfl
  | _ :: rs, k => by simp [mkRows, mkRows_len rs]
theorem mkRows_append : ∀ (xs ys : List EvRow) (k : Nat), mkRows k (xs ++ ys) = mkRows k xs ++ mkRows (mkTop k xs) ys
  | [], _, _ => rfl
  | r :: xs, ys, k => by simp [mkRows, mkTop, mkRows_append xs ys]
theorem mkTop_append : ∀ (xs ys : List EvRow) (k : Nat), mkTop k (xs ++ ys) = mkTop (mkTop k xs) ys
  | [], _, _ => rfl
  | r :: xs, ys, k => by simp [mkTop, mkTop_append xs ys]
theorem mkTop_le : ∀ (xs : List EvRow) (k : Nat), k ≤ mkTop k xs
  | [], _ => Nat.le_refl _
  | r :: xs, k => by have := mkTop_le xs (k + 7 + r.1.data.length); simp [mkTop]; omega
theorem mkTop_bound {M : Nat} : ∀ (xs : List EvRow) (k : Nat), (∀ r ∈ xs, r.1.data.length ≤ M) → mkTop k xs ≤ k + xs.length * (7 + M)
  | [], _, _ => by simp [mkTop]
  | r :: xs, k, h => by
    have := mkTop_bound xs (k + 7 + r.1.data.length) (fun r hr => h r (by simp [hr]))
    have h1 := h r (by simp)
    simp [mkTop, Nat.succ_mul]
    omega
/-- the slice stays where it is -/
theorem mk_slice (k : Nat) (r : EvRow) : rowSlice (mkEv k r.1.data.length, r.2) = rowSlice r := by simp [rowSlice, mkEv, numEv, marksL_length]

theorem flat_put7 : ∀ (rows : List EvRow) (i : Nat) (hi : i < rows.length) (x0 x1 x2 x3 x4 x5 x6 : Int),
    ((((((((rows.flatMap rowCells).set (i * 8) (.int .i64 x0)).set (i * 8 + 1) (.int .i64 x1)).set (i * 8 + 2) (.int .i64 x2)).set (i * 8 + 3) (.int .i64 x3)).set (i * 8 + 4) (.int .i64 x4)).set (i * 8 + 5) (.int .i64 x5)).set (i * 8 + 6) (.int .i64 x6)) =
      (rows.set i (⟨x0, x1, x2, x3, x4, x5, x6, rows[i].1.data⟩, rows[i].2)).flatMap rowCells
  | [], _, hi, _, _, _, _, _, _, _ => by simp at hi
  | r :: rs, 0, _, x0, x1, x2, x3, x4, x5, x6 => by simp [rowCells, evC]
  | r :: rs, i + 1, hi, x0, x1, x2, x3, x4, x5, x6 => by
    have e : (rowCells r).length = 8 := by simp [rowCells, evC]
    have ih := flat_put7 rs i (by simpa using hi) x0 x1 x2 x3 x4 x5 x6
    have hs : ∀ (l : List Value) (f : Nat) (v : Value), (rowCells r ++ l).set ((i + 1) * 8 + f) v = rowCells r ++ l.set (i * 8 + f) v := fun l f v => by
      rw [List.set_append_right _ _ (by omega), e]
      congr 2
      omega
    have h0 := fun l v => hs l 0 v
    simp only [Nat.add_zero] at h0
    rw [List.flatMap_cons, h0, hs, hs, hs, hs, hs, hs, ih]
    simp

theorem flat_same : ∀ (rows : List EvRow) (i : Nat) (hi : i < rows.length) (d : List UInt8), d.length = rows[i].1.data.length →
    (rows.set i ({ rows[i].1 with data := d }, rows[i].2)).flatMap rowCells = rows.flatMap rowCells
  | [], _, hi, _, _ => by simp at hi
  | r :: rs, 0, _, d, hd => by simp at hd; simp [rowCells, evC, hd]
  | r :: rs, i + 1, hi, d, hd => by
    have ih := flat_same rs i (by simpa using hi) d (by simpa using hd)
    simpa using ih

/-- seven numbers of the event i are written -/
theorem EvsOwn.put7 {W : World} {base g n c : Nat} {rows : List EvRow} (h : EvsOwn W base (.slice (some ⟨g, 0, none⟩) n c) rows) (i : Nat) (hi : i < rows.length) (x0 x1 x2 x3 x4 x5 x6 : Int) :
    EvsOwn (sets W g (i * 8) [.int .i64 x0, .int .i64 x1, .int .i64 x2, .int .i64 x3, .int .i64 x4, .int .i64 x5, .int .i64 x6]) base (.slice (some ⟨g, 0, none⟩) n c) (rows.set i (⟨x0, x1, x2, x3, x4, x5, x6, rows[i].1.data⟩, rows[i].2)) ∧
    W.grownBy (sets W g (i * 8) [.int .i64 x0, .int .i64 x1, .int .i64 x2, .int .i64 x3, .int .i64 x4, .int .i64 x5, .int .i64 x6]) (some g) := by
  have hn := h.es.1
  subst hn
  have s0 := World.ownsRow.stored h.1 (i * 8) (.int .i64 x0)
  have s1 := World.ownsRow.stored s0.1 (i * 8 + 1) (.int .i64 x1)
  have s2 := World.ownsRow.stored s1.1 (i * 8 + 2) (.int .i64 x2)
  have s3 := World.ownsRow.stored s2.1 (i * 8 + 3) (.int .i64 x3)
  have s4 := World.ownsRow.stored s3.1 (i * 8 + 4) (.int .i64 x4)
  have s5 := World.ownsRow.stored s4.1 (i * 8 + 5) (.int .i64 x5)
  have s6 := World.ownsRow.stored s5.1 (i * 8 + 6) (.int .i64 x6)
  have hg := grown_trans (grown_trans (grown_trans (grown_trans (grown_trans (grown_trans s0.2 s1.2) s2.2) s3.2) s4.2) s5.2) s6.2
  have hr := s6.1
  rw [flat_put7 rows i hi] at hr
  have hk : ∀ x ∈ rows, Own (sets W g (i * 8) [.int .i64 x0, .int .i64 x1, .int .i64 x2, .int .i64 x3, .int .i64 x4, .int .i64 x5, .int .i64 x6]) base (rowSlice x) x.1.data := fun x hx => (h.2 x hx).far hg (fun j hj e => by
    rcases rows_ne h.1 (h.2 x hx) with h0 | h0
    · simp [Value.ownBlock] at h0
    · exact h0 (hj.trans e))
  refine ⟨⟨by rw [List.length_set]; exact hr, fun x hx => ?_⟩, hg⟩
  rcases List.mem_or_eq_of_mem_set hx with hx | rfl
  · exact hk x hx
  · exact hk rows[i] (List.getElem_mem _)

/-- the data of the event i are written -/
theorem EvsOwn.data {W W' : World} {base : Nat} {v : Value} {rows : List EvRow} (h : EvsOwn W base v rows) (ha : Apart rows) (i : Nat) (hi : i < rows.length) {d : List UInt8} (hd : d.length = rows[i].1.data.length)
    (ho : Own W' base (rowSlice rows[i]) d) (hg : W.grownBy W' (rowSlice rows[i]).ownBlock) : EvsOwn W' base v (rows.set i ({ rows[i].1 with data := d }, rows[i].2)) := by
  refine ⟨?_, fun x hx => ?_⟩
  · rw [flat_same rows i hi d hd, List.length_set]
    refine World.ownsRow.kept h.1 hg ?_
    rcases rows_ne h.1 (h.2 rows[i] (List.getElem_mem _)) with h0 | h0
    · exact .inl h0
    · exact .inr (Ne.symm h0)
  · obtain ⟨j, hj, rfl⟩ := List.mem_iff_getElem.1 hx
    rw [List.length_set] at hj
    by_cases hij : i = j
    · subst hij
      rw [List.getElem_set_self]
      simpa [rowSlice, hd] using ho
    · rw [List.getElem_set_ne hij]
      refine (h.2 rows[j] (List.getElem_mem _)).far hg (fun b hb e => ?_)
      have ha' := List.pairwise_iff_getElem.1 ha
      rcases Nat.lt_or_ge i j with hlt | hge
      · exact ha' i j hi hj hlt b e.symm hb
      · exact ha' j i hj hi (by omega) b hb e.symm

/-- a set that keeps the slices -/
theorem Apart.set {rows : List EvRow} (h : Apart rows) (i : Nat) (hi : i < rows.length) (r : EvRow) (hr : rowSlice r = rowSlice rows[i]) : Apart (rows.set i r) := by
  refine List.pairwise_iff_getElem.2 fun a b ha hb hab j => ?_
  rw [List.length_set] at ha hb
  have h0 := List.pairwise_iff_getElem.1 h a b ha hb hab j
  have e : ∀ (x : Nat) (hx : x < rows.length) (hx' : x < (rows.set i r).length), rowSlice (rows.set i r)[x] = rowSlice rows[x] := fun x hx hx' => by
    by_cases hxi : i = x
    · subst hxi; rw [List.getElem_set_self, hr]
    · rw [List.getElem_set_ne hxi]
  rw [e a ha, e b hb]
  exact h0

/-- rows of which the first i are marked -/
def halfRows (k : Nat) (rows : List EvRow) (i : Nat) : List EvRow := mkRows k (rows.take i) ++ rows.drop i
theorem halfRows_len (k : Nat) (rows : List EvRow) (i : Nat) (hi : i ≤ rows.length) : (halfRows k rows i).length = rows.length := by simp [halfRows, mkRows_len]; omega
theorem halfRows_zero (k : Nat) (rows : List EvRow) : halfRows k rows 0 = rows := by simp [halfRows, mkRows]
theorem halfRows_all (k : Nat) (rows : List EvRow) : halfRows k rows rows.length = mkRows k rows := by simp [halfRows]
theorem halfRows_at (k : Nat) (rows : List EvRow) (i : Nat) (hi : i < rows.length) (h : i < (halfRows k rows i).length) : (halfRows k rows i)[i] = rows[i] := by
  have hl : (mkRows k (rows.take i)).length = i := by rw [mkRows_len]; simp; omega
  have e : (halfRows k rows i)[i]? = some rows[i] := by
    show (mkRows k (rows.take i) ++ rows.drop i)[i]? = _
    rw [List.getElem?_append_right (by omega), hl, Nat.sub_self, List.drop_eq_getElem_cons hi]
    rfl
  rw [List.getElem?_eq_getElem h] at e
  exact Option.some.inj e
theorem halfRows_set (k : Nat) (rows : List EvRow) (i : Nat) (hi : i < rows.length) : (halfRows k rows i).set i (mkEv (mkTop k (rows.take i)) rows[i].1.data.length, rows[i].2) = halfRows k rows (i + 1) := by
  unfold halfRows
  rw [List.set_append_right _ _ (by rw [mkRows_len]; simp; omega), mkRows_len, List.length_take, Nat.min_eq_left (Nat.le_of_lt hi), Nat.sub_self, List.drop_eq_getElem_cons hi, List.set_cons_zero,
    List.take_succ_eq_append_getElem hi, mkRows_append, List.append_assoc]
  rfl
theorem mkTop_succ (k : Nat) (rows : List EvRow) (i : Nat) (hi : i < rows.length) : mkTop k (rows.take (i + 1)) = mkTop k (rows.take i) + 7 + rows[i].1.data.length := by
  rw [List.take_succ_eq_append_getElem hi, mkTop_append]
  rfl
theorem mkTop_take (k : Nat) (rows : List EvRow) (i : Nat) : mkTop k (rows.take i) ≤ mkTop k rows := by
  conv => rhs; rw [← List.take_append_drop i rows, mkTop_append]
  exact mkTop_le _ _
theorem mkRows_at (k : Nat) (rows : List EvRow) (i : Nat) (hi : i < rows.length) (h : i < (mkRows k rows).length) : (mkRows k rows)[i] = (mkEv (mkTop k (rows.take i)) rows[i].1.data.length, rows[i].2) := by
  have e : mkRows k rows = mkRows k (rows.take i) ++ mkRows (mkTop k (rows.take i)) (rows.drop i) := by rw [← mkRows_append, List.take_append_drop]
  have hl : (mkRows k (rows.take i)).length = i := by rw [mkRows_len]; simp; omega
  have : (mkRows k rows)[i]? = some (mkEv (mkTop k (rows.take i)) rows[i].1.data.length, rows[i].2) := by
    rw [e, List.getElem?_append_right (by omega), hl, Nat.sub_self, List.drop_eq_getElem_cons hi]
    rfl
  rw [List.getElem?_eq_getElem h] at this
  exact Option.some.inj this

/-- a round of the marking: the event i -/
theorem EvsOwn.mark {W W' : World} {base g n c k : Nat} {rows : List EvRow} (i : Nat) (hi : i < rows.length) (h : EvsOwn W base (.slice (some ⟨g, 0, none⟩) n c) (halfRows k rows i)) (ha : Apart (halfRows k rows i))
    {w7 : World} (h7 : w7 = sets W g (i * 8) [.int .i64 (mkTop k (rows.take i) : Nat), .int .i64 (mkTop k (rows.take i) + 1 : Nat), .int .i64 (mkTop k (rows.take i) + 2 : Nat), .int .i64 (mkTop k (rows.take i) + 3 : Nat), .int .i64 (mkTop k (rows.take i) + 4 : Nat), .int .i64 (mkTop k (rows.take i) + 5 : Nat), .int .i64 (mkTop k (rows.take i) + 6 : Nat)])
    (ho : Own W' base (rowSlice rows[i]) (marksL (mkTop k (rows.take i) + 7) rows[i].1.data.length)) (hg : w7.grownBy W' (rowSlice rows[i]).ownBlock) :
    EvsOwn W' base (.slice (some ⟨g, 0, none⟩) n c) (halfRows k rows (i + 1)) ∧ Apart (halfRows k rows (i + 1)) := by
  have hl : i < (halfRows k rows i).length := by rw [halfRows_len k rows i (by omega)]; exact hi
  have hat := halfRows_at k rows i hi hl
  generalize hK : mkTop k (rows.take i) = K at *
  obtain ⟨p1, p2⟩ := h.put7 i hl (K : Nat) (K + 1 : Nat) (K + 2 : Nat) (K + 3 : Nat) (K + 4 : Nat) (K + 5 : Nat) (K + 6 : Nat)
  rw [← h7] at p1 p2
  rw [hat] at p1
  generalize hR : (halfRows k rows i).set i (⟨(K : Nat), (K + 1 : Nat), (K + 2 : Nat), (K + 3 : Nat), (K + 4 : Nat), (K + 5 : Nat), (K + 6 : Nat), rows[i].1.data⟩, rows[i].2) = R at *
  have hRl : i < R.length := by rw [← hR, List.length_set]; exact hl
  have hRi : R[i] = ((⟨(K : Nat), (K + 1 : Nat), (K + 2 : Nat), (K + 3 : Nat), (K + 4 : Nat), (K + 5 : Nat), (K + 6 : Nat), rows[i].1.data⟩ : Ev), rows[i].2) := by subst hR; rw [List.getElem_set_self]
  have hsl : rowSlice R[i] = rowSlice rows[i] := by rw [hRi]; rfl
  have hAR : Apart R := by subst hR; exact ha.set i hl _ (by rw [hat]; rfl)
  have h2 := p1.data hAR i hRl (d := marksL (K + 7) rows[i].1.data.length) (by rw [hRi]; simp [marksL_length]) (by rw [hsl]; exact ho) (by rw [hsl]; exact hg)
  have e : R.set i ({ R[i].1 with data := marksL (K + 7) rows[i].1.data.length }, R[i].2) = halfRows k rows (i + 1) := by
    rw [hRi, ← halfRows_set k rows i hi, hK, ← hR, List.set_set]
    rfl
  have hA2 : Apart (halfRows k rows (i + 1)) := by
    rw [← halfRows_set k rows i hi]
    exact ha.set i hl _ (by rw [hat]; exact mk_slice _ _)
  rw [e] at h2
  exact ⟨h2, hA2⟩

end Go.Proofs.YtjopjddhgaiddabGreatDoor

/- DrawSameEvents. -/
namespace Go.Proofs.YtjopjddhgaiddabGreatDoor
open Go.RowKit

/-- what a draw of two slices of events leaves -/
def TwoEvs (w : World) (e : Ending) (w' : World) : Prop :=
  ∃ p c q d, ∃ x y : List Ev, e = .returned (.tuple #[.slice p x.length c, .slice q y.length d]) ∧ x.length ≤ 3 ∧ y.length ≤ 3 ∧ (∀ e ∈ x ++ y, e.data.length ≤ 40) ∧ Es w' w'.heap.size p x ∧ Es w' w'.heap.size q y ∧ Below w.heap.size w w'

theorem two_end {w W : World} {base b2 : Nat} {p q : Option Addr} {n m c d : Nat} {ra rb : List EvRow} (ha : EvsOwn W base (.slice p n c) ra) (hb : EvsOwn W b2 (.slice q m d) rb) (h1 : ra.length ≤ 3) (h2 : rb.length ≤ 3)
    (hd : ∀ r ∈ ra ++ rb, r.1.data.length ≤ 40) (hw : Below w.heap.size w W) : TwoEvs w (.returned (.tuple #[.slice p n c, .slice q m d])) W := by
  obtain ⟨rfl, ea⟩ := ha.es
  obtain ⟨rfl, eb⟩ := hb.es
  refine ⟨p, c, q, d, ra.map Prod.fst, rb.map Prod.fst, by rw [List.length_map, List.length_map], by simpa using h1, by simpa using h2, ?_, ea, eb, hw⟩
  intro e he
  rw [← List.map_append] at he
  obtain ⟨r, hr, rfl⟩ := List.mem_map.1 he
  exact hd r hr

/-- the loop's relation -/
def EvsRel2 (w : World) (q : Option Addr) (c : Nat) (l : List UInt8) (k : Nat) (va vb n : Value) (W : World) : Prop :=
  ∃ (j : Nat) (ra rb : List EvRow), n = .int .i64 j ∧ ra.length + j = k ∧ rb.length = ra.length ∧ EvsOwn W (w.heap.size + 1) va ra ∧ EvsOwn W (w.heap.size + 1) vb rb ∧ va.ownBlock ≠ vb.ownBlock ∧
    va ≠ .slice none 0 0 ∧ vb ≠ .slice none 0 0 ∧ (∀ r ∈ ra ++ rb, r.1.data.length ≤ 40 ∧ 0 ≤ r.1.mods ∧ r.1.mods ≤ 7) ∧ Src W w.heap.size q c l (1 + 40 * ra.length) ∧ Below w.heap.size w W

theorem evs_none (w : World) (t : Nat) (hb : t ≤ w.heap.size) : EvsOwn (w.alloc (.cells #[] 31)) t (.slice (some ⟨w.heap.size, 0, none⟩) 0 0) [] :=
  ⟨World.ownsRow_made w #[] 0 hb (by simp [maxLen]) (by simp), by simp⟩

theorem Tryz.info_evd : (Tryz.prog.info? 31).map (fun i => (i.zero, i.size, i.bytes)) = some (some (.agg #[.int .i64 0, .int .i64 0, .int .i64 0, .int .i64 0, .int .i64 0, .int .i64 0, .int .i64 0, .slice none 0 0]), 8, 80) := by kernel_rfl

theorem row_len (r : EvRow) : (rowCells r).length = 8 := by simp [rowCells, evC]
theorem row_one (r : EvRow) : ∀ u ∈ rowCells r, u.oneCell' = true := by
  intro u hu
  simp [rowCells, evC] at hu
  rcases hu with rfl | rfl | rfl | rfl | rfl | rfl | rfl | rfl <;> rfl
theorem row_at (W : World) (r : EvRow) (t : TypeId) (b : Nat) (hb : b = W.heap.size) : ∀ j u, (rowCells r)[j]? = some u → (W.alloc (.cells (evC r.1 r.2.1 r.2.2) t)).cell? ((⟨b, 0, none⟩ : Addr).add j) = some u := by
  intro j u hj
  have ea : (⟨b, 0, none⟩ : Addr).add j = ⟨b, j, none⟩ := by simp [Addr.add]; omega
  rw [ea, World.cell?_alloc_at _ _ _ _ hb]
  simpa [rowCells] using hj



end Go.Proofs.YtjopjddhgaiddabGreatDoor

/- Two slices of events compared: SameEvents of the model and of the program. -/
namespace Go.Proofs.YtjopjddhgaiddabGreatDoor
open Go.RowKit

/-- two lists of events are the same -/
def sameEvs : List Ev → List Ev → Bool
  | [], [] => true
  | a :: x, b :: y => evEq a b && sameEvs x y
  | _, _ => false

theorem sameEvs_len : ∀ (x y : List Ev), x.length ≠ y.length → sameEvs x y = false
  | [], [], h => absurd rfl h
  | [], _ :: _, _ => rfl
  | _ :: _, [], _ => rfl
  | a :: x, b :: y, h => by
    simp only [sameEvs]
    rw [sameEvs_len x y (by simp at h; exact h)]
    simp
theorem sameEvs_drop (x y : List Ev) (k : Nat) (hx : k < x.length) (hy : k < y.length) : sameEvs (x.drop k) (y.drop k) = (evEq x[k] y[k] && sameEvs (x.drop (k + 1)) (y.drop (k + 1))) := by
  rw [List.drop_eq_getElem_cons hx, List.drop_eq_getElem_cons hy, sameEvs]
theorem sameEvs_end (x y : List Ev) (h : x.length = y.length) : sameEvs (x.drop x.length) (y.drop x.length) = true := by
  rw [List.drop_length, h, List.drop_length, sameEvs]
theorem sameEvs_refl : ∀ x : List Ev, sameEvs x x = true
  | [] => rfl
  | a :: x => by simp only [sameEvs, (evEq_iff a a).2 rfl, sameEvs_refl x, Bool.and_self]

set_option maxRecDepth 100000 in
set_option maxHeartbeats 4000000 in
theorem specSameEvents_any (p q : Option Addr) (c d : Nat) (x y : List Ev) (w : World) (h : Es w w.heap.size p x) (k : Es w w.heap.size q y) (hx : x.length ≤ 1048576) :
    Calls Tryz.prog 14 #[.slice p x.length c, .slice q y.length d] w fun e w' => e = .returned (.bool (sameEvs x y)) ∧ Below w.heap.size w w' := by
  cases hne : ((x.length : Int) != (y.length : Int))
  · have HL : Hid (x.length = y.length) := by simp at hne; exact Int.ofNat.inj hne
    have hly : x.length ≤ y.length := Nat.le_of_eq HL.out
    have hly2 : y.length ≤ x.length := Nat.le_of_eq HL.out.symm
    have H := Lib.hid h
    have K := Lib.hid k
    clear h k
    go_enter Tryz.func14, Tryz.ntmps14
    go_wp2
    go_loopw [5, 13] (fun _ i wr => ∃ j : Nat, j ≤ x.length ∧ i = .int .i64 j ∧ sameEvs x y = sameEvs (x.drop j) (y.drop j) ∧ Below w.heap.size w wr) (fun _ i _ => x.length - (intOf i).toNat)
    case atStart => exact ⟨0, by omega, rfl, rfl, Below.refl _ _⟩
    case round =>
      obtain ⟨j, hj, rfl, hs, hb⟩ := hrel
      have HS := Lib.hid hs
      clear hs
      by_cases hlt : j < x.length
      · have hlt' : j < y.length := by omega
        obtain ⟨b, off, rfl, _, hc⟩ := (H.out.on hb) (by intro e; simp [e] at hlt)
        obtain ⟨b', off', rfl, _, hc'⟩ := (K.out.on hb) (by intro e; simp [e] at hlt')
        obtain ⟨q1, d1, he, hbs⟩ := hc j hlt
        obtain ⟨q2, d2, he', hbs'⟩ := hc' j hlt'
        have HD := Lib.hid (sameEvs_drop x y j hlt hlt')
        have i1 : (j : Int) < (x.length : Int) := by omega
        have i2 : (j : Int) < (y.length : Int) := by omega
        have i0 : (0 : Int) ≤ (j : Int) := by omega
        have HC := Lib.hid (fun n => Calls.quiet_of (w := wr) (n := n) (l1Same_any x[j] y[j] q1 q2 d1 d2 b (off + j * 8) b' (off' + j * 8) (wr.drewN n) (B := wr.heap.size) (C := wr.heap.size) (he.keep fun _ => rfl) (he'.keep fun _ => rfl) (hbs.keep (Nat.le_refl _) fun _ _ => rfl) (hbs'.keep (Nat.le_refl _) fun _ _ => rfl)))
        clear hc hc' he he'
        cases hq : evEq x[j] y[j]
        · go_wp2
          go_quiet ((go_at_call 27; exact HC.out _))
          go_wp2
          go_ret
          exact ⟨ret_bool (by rw [HS.out, HD.out, hq]; rfl), below_drewN hb _⟩
        · go_wp2
          go_quiet ((go_at_call 27; exact HC.out _))
          go_wp2
          exact ⟨⟨j + 1, by omega, by go_num, by rw [HS.out, HD.out, hq]; rfl, below_drewN hb _⟩, by simp [intOf]; omega⟩
      · obtain rfl : j = x.length := by omega
        have HE := Lib.hid (sameEvs_end x y HL.out)
        go_wp2
        go_ret
        exact ⟨ret_bool (by rw [HS.out, HE.out]), hb⟩
  · have HE := Lib.hid (sameEvs_len x y (by simp at hne; omega))
    go_enter Tryz.func14, Tryz.ntmps14
    go_wp2
    go_ret
    exact ⟨ret_bool (by rw [HE.out]), Below.refl _ _⟩

set_option maxRecDepth 100000 in
set_option maxHeartbeats 4000000 in
theorem equalFunc_any (p q : Option Addr) (c d : Nat) (x y : List Ev) (w : World) (h : Es w w.heap.size p x) (k : Es w w.heap.size q y) (hx : x.length ≤ 1048576) :
    Calls Tryz.prog 39 #[.slice p x.length c, .slice q y.length d, .func (.func 40) #[] #[]] w fun e w' => e = .returned (.bool (sameEvs x y)) ∧ Below w.heap.size w w' := by
  cases hne : ((x.length : Int) != (y.length : Int))
  · have HL : Hid (x.length = y.length) := by simp at hne; exact Int.ofNat.inj hne
    have hly : x.length ≤ y.length := Nat.le_of_eq HL.out
    have hly2 : y.length ≤ x.length := Nat.le_of_eq HL.out.symm
    have H := Lib.hid h
    have K := Lib.hid k
    clear h k
    go_enter Tryz.func39, Tryz.ntmps39
    go_wp2
    go_loopw [7, 8, 9, 17] (fun _ _ _ i wr => ∃ j : Nat, j ≤ x.length ∧ i = .int .i64 j ∧ sameEvs x y = sameEvs (x.drop j) (y.drop j) ∧ Below w.heap.size w wr) (fun _ _ _ i _ => x.length - (intOf i).toNat)
    case atStart => exact ⟨0, by omega, rfl, rfl, Below.refl _ _⟩
    case round =>
      obtain ⟨j, hj, rfl, hs, hb⟩ := hrel
      have HS := Lib.hid hs
      clear hs
      by_cases hlt : j < x.length
      · have hlt' : j < y.length := by omega
        obtain ⟨b, off, rfl, hbl, hc⟩ := (H.out.on hb) (by intro e; simp [e] at hlt)
        obtain ⟨b', off', rfl, hbl', hc'⟩ := (K.out.on hb) (by intro e; simp [e] at hlt')
        obtain ⟨q1, d1, he, hbs⟩ := hc j hlt
        obtain ⟨q2, d2, he', hbs'⟩ := hc' j hlt'
        have HD := Lib.hid (sameEvs_drop x y j hlt hlt')
        obtain ⟨c0, c1, c2, c3, c4, c5, c6, c7⟩ := he
        obtain ⟨e0, e1, e2, e3, e4, e5, e6, e7⟩ := he'
        clear hc hc'
        cases hq : evEq x[j] y[j]
        · go_wp2_with (go_at_call 40; refine (sameEvent_any x[j] y[j] q1 q2 d1 d2 _ ((hbs.alloc _).alloc _) ((hbs'.alloc _).alloc _)).mono ?_; rintro en w1 ⟨rfl, hb1⟩)
          go_ret
          exact ⟨ret_bool (by rw [HS.out, HD.out, hq]; rfl), below_on ((hb.alloc hb.size _).alloc (by have := hb.size; simp; omega) _) hb1⟩
        · go_wp2_with (go_at_call 40; refine (sameEvent_any x[j] y[j] q1 q2 d1 d2 _ ((hbs.alloc _).alloc _) ((hbs'.alloc _).alloc _)).mono ?_; rintro en w1 ⟨rfl, hb1⟩)
          exact ⟨⟨j + 1, by omega, by go_num, by rw [HS.out, HD.out, hq]; rfl, below_on ((hb.alloc hb.size _).alloc (by have := hb.size; simp; omega) _) hb1⟩, by simp [intOf]; omega⟩
      · obtain rfl : j = x.length := by omega
        have HE := Lib.hid (sameEvs_end x y HL.out)
        go_wp2
        go_ret
        exact ⟨ret_bool (by rw [HS.out, HE.out]), hb⟩
  · have HE := Lib.hid (sameEvs_len x y (by simp at hne; omega))
    go_enter Tryz.func39, Tryz.ntmps39
    go_wp2
    go_ret
    exact ⟨ret_bool (by rw [HE.out]), Below.refl _ _⟩

set_option maxRecDepth 100000 in
set_option maxHeartbeats 400000 in
theorem implSameEvents_any (p q : Option Addr) (c d : Nat) (x y : List Ev) (w : World) (h : Es w w.heap.size p x) (k : Es w w.heap.size q y) (hx : x.length ≤ 1048576) :
    Calls Tryz.prog 19 #[.slice p x.length c, .slice q y.length d] w fun e w' => e = .returned (.bool (sameEvs x y)) ∧ Below w.heap.size w w' := by
  go_enter Tryz.func19, Tryz.ntmps19
  go_wp2_with fail
  refine (equalFunc_any _ _ _ _ _ _ _ h k hx).mono ?_
  rintro e w' ⟨rfl, hb⟩
  go_wp2
  go_ret
  exact ⟨rfl, hb⟩

end Go.Proofs.YtjopjddhgaiddabGreatDoor
