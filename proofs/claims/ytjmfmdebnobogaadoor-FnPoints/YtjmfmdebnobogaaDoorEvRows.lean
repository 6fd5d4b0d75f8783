/- Slices of events of the call's own, each event's data in a block of its own. -/
import Derived.Test.YtjmfmdebnobogaaDoorDraws7
import Derived.Test.YtjmfmdebnobogaaDoorEvs
namespace Go.Proofs.YtjmfmdebnobogaaDoor
open Go.RowKit

/-- an event, and where its data lie -/
abbrev EvRow := Ev × Option Addr × Nat
def rowCells (r : EvRow) : List Value := (evC r.1 r.2.1 r.2.2).toList
def rowSlice (r : EvRow) : Value := .slice r.2.1 r.1.data.length r.2.2

/-- v is a slice of the call's own that holds the events of rows; their data are the call's own -/
def EvsOwn (W : World) (base : Nat) (v : Value) (rows : List EvRow) : Prop :=
  W.ownsRow base 33 8 v rows.length (rows.flatMap rowCells) ∧ ∀ r ∈ rows, Own W base (rowSlice r) r.1.data

theorem rows_ne {W : World} {b1 b2 n : Nat} {v1 v2 : Value} {xs : List Value} {l : List UInt8} (h : W.ownsRow b1 33 8 v1 n xs) (k : Own W b2 v2 l) : v1.ownBlock = none ∨ v2.ownBlock ≠ v1.ownBlock := by
  rcases h.2 with ⟨rfl, _⟩ | ⟨g, cap, cur, rfl, _, hh, _⟩
  · exact .inl rfl
  refine .inr fun e => ?_
  rcases k.2 with ⟨rfl, _⟩ | ⟨g', cap', cur', rfl, _, hh', _⟩
  · simp [Value.ownBlock] at e
  · simp [Value.ownBlock] at e
    subst e
    rw [hh] at hh'
    simp at hh'

theorem EvsOwn.kept {W W' : World} {base : Nat} {v : Value} {rows : List EvRow} {row : Option Nat} (h : EvsOwn W base v rows) (hg : W.grownBy W' row) (hv : v.ownBlock ≠ row ∨ v.ownBlock = none) (hd : ∀ r ∈ rows, ∀ j, (rowSlice r).ownBlock = some j → some j ≠ row) : EvsOwn W' base v rows :=
  ⟨World.ownsRow.kept h.1 hg (hv.symm.imp id id), fun r hr => (h.2 r hr).far hg (hd r hr)⟩

theorem EvsOwn.snoc {W : World} {base : Nat} {v' : Value} {rows : List EvRow} {r : EvRow} (h : W.ownsRow base 33 8 v' (rows.length + 1) (rows.flatMap rowCells ++ rowCells r)) (hd : ∀ r ∈ rows, Own W base (rowSlice r) r.1.data) (hr : Own W base (rowSlice r) r.1.data) : EvsOwn W base v' (rows ++ [r]) := by
  refine ⟨by simpa using h, fun x hx => ?_⟩
  rcases List.mem_append.1 hx with h' | h'
  · exact hd x h'
  · simp at h'; subst h'; exact hr

theorem flat_at : ∀ (rows : List EvRow) (i k : Nat) (hi : i < rows.length), k < 8 → (rows.flatMap rowCells)[i * 8 + k]? = (rowCells rows[i])[k]?
  | [], _, _, hi, _ => by simp at hi
  | r :: rs, 0, k, _, hk => by
    rw [List.flatMap_cons, List.getElem?_append_left (by simp [rowCells, evC]; omega)]
    simp
  | r :: rs, i + 1, k, hi, hk => by
    have e : (rowCells r).length = 8 := by simp [rowCells, evC]
    rw [List.flatMap_cons, List.getElem?_append_right (by omega), e]
    have e2 : (i + 1) * 8 + k - 8 = i * 8 + k := by omega
    rw [e2, flat_at rs i k (by simpa using hi) hk]
    simp

theorem EvsOwn.es {W : World} {base : Nat} {p : Option Addr} {n c : Nat} {rows : List EvRow} (h : EvsOwn W base (.slice p n c) rows) : n = rows.length ∧ Es W W.heap.size p (rows.map Prod.fst) := by
  rcases h.1.2 with ⟨e, e0⟩ | ⟨g, cap, cur, e, _, hh, _⟩
  · simp at e
    refine ⟨by omega, fun hne => absurd (List.eq_nil_of_length_eq_zero e0) (by simpa using hne)⟩
  · simp only [Value.slice.injEq] at e
    obtain ⟨rfl, rfl, rfl⟩ := e
    have hlt : g < W.heap.size := (Array.getElem?_eq_some_iff.1 hh).1
    refine ⟨rfl, fun _ => ⟨g, 0, rfl, hlt, fun i hi => ?_⟩⟩
    rw [List.length_map] at hi
    have hc : ∀ k, k < 8 → W.cell? ⟨g, 0 + i * 8 + k, none⟩ = (rowCells rows[i])[k]? := by
      intro k hk
      have := World.ownsRow.cellAt h.1 (i * 8 + k) (by omega)
      rw [flat_at rows i k hi hk] at this
      simpa using this
    have ho := h.2 rows[i] (List.getElem_mem _)
    refine ⟨rows[i].2.1, rows[i].2.2, ?_, ?_⟩
    · simp only [List.getElem_map]
      exact ⟨hc 0 (by omega), hc 1 (by omega), hc 2 (by omega), hc 3 (by omega), hc 4 (by omega), hc 5 (by omega), hc 6 (by omega), hc 7 (by omega)⟩
    · simp only [List.getElem_map]
      exact ho.bs.2

theorem EvsOwn.lt {W : World} {base : Nat} {v : Value} {rows : List EvRow} (h : EvsOwn W base v rows) : ∀ j, v.ownBlock = some j → base ≤ j ∧ j < W.heap.size := World.ownsRow.lt h.1
theorem EvsOwn.below {W W' : World} {base : Nat} {v : Value} {rows : List EvRow} (h : EvsOwn W base v rows) (hb : Below W.heap.size W W') : EvsOwn W' base v rows :=
  h.kept (grown_of_below hb (some W.heap.size)) (.inl fun e => Nat.lt_irrefl _ (h.lt _ e).2) (fun r hr j hj e => by cases e; exact Nat.lt_irrefl _ ((h.2 r hr).lt _ hj).2)
theorem EvsOwn.alloc {W : World} {base : Nat} {v : Value} {rows : List EvRow} (h : EvsOwn W base v rows) (o : Obj) : EvsOwn (W.alloc o) base v rows := h.below ((Below.refl _ _).alloc (Nat.le_refl _) o)
theorem EvsOwn.src {W W' : World} {base g : Nat} {v : Value} {rows : List EvRow} (h : EvsOwn W base v rows) (hg : W.grownBy W' (some g)) (hlt : g < base) : EvsOwn W' base v rows :=
  h.kept hg (.inl fun e => by have := (h.lt _ e).1; omega) (fun r hr j hj e => by cases e; have := ((h.2 r hr).lt _ hj).1; omega)

/-- an append to another slice of events -/
theorem EvsOwn.beside {W W' : World} {base b2 n : Nat} {v va : Value} {xs : List Value} {rows : List EvRow} (h : EvsOwn W base v rows) (ha : W.ownsRow b2 33 8 va n xs) (hne : va.ownBlock ≠ v.ownBlock) (hg : W.grownBy W' va.ownBlock) : EvsOwn W' base v rows :=
  h.kept hg (.inl fun e => hne e.symm) (fun r hr j hj e => by
    rcases rows_ne ha (h.2 r hr) with h0 | h0
    · rw [h0] at e; cases e
    · exact h0 (hj.trans e))

/-- an append of one event -/
theorem EvsOwn.append {W W' : World} {base : Nat} {v v' : Value} {rows : List EvRow} {r : EvRow} (h : EvsOwn W base v rows) (hr : Own W base (rowSlice r) r.1.data)
    (hn : W'.ownsRow base 33 8 v' (rows.length + 1) (rows.flatMap rowCells ++ rowCells r)) (hg : W.grownBy W' v.ownBlock) : EvsOwn W' base v' (rows ++ [r]) := by
  have hk : ∀ {x : EvRow}, Own W base (rowSlice x) x.1.data → Own W' base (rowSlice x) x.1.data := fun {x} hx => hx.far hg (fun j hj e => by
    rcases rows_ne h.1 hx with h0 | h0
    · rw [h0] at e; cases e
    · exact h0 (hj.trans e))
  exact EvsOwn.snoc hn (fun x hx => hk (h.2 x hx)) (hk hr)

theorem EvsOwn.place {W : World} {base : Nat} {v : Value} {rows : List EvRow} (h : EvsOwn W base v rows) (h0 : v ≠ .slice none 0 0) :
    ∃ g cap, v = .slice (some ⟨g, 0, none⟩) rows.length cap ∧ base ≤ g ∧ g < W.heap.size ∧ ∀ o, W.frozen? ⟨g, o, none⟩ = false := by
  rcases h.1.2 with ⟨e, _⟩ | ⟨g, cap, cur, e, hb, hh, _⟩
  · exact absurd e h0
  · exact ⟨g, cap, e, hb, (Array.getElem?_eq_some_iff.1 hh).1, fun o => by simp [World.frozen?, hh]⟩

/-- the first event's modifiers are set -/
theorem EvsOwn.bump {W : World} {base g n c : Nat} {r : EvRow} {rs : List EvRow} (h : EvsOwn W base (.slice (some ⟨g, 0, none⟩) n c) (r :: rs)) (m : Int) :
    EvsOwn (W.setCell ⟨g, 2, none⟩ (.int .i64 m)) base (.slice (some ⟨g, 0, none⟩) n c) (({ r.1 with mods := m }, r.2) :: rs) := by
  have hn := h.es.1
  subst hn
  have hs := (World.ownsRow.stored h.1 2 (.int .i64 m)).1
  have hg : W.grownBy (W.setCell ⟨g, 2, none⟩ (.int .i64 m)) (some g) := ⟨rfl, rfl, rfl, by simp, fun b _ hb => Below.heap_setCell _ _ _ _ (fun e => hb (by rw [e]))⟩
  have hk : ∀ x ∈ r :: rs, Own (W.setCell ⟨g, 2, none⟩ (.int .i64 m)) base (rowSlice x) x.1.data := fun x hx => (h.2 x hx).far hg (fun j hj e => by
    rcases rows_ne h.1 (h.2 x hx) with h0 | h0
    · simp [Value.ownBlock] at h0
    · exact h0 (hj.trans e))
  refine ⟨?_, fun x hx => ?_⟩
  · simpa [rowCells, evC] using hs
  · rcases List.mem_cons.1 hx with rfl | hx
    · exact hk r (by simp)
    · exact hk x (by simp [hx])

end Go.Proofs.YtjmfmdebnobogaaDoor
