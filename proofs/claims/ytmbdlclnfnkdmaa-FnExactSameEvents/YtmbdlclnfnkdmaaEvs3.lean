/- toEventS: a new slice of events. -/
import Derived.Test.YtmbdlclnfnkdmaaEvs2
import Derived.Laws.Rows
namespace Go.Proofs.Ytmbdlclnfnkdmaa
open Go.RowKit

/-- the world behind the store of an event at cell o of block g -/
def putEv (w : World) (g o : Nat) (e : Ev) (q : Option Addr) (c : Nat) : World :=
  (((((((w.setCell ⟨g, o, none⟩ (.int .i64 e.kind)).setCell ⟨g, o + 1, none⟩ (.int .i64 e.code)).setCell ⟨g, o + 2, none⟩ (.int .i64 e.mods)).setCell ⟨g, o + 3, none⟩ (.int .i64 e.button)).setCell ⟨g, o + 4, none⟩ (.int .i64 e.act)).setCell ⟨g, o + 5, none⟩ (.int .i64 e.col)).setCell ⟨g, o + 6, none⟩ (.int .i64 e.row)).setCell ⟨g, o + 7, none⟩ (.slice q e.data.length c)

/-- the array of its block -/
def putArr (a : Array Value) (o : Nat) (e : Ev) (q : Option Addr) (c : Nat) : Array Value :=
  (((((((a.setIfInBounds o (.int .i64 e.kind)).setIfInBounds (o + 1) (.int .i64 e.code)).setIfInBounds (o + 2) (.int .i64 e.mods)).setIfInBounds (o + 3) (.int .i64 e.button)).setIfInBounds (o + 4) (.int .i64 e.act)).setIfInBounds (o + 5) (.int .i64 e.col)).setIfInBounds (o + 6) (.int .i64 e.row)).setIfInBounds (o + 7) (.slice q e.data.length c)

theorem putArr_size (a : Array Value) (o : Nat) (e : Ev) (q : Option Addr) (c : Nat) : (putArr a o e q c).size = a.size := by simp [putArr]
theorem putArr_other (a : Array Value) (o i : Nat) (e : Ev) (q : Option Addr) (c : Nat) (h : i < o ∨ o + 8 ≤ i) : (putArr a o e q c)[i]? = a[i]? := by
  unfold putArr
  repeat rw [Array.getElem?_setIfInBounds_ne (by omega)]

theorem putEv_heap (w : World) (g o : Nat) (a : Array Value) (t : TypeId) (e : Ev) (q : Option Addr) (c : Nat) (h : w.heap[g]? = some (.cells a t (0, 0))) :
    (putEv w g o e q c).heap[g]? = some (.cells (putArr a o e q c) t (0, 0)) := by
  unfold putEv putArr
  iterate 8 refine heap_setCell_same _ g _ _ t _ ?_
  exact h

theorem putEv_other (w : World) (g o b : Nat) (e : Ev) (q : Option Addr) (c : Nat) (h : b ≠ g) : (putEv w g o e q c).heap[b]? = w.heap[b]? := by
  unfold putEv
  repeat rw [Below.heap_setCell _ _ _ _ (by exact h)]

theorem putEv_size (w : World) (g o : Nat) (e : Ev) (q : Option Addr) (c : Nat) : (putEv w g o e q c).heap.size = w.heap.size := by simp [putEv, World.setCell]

theorem putEv_at (w : World) (g o : Nat) (a : Array Value) (t : TypeId) (e : Ev) (q : Option Addr) (c : Nat) (h : w.heap[g]? = some (.cells a t (0, 0))) (ho : o + 8 ≤ a.size) :
    EvAt (putEv w g o e q c) g o e q c := by
  have hh := putEv_heap w g o a t e q c h
  have hc : ∀ i, (putEv w g o e q c).cell? ⟨g, i, none⟩ = (putArr a o e q c)[i]? := fun i => cell_of_row _ g i _ t (0, 0) hh
  constructor <;> (rw [hc]; unfold putArr; simp [Array.getElem?_setIfInBounds]; try omega)

theorem putEv_frame (w : World) (g o : Nat) (e : Ev) (q : Option Addr) (c : Nat) {B : Nat} (hB : B ≤ g) : Below B w (putEv w g o e q c) :=
  ⟨by simp [putEv, World.setCell], by simp [putEv, World.setCell], by simp [putEv, World.setCell], Nat.le_of_eq (putEv_size w g o e q c).symm, fun b hb => putEv_other w g o b e q c (by omega)⟩

theorem Try.info_ev : (Try.prog.info? 33).map (fun i => (i.zero, i.size, i.bytes)) = some (some (.agg #[.int .i64 0, .int .i64 0, .int .i64 0, .int .i64 0, .int .i64 0, .int .i64 0, .int .i64 0, .slice none 0 0]), 8, 80) := by kernel_rfl

/-- toEventS behind k rounds -/
structure EvsRel (w : World) (l : List Ev) (k : Nat) (wr : World) : Prop where
  below : Below w.heap.size w wr
  size : w.heap.size < wr.heap.size
  row : ∃ a, wr.heap[w.heap.size]? = some (.cells a 33 (0, 0)) ∧ a.size = l.length * 8
  evs : ∀ j (_ : j < k) (hl : j < l.length), ∃ q c, EvAt wr w.heap.size (j * 8) l[j] q c ∧ Bsx wr (w.heap.size + 1) wr.heap.size q l[j].data

theorem EvsRel.step {w wr w1 : World} {l : List Ev} {k : Nat} (h : EvsRel w l k wr) (hk : k < l.length) (hb : Below wr.heap.size wr w1) {q : Option Addr} (c : Nat) (hq : Bsx w1 wr.heap.size w1.heap.size q l[k].data) :
    EvsRel w l (k + 1) (putEv w1 w.heap.size (k * 8) l[k] q c) := by
  obtain ⟨a, ha, hs⟩ := h.row
  have hz := h.size
  have ha1 : w1.heap[w.heap.size]? = some (.cells a 33 (0, 0)) := (hb.block _ hz).trans ha
  refine ⟨(below_on h.below hb).trans (putEv_frame _ _ _ _ _ _ (Nat.le_refl _)), by rw [putEv_size]; have := hb.size; omega, ⟨_, putEv_heap _ _ _ _ _ _ _ _ ha1, by rw [putArr_size, hs]⟩, fun j hj hl => ?_⟩
  have hfar : ∀ b, w.heap.size + 1 ≤ b → ∀ o, (putEv w1 w.heap.size (k * 8) l[k] q c).cell? ⟨b, o, none⟩ = w1.cell? ⟨b, o, none⟩ := fun b hbb o =>
    World.cell?_of_block (a := ⟨b, o, none⟩) (putEv_other _ _ _ _ _ _ _ (by show b ≠ w.heap.size; omega))
  by_cases e : j = k
  · subst e
    refine ⟨q, c, putEv_at _ _ _ _ _ _ _ _ ha1 (by rw [hs]; omega), ?_⟩
    intro hd
    obtain ⟨b, off, e1, e2, e3, e4⟩ := hq hd
    exact ⟨b, off, e1, by omega, by rw [putEv_size]; exact e3, fun i hi => by rw [hfar b (by omega)]; exact e4 i hi⟩
  · obtain ⟨q', c', he, hd⟩ := h.evs j (by omega) hl
    refine ⟨q', c', ?_, ?_⟩
    · have hcell : ∀ o, o < k * 8 → (putEv w1 w.heap.size (k * 8) l[k] q c).cell? ⟨w.heap.size, o, none⟩ = wr.cell? ⟨w.heap.size, o, none⟩ := fun o ho => by
        rw [cell_of_row _ _ o _ _ _ (putEv_heap _ _ _ _ _ _ _ _ ha1), putArr_other _ _ _ _ _ _ (.inl ho), cell_of_row _ _ o _ _ _ ha]
      have hjk : j * 8 + 8 ≤ k * 8 := by omega
      obtain ⟨c0, c1, c2, c3, c4, c5, c6, c7⟩ := he
      exact ⟨(hcell _ (by omega)).trans c0, (hcell _ (by omega)).trans c1, (hcell _ (by omega)).trans c2, (hcell _ (by omega)).trans c3, (hcell _ (by omega)).trans c4, (hcell _ (by omega)).trans c5, (hcell _ (by omega)).trans c6, (hcell _ (by omega)).trans c7⟩
    · intro hne
      obtain ⟨b, off, e1, e2, e3, e4⟩ := hd hne
      refine ⟨b, off, e1, e2, by rw [putEv_size]; have := hb.size; omega, fun i hi => ?_⟩
      rw [hfar b e2]
      exact (hb.cell (p := ⟨b, off + i, none⟩) e3).trans (e4 i hi)

end Go.Proofs.Ytmbdlclnfnkdmaa
