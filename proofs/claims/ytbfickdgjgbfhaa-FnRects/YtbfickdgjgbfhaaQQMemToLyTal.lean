/- Slices of nodes and of places (structs of five numbers): what is known of them, and how it is kept. -/
import Derived.Test.YtbfickdgjgbfhaaQNumsToLyTree3
import Derived.Test.YtbfickdgjgbfhaaQBytesToCells
import Derived.Test.YtbfickdgjgbfhaaQPutToMarks
import Derived.Laws.Rows
namespace Go.Proofs.Ytbfickdgjgbfhaa
open Go.RowKit
set_option linter.unusedVariables false

def qC (q : Q) : List Value := [.int .i64 q.x0, .int .i64 q.x1, .int .i64 q.x2, .int .i64 q.x3, .int .i64 q.x4]
def qV (q : Q) : Value := .agg #[.int .i64 q.x0, .int .i64 q.x1, .int .i64 q.x2, .int .i64 q.x3, .int .i64 q.x4]

/-- block b, from o on, holds five numbers -/
structure QAt (w : World) (b o : Nat) (q : Q) : Prop where
  c0 : w.cell? ⟨b, o, none⟩ = some (.int .i64 q.x0)
  c1 : w.cell? ⟨b, o + 1, none⟩ = some (.int .i64 q.x1)
  c2 : w.cell? ⟨b, o + 2, none⟩ = some (.int .i64 q.x2)
  c3 : w.cell? ⟨b, o + 3, none⟩ = some (.int .i64 q.x3)
  c4 : w.cell? ⟨b, o + 4, none⟩ = some (.int .i64 q.x4)

theorem QAt.keep {w w' : World} {b o : Nat} {q : Q} (h : QAt w b o q) (hk : ∀ o, w'.cell? ⟨b, o, none⟩ = w.cell? ⟨b, o, none⟩) : QAt w' b o q :=
  ⟨(hk _).trans h.c0, (hk _).trans h.c1, (hk _).trans h.c2, (hk _).trans h.c3, (hk _).trans h.c4⟩
theorem QAt.below {w w' : World} {b o B : Nat} {q : Q} (h : QAt w b o q) (hb : Below B w w') (hB : b < B) : QAt w' b o q := h.keep fun o => hb.cell (p := ⟨b, o, none⟩) hB
theorem QAt.lt {w : World} {b o : Nat} {q : Q} (h : QAt w b o q) : b < w.heap.size := World.block_lt_of_cell? _ _ h.c0
theorem QAt.of {w : World} {b o : Nat} {q : Q} (h : ∀ j, j < 5 → w.cell? ⟨b, o + j, none⟩ = (qC q)[j]?) : QAt w b o q :=
  ⟨h 0 (by omega), h 1 (by omega), h 2 (by omega), h 3 (by omega), h 4 (by omega)⟩
theorem QAt.new (w : World) (q : Q) (t : TypeId) : QAt (w.alloc (.cells (qC q).toArray t)) w.heap.size 0 q := by
  constructor <;> simp [qC]

/-- the slice value '.slice p l.length c' holds the rows l, in a block from lo on and below hi -/
def Qx (w : World) (lo hi : Nat) (p : Option Addr) (l : List Q) : Prop :=
  l ≠ [] → ∃ b off, p = some ⟨b, off, none⟩ ∧ lo ≤ b ∧ b < hi ∧ ∀ i, i < l.length → QAt w b (off + i * 5) (nth l i)
abbrev Qs (w : World) (B : Nat) (p : Option Addr) (l : List Q) : Prop := Qx w 0 B p l

theorem Qx.keep {w w' : World} {lo lo' hi hi' : Nat} {p : Option Addr} {l : List Q} (h : Qx w lo hi p l) (hlo : lo' ≤ lo) (hhi : hi ≤ hi') (hk : ∀ a : Addr, lo ≤ a.block → a.block < hi → w'.cell? a = w.cell? a) : Qx w' lo' hi' p l := fun hl => by
  obtain ⟨b, off, e, h1, h2, h3⟩ := h hl
  exact ⟨b, off, e, by omega, by omega, fun i hi => (h3 i hi).keep fun o => hk ⟨b, o, none⟩ h1 h2⟩
theorem Qx.on {w w' : World} {lo : Nat} {p : Option Addr} {l : List Q} (h : Qx w lo w.heap.size p l) (hb : Below w.heap.size w w') : Qx w' lo w'.heap.size p l :=
  h.keep (Nat.le_refl _) hb.size fun _ _ ha => hb.cell ha
theorem Qx.at {w w' : World} {lo hi : Nat} {p : Option Addr} {l : List Q} (h : Qx w lo hi p l) {B : Nat} (hb : Below B w w') (hB : hi ≤ B) : Qx w' lo hi p l :=
  h.keep (Nat.le_refl _) (Nat.le_refl _) fun _ _ ha => hb.cell (by omega)
theorem Qx.qs {w : World} {lo hi : Nat} {p : Option Addr} {l : List Q} (h : Qx w lo hi p l) : Qs w hi p l := h.keep (Nat.zero_le _) (Nat.le_refl _) fun _ _ _ => rfl
theorem Qx.more {w : World} {lo hi hi' : Nat} {p : Option Addr} {l : List Q} (h : Qx w lo hi p l) (hh : hi ≤ hi') : Qx w lo hi' p l := h.keep (Nat.le_refl _) hh fun _ _ _ => rfl
theorem Qx.alloc {w : World} {lo : Nat} {p : Option Addr} {l : List Q} (h : Qx w lo w.heap.size p l) (o : Obj) : Qx (w.alloc o) lo (w.alloc o).heap.size p l := h.on (below_mk w o)
theorem Qx.far {w w' : World} {lo hi : Nat} {p : Option Addr} {l : List Q} (h : Qx w lo hi p l) {row : Option Nat} (hh : hi ≤ w.heap.size) (hg : w.grownBy w' row) (hr : ∀ g, row = some g → g < lo ∨ hi ≤ g) : Qx w' lo hi p l :=
  h.keep (Nat.le_refl _) (Nat.le_refl _) fun a h1 h2 => World.cell?_of_block (hg.block a.block (by omega) (fun e => by have := hr _ e.symm; omega))
theorem qx_nil (w : World) (lo hi : Nat) (p : Option Addr) : Qx w lo hi p [] := fun h => absurd rfl h

theorem flatQ_len (l : List Q) : (l.flatMap qC).length = l.length * 5 := by
  induction l with
  | nil => rfl
  | cons a t ih => rw [List.flatMap_cons, List.length_append, ih]; simp [qC]; omega
theorem flatQ_at : ∀ (l : List Q) (i k : Nat), i < l.length → k < 5 → (l.flatMap qC)[i * 5 + k]? = (qC (nth l i))[k]?
  | [], _, _, hi, _ => by simp at hi
  | r :: rs, 0, k, _, hk => by
    rw [List.flatMap_cons, List.getElem?_append_left (by simp [qC]; omega)]
    simp [nth]
  | r :: rs, i + 1, k, hi, hk => by
    have e : (qC r).length = 5 := rfl
    rw [List.flatMap_cons, List.getElem?_append_right (by omega), e]
    have e2 : (i + 1) * 5 + k - 5 = i * 5 + k := by omega
    rw [e2, flatQ_at rs i k (by simpa using hi) hk]
    simp [nth]
theorem flatQ_head (q : Q) (t : List Q) (k : Nat) (v : Value) (hk : k < 5) : ((q :: t).flatMap qC).set k v = (qC q).set k v ++ t.flatMap qC := by
  rw [List.flatMap_cons, List.set_append_left _ _ (by simp [qC]; omega)]
theorem flatQ_tail (q : Q) (t : List Q) (i f : Nat) (v : Value) : ((q :: t).flatMap qC).set ((i + 1) * 5 + f) v = qC q ++ (t.flatMap qC).set (i * 5 + f) v := by
  have e : (qC q).length = 5 := rfl
  rw [List.flatMap_cons, List.set_append_right _ _ (by omega), e]
  congr 2
  omega

/-- the row q with its field f set -/
def qPut (q : Q) (f : Nat) (x : Int) : Q :=
  if f = 0 then { q with x0 := x } else if f = 1 then { q with x1 := x } else if f = 2 then { q with x2 := x } else if f = 3 then { q with x3 := x } else { q with x4 := x }
theorem flatQ_set : ∀ (l : List Q) (i f : Nat) (x : Int), i < l.length → f < 5 → (l.flatMap qC).set (i * 5 + f) (.int .i64 x) = (l.set i (qPut (nth l i) f x)).flatMap qC
  | [], _, _, _, hi, _ => by simp at hi
  | r :: rs, 0, f, x, _, hf => by
    rw [Nat.zero_mul, Nat.zero_add, flatQ_head _ _ _ _ hf, List.set_cons_zero, List.flatMap_cons]
    congr 1
    have : f = 0 ∨ f = 1 ∨ f = 2 ∨ f = 3 ∨ f = 4 := by omega
    rcases this with rfl | rfl | rfl | rfl | rfl <;> simp [qC, qPut, nth]
  | r :: rs, i + 1, f, x, hi, hf => by
    rw [flatQ_tail, flatQ_set rs i f x (by simpa using hi) hf, List.set_cons_succ, List.flatMap_cons]
    simp [nth]

/-- v is a slice of the call's own of rows of type T that holds l -/
def OwnQ (T : TypeId) (w : World) (base : Nat) (v : Value) (l : List Q) : Prop := w.ownsRow base T 5 v l.length (l.flatMap qC)

section
variable {T : TypeId} {w w' : World} {base : Nat} {v : Value} {l : List Q}
theorem OwnQ.form (h : OwnQ T w base v l) : (v = .slice none 0 0 ∧ l = []) ∨ ∃ g cap, v = .slice (some ⟨g, 0, none⟩) l.length cap ∧ base ≤ g ∧ g < w.heap.size ∧ v.ownBlock = some g := by
  rcases h.2 with ⟨rfl, hn⟩ | ⟨g, cap, cur, rfl, hb, hh, _⟩
  · exact .inl ⟨rfl, List.eq_nil_of_length_eq_zero hn⟩
  · exact .inr ⟨g, cap, rfl, hb, (Array.getElem?_eq_some_iff.1 hh).1, rfl⟩
theorem OwnQ.slice (h : OwnQ T w base v l) : ∃ p c, v = .slice p l.length c := by
  rcases h.form with ⟨rfl, rfl⟩ | ⟨g, cap, rfl, _⟩
  · exact ⟨_, _, rfl⟩
  · exact ⟨_, _, rfl⟩
theorem OwnQ.lt (h : OwnQ T w base v l) : ∀ g, v.ownBlock = some g → base ≤ g ∧ g < w.heap.size := World.ownsRow.lt h
theorem OwnQ.keep (h : OwnQ T w base v l) (hk : ∀ g, v.ownBlock = some g → w'.heap[g]? = w.heap[g]?) : OwnQ T w' base v l := by
  refine ⟨h.1, ?_⟩
  rcases h.2 with h' | ⟨g, cap, cur, rfl, hb, hh, r⟩
  · exact .inl h'
  · exact .inr ⟨g, cap, cur, rfl, hb, (hk g rfl).trans hh, r⟩
theorem OwnQ.on (h : OwnQ T w base v l) (hb : Below w.heap.size w w') : OwnQ T w' base v l := h.keep fun g hg => hb.block g (h.lt g hg).2
theorem OwnQ.far (h : OwnQ T w base v l) {row : Option Nat} (hb : w.grownBy w' row) (hr : ∀ g, v.ownBlock = some g → some g ≠ row) : OwnQ T w' base v l := h.keep fun g hg => hb.block g (h.lt g hg).2 (hr g hg)
theorem OwnQ.lower {base' : Nat} (h : OwnQ T w base v l) (hb : base' ≤ base) : OwnQ T w base' v l := by
  refine ⟨h.1, ?_⟩
  rcases h.2 with h' | ⟨g, cap, cur, e, hg, r⟩
  · exact .inl h'
  · exact .inr ⟨g, cap, cur, e, by omega, r⟩
theorem OwnQ.setBelow (h : OwnQ T w base v l) {a : Addr} (ha : a.block < base) (u : Value) : OwnQ T (w.setCell a u) base v l := ownsRow_setCell_below h ha u
theorem ownQ_nil (T : TypeId) (w : World) (base : Nat) : OwnQ T w base (.slice none 0 0) [] := World.ownsRow_nil w _ _ _

theorem OwnQ.row {g n c : Nat} (h : OwnQ T w base (.slice (some ⟨g, 0, none⟩) n c) l) : n = l.length ∧ (∀ i, i < l.length → QAt w g (i * 5) (nth l i)) ∧ ∀ o, w.frozen? ⟨g, o, none⟩ = false := by
  rcases h.form with ⟨e, _⟩ | ⟨g', cap, e, _, _, _⟩
  · simp at e
  simp at e
  obtain ⟨-, rfl, -⟩ := e
  refine ⟨rfl, fun i hi => QAt.of fun j hj => ?_, fun o => World.ownsRow.frozenAt h o⟩
  rw [World.ownsRow.cellAt h (i * 5 + j) (by omega), flatQ_at l i j hi hj]
theorem OwnQ.qx {p : Option Addr} {n c : Nat} (h : OwnQ T w base (.slice p n c) l) : n = l.length ∧ Qx w base w.heap.size p l := by
  rcases h.form with ⟨e, rfl⟩ | ⟨g, cap, e, hb, hlt, _⟩
  · simp at e; exact ⟨by simp [e.2.1], qx_nil _ _ _ _⟩
  · simp at e
    obtain ⟨rfl, rfl, rfl⟩ := e
    exact ⟨rfl, fun _ => ⟨g, 0, rfl, hb, hlt, fun i hi => by rw [Nat.zero_add]; exact h.row.2.1 i hi⟩⟩
theorem OwnQ.bs {p : Option Addr} {n c : Nat} (h : OwnQ T w base (.slice p n c) l) : n = l.length ∧ Qs w w.heap.size p l := ⟨h.qx.1, h.qx.2.qs⟩
theorem OwnQ.stored {g n c : Nat} (h : OwnQ T w base (.slice (some ⟨g, 0, none⟩) n c) l) (i f : Nat) (x : Int) (hi : i < l.length) (hf : f < 5) :
    OwnQ T (w.setCell ⟨g, i * 5 + f, none⟩ (.int .i64 x)) base (.slice (some ⟨g, 0, none⟩) n c) (l.set i (qPut (nth l i) f x)) ∧ w.grownBy (w.setCell ⟨g, i * 5 + f, none⟩ (.int .i64 x)) (some g) := by
  have hn := h.row.1
  subst hn
  have := World.ownsRow.stored h (i * 5 + f) (.int .i64 x)
  rw [flatQ_set l i f x hi hf] at this
  exact ⟨by unfold OwnQ; rw [List.length_set]; exact this.1, this.2⟩
/-- five stores: the row i -/
theorem OwnQ.put {g n c : Nat} (h : OwnQ T w base (.slice (some ⟨g, 0, none⟩) n c) l) (i : Nat) (q : Q) (hi : i < l.length) :
    OwnQ T (((((w.setCell ⟨g, i * 5, none⟩ (.int .i64 q.x0)).setCell ⟨g, i * 5 + 1, none⟩ (.int .i64 q.x1)).setCell ⟨g, i * 5 + 2, none⟩ (.int .i64 q.x2)).setCell ⟨g, i * 5 + 3, none⟩ (.int .i64 q.x3)).setCell ⟨g, i * 5 + 4, none⟩ (.int .i64 q.x4)) base (.slice (some ⟨g, 0, none⟩) n c) (l.set i q) ∧
    w.grownBy (((((w.setCell ⟨g, i * 5, none⟩ (.int .i64 q.x0)).setCell ⟨g, i * 5 + 1, none⟩ (.int .i64 q.x1)).setCell ⟨g, i * 5 + 2, none⟩ (.int .i64 q.x2)).setCell ⟨g, i * 5 + 3, none⟩ (.int .i64 q.x3)).setCell ⟨g, i * 5 + 4, none⟩ (.int .i64 q.x4)) (some g) := by
  have s0 := h.stored i 0 q.x0 hi (by omega)
  have s1 := s0.1.stored i 1 q.x1 (by simpa using hi) (by omega)
  have s2 := s1.1.stored i 2 q.x2 (by simpa using hi) (by omega)
  have s3 := s2.1.stored i 3 q.x3 (by simpa using hi) (by omega)
  have s4 := s3.1.stored i 4 q.x4 (by simpa using hi) (by omega)
  refine ⟨?_, grown_trans (grown_trans (grown_trans (grown_trans s0.2 s1.2) s2.2) s3.2) s4.2⟩
  have hr := s4.1
  simp only [List.set_set] at hr
  rw [nth_set (by simpa using hi), if_pos rfl, nth_set (by simpa using hi), if_pos rfl, nth_set (by simpa using hi), if_pos rfl, nth_set (by simpa using hi), if_pos rfl] at hr
  simpa [qPut] using hr
theorem OwnQ.snoc {q : Q} (h : w.ownsRow base T 5 v (l.length + 1) (l.flatMap qC ++ qC q)) : OwnQ T w base v (l ++ [q]) := by
  unfold OwnQ; simpa using h
end

/-- what toNodeS has filled behind k rounds -/
def fillQ (l : List Q) (k : Nat) : List Q := l.take k ++ List.replicate (l.length - k) q0
theorem fillQ_len (l : List Q) (k : Nat) (h : k ≤ l.length) : (fillQ l k).length = l.length := by simp [fillQ]; omega
theorem fillQ_all (l : List Q) : fillQ l l.length = l := by simp [fillQ]
theorem fillQ_set (l : List Q) (k : Nat) (h : k < l.length) : (fillQ l k).set k (nth l k) = fillQ l (k + 1) := by
  have e : l.length - k = (l.length - (k + 1)) + 1 := by omega
  have hlen : (l.take k).length = k := by simp; omega
  unfold fillQ
  rw [e, List.replicate_succ, List.set_append_right _ _ (by omega), hlen, Nat.sub_self, List.set_cons_zero, List.take_succ_eq_append_getElem h, ← nth_eq h]
  simp

theorem flatQ_replicate (n : Nat) : ((List.replicate n q0).flatMap qC) = List.replicate (n * 5) (Value.int .i64 0) := by
  induction n with
  | zero => rfl
  | succ n ih => rw [List.replicate_succ, List.flatMap_cons, ih, Nat.succ_mul, Nat.add_comm, ← List.replicate_append_replicate]; rfl
theorem madeQ (n : Nat) : (madeCells #[.int .i64 0, .int .i64 0, .int .i64 0, .int .i64 0, .int .i64 0] (n * 5)).toList = (List.replicate n q0).flatMap qC := by
  rw [flatQ_replicate]
  apply List.ext_getElem?
  intro j
  by_cases hj : j < n * 5
  · have : j % 5 = 0 ∨ j % 5 = 1 ∨ j % 5 = 2 ∨ j % 5 = 3 ∨ j % 5 = 4 := by omega
    rcases this with h | h | h | h | h <;> simp [madeCells, hj, h]
  · simp [madeCells, hj]
theorem ownQ_made (T : TypeId) (w : World) (n : Nat) (hn : n ≤ 1048576) {base : Nat} (hb : base ≤ w.heap.size) :
    OwnQ T (w.alloc (.cells (madeCells #[.int .i64 0, .int .i64 0, .int .i64 0, .int .i64 0, .int .i64 0] (n * 5)) T)) base (.slice (some ⟨w.heap.size, 0, none⟩) n n) (List.replicate n q0) := by
  unfold OwnQ
  rw [← madeQ, List.length_replicate]
  exact World.ownsRow_lit w _ n hb (by unfold maxLen; omega) (size_madeCells _ _)

/-- the marks k, k + 1, .. of n rows -/
def markQ (k : Nat) : Q := ⟨(k : Int), ((k + 1 : Nat) : Int), ((k + 2 : Nat) : Int), ((k + 3 : Nat) : Int), ((k + 4 : Nat) : Int)⟩
def marksQ (k n : Nat) : List Q := (List.range n).map fun i => markQ (k + i * 5)
theorem marksQ_len (k n : Nat) : (marksQ k n).length = n := by simp [marksQ]
theorem marksQ_at (k n i : Nat) (h : i < n) : nth (marksQ k n) i = markQ (k + i * 5) := by
  rw [nth_eq (by rw [marksQ_len]; exact h)]; simp [marksQ]
def halfQ (l : List Q) (k j : Nat) : List Q := marksQ k j ++ l.drop j
theorem halfQ_zero (l : List Q) (k : Nat) : halfQ l k 0 = l := by simp [halfQ, marksQ]
theorem halfQ_all (l : List Q) (k : Nat) : halfQ l k l.length = marksQ k l.length := by simp [halfQ]
theorem halfQ_len (l : List Q) (k j : Nat) (h : j ≤ l.length) : (halfQ l k j).length = l.length := by simp [halfQ, marksQ_len]; omega
theorem halfQ_set (l : List Q) (k j : Nat) (h : j < l.length) : (halfQ l k j).set j (markQ (k + j * 5)) = halfQ l k (j + 1) := by
  unfold halfQ
  have e : marksQ k (j + 1) = marksQ k j ++ [markQ (k + j * 5)] := by simp [marksQ, List.range_succ]
  rw [List.drop_eq_getElem_cons h, List.set_append_right _ _ (by rw [marksQ_len]; exact Nat.le_refl _), marksQ_len, Nat.sub_self, List.set_cons_zero, e, List.append_assoc, List.singleton_append]

end Go.Proofs.Ytbfickdgjgbfhaa

/- Tallies: how often each number occurs; slices of numbers of the call's own. -/
namespace Go.Proofs.Ytbfickdgjgbfhaa
open Go.RowKit
set_option linter.unusedVariables false

/-- v is a slice of the call's own that holds the numbers l -/
def OwnN (w : World) (base : Nat) (v : Value) (l : List Int) : Prop := w.ownsRow base 2 1 v l.length (l.map (Value.int .i64))

section
variable {w w' : World} {base : Nat} {v : Value} {l : List Int}
theorem OwnN.lt (h : OwnN w base v l) : ∀ g, v.ownBlock = some g → base ≤ g ∧ g < w.heap.size := World.ownsRow.lt h
theorem OwnN.keep (h : OwnN w base v l) (hk : ∀ g, v.ownBlock = some g → w'.heap[g]? = w.heap[g]?) : OwnN w' base v l := by
  refine ⟨h.1, ?_⟩
  rcases h.2 with h' | ⟨g, cap, cur, rfl, hb, hh, r⟩
  · exact .inl h'
  · exact .inr ⟨g, cap, cur, rfl, hb, (hk g rfl).trans hh, r⟩
theorem OwnN.on (h : OwnN w base v l) (hb : Below w.heap.size w w') : OwnN w' base v l := h.keep fun g hg => hb.block g (h.lt g hg).2
theorem OwnN.far (h : OwnN w base v l) {row : Option Nat} (hb : w.grownBy w' row) (hr : ∀ g, v.ownBlock = some g → some g ≠ row) : OwnN w' base v l := h.keep fun g hg => hb.block g (h.lt g hg).2 (hr g hg)
theorem OwnN.len {g n c : Nat} (h : OwnN w base (.slice (some ⟨g, 0, none⟩) n c) l) : n = l.length := by
  rcases h.2 with ⟨e, _⟩ | ⟨g', cap, cur, e, _⟩
  · simp at e
  · simp at e; exact e.2.1
theorem OwnN.at {g n c : Nat} (h : OwnN w base (.slice (some ⟨g, 0, none⟩) n c) l) (j : Nat) (hj : j < l.length) : w.cell? ⟨g, j, none⟩ = some (.int .i64 (l.getD j 0)) ∧ w.frozen? ⟨g, j, none⟩ = false := by
  have hn := h.len
  subst hn
  refine ⟨?_, World.ownsRow.frozenAt h j⟩
  rw [World.ownsRow.cellAt h j (by simpa using hj)]
  simp [hj]
theorem OwnN.stored {g n c : Nat} (h : OwnN w base (.slice (some ⟨g, 0, none⟩) n c) l) (j : Nat) (x : Int) :
    OwnN (w.setCell ⟨g, j, none⟩ (.int .i64 x)) base (.slice (some ⟨g, 0, none⟩) n c) (l.set j x) ∧ w.grownBy (w.setCell ⟨g, j, none⟩ (.int .i64 x)) (some g) := by
  have hn := h.len
  subst hn
  obtain ⟨h1, h2⟩ := World.ownsRow.stored h j (.int .i64 x)
  exact ⟨by rw [OwnN, List.map_set, List.length_set]; exact h1, h2⟩
end

theorem Try.info_i64n : (Try.prog.info? 2).map (fun i => (i.zero, i.size, i.bytes)) = some (some (.int .i64 0), 1, 8) := by kernel_rfl
theorem run_make_nums (n : Nat) (hn : n ≤ 1048576) (w : World) :
    (Instr.makeSlice 114 (.int .i64 (n : Int)) (.int .i64 (n : Int))).run Try.prog w = .ok (.slice (some ⟨w.heap.size, 0, none⟩) n n) (w.alloc (.cells (madeCells #[.int .i64 0] n) 2)) :=
  run_make_row' (P := Try.prog) 114 2 (.int .i64 0) 8 Try.underlying114 Try.info_i64n rfl .i64 .i64 n (by omega) (by omega) w
theorem ownN_made (w : World) (n : Nat) (hn : n ≤ 1048576) {base : Nat} (hb : base ≤ w.heap.size) :
    OwnN (w.alloc (.cells (madeCells #[.int .i64 0] n) 2)) base (.slice (some ⟨w.heap.size, 0, none⟩) n n) (List.replicate n 0) := by
  unfold OwnN
  rw [List.length_replicate, List.map_replicate, ← toList_madeCells_one]
  exact World.ownsRow_lit w _ n hb (by unfold maxLen; omega) (by rw [size_madeCells, Nat.mul_one])

/-- how often each number below n occurs in c, and e beside -/
def tal (n : Nat) (e : Nat → Int) (c : List Int) : List Int := (List.range n).map fun j => e j + ((c.count (j : Int) : Nat) : Int)
theorem tal_len (n : Nat) (e : Nat → Int) (c : List Int) : (tal n e c).length = n := by simp [tal]
theorem tal_at (n : Nat) (e : Nat → Int) (c : List Int) (j : Nat) (h : j < n) : (tal n e c).getD j 0 = e j + ((c.count (j : Int) : Nat) : Int) := by
  simp [tal, List.getD_eq_getElem?_getD, h]
theorem tal_set (n : Nat) (e : Nat → Int) (c : List Int) (j : Nat) (h : j < n) : (tal n e c).set j (e j + ((c.count (j : Int) : Nat) : Int) + 1) = tal n e (c ++ [(j : Int)]) := by
  apply List.ext_getElem
  · simp [tal]
  · intro i h1 h2
    rw [List.getElem_set]
    simp only [tal, List.getElem_map, List.getElem_range, List.count_append]
    split
    · rename_i e'; subst e'; simp; omega
    · rename_i e'
      have : ([(j : Int)].count (i : Int)) = 0 := by simp [List.count_cons]; omega
      omega
theorem tal_zero (n : Nat) : tal n (fun _ => 0) [] = List.replicate n 0 := by
  apply List.ext_getElem <;> simp [tal]
theorem count_bd (c : List Int) (a : Int) : c.count a ≤ c.length := List.count_le_length

theorem kids_succ (ns : List Q) (k : Nat) (h : k < ns.length) : kids (ns.take (k + 1)) = kids (ns.take k) ++ kid (nth ns k) := by
  unfold kids
  rw [List.take_succ_eq_append_getElem h, List.flatMap_append, nth_eq h]
  simp
theorem kid_split {n : Q} (h : isSplitB n = true) : kid n = [n.x3] ++ [n.x4] := by simp [kid, h]
theorem kid_leaf {n : Q} (h : isSplitB n = false) : kid n = [] := by simp [kid, h]
theorem kids_len (ns : List Q) : (kids ns).length ≤ 2 * ns.length := by
  induction ns with
  | nil => simp [kids]
  | cons n t ih =>
    unfold kids at *
    rw [List.flatMap_cons, List.length_append, List.length_cons]
    have : (kid n).length ≤ 2 := by unfold kid; split <;> simp
    omega
theorem panes_succ (ns : List Q) (k : Nat) (h : k < ns.length) : panes (ns.take (k + 1)) = panes (ns.take k) ++ if isSplitB (nth ns k) = true then [] else [(nth ns k).x1] := by
  unfold panes
  rw [List.take_succ_eq_append_getElem h, List.filter_append, List.map_append, nth_eq h]
  by_cases hs : isSplitB ns[k] = true
  · simp [hs]
  · simp [hs]
theorem panes_len (ns : List Q) : (panes ns).length ≤ ns.length := by
  unfold panes; rw [List.length_map]; exact List.length_filter_le _ _

theorem zero_kid {ns : List Q} (ho : Okay ns) : (kids ns).count 0 = 0 := by
  rw [List.count_eq_zero]
  intro h
  unfold kids at h
  rw [List.mem_flatMap] at h
  obtain ⟨n, hn, hk⟩ := h
  obtain ⟨p, hp, rfl⟩ := List.mem_iff_getElem.1 hn
  rw [← nth_eq hp] at hk
  unfold kid at hk
  split at hk
  · rename_i hs
    have := (ho p hp).split hs
    simp at hk
    omega
  · simp at hk

theorem usesB_iff (ns : List Q) : usesB ns = true ↔ ∀ j, 0 < j → j < ns.length → usesOf ns j = 1 := by
  unfold usesB
  rw [List.all_eq_true]
  constructor
  · intro h j h0 hj
    have := h j (List.mem_range.2 hj)
    simp at this
    omega
  · intro h j hj
    have hj := List.mem_range.1 hj
    by_cases h0 : j = 0
    · simp [h0]
    · simp [h j (by omega) hj]

theorem nodup_take {ns : List Q} {k : Nat} (h : ¬ (panes (ns.take k)).Nodup) : ¬ (panes ns).Nodup := by
  intro hn
  apply h
  have e : panes ns = panes (ns.take k) ++ panes (ns.drop k) := by
    conv => lhs; rw [← List.take_append_drop k ns]
    unfold panes
    rw [List.filter_append, List.map_append]
  rw [e] at hn
  exact (List.nodup_append.1 hn).1
theorem nodup_more {l : List Int} {x : Int} (h : l.Nodup) (hx : l.count x = 0) : (l ++ [x]).Nodup := by
  rw [List.count_eq_zero] at hx
  rw [List.nodup_append]
  exact ⟨h, by simp, fun a ha b hb e => by simp at hb; subst hb; subst e; exact hx ha⟩
theorem nodup_less {l : List Int} {x : Int} (hx : l.count x ≠ 0) : ¬ (l ++ [x]).Nodup := by
  intro h
  rw [List.nodup_append] at h
  exact h.2.2 x (List.count_pos_iff.1 (by omega)) x (by simp) rfl

end Go.Proofs.Ytbfickdgjgbfhaa
