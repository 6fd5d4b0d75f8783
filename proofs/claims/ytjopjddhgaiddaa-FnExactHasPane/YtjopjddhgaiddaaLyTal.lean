/- Tallies: how often each number occurs; slices of numbers of the call's own. -/
import Derived.Test.YtjopjddhgaiddaaQMem
namespace Go.Proofs.Ytjopjddhgaiddaa
open Go.RowKit
set_option linter.unusedVariables false

/-- v is a slice of the call's own that holds the numbers l -/
def OwnN (w : World) (base : Nat) (v : Value) (l : List Int) : Prop := w.ownsRow base 2 1 v l.length (l.map (Value.int .i64))

section
variable {w w' : World} {base : Nat} {v : Value} {l : List Int}
theorem OwnN.lt (h : OwnN w base v l) : ∀ g, v.ownBlock = some g → base ≤ g ∧ g < w.heap.size := World.ownsRow.lt h
theorem OwnN.keep (h : OwnN w base v l) (hk : ∀ g, v.ownBlock = some g → w'.heap[g]? = w.heap[g]?) : OwnN w' base v l := by
  refine ⟨h.1, ?_⟩
  rcases h.2 with h' | ⟨g, cap, cur, rfl, hb, hh, r⟩
  · exact .inl h'
  · exact .inr ⟨g, cap, cur, rfl, hb, (hk g rfl).trans hh, r⟩
theorem OwnN.on (h : OwnN w base v l) (hb : Below w.heap.size w w') : OwnN w' base v l := h.keep fun g hg => hb.block g (h.lt g hg).2
theorem OwnN.far (h : OwnN w base v l) {row : Option Nat} (hb : w.grownBy w' row) (hr : ∀ g, v.ownBlock = some g → some g ≠ row) : OwnN w' base v l := h.keep fun g hg => hb.block g (h.lt g hg).2 (hr g hg)
theorem OwnN.len {g n c : Nat} (h : OwnN w base (.slice (some ⟨g, 0, none⟩) n c) l) : n = l.length := by
  rcases h.2 with ⟨e, _⟩ | ⟨g', cap, cur, e, _⟩
  · simp at e
  · simp at e; exact e.2.1
theorem OwnN.at {g n c : Nat} (h : OwnN w base (.slice (some ⟨g, 0, none⟩) n c) l) (j : Nat) (hj : j < l.length) : w.cell? ⟨g, j, none⟩ = some (.int .i64 (l.getD j 0)) ∧ w.frozen? ⟨g, j, none⟩ = false := by
  have hn := h.len
  subst hn
  refine ⟨?_, World.ownsRow.frozenAt h j⟩
  rw [World.ownsRow.cellAt h j (by simpa using hj)]
  simp [hj]
theorem OwnN.stored {g n c : Nat} (h : OwnN w base (.slice (some ⟨g, 0, none⟩) n c) l) (j : Nat) (x : Int) :
    OwnN (w.setCell ⟨g, j, none⟩ (.int .i64 x)) base (.slice (some ⟨g, 0, none⟩) n c) (l.set j x) ∧ w.grownBy (w.setCell ⟨g, j, none⟩ (.int .i64 x)) (some g) := by
  have hn := h.len
  subst hn
  obtain ⟨h1, h2⟩ := World.ownsRow.stored h j (.int .i64 x)
  exact ⟨by rw [OwnN, List.map_set, List.length_set]; exact h1, h2⟩
end

theorem Try.info_i64n : (Try.prog.info? 2).map (fun i => (i.zero, i.size, i.bytes)) = some (some (.int .i64 0), 1, 8) := by kernel_rfl
theorem run_make_nums (n : Nat) (hn : n ≤ 1048576) (w : World) :
    (Instr.makeSlice 92 (.int .i64 (n : Int)) (.int .i64 (n : Int))).run Try.prog w = .ok (.slice (some ⟨w.heap.size, 0, none⟩) n n) (w.alloc (.cells (madeCells #[.int .i64 0] n) 2)) :=
  run_make_row' (P := Try.prog) 92 2 (.int .i64 0) 8 Try.underlying92 Try.info_i64n rfl .i64 .i64 n (by omega) (by omega) w
theorem ownN_made (w : World) (n : Nat) (hn : n ≤ 1048576) {base : Nat} (hb : base ≤ w.heap.size) :
    OwnN (w.alloc (.cells (madeCells #[.int .i64 0] n) 2)) base (.slice (some ⟨w.heap.size, 0, none⟩) n n) (List.replicate n 0) := by
  unfold OwnN
  rw [List.length_replicate, List.map_replicate, ← toList_madeCells_one]
  exact World.ownsRow_lit w _ n hb (by unfold maxLen; omega) (by rw [size_madeCells, Nat.mul_one])

/-- how often each number below n occurs in c, and e beside -/
def tal (n : Nat) (e : Nat → Int) (c : List Int) : List Int := (List.range n).map fun j => e j + ((c.count (j : Int) : Nat) : Int)
theorem tal_len (n : Nat) (e : Nat → Int) (c : List Int) : (tal n e c).length = n := by simp [tal]
theorem tal_at (n : Nat) (e : Nat → Int) (c : List Int) (j : Nat) (h : j < n) : (tal n e c).getD j 0 = e j + ((c.count (j : Int) : Nat) : Int) := by
  simp [tal, List.getD_eq_getElem?_getD, h]
theorem tal_set (n : Nat) (e : Nat → Int) (c : List Int) (j : Nat) (h : j < n) : (tal n e c).set j (e j + ((c.count (j : Int) : Nat) : Int) + 1) = tal n e (c ++ [(j : Int)]) := by
  apply List.ext_getElem
  · simp [tal]
  · intro i h1 h2
    rw [List.getElem_set]
    simp only [tal, List.getElem_map, List.getElem_range, List.count_append]
    split
    · rename_i e'; subst e'; simp; omega
    · rename_i e'
      have : ([(j : Int)].count (i : Int)) = 0 := by simp [List.count_cons]; omega
      omega
theorem tal_zero (n : Nat) : tal n (fun _ => 0) [] = List.replicate n 0 := by
  apply List.ext_getElem <;> simp [tal]
theorem count_bd (c : List Int) (a : Int) : c.count a ≤ c.length := List.count_le_length

theorem kids_succ (ns : List Q) (k : Nat) (h : k < ns.length) : kids (ns.take (k + 1)) = kids (ns.take k) ++ kid (nth ns k) := by
  unfold kids
  rw [List.take_succ_eq_append_getElem h, List.flatMap_append, nth_eq h]
  simp
theorem kid_split {n : Q} (h : isSplitB n = true) : kid n = [n.x3] ++ [n.x4] := by simp [kid, h]
theorem kid_leaf {n : Q} (h : isSplitB n = false) : kid n = [] := by simp [kid, h]
theorem kids_len (ns : List Q) : (kids ns).length ≤ 2 * ns.length := by
  induction ns with
  | nil => simp [kids]
  | cons n t ih =>
    unfold kids at *
    rw [List.flatMap_cons, List.length_append, List.length_cons]
    have : (kid n).length ≤ 2 := by unfold kid; split <;> simp
    omega
theorem panes_succ (ns : List Q) (k : Nat) (h : k < ns.length) : panes (ns.take (k + 1)) = panes (ns.take k) ++ if isSplitB (nth ns k) = true then [] else [(nth ns k).x1] := by
  unfold panes
  rw [List.take_succ_eq_append_getElem h, List.filter_append, List.map_append, nth_eq h]
  by_cases hs : isSplitB ns[k] = true
  · simp [hs]
  · simp [hs]
theorem panes_len (ns : List Q) : (panes ns).length ≤ ns.length := by
  unfold panes; rw [List.length_map]; exact List.length_filter_le _ _

theorem zero_kid {ns : List Q} (ho : Okay ns) : (kids ns).count 0 = 0 := by
  rw [List.count_eq_zero]
  intro h
  unfold kids at h
  rw [List.mem_flatMap] at h
  obtain ⟨n, hn, hk⟩ := h
  obtain ⟨p, hp, rfl⟩ := List.mem_iff_getElem.1 hn
  rw [← nth_eq hp] at hk
  unfold kid at hk
  split at hk
  · rename_i hs
    have := (ho p hp).split hs
    simp at hk
    omega
  · simp at hk

theorem usesB_iff (ns : List Q) : usesB ns = true ↔ ∀ j, 0 < j → j < ns.length → usesOf ns j = 1 := by
  unfold usesB
  rw [List.all_eq_true]
  constructor
  · intro h j h0 hj
    have := h j (List.mem_range.2 hj)
    simp at this
    omega
  · intro h j hj
    have hj := List.mem_range.1 hj
    by_cases h0 : j = 0
    · simp [h0]
    · simp [h j (by omega) hj]

theorem nodup_take {ns : List Q} {k : Nat} (h : ¬ (panes (ns.take k)).Nodup) : ¬ (panes ns).Nodup := by
  intro hn
  apply h
  have e : panes ns = panes (ns.take k) ++ panes (ns.drop k) := by
    conv => lhs; rw [← List.take_append_drop k ns]
    unfold panes
    rw [List.filter_append, List.map_append]
  rw [e] at hn
  exact (List.nodup_append.1 hn).1
theorem nodup_more {l : List Int} {x : Int} (h : l.Nodup) (hx : l.count x = 0) : (l ++ [x]).Nodup := by
  rw [List.count_eq_zero] at hx
  rw [List.nodup_append]
  exact ⟨h, by simp, fun a ha b hb e => by simp at hb; subst hb; subst e; exact hx ha⟩
theorem nodup_less {l : List Int} {x : Int} (hx : l.count x ≠ 0) : ¬ (l ++ [x]).Nodup := by
  intro h
  rw [List.nodup_append] at h
  exact h.2.2 x (List.count_pos_iff.1 (by omega)) x (by simp) rfl

end Go.Proofs.Ytjopjddhgaiddaa
