/- Contracts of the small number functions of chapter 1: l1In, isWithin, areZero. -/
import Derived.Test.YtbfickdgjgbfhaaProg
import Derived.WalkKit
import Derived.Outline
import Derived.Lib.Hide
namespace Go.Proofs.Ytbfickdgjgbfhaa
open Go.RowKit

/-- a guard whose own operation was passed over says neither yes nor no -/
theorem yielded_undef : yielded.match_1 (fun _ => Option Bool) (some undef) (fun b => some b) (fun _ => none) = none := rfl
attribute [go_sem] yielded_undef

/-- a number lies in one of the ranges that the bounds, taken in pairs, give -/
def within (v : Int) : List Int → Bool
  | a :: b :: r => (decide (a ≤ v) && decide (v ≤ b)) || within v r
  | _ => false

theorem within_drop (v : Int) (bs : List Int) (k : Nat) (h : k + 1 < bs.length) :
    within v (bs.drop k) = ((decide (bs.getD k 0 ≤ v) && decide (v ≤ bs.getD (k + 1) 0)) || within v (bs.drop (k + 2))) := by
  have e1 : bs.drop k = bs.getD k 0 :: bs.getD (k + 1) 0 :: bs.drop (k + 2) := by
    rw [List.drop_eq_getElem_cons (by omega), List.drop_eq_getElem_cons h]
    simp [List.getD_eq_getElem?_getD, List.getElem?_eq_getElem h, List.getElem?_eq_getElem (show k < bs.length by omega)]
  rw [e1]; rfl

theorem within_end (v : Int) (bs : List Int) (k : Nat) (h : ¬ k + 1 < bs.length) : within v (bs.drop k) = false := by
  have hl : (bs.drop k).length ≤ 1 := by simp; omega
  match hd : bs.drop k, hl with
  | [], _ => rfl
  | [_], _ => rfl

/-- v lies from a to b -/
def inR (v a b : Int) : Bool := decide (a ≤ v) && decide (v ≤ b)

theorem ret_bool {a b : Bool} (h : a = b) : Ending.returned (.bool a) = .returned (.bool b) := by rw [h]
theorem ret_int {k : IntKind} {a b : Int} (h : a = b) : Ending.returned (.int k a) = .returned (.int k b) := by rw [h]

set_option maxHeartbeats 400000 in
theorem l1In_any (v a b : Int) (w : World) :
    Calls Try.prog 52 #[.int .i64 v, .int .i64 a, .int .i64 b] w fun e w' => e = .returned (.bool (inR v a b)) ∧ w = w' := by
  by_cases h1 : a ≤ v
  · go_enter Try.func52, Try.ntmps52
    go_wp2
    all_goals
      go_ret
      exact ⟨ret_bool (by simp [inR, *]), rfl⟩
  · go_enter Try.func52, Try.ntmps52
    go_wp2
    go_ret
    exact ⟨ret_bool (by simp [inR]; omega), rfl⟩

set_option maxHeartbeats 800000 in
theorem isWithin_any (v : Int) (b off n c : Nat) (bs : List Int) (w : World) (hn : bs.length = n) (hm : n ≤ 1000)
    (hc : ∀ i, i < n → w.cell? ⟨b, off + i, none⟩ = some (.int .i64 (bs.getD i 0))) :
    Calls Try.prog 74 #[.int .i64 v, .slice (some ⟨b, off, none⟩) n c] w fun e w' => e = .returned (.bool (within v bs)) ∧ w = w' := by
  have HN := Lib.hid hn
  have HC := Lib.hid hc
  clear hn hc
  go_enter Try.func74, Try.ntmps74
  go_wp2
  go_loop [5] (fun i => ∃ k : Nat, k ≤ n + 1 ∧ i = .int .i64 (k + 1 : Nat) ∧ within v bs = within v (bs.drop k)) (fun i => n + 3 - (intOf i).toNat)
  case atStart => exact ⟨0, by omega, rfl, rfl⟩
  case round =>
    obtain ⟨k, hk, rfl, hw⟩ := hrel
    have HW := Lib.hid hw
    clear hw
    by_cases hlt : k + 1 < n
    · have c0 := HC.out k (by omega)
      have c1 := HC.out (k + 1) hlt
      have HS := Lib.hid (within_drop v bs k (by rw [HN.out]; exact hlt))
      have hlt2 : ((k + 1 : Nat) : Int) < (n : Int) := by omega
      go_wp2
      · have h1 : bs[k]?.getD 0 ≤ v := by assumption
        have h2 : v ≤ bs[k + 1]?.getD 0 := by assumption
        go_ret
        exact ⟨ret_bool (by rw [HW.out, HS.out]; simp [h1, h2]), rfl⟩
      · have h2 : bs[k + 1]?.getD 0 < v := by assumption
        exact ⟨⟨k + 2, by omega, by go_num, by rw [HW.out, HS.out]; simp; omega⟩, by simp [intOf]; omega⟩
      · have h1 : ¬ bs[k]?.getD 0 ≤ v := by assumption
        exact ⟨⟨k + 2, by omega, by go_num, by rw [HW.out, HS.out]; simp [h1]⟩, by simp [intOf]; omega⟩
    · have HE := Lib.hid (within_end v bs k (by rw [HN.out]; exact hlt))
      have hlt2 : ¬ ((k + 1 : Nat) : Int) < (n : Int) := by omega
      go_wp2
      go_ret
      exact ⟨ret_bool (by rw [HW.out, HE.out]), rfl⟩

/-- every number of the list is 0 -/
def zeros (l : List Int) : Bool := l.all (· == 0)

theorem zeros_take (l : List Int) (k : Nat) (h : k < l.length) : zeros (l.take (k + 1)) = (zeros (l.take k) && (l[k]?.getD 0 == 0)) := by
  unfold zeros
  rw [List.take_succ_eq_append_getElem h, List.all_append]
  simp [List.getElem?_eq_getElem h]

theorem zeros_no (l : List Int) (k : Nat) (h : k < l.length) (hz : (l[k]?.getD 0 == 0) = false) : zeros l = false := by
  rw [List.getElem?_eq_getElem h] at hz
  simp [zeros]
  exact ⟨_, List.getElem_mem h, by simpa using hz⟩

set_option maxHeartbeats 800000 in
theorem areZero_any (b off n c : Nat) (bs : List Int) (w : World) (hn : bs.length = n) (hm : n ≤ 1000)
    (hc : ∀ i, i < n → w.cell? ⟨b, off + i, none⟩ = some (.int .i64 (bs.getD i 0))) :
    Calls Try.prog 109 #[.slice (some ⟨b, off, none⟩) n c] w fun e w' => e = .returned (.bool (zeros bs)) ∧ w = w' := by
  have HN := Lib.hid hn
  have HC := Lib.hid hc
  clear hn hc
  go_enter Try.func109, Try.ntmps109
  go_wp2
  go_loop [4, 7] (fun _ i => ∃ k : Nat, k ≤ n ∧ i = .int .i64 k ∧ zeros (bs.take k) = true) (fun _ i => n - (intOf i).toNat)
  case atStart => exact ⟨0, by omega, rfl, rfl⟩
  case round =>
    obtain ⟨k, hk, rfl, hw⟩ := hrel
    have HW := Lib.hid hw
    clear hw
    by_cases hlt : k < n
    · have c0 := HC.out k (by omega)
      have HS := Lib.hid (zeros_take bs k (by rw [HN.out]; exact hlt))
      have HZ := Lib.hid (zeros_no bs k (by rw [HN.out]; exact hlt))
      cases hz : (bs[k]?.getD 0 == 0) with
      | true =>
        have hz' : (bs[k]?.getD 0 != 0) = false := by rw [bne, hz]; rfl
        go_wp2
        exact ⟨⟨k + 1, by omega, by go_num, by rw [HS.out, HW.out, hz]; rfl⟩, by simp [intOf]; omega⟩
      | false =>
        have hz' : (bs[k]?.getD 0 != 0) = true := by rw [bne, hz]; rfl
        go_wp2
        go_ret
        exact ⟨ret_bool (by rw [HZ.out hz]), rfl⟩
    · go_wp2
      go_ret
      exact ⟨ret_bool (by have hh := HW.out; rw [List.take_of_length_le (by rw [HN.out]; omega)] at hh; rw [hh]), rfl⟩

theorem cells_two (w : World) (x y : Int) (t : TypeId) :
    ∀ i, i < 2 → (w.alloc (.cells #[.int .i64 x, .int .i64 y] t)).cell? ⟨w.heap.size, 0 + i, none⟩ = some (.int .i64 ([x, y].getD i 0)) := by
  intro i hi
  match i, hi with
  | 0, _ => simp
  | 1, _ => simp

theorem cells_four (w : World) (x y z u : Int) (t : TypeId) :
    ∀ i, i < 4 → (w.alloc (.cells #[.int .i64 x, .int .i64 y, .int .i64 z, .int .i64 u] t)).cell? ⟨w.heap.size, 0 + i, none⟩ = some (.int .i64 ([x, y, z, u].getD i 0)) := by
  intro i hi
  match i, hi with
  | 0, _ => simp
  | 1, _ => simp
  | 2, _ => simp
  | 3, _ => simp

theorem cells_six (w : World) (x y z u v q : Int) (t : TypeId) :
    ∀ i, i < 6 → (w.alloc (.cells #[.int .i64 x, .int .i64 y, .int .i64 z, .int .i64 u, .int .i64 v, .int .i64 q] t)).cell? ⟨w.heap.size, 0 + i, none⟩ = some (.int .i64 ([x, y, z, u, v, q].getD i 0)) := by
  intro i hi
  match i, hi with
  | 0, _ => simp
  | 1, _ => simp
  | 2, _ => simp
  | 3, _ => simp
  | 4, _ => simp
  | 5, _ => simp

theorem isWithin_two (v a b : Int) (w : World) (t : TypeId) (g : Nat) (hg : g = w.heap.size) :
    Calls Try.prog 74 #[.int .i64 v, .slice (some ⟨g, 0, none⟩) 2 2] (w.alloc (.cells #[.int .i64 a, .int .i64 b] t))
      fun e w' => e = .returned (.bool (inR v a b)) ∧ w.alloc (.cells #[.int .i64 a, .int .i64 b] t) = w' := by
  subst hg
  exact (isWithin_any v _ 0 2 2 [a, b] _ rfl (by omega) (cells_two w a b t)).mono fun _ _ ⟨he, hw⟩ => ⟨by rw [he]; simp [within, inR], hw⟩

theorem isWithin_four (v a b c d : Int) (w : World) (t : TypeId) (g : Nat) (hg : g = w.heap.size) :
    Calls Try.prog 74 #[.int .i64 v, .slice (some ⟨g, 0, none⟩) 4 4] (w.alloc (.cells #[.int .i64 a, .int .i64 b, .int .i64 c, .int .i64 d] t))
      fun e w' => e = .returned (.bool (inR v a b || inR v c d)) ∧ w.alloc (.cells #[.int .i64 a, .int .i64 b, .int .i64 c, .int .i64 d] t) = w' := by
  subst hg
  exact (isWithin_any v _ 0 4 4 [a, b, c, d] _ rfl (by omega) (cells_four w a b c d t)).mono fun _ _ ⟨he, hw⟩ => ⟨by rw [he]; simp [within, inR], hw⟩

theorem areZero_four (a b c d : Int) (w : World) (t : TypeId) (g : Nat) (hg : g = w.heap.size) :
    Calls Try.prog 109 #[.slice (some ⟨g, 0, none⟩) 4 4] (w.alloc (.cells #[.int .i64 a, .int .i64 b, .int .i64 c, .int .i64 d] t))
      fun e w' => e = .returned (.bool (zeros [a, b, c, d])) ∧ w.alloc (.cells #[.int .i64 a, .int .i64 b, .int .i64 c, .int .i64 d] t) = w' := by
  subst hg
  exact areZero_any _ 0 4 4 [a, b, c, d] _ rfl (by omega) (cells_four w a b c d t)

theorem areZero_six (a b c d x y : Int) (w : World) (t : TypeId) (g : Nat) (hg : g = w.heap.size) :
    Calls Try.prog 109 #[.slice (some ⟨g, 0, none⟩) 6 6] (w.alloc (.cells #[.int .i64 a, .int .i64 b, .int .i64 c, .int .i64 d, .int .i64 x, .int .i64 y] t))
      fun e w' => e = .returned (.bool (zeros [a, b, c, d, x, y])) ∧ w.alloc (.cells #[.int .i64 a, .int .i64 b, .int .i64 c, .int .i64 d, .int .i64 x, .int .i64 y] t) = w' := by
  subst hg
  exact areZero_any _ 0 6 6 [a, b, c, d, x, y] _ rfl (by omega) (cells_six w a b c d x y t)

end Go.Proofs.Ytbfickdgjgbfhaa

/- Layouts as data: nodes, places, the faults of a layout, its places, and why the program's way and the model's come to the same. Plain facts. -/
namespace Go.Proofs.Ytbfickdgjgbfhaa
open Go.RowKit
set_option linter.unusedVariables false

theorem inR_iff {v a b : Int} : inR v a b = true ↔ a ≤ v ∧ v ≤ b := by simp [inR]

/-- five numbers: a node (kind, pane, first, a, b) or a place (pane, col, row, wide, high) -/
structure Q where
  x0 : Int
  x1 : Int
  x2 : Int
  x3 : Int
  x4 : Int

def q0 : Q := ⟨0, 0, 0, 0, 0⟩
def nth (l : List Q) (i : Nat) : Q := l.getD i q0
theorem nth_eq {l : List Q} {i : Nat} (h : i < l.length) : nth l i = l[i] := by simp [nth, List.getD_eq_getElem?_getD, h]
theorem nth_set {l : List Q} {i j : Nat} {x : Q} (h : j < l.length) : nth (l.set i x) j = if i = j then x else nth l j := by
  rw [nth_eq (by simpa using h), nth_eq h, List.getElem_set]

def isSplitB (n : Q) : Bool := n.x0 == 2 || n.x0 == 3

/-- the fault of the node n at i, of m nodes -/
def ndFault (n : Q) (i m : Int) : Int :=
  if n.x0 = 1 then (if n.x2 = 0 ∧ n.x3 = 0 ∧ n.x4 = 0 then (if inR n.x1 0 5 = true then 0 else 3) else 1)
  else if n.x0 = 2 ∨ n.x0 = 3 then (if n.x1 = 0 then (if inR n.x3 (i + 1) (m - 1) = true ∧ inR n.x4 (i + 1) (m - 1) = true then 0 else 3) else 1)
  else 1

/-- the first fault of the nodes from i on -/
def ndsFault (m : Int) : Nat → List Q → Int
  | _, [] => 0
  | i, n :: r => if ndFault n i m = 0 then ndsFault m (i + 1) r else ndFault n i m

/-- a node without a fault -/
def NdOk (n : Q) (i m : Nat) : Prop :=
  (n.x0 = 1 ∧ n.x2 = 0 ∧ n.x3 = 0 ∧ n.x4 = 0 ∧ 0 ≤ n.x1 ∧ n.x1 ≤ 5) ∨ ((n.x0 = 2 ∨ n.x0 = 3) ∧ n.x1 = 0 ∧ (i : Int) < n.x3 ∧ n.x3 < m ∧ (i : Int) < n.x4 ∧ n.x4 < m)

theorem ndFault_ok {n : Q} {i m : Nat} (h : ndFault n i m = 0) : NdOk n i m := by
  unfold ndFault at h
  unfold NdOk
  simp only [inR, Bool.and_eq_true, decide_eq_true_eq] at h
  by_cases h1 : n.x0 = 1
  · rw [if_pos h1] at h
    by_cases h2 : n.x2 = 0 ∧ n.x3 = 0 ∧ n.x4 = 0
    · rw [if_pos h2] at h
      by_cases h3 : 0 ≤ n.x1 ∧ n.x1 ≤ 5
      · exact .inl ⟨h1, h2.1, h2.2.1, h2.2.2, h3.1, h3.2⟩
      · rw [if_neg h3] at h; omega
    · rw [if_neg h2] at h; omega
  · rw [if_neg h1] at h
    by_cases h2 : n.x0 = 2 ∨ n.x0 = 3
    · rw [if_pos h2] at h
      by_cases h3 : n.x1 = 0
      · rw [if_pos h3] at h
        by_cases h4 : (((i : Int) + 1 ≤ n.x3 ∧ n.x3 ≤ (m : Int) - 1) ∧ ((i : Int) + 1 ≤ n.x4 ∧ n.x4 ≤ (m : Int) - 1))
        · exact .inr ⟨h2, h3, by omega, by omega, by omega, by omega⟩
        · rw [if_neg h4] at h; omega
      · rw [if_neg h3] at h; omega
    · rw [if_neg h2] at h; omega

/-- every node is without a fault -/
def Okay (ns : List Q) : Prop := ∀ i, i < ns.length → NdOk (nth ns i) i ns.length

theorem nth_drop (l : List Q) (k i : Nat) : nth (l.drop k) i = nth l (k + i) := by simp [nth, List.getD_eq_getElem?_getD]

theorem ndsFault_ok (m : Nat) : ∀ (l : List Q) (k : Nat), ndsFault m k l = 0 → ∀ i, i < l.length → NdOk (nth l i) (k + i) m
  | [], _, _, i, hi => by simp at hi
  | n :: r, k, h, i, hi => by
    unfold ndsFault at h
    by_cases h0 : ndFault n k m = 0
    · rw [if_pos h0] at h
      cases i with
      | zero => exact ndFault_ok h0
      | succ i =>
        have := ndsFault_ok m r (k + 1) h i (by simpa using hi)
        have e : k + 1 + i = k + (i + 1) := by omega
        rw [e] at this
        exact this
    · rw [if_neg h0] at h
      exact absurd h h0

theorem okay_of {ns : List Q} (h : ndsFault ns.length 0 ns = 0) : Okay ns := fun i hi => by
  have := ndsFault_ok ns.length ns 0 h i hi
  rwa [Nat.zero_add] at this

theorem NdOk.leaf {n : Q} {i m : Nat} (h : NdOk n i m) (hs : isSplitB n = false) : n.x0 = 1 ∧ n.x2 = 0 ∧ n.x3 = 0 ∧ n.x4 = 0 ∧ 0 ≤ n.x1 ∧ n.x1 ≤ 5 := by
  rcases h with h | ⟨h, _⟩
  · exact h
  · simp [isSplitB] at hs; omega
theorem NdOk.split {n : Q} {i m : Nat} (h : NdOk n i m) (hs : isSplitB n = true) : (n.x0 = 2 ∨ n.x0 = 3) ∧ n.x1 = 0 ∧ (i : Int) < n.x3 ∧ n.x3 < m ∧ (i : Int) < n.x4 ∧ n.x4 < m := by
  rcases h with h | h
  · simp [isSplitB] at hs; omega
  · exact h

/-- the nodes that a node has as its parts -/
def kid (n : Q) : List Int := if isSplitB n then [n.x3, n.x4] else []
def kids (ns : List Q) : List Int := ns.flatMap kid
/-- how often node j is a part -/
def usesOf (ns : List Q) (j : Nat) : Nat := (kids ns).count (j : Int)
def usesB (ns : List Q) : Bool := (List.range ns.length).all fun j => j == 0 || usesOf ns j == 1
/-- the panes of the nodes -/
def panes (ns : List Q) : List Int := (ns.filter fun n => !isSplitB n).map Q.x1
def treeB (ns : List Q) : Bool := usesB ns && decide (panes ns).Nodup

theorem uses_one {ns : List Q} (h : usesB ns = true) {j : Nat} (h0 : 0 < j) (hj : j < ns.length) : usesOf ns j = 1 := by
  unfold usesB at h
  rw [List.all_eq_true] at h
  have := h j (List.mem_range.2 hj)
  simp at this
  omega

theorem parent_of {ns : List Q} (ho : Okay ns) (h : usesB ns = true) {j : Nat} (h0 : 0 < j) (hj : j < ns.length) :
    ∃ p, p < j ∧ isSplitB (nth ns p) = true ∧ ((nth ns p).x3 = j ∨ (nth ns p).x4 = j) := by
  have h1 := uses_one h h0 hj
  have hm : (j : Int) ∈ kids ns := List.count_pos_iff.1 (by unfold usesOf at h1; omega)
  unfold kids at hm
  rw [List.mem_flatMap] at hm
  obtain ⟨n, hn, hk⟩ := hm
  obtain ⟨p, hp, rfl⟩ := List.mem_iff_getElem.1 hn
  rw [← nth_eq hp] at hk
  unfold kid at hk
  split at hk
  · rename_i hs
    have := (ho p hp).split hs
    simp at hk
    refine ⟨p, by omega, hs, ?_⟩
    rcases hk with hk | hk
    · exact .inl hk.symm
    · exact .inr hk.symm
  · simp at hk

theorem count_two {ns : List Q} {i j : Nat} (hij : i < j) (hj : j < ns.length) {c : Int} (h1 : c ∈ kid (nth ns i)) (h2 : c ∈ kid (nth ns j)) : 2 ≤ (kids ns).count c := by
  have e : ns = ns.take j ++ ns[j] :: ns.drop (j + 1) := by rw [← List.drop_eq_getElem_cons hj, List.take_append_drop]
  have e2 : kids ns = kids (ns.take j) ++ (kid ns[j] ++ kids (ns.drop (j + 1))) := by
    conv => lhs; rw [e]
    unfold kids
    rw [List.flatMap_append, List.flatMap_cons]
  rw [e2, List.count_append, List.count_append]
  rw [nth_eq hj] at h2
  have p2 := List.count_pos_iff.2 h2
  have p1 : c ∈ kids (ns.take j) := by
    unfold kids
    rw [List.mem_flatMap]
    refine ⟨nth ns i, ?_, h1⟩
    rw [nth_eq (Nat.lt_trans hij hj)]
    exact List.mem_iff_getElem.2 ⟨i, by simp; omega, by simp⟩
  have := List.count_pos_iff.2 p1
  omega

theorem kid_mem {n : Q} (hs : isSplitB n = true) : n.x3 ∈ kid n ∧ n.x4 ∈ kid n := by simp [kid, hs]

/-- parts of two nodes are two nodes -/
theorem kids_ne {ns : List Q} (ho : Okay ns) (h : usesB ns = true) {i j : Nat} (hi : i < ns.length) (hj : j < ns.length) (hij : i ≠ j) {c : Int} (h1 : c ∈ kid (nth ns i)) : c ∉ kid (nth ns j) := by
  intro h2
  have hc : 2 ≤ (kids ns).count c := by
    rcases Nat.lt_or_ge i j with hlt | hge
    · exact count_two hlt hj h1 h2
    · exact count_two (by omega) hi h2 h1
  have hs : isSplitB (nth ns i) = true := by
    cases h' : isSplitB (nth ns i)
    · simp [kid, h'] at h1
    · rfl
  have hb := (ho i hi).split hs
  have hc0 : (i : Int) < c ∧ c < ns.length := by
    simp [kid, hs] at h1
    omega
  have h1 := uses_one h (j := c.toNat) (by omega) (by omega)
  unfold usesOf at h1
  rw [Int.toNat_of_nonneg (by omega)] at h1
  omega

theorem parts_ne {ns : List Q} (ho : Okay ns) (h : usesB ns = true) {i : Nat} (hi : i < ns.length) (hs : isSplitB (nth ns i) = true) : (nth ns i).x3 ≠ (nth ns i).x4 := by
  intro e
  have hb := (ho i hi).split hs
  have h1 := uses_one h (j := (nth ns i).x3.toNat) (by omega) (by omega)
  unfold usesOf at h1
  rw [Int.toNat_of_nonneg (by omega)] at h1
  have e1 : ns = ns.take i ++ ns[i] :: ns.drop (i + 1) := by rw [← List.drop_eq_getElem_cons hi, List.take_append_drop]
  have e2 : kids ns = kids (ns.take i) ++ (kid ns[i] ++ kids (ns.drop (i + 1))) := by
    conv => lhs; rw [e1]
    unfold kids
    rw [List.flatMap_append, List.flatMap_cons]
  rw [e2, List.count_append, List.count_append, ← nth_eq hi] at h1
  have : kid (nth ns i) = [(nth ns i).x3, (nth ns i).x3] := by rw [kid, if_pos hs, ← e]
  rw [this] at h1
  simp at h1
  omega

/-! places -/

def partA (n r : Q) : Q := if n.x0 = 2 then ⟨r.x0, r.x1, r.x2, n.x2, r.x4⟩ else ⟨r.x0, r.x1, r.x2, r.x3, n.x2⟩
def partB (n r : Q) : Q := if n.x0 = 2 then ⟨r.x0, r.x1 + (n.x2 + 1), r.x2, r.x3 - (n.x2 + 1), r.x4⟩ else ⟨r.x0, r.x1, r.x2 + (n.x2 + 1), r.x3, r.x4 - (n.x2 + 1)⟩
def roomQ (r : Q) (k : Int) : Int := if k = 2 then r.x3 else r.x4

/-- the model's way: the places of the panes from a node on, and whether each place is one -/
def rcOf (ns : List Q) : Nat → Nat → Q → List Q × Bool
  | 0, _, _ => ([], false)
  | f + 1, i, r =>
    if r.x3 < 1 ∨ r.x4 < 1 then ([], false)
    else if (nth ns i).x0 = 1 then ([{ r with x0 := (nth ns i).x1 }], true)
    else if inR (nth ns i).x2 0 200 = true then
      ((rcOf ns f (nth ns i).x3.toNat (partA (nth ns i) r)).1 ++ (rcOf ns f (nth ns i).x4.toNat (partB (nth ns i) r)).1,
       (rcOf ns f (nth ns i).x3.toNat (partA (nth ns i) r)).2 && (rcOf ns f (nth ns i).x4.toNat (partB (nth ns i) r)).2)
    else ([], false)

/-- the program's way: one node's step -/
def stepR (n : Q) (i : Nat) (R : List Q) : Option (List Q) :=
  let r : Q := { nth R i with x0 := n.x1 }
  if isSplitB n = true then
    if inR n.x2 1 (roomQ r n.x0 - 2) = true then some (((R.set i r).set n.x3.toNat (partA n r)).set n.x4.toNat (partB n r)) else none
  else some (R.set i r)
def runR : Nat → List Q → List Q → Option (List Q)
  | _, [], R => some R
  | i, n :: t, R => match stepR n i R with
    | none => none
    | some R' => runR (i + 1) t R'

def whole (wide high : Int) : Q := ⟨0, 0, 0, wide, high⟩
def startR (m : Nat) (wide high : Int) : List Q := (List.replicate m q0).set 0 (whole wide high)

/-- two places are the same but for their panes -/
def Geo (r s : Q) : Prop := r.x1 = s.x1 ∧ r.x2 = s.x2 ∧ r.x3 = s.x3 ∧ r.x4 = s.x4
theorem Geo.refl (r : Q) : Geo r r := ⟨rfl, rfl, rfl, rfl⟩
theorem Geo.trans {a b c : Q} (h : Geo a b) (k : Geo b c) : Geo a c := ⟨h.1.trans k.1, h.2.1.trans k.2.1, h.2.2.1.trans k.2.2.1, h.2.2.2.trans k.2.2.2⟩
theorem Geo.symm {a b : Q} (h : Geo a b) : Geo b a := ⟨h.1.symm, h.2.1.symm, h.2.2.1.symm, h.2.2.2.symm⟩
theorem Geo.partA {n r s : Q} (h : Geo r s) : Geo (partA n r) (partA n s) := by
  obtain ⟨h1, h2, h3, h4⟩ := h
  unfold Go.Proofs.Ytbfickdgjgbfhaa.partA Geo
  split <;> simp [*]
theorem Geo.partB {n r s : Q} (h : Geo r s) : Geo (partB n r) (partB n s) := by
  obtain ⟨h1, h2, h3, h4⟩ := h
  unfold Go.Proofs.Ytbfickdgjgbfhaa.partB Geo
  split <;> simp [*]

/-- a place of at least one cell, within the greatest screen -/
def Good (r : Q) : Prop := 1 ≤ r.x3 ∧ r.x3 ≤ 200 ∧ 1 ≤ r.x4 ∧ r.x4 ≤ 200 ∧ 0 ≤ r.x1 ∧ r.x1 + r.x3 ≤ 200 ∧ 0 ≤ r.x2 ∧ r.x2 + r.x4 ≤ 200
theorem Good.geo {r s : Q} (h : Good r) (g : Geo s r) : Good s := by
  obtain ⟨h1, h2, h3, h4⟩ := g
  unfold Good at *
  rw [h1, h2, h3, h4]
  exact h
theorem Good.partA {n r : Q} (h : Good r) (hk : inR n.x2 1 (roomQ r n.x0 - 2) = true) : Good (partA n r) := by
  obtain ⟨k1, k2⟩ := inR_iff.1 hk
  unfold roomQ at k2
  unfold Good at *
  unfold Go.Proofs.Ytbfickdgjgbfhaa.partA
  by_cases h2 : n.x0 = 2
  · rw [if_pos h2] at k2 ⊢; refine ⟨?_, ?_, ?_, ?_, ?_, ?_, ?_, ?_⟩ <;> simp only <;> omega
  · rw [if_neg h2] at k2 ⊢; refine ⟨?_, ?_, ?_, ?_, ?_, ?_, ?_, ?_⟩ <;> simp only <;> omega
theorem Good.partB {n r : Q} (h : Good r) (hk : inR n.x2 1 (roomQ r n.x0 - 2) = true) : Good (partB n r) := by
  obtain ⟨k1, k2⟩ := inR_iff.1 hk
  unfold roomQ at k2
  unfold Good at *
  unfold Go.Proofs.Ytbfickdgjgbfhaa.partB
  by_cases h2 : n.x0 = 2
  · rw [if_pos h2] at k2 ⊢; refine ⟨?_, ?_, ?_, ?_, ?_, ?_, ?_, ?_⟩ <;> simp only <;> omega
  · rw [if_neg h2] at k2 ⊢; refine ⟨?_, ?_, ?_, ?_, ?_, ?_, ?_, ?_⟩ <;> simp only <;> omega

/-- what holds behind k nodes -/
structure Inv (ns : List Q) (wide high : Int) (k : Nat) (R : List Q) : Prop where
  len : R.length = ns.length
  root : Geo (nth R 0) (whole wide high)
  own : ∀ i, i < k → i < ns.length → (nth R i).x0 = (nth ns i).x1
  room : ∀ i, i < k → i < ns.length → isSplitB (nth ns i) = true → inR (nth ns i).x2 1 (roomQ (nth R i) (nth ns i).x0 - 2) = true
  partA : ∀ i, i < k → i < ns.length → isSplitB (nth ns i) = true → Geo (nth R (nth ns i).x3.toNat) (Go.Proofs.Ytbfickdgjgbfhaa.partA (nth ns i) (nth R i))
  partB : ∀ i, i < k → i < ns.length → isSplitB (nth ns i) = true → Geo (nth R (nth ns i).x4.toNat) (Go.Proofs.Ytbfickdgjgbfhaa.partB (nth ns i) (nth R i))

theorem Inv.start (ns : List Q) (wide high : Int) (h : 0 < ns.length) : Inv ns wide high 0 (startR ns.length wide high) := by
  refine ⟨by simp [startR], ?_, fun i hi => by omega, fun i hi => by omega, fun i hi => by omega, fun i hi => by omega⟩
  unfold startR
  rw [nth_set (by simpa using h), if_pos rfl]
  exact Geo.refl _

theorem Inv.good {ns : List Q} {wide high : Int} {k : Nat} {R : List Q} (h : Inv ns wide high k R) (ho : Okay ns) (hu : usesB ns = true) (hw : inR wide 1 200 = true) (hh : inR high 1 200 = true) :
    ∀ i, i ≤ k → i < ns.length → Good (nth R i) := by
  intro i
  induction i using Nat.strongRecOn with
  | ind i ih =>
    intro hk hi
    by_cases h0 : i = 0
    · subst h0
      refine Good.geo ?_ h.root
      simp only [inR, Bool.and_eq_true, decide_eq_true_eq] at hw hh
      unfold Good whole
      refine ⟨?_, ?_, ?_, ?_, ?_, ?_, ?_, ?_⟩ <;> simp only <;> omega
    · obtain ⟨p, hp, hs, hc⟩ := parent_of ho hu (by omega) hi
      have hg := ih p hp (by omega) (by omega)
      have hr := h.room p (by omega) (by omega) hs
      rcases hc with hc | hc
      · have := h.partA p (by omega) (by omega) hs
        rw [hc, Int.toNat_natCast] at this
        exact (hg.partA hr).geo this
      · have := h.partB p (by omega) (by omega) hs
        rw [hc, Int.toNat_natCast] at this
        exact (hg.partB hr).geo this

theorem Inv.step {ns : List Q} {wide high : Int} {k : Nat} {R R' : List Q} (h : Inv ns wide high k R) (ho : Okay ns) (hu : usesB ns = true) (hk : k < ns.length) (hs : stepR (nth ns k) k R = some R') :
    Inv ns wide high (k + 1) R' := by
  have hl := h.len
  unfold stepR at hs
  simp only at hs
  have hroom : ∀ (r : Q) (x : Int), roomQ { r with x0 := x } = roomQ r := fun r x => rfl
  by_cases hsp : isSplitB (nth ns k) = true
  · rw [if_pos hsp] at hs
    by_cases hr : inR (nth ns k).x2 1 (roomQ { nth R k with x0 := (nth ns k).x1 } (nth ns k).x0 - 2) = true
    · rw [if_pos hr] at hs
      have hs := (Option.some.inj hs).symm
      have hb := (ho k hk).split hsp
      have hne := parts_ne ho hu hk hsp
      -- what R' holds
      have hget : ∀ j, j < ns.length → nth R' j = if (nth ns k).x4.toNat = j then Go.Proofs.Ytbfickdgjgbfhaa.partB (nth ns k) { nth R k with x0 := (nth ns k).x1 } else if (nth ns k).x3.toNat = j then Go.Proofs.Ytbfickdgjgbfhaa.partA (nth ns k) { nth R k with x0 := (nth ns k).x1 } else if k = j then { nth R k with x0 := (nth ns k).x1 } else nth R j := by
        intro j hj
        rw [hs, nth_set (by simp; omega), nth_set (by simp; omega), nth_set (by omega)]
      have hk' : nth R' k = { nth R k with x0 := (nth ns k).x1 } := by
        rw [hget k hk, if_neg (by omega), if_neg (by omega), if_pos rfl]
      have hold : ∀ j, j < k → nth R' j = nth R j := fun j hj => by
        rw [hget j (by omega), if_neg (by omega), if_neg (by omega), if_neg (by omega)]
      -- a part of an earlier node
      have hpart : ∀ i, i < k → ∀ c : Int, c ∈ kid (nth ns i) → (i : Int) < c → c < ns.length → Geo (nth R' c.toNat) (nth R c.toNat) := by
        intro i hi c hc h1 h2
        have hno := kids_ne ho hu (by omega) hk (by omega : i ≠ k) hc
        simp only [kid, hsp, if_true, List.mem_cons, List.not_mem_nil, or_false, not_or] at hno
        rw [hget _ (by omega), if_neg (by omega), if_neg (by omega)]
        split
        · rename_i e; rw [← e]; exact ⟨rfl, rfl, rfl, rfl⟩
        · exact Geo.refl _
      refine ⟨by rw [hs]; simpa using hl, ?_, ?_, ?_, ?_, ?_⟩
      · rw [hget 0 (by omega), if_neg (by omega), if_neg (by omega)]
        split
        · rename_i e; subst e; exact ⟨h.root.1, h.root.2.1, h.root.2.2.1, h.root.2.2.2⟩
        · exact h.root
      · intro i hi hil
        by_cases e : i = k
        · subst e; rw [hk']
        · rw [hold i (by omega)]; exact h.own i (by omega) hil
      · intro i hi hil his
        by_cases e : i = k
        · subst e; rw [hk', hroom] at *; exact hr
        · rw [hold i (by omega)]; exact h.room i (by omega) hil his
      · intro i hi hil his
        have hbi := (ho i hil).split his
        by_cases e : i = k
        · subst e
          rw [hget _ (by omega), if_neg (by omega), if_pos rfl, hk']
          exact Geo.refl _
        · rw [hold i (by omega)]
          exact (hpart i (by omega) _ (kid_mem his).1 hbi.2.2.1 hbi.2.2.2.1).trans (h.partA i (by omega) hil his)
      · intro i hi hil his
        have hbi := (ho i hil).split his
        by_cases e : i = k
        · subst e
          rw [hget _ (by omega), if_pos rfl, hk']
          exact Geo.refl _
        · rw [hold i (by omega)]
          exact (hpart i (by omega) _ (kid_mem his).2 hbi.2.2.2.2.1 hbi.2.2.2.2.2).trans (h.partB i (by omega) hil his)
    · rw [if_neg hr] at hs; cases hs
  · rw [if_neg hsp] at hs
    have hs := (Option.some.inj hs).symm
    have hget : ∀ j, j < ns.length → nth R' j = if k = j then { nth R k with x0 := (nth ns k).x1 } else nth R j := by
      intro j hj
      rw [hs, nth_set (by omega)]
    have hgeo : ∀ j, j < ns.length → Geo (nth R' j) (nth R j) := fun j hj => by
      rw [hget j hj]
      split
      · rename_i e; rw [← e]; exact ⟨rfl, rfl, rfl, rfl⟩
      · exact Geo.refl _
    refine ⟨by rw [hs]; simpa using hl, (hgeo 0 (by omega)).trans h.root, ?_, ?_, ?_, ?_⟩
    · intro i hi hil
      rw [hget i hil]
      split
      · rename_i e; subst e; rfl
      · exact h.own i (by omega) hil
    · intro i hi hil his
      have e : i ≠ k := fun e => by subst e; exact hsp his
      rw [hget i hil, if_neg (Ne.symm e)]
      exact h.room i (by omega) hil his
    · intro i hi hil his
      have hbi := (ho i hil).split his
      have e : i ≠ k := fun e => by subst e; exact hsp his
      rw [hget i hil, if_neg (Ne.symm e)]
      exact (hgeo _ (by omega)).trans (h.partA i (by omega) hil his)
    · intro i hi hil his
      have hbi := (ho i hil).split his
      have e : i ≠ k := fun e => by subst e; exact hsp his
      rw [hget i hil, if_neg (Ne.symm e)]
      exact (hgeo _ (by omega)).trans (h.partB i (by omega) hil his)

theorem runR_some {ns : List Q} {wide high : Int} (ho : Okay ns) (hu : usesB ns = true) :
    ∀ (d k : Nat) (R R' : List Q), k + d = ns.length → Inv ns wide high k R → runR k (ns.drop k) R = some R' → Inv ns wide high ns.length R'
  | 0, k, R, R', hd, h, hr => by
    have e : k = ns.length := by omega
    subst e
    rw [List.drop_length] at hr
    unfold runR at hr
    cases hr
    exact h
  | d + 1, k, R, R', hd, h, hr => by
    have hk : k < ns.length := by omega
    rw [List.drop_eq_getElem_cons hk, ← nth_eq hk] at hr
    unfold runR at hr
    cases hs : stepR (nth ns k) k R with
    | none => rw [hs] at hr; cases hr
    | some R1 =>
      rw [hs] at hr
      exact runR_some ho hu d (k + 1) R1 R' (by omega) (h.step ho hu hk hs) hr

/-- the node's place is none of the model's -/
def Bad (ns : List Q) (i : Nat) (r : Q) : Prop := ∀ f s, Geo s r → (rcOf ns f i s).2 = false

theorem Bad.small {ns : List Q} {i : Nat} {r : Q} (h : r.x3 < 1 ∨ r.x4 < 1) : Bad ns i r := by
  intro f s hg
  cases f with
  | zero => rfl
  | succ f =>
    unfold rcOf
    rw [if_pos (by rw [hg.2.2.1, hg.2.2.2]; exact h)]

theorem Bad.up {ns : List Q} {p : Nat} {r a b : Q} (hs : isSplitB (nth ns p) = true) (ha : Geo a (partA (nth ns p) r)) (hb : Geo b (partB (nth ns p) r))
    (h : Bad ns (nth ns p).x3.toNat a ∨ Bad ns (nth ns p).x4.toNat b) : Bad ns p r := by
  intro f s hg
  cases f with
  | zero => rfl
  | succ f =>
    unfold rcOf
    split
    · rfl
    · have h1 : ¬ (nth ns p).x0 = 1 := by simp [isSplitB] at hs; omega
      rw [if_neg h1]
      split
      · show (_ && _) = false
        rcases h with h | h
        · rw [h f _ (hg.partA.trans ha.symm)]; rfl
        · rw [h f _ (hg.partB.trans hb.symm), Bool.and_false]
      · rfl

theorem Bad.room {ns : List Q} {p : Nat} {r : Q} (hs : isSplitB (nth ns p) = true) (hr : r.x3 ≤ 200 ∧ r.x4 ≤ 200) (h : inR (nth ns p).x2 1 (roomQ r (nth ns p).x0 - 2) = false) : Bad ns p r := by
  by_cases h2 : inR (nth ns p).x2 0 200 = true
  · refine Bad.up hs (Geo.refl _) (Geo.refl _) ?_
    simp only [inR, Bool.and_eq_true, decide_eq_true_eq] at h2
    have h : ¬ (1 ≤ (nth ns p).x2 ∧ (nth ns p).x2 ≤ roomQ r (nth ns p).x0 - 2) := fun h' => by rw [inR_iff.2 h'] at h; cases h
    by_cases hA : (nth ns p).x2 < 1
    · refine .inl (Bad.small ?_)
      unfold partA
      split
      · exact .inl hA
      · exact .inr hA
    · refine .inr (Bad.small ?_)
      unfold roomQ at h
      unfold partB
      by_cases hk : (nth ns p).x0 = 2
      · rw [if_pos hk] at h ⊢; left; simp only; omega
      · rw [if_neg hk] at h ⊢; right; simp only; omega
  · intro f s hg
    cases f with
    | zero => rfl
    | succ f =>
      unfold rcOf
      split
      · rfl
      · have h1 : ¬ (nth ns p).x0 = 1 := by simp [isSplitB] at hs; omega
        rw [if_neg h1]

theorem bad_climb {ns : List Q} {wide high : Int} {k : Nat} {R : List Q} (h : Inv ns wide high k R) (ho : Okay ns) (hu : usesB ns = true) :
    ∀ i, i ≤ k → i < ns.length → Bad ns i (nth R i) → Bad ns 0 (nth R 0) := by
  intro i
  induction i using Nat.strongRecOn with
  | ind i ih =>
    intro hk hi hb
    by_cases h0 : i = 0
    · subst h0; exact hb
    · obtain ⟨p, hp, hs, hc⟩ := parent_of ho hu (by omega) hi
      refine ih p hp (by omega) (by omega) ?_
      refine Bad.up hs (h.partA p (by omega) (by omega) hs) (h.partB p (by omega) (by omega) hs) ?_
      rcases hc with hc | hc
      · left; rw [hc, Int.toNat_natCast]; exact hb
      · right; rw [hc, Int.toNat_natCast]; exact hb

theorem runR_none {ns : List Q} {wide high : Int} (ho : Okay ns) (hu : usesB ns = true) (hw : inR wide 1 200 = true) (hh : inR high 1 200 = true) :
    ∀ (d k : Nat) (R : List Q), k + d = ns.length → Inv ns wide high k R → runR k (ns.drop k) R = none → Bad ns 0 (whole wide high)
  | 0, k, R, hd, h, hr => by
    have e : k = ns.length := by omega
    subst e
    rw [List.drop_length] at hr
    unfold runR at hr
    cases hr
  | d + 1, k, R, hd, h, hr => by
    have hk : k < ns.length := by omega
    rw [List.drop_eq_getElem_cons hk, ← nth_eq hk] at hr
    unfold runR at hr
    cases hs : stepR (nth ns k) k R with
    | some R1 =>
      rw [hs] at hr
      exact runR_none ho hu hw hh d (k + 1) R1 (by omega) (h.step ho hu hk hs) hr
    | none =>
      unfold stepR at hs
      simp only at hs
      by_cases hsp : isSplitB (nth ns k) = true
      · rw [if_pos hsp] at hs
        by_cases hr' : inR (nth ns k).x2 1 (roomQ { nth R k with x0 := (nth ns k).x1 } (nth ns k).x0 - 2) = true
        · rw [if_pos hr'] at hs; cases hs
        · have hg := h.good ho hu hw hh k (Nat.le_refl _) hk
          have hb : Bad ns k (nth R k) := Bad.room hsp ⟨hg.2.1, hg.2.2.2.1⟩ (Bool.eq_false_iff.2 hr')
          have := bad_climb h ho hu k (Nat.le_refl _) hk hb
          exact fun f s hg => this f s (hg.trans h.root.symm)
      · rw [if_neg hsp] at hs; cases hs

/-- the nodes from i on, in depth, A before B -/
def dfs (ns : List Q) : Nat → Nat → List Nat
  | 0, _ => []
  | f + 1, i => i :: (if isSplitB (nth ns i) = true then dfs ns f (nth ns i).x3.toNat ++ dfs ns f (nth ns i).x4.toNat else [])
def leafB (ns : List Q) (i : Nat) : Bool := !isSplitB (nth ns i)
/-- the places of the panes from node i on -/
def leaves (ns R : List Q) (f i : Nat) : List Q := ((dfs ns f i).filter (leafB ns)).map (nth R)

theorem leaves_leaf {ns R : List Q} {f i : Nat} (h : isSplitB (nth ns i) = false) : leaves ns R (f + 1) i = [nth R i] := by
  simp [leaves, dfs, h, leafB]
theorem leaves_split {ns R : List Q} {f i : Nat} (h : isSplitB (nth ns i) = true) : leaves ns R (f + 1) i = leaves ns R f (nth ns i).x3.toNat ++ leaves ns R f (nth ns i).x4.toNat := by
  simp [leaves, dfs, h, leafB]

theorem rcOf_leaves {ns : List Q} {wide high : Int} {R : List Q} (h : Inv ns wide high ns.length R) (ho : Okay ns) (hu : usesB ns = true) (hw : inR wide 1 200 = true) (hh : inR high 1 200 = true) :
    ∀ (f i : Nat) (s : Q), ns.length ≤ i + f → i < ns.length → Geo s (nth R i) → rcOf ns f i s = (leaves ns R f i, true)
  | 0, i, s, hf, hi, hg => by omega
  | f + 1, i, s, hf, hi, hg => by
    have hgd := h.good ho hu hw hh i (by omega) hi
    have hgs := hgd.geo hg
    unfold rcOf
    rw [if_neg (by unfold Good at hgs; omega)]
    cases hsp : isSplitB (nth ns i)
    · have hl := (ho i hi).leaf hsp
      rw [if_pos hl.1, leaves_leaf hsp]
      have e := h.own i hi hi
      have : ({ s with x0 := (nth ns i).x1 } : Q) = nth R i := by
        rw [← e]
        obtain ⟨g1, g2, g3, g4⟩ := hg
        cases hq : nth R i
        rw [hq] at g1 g2 g3 g4
        simp_all
      rw [this]
    · have hb := (ho i hi).split hsp
      have hr := h.room i hi hi hsp
      have hz : inR (nth ns i).x2 0 200 = true := by
        obtain ⟨k1, k2⟩ := inR_iff.1 hr
        unfold roomQ at k2
        unfold Good at hgd
        refine inR_iff.2 ?_
        by_cases h2 : (nth ns i).x0 = 2
        · rw [if_pos h2] at k2; omega
        · rw [if_neg h2] at k2; omega
      rw [if_neg (by omega), if_pos hz, leaves_split hsp,
        rcOf_leaves h ho hu hw hh f _ _ (by omega) (by omega) (hg.partA.trans (h.partA i hi hi hsp).symm),
        rcOf_leaves h ho hu hw hh f _ _ (by omega) (by omega) (hg.partB.trans (h.partB i hi hi hsp).symm)]
      rfl

/-- a place has a cell -/
def inQ (r : Q) (c w : Int) : Bool := inR c r.x1 (r.x1 + r.x3 - 1) && inR w r.x2 (r.x2 + r.x4 - 1)
theorem inQ_iff (r : Q) (c w : Int) : inQ r c w = true ↔ (r.x1 ≤ c ∧ c < r.x1 + r.x3) ∧ (r.x2 ≤ w ∧ w < r.x2 + r.x4) := by
  simp only [inQ, inR, Bool.and_eq_true, decide_eq_true_eq]; omega
theorem inQ_geo {r s : Q} (h : Geo r s) (c w : Int) : inQ r c w = inQ s c w := by
  unfold inQ; rw [h.1, h.2.1, h.2.2.1, h.2.2.2]
theorem inQ_part {n r : Q} (hg : Good r) (hk : inR n.x2 1 (roomQ r n.x0 - 2) = true) (c w : Int) :
    (inQ (partA n r) c w = true → inQ r c w = true) ∧ (inQ (partB n r) c w = true → inQ r c w = true) ∧ ¬ (inQ (partA n r) c w = true ∧ inQ (partB n r) c w = true) := by
  obtain ⟨k1, k2⟩ := inR_iff.1 hk
  unfold roomQ at k2
  unfold Good at hg
  simp only [inQ_iff]
  unfold partA partB
  by_cases h2 : n.x0 = 2
  · rw [if_pos h2] at k2; simp only [if_pos h2]; omega
  · rw [if_neg h2] at k2; simp only [if_neg h2]; omega

theorem leaf_in {ns : List Q} {wide high : Int} {R : List Q} (h : Inv ns wide high ns.length R) (ho : Okay ns) (hu : usesB ns = true) (hw : inR wide 1 200 = true) (hh : inR high 1 200 = true) (c w : Int) :
    ∀ (f i : Nat), i < ns.length → ∀ r ∈ leaves ns R f i, inQ r c w = true → inQ (nth R i) c w = true
  | 0, i, hi, r, hr, _ => by simp [leaves, dfs] at hr
  | f + 1, i, hi, r, hr, hc => by
    cases hsp : isSplitB (nth ns i)
    · rw [leaves_leaf hsp] at hr
      simp at hr
      rw [← hr]
      exact hc
    · rw [leaves_split hsp] at hr
      have hb := (ho i hi).split hsp
      have hp := inQ_part (h.good ho hu hw hh i (by omega) hi) (h.room i hi hi hsp) c w
      rcases List.mem_append.1 hr with hr | hr
      · have := leaf_in h ho hu hw hh c w f _ (by omega) r hr hc
        rw [inQ_geo (h.partA i hi hi hsp)] at this
        exact hp.1 this
      · have := leaf_in h ho hu hw hh c w f _ (by omega) r hr hc
        rw [inQ_geo (h.partB i hi hi hsp)] at this
        exact hp.2.1 this

/-- the pane of the first place that has the cell, or the border -/
def hitOf : List Q → Int → Int → Int
  | [], _, _ => -1
  | r :: t, c, w => if inQ r c w = true then r.x0 else hitOf t c w
theorem hitOf_append (l m : List Q) (c w : Int) : hitOf (l ++ m) c w = if (l.any fun r => inQ r c w) = true then hitOf l c w else hitOf m c w := by
  induction l with
  | nil => rfl
  | cons r t ih =>
    simp only [List.cons_append, hitOf, List.any_cons, ih]
    by_cases h : inQ r c w = true
    · simp [h]
    · simp [h]
theorem hitOf_none (l : List Q) (c w : Int) (h : (l.any fun r => inQ r c w) = false) : hitOf l c w = -1 := by
  induction l with
  | nil => rfl
  | cons r t ih =>
    simp only [List.any_cons, Bool.or_eq_false_iff] at h
    unfold hitOf
    rw [if_neg (by rw [h.1]; simp), ih h.2]
/-- the program's way: down from node i -/
def down (ns R : List Q) (c w : Int) : Nat → Nat → Int
  | 0, _ => -1
  | f + 1, i =>
    if isSplitB (nth ns i) = true then
      if inQ (nth R (nth ns i).x3.toNat) c w = true then down ns R c w f (nth ns i).x3.toNat
      else if inQ (nth R (nth ns i).x4.toNat) c w = true then down ns R c w f (nth ns i).x4.toNat
      else -1
    else (nth ns i).x1

theorem down_hit {ns : List Q} {wide high : Int} {R : List Q} (h : Inv ns wide high ns.length R) (ho : Okay ns) (hu : usesB ns = true) (hw : inR wide 1 200 = true) (hh : inR high 1 200 = true) (c w : Int) :
    ∀ (f i : Nat), ns.length ≤ i + f → i < ns.length → inQ (nth R i) c w = true → down ns R c w f i = hitOf (leaves ns R f i) c w
  | 0, i, hf, hi, _ => by omega
  | f + 1, i, hf, hi, hc => by
    unfold down
    cases hsp : isSplitB (nth ns i)
    · rw [leaves_leaf hsp, if_neg (by simp)]
      unfold hitOf
      rw [if_pos hc, h.own i hi hi]
    · rw [leaves_split hsp, if_pos rfl]
      have hb := (ho i hi).split hsp
      have hp := inQ_part (h.good ho hu hw hh i (by omega) hi) (h.room i hi hi hsp) c w
      rw [← inQ_geo (h.partA i hi hi hsp), ← inQ_geo (h.partB i hi hi hsp)] at hp
      have hno : ∀ j, j < ns.length → ¬ inQ (nth R j) c w = true → (leaves ns R f j).any (fun r => inQ r c w) = false := fun j hj hn => by
        rw [Bool.eq_false_iff]
        intro ha
        rw [List.any_eq_true] at ha
        obtain ⟨r, hr, hrc⟩ := ha
        exact hn (leaf_in h ho hu hw hh c w f j hj r hr hrc)
      by_cases h1 : inQ (nth R (nth ns i).x3.toNat) c w = true
      · have h2 : ¬ inQ (nth R (nth ns i).x4.toNat) c w = true := fun h2 => hp.2.2 ⟨h1, h2⟩
        rw [if_pos h1, hitOf_append, down_hit h ho hu hw hh c w f _ (by omega) (by omega) h1]
        split
        · rfl
        · rename_i hz
          rw [hitOf_none _ _ _ (by simpa using hz), hitOf_none _ _ _ (hno _ (by omega) h2)]
      · have hn1 := hno (nth ns i).x3.toNat (by omega) h1
        rw [if_neg h1, hitOf_append, hn1]
        by_cases h2 : inQ (nth R (nth ns i).x4.toNat) c w = true
        · rw [if_pos h2, down_hit h ho hu hw hh c w f _ (by omega) (by omega) h2]
          rfl
        · rw [if_neg h2]
          exact (hitOf_none _ _ _ (hno _ (by omega) h2)).symm

/-- no cell lies in two places -/
theorem leaves_apart {ns : List Q} {wide high : Int} {R : List Q} (h : Inv ns wide high ns.length R) (ho : Okay ns) (hu : usesB ns = true) (hw : inR wide 1 200 = true) (hh : inR high 1 200 = true) (c w : Int) :
    ∀ (f i : Nat), i < ns.length → (leaves ns R f i).Pairwise fun r s => ¬ (inQ r c w = true ∧ inQ s c w = true)
  | 0, i, hi => by simp [leaves, dfs]
  | f + 1, i, hi => by
    cases hsp : isSplitB (nth ns i)
    · rw [leaves_leaf hsp]; simp
    · rw [leaves_split hsp]
      have hb := (ho i hi).split hsp
      have hp := inQ_part (h.good ho hu hw hh i (by omega) hi) (h.room i hi hi hsp) c w
      rw [← inQ_geo (h.partA i hi hi hsp), ← inQ_geo (h.partB i hi hi hsp)] at hp
      refine List.pairwise_append.2 ⟨leaves_apart h ho hu hw hh c w f _ (by omega), leaves_apart h ho hu hw hh c w f _ (by omega), fun r hr s hs ⟨h1, h2⟩ => hp.2.2 ⟨?_, ?_⟩⟩
      · exact leaf_in h ho hu hw hh c w f _ (by omega) r hr h1
      · exact leaf_in h ho hu hw hh c w f _ (by omega) s hs h2

/-- a part of a node in depth is there too -/
theorem dfs_kid {ns : List Q} (ho : Okay ns) : ∀ (f i : Nat), ns.length ≤ i + f → i < ns.length → ∀ p ∈ dfs ns f i, isSplitB (nth ns p) = true → (nth ns p).x3.toNat ∈ dfs ns f i ∧ (nth ns p).x4.toNat ∈ dfs ns f i
  | 0, i, hf, hi => by omega
  | f + 1, i, hf, hi => by
    intro p hp hs
    have hhead : ∀ g j, ns.length ≤ j + g → j < ns.length → j ∈ dfs ns g j := fun g j h1 h2 => by
      cases g with
      | zero => omega
      | succ g => simp [dfs]
    unfold dfs at hp ⊢
    rcases List.mem_cons.1 hp with rfl | hp
    · have hb := (ho p hi).split hs
      rw [if_pos hs]
      exact ⟨List.mem_cons_of_mem _ (List.mem_append.2 (.inl (hhead f _ (by omega) (by omega)))), List.mem_cons_of_mem _ (List.mem_append.2 (.inr (hhead f _ (by omega) (by omega))))⟩
    · by_cases hsi : isSplitB (nth ns i) = true
      · have hb := (ho i hi).split hsi
        rw [if_pos hsi] at hp ⊢
        rcases List.mem_append.1 hp with hp | hp
        · have := dfs_kid ho f _ (by omega) (by omega) p hp hs
          exact ⟨List.mem_cons_of_mem _ (List.mem_append.2 (.inl this.1)), List.mem_cons_of_mem _ (List.mem_append.2 (.inl this.2))⟩
        · have := dfs_kid ho f _ (by omega) (by omega) p hp hs
          exact ⟨List.mem_cons_of_mem _ (List.mem_append.2 (.inr this.1)), List.mem_cons_of_mem _ (List.mem_append.2 (.inr this.2))⟩
      · rw [if_neg hsi] at hp; simp at hp

theorem dfs_all {ns : List Q} (ho : Okay ns) (hu : usesB ns = true) : ∀ i, i < ns.length → i ∈ dfs ns ns.length 0 := by
  intro i
  induction i using Nat.strongRecOn with
  | ind i ih =>
    intro hi
    by_cases h0 : i = 0
    · subst h0
      have : ns.length = (ns.length - 1) + 1 := by omega
      rw [this]
      simp [dfs]
    · obtain ⟨p, hp, hs, hc⟩ := parent_of ho hu (by omega) hi
      have := dfs_kid ho ns.length 0 (by omega) (by omega) p (ih p hp (by omega)) hs
      rcases hc with hc | hc
      · rw [hc, Int.toNat_natCast] at this; exact this.1
      · rw [hc, Int.toNat_natCast] at this; exact this.2

theorem dfs_lt {ns : List Q} (ho : Okay ns) : ∀ (f i : Nat), i < ns.length → ∀ p ∈ dfs ns f i, p < ns.length
  | 0, i, hi => by simp [dfs]
  | f + 1, i, hi => by
    intro p hp
    unfold dfs at hp
    rcases List.mem_cons.1 hp with rfl | hp
    · exact hi
    · by_cases hsi : isSplitB (nth ns i) = true
      · have hb := (ho i hi).split hsi
        rw [if_pos hsi] at hp
        rcases List.mem_append.1 hp with hp | hp
        · exact dfs_lt ho f _ (by omega) p hp
        · exact dfs_lt ho f _ (by omega) p hp
      · rw [if_neg hsi] at hp; simp at hp

/-- a pane is a node's -/
def hasB (ns : List Q) (p : Int) : Bool := ns.any fun n => n.x0 == 1 && n.x1 == p

theorem has_leaf {ns : List Q} {wide high : Int} {R : List Q} (h : Inv ns wide high ns.length R) (ho : Okay ns) (hu : usesB ns = true) (h0 : 0 < ns.length) (p : Int) :
    ((leaves ns R ns.length 0).any fun r => r.x0 == p) = hasB ns p := by
  rw [Bool.eq_iff_iff, List.any_eq_true]
  unfold hasB
  rw [List.any_eq_true]
  constructor
  · rintro ⟨r, hr, hp⟩
    unfold leaves at hr
    obtain ⟨i, hi, rfl⟩ := List.mem_map.1 hr
    obtain ⟨hi, hl⟩ := List.mem_filter.1 hi
    have hlt := dfs_lt ho ns.length 0 h0 i hi
    have hs : isSplitB (nth ns i) = false := by simpa [leafB] using hl
    have := (ho i hlt).leaf hs
    refine ⟨nth ns i, by rw [nth_eq hlt]; exact List.getElem_mem _, ?_⟩
    rw [h.own i hlt hlt] at hp
    simp [this.1, eq_of_beq hp]
  · rintro ⟨n, hn, hp⟩
    obtain ⟨i, hi, rfl⟩ := List.mem_iff_getElem.1 hn
    rw [← nth_eq hi] at hp
    simp only [Bool.and_eq_true, beq_iff_eq] at hp
    have hs : isSplitB (nth ns i) = false := by simp [isSplitB, hp.1]
    refine ⟨nth R i, ?_, ?_⟩
    · unfold leaves
      exact List.mem_map.2 ⟨i, List.mem_filter.2 ⟨dfs_all ho hu i hi, by simp [leafB, hs]⟩, rfl⟩
    · rw [h.own i hi hi]; simp [hp.2]

/-! the whole layout -/

structure Ly where
  wide : Int
  high : Int
  nodes : List Q

/-- the places of a layout's panes -/
def lyRects (x : Ly) : List Q := (rcOf x.nodes x.nodes.length 0 (whole x.wide x.high)).1
def lyFits (x : Ly) : Bool := (rcOf x.nodes x.nodes.length 0 (whole x.wide x.high)).2
def lyFault (x : Ly) : Int :=
  if inR x.nodes.length 1 11 = true then
    if inR x.wide 1 200 = true ∧ inR x.high 1 200 = true then
      if ndsFault x.nodes.length 0 x.nodes = 0 then
        if treeB x.nodes = true then (if lyFits x = true then 0 else 3) else 7
      else ndsFault x.nodes.length 0 x.nodes
    else 3
  else 2

/-- a layout whose nodes make a tree -/
structure Tree (x : Ly) : Prop where
  n0 : 0 < x.nodes.length
  n1 : x.nodes.length ≤ 11
  wide : inR x.wide 1 200 = true
  high : inR x.high 1 200 = true
  okay : Okay x.nodes
  uses : usesB x.nodes = true
  once : (panes x.nodes).Nodup

theorem tree_of {x : Ly} (h1 : inR x.nodes.length 1 11 = true) (h2 : inR x.wide 1 200 = true ∧ inR x.high 1 200 = true) (h3 : ndsFault x.nodes.length 0 x.nodes = 0) (h4 : treeB x.nodes = true) : Tree x := by
  simp only [inR, Bool.and_eq_true, decide_eq_true_eq] at h1
  simp only [treeB, Bool.and_eq_true, decide_eq_true_eq] at h4
  exact ⟨by omega, by omega, h2.1, h2.2, okay_of h3, h4.1, h4.2⟩

def lyRun (x : Ly) : Option (List Q) := runR 0 x.nodes (startR x.nodes.length x.wide x.high)

theorem Tree.some {x : Ly} (h : Tree x) {R : List Q} (hr : lyRun x = Option.some R) : Inv x.nodes x.wide x.high x.nodes.length R :=
  runR_some h.okay h.uses x.nodes.length 0 _ R (by omega) (Inv.start _ _ _ h.n0) (by simpa [lyRun] using hr)
theorem Tree.run {x : Ly} (h : Tree x) : (lyRun x).isSome = lyFits x := by
  cases hr : lyRun x with
  | none =>
    have := runR_none h.okay h.uses h.wide h.high x.nodes.length 0 _ (by omega) (Inv.start _ _ _ h.n0) (by simpa [lyRun] using hr)
    unfold lyFits
    rw [this _ _ (Geo.refl _)]
    rfl
  | some R =>
    have hi := h.some hr
    unfold lyFits
    rw [rcOf_leaves hi h.okay h.uses h.wide h.high _ 0 _ (by omega) h.n0 hi.root.symm]
    rfl
theorem Tree.rects {x : Ly} (h : Tree x) {R : List Q} (hr : lyRun x = Option.some R) : lyRects x = leaves x.nodes R x.nodes.length 0 := by
  have hi := h.some hr
  unfold lyRects
  rw [rcOf_leaves hi h.okay h.uses h.wide h.high _ 0 _ (by omega) h.n0 hi.root.symm]

theorem tree_of_fault {x : Ly} (h : lyFault x = 0) : Tree x ∧ lyFits x = true := by
  unfold lyFault at h
  split at h
  · split at h
    · split at h
      · split at h
        · split at h
          · exact ⟨tree_of ‹_› ‹_› ‹_› ‹_›, ‹_›⟩
          · omega
        · omega
      · exact absurd h ‹_›
    · omega
  · omega

theorem run_of_fault {x : Ly} (h : lyFault x = 0) : ∃ R, lyRun x = Option.some R ∧ Tree x ∧ Inv x.nodes x.wide x.high x.nodes.length R := by
  obtain ⟨ht, hf⟩ := tree_of_fault h
  have := ht.run
  rw [hf] at this
  obtain ⟨R, hR⟩ := Option.isSome_iff_exists.1 this
  exact ⟨R, hR, ht, ht.some hR⟩

end Go.Proofs.Ytbfickdgjgbfhaa

/- The walks of IsSpecial, of the model's and of the program's, and of the law over both. -/
namespace Go.Proofs.Ytbfickdgjgbfhaa
open Go.RowKit

def special (c : Int) : Bool := inR c 2000001 2000014






end Go.Proofs.Ytbfickdgjgbfhaa
