/- Contracts of the small number functions of chapter 1: l1In, isWithin, areZero. -/
import Derived.Test.YtbfickdgjgbfhaaProg
import Derived.WalkKit
import Derived.Outline
import Derived.Lib.Hide
namespace Go.Proofs.Ytbfickdgjgbfhaa
open Go.RowKit

/-- a guard whose own operation was passed over says neither yes nor no -/
theorem yielded_undef : yielded.match_1 (fun _ => Option Bool) (some undef) (fun b => some b) (fun _ => none) = none := rfl
attribute [go_sem] yielded_undef

/-- a number lies in one of the ranges that the bounds, taken in pairs, give -/
def within (v : Int) : List Int → Bool
  | a :: b :: r => (decide (a ≤ v) && decide (v ≤ b)) || within v r
  | _ => false

theorem within_drop (v : Int) (bs : List Int) (k : Nat) (h : k + 1 < bs.length) :
    within v (bs.drop k) = ((decide (bs.getD k 0 ≤ v) && decide (v ≤ bs.getD (k + 1) 0)) || within v (bs.drop (k + 2))) := by
  have e1 : bs.drop k = bs.getD k 0 :: bs.getD (k + 1) 0 :: bs.drop (k + 2) := by
    rw [List.drop_eq_getElem_cons (by omega), List.drop_eq_getElem_cons h]
    simp [List.getD_eq_getElem?_getD, List.getElem?_eq_getElem h, List.getElem?_eq_getElem (show k < bs.length by omega)]
  rw [e1]; rfl

theorem within_end (v : Int) (bs : List Int) (k : Nat) (h : ¬ k + 1 < bs.length) : within v (bs.drop k) = false := by
  have hl : (bs.drop k).length ≤ 1 := by simp; omega
  match hd : bs.drop k, hl with
  | [], _ => rfl
  | [_], _ => rfl

/-- v lies from a to b -/
def inR (v a b : Int) : Bool := decide (a ≤ v) && decide (v ≤ b)

theorem ret_bool {a b : Bool} (h : a = b) : Ending.returned (.bool a) = .returned (.bool b) := by rw [h]
theorem ret_int {k : IntKind} {a b : Int} (h : a = b) : Ending.returned (.int k a) = .returned (.int k b) := by rw [h]

set_option maxHeartbeats 400000 in
theorem l1In_any (v a b : Int) (w : World) :
    Calls Try.prog 52 #[.int .i64 v, .int .i64 a, .int .i64 b] w fun e w' => e = .returned (.bool (inR v a b)) ∧ w = w' := by
  by_cases h1 : a ≤ v
  · go_enter Try.func52, Try.ntmps52
    go_wp2
    all_goals
      go_ret
      exact ⟨ret_bool (by simp [inR, *]), rfl⟩
  · go_enter Try.func52, Try.ntmps52
    go_wp2
    go_ret
    exact ⟨ret_bool (by simp [inR]; omega), rfl⟩

set_option maxHeartbeats 800000 in
theorem isWithin_any (v : Int) (b off n c : Nat) (bs : List Int) (w : World) (hn : bs.length = n) (hm : n ≤ 1000)
    (hc : ∀ i, i < n → w.cell? ⟨b, off + i, none⟩ = some (.int .i64 (bs.getD i 0))) :
    Calls Try.prog 74 #[.int .i64 v, .slice (some ⟨b, off, none⟩) n c] w fun e w' => e = .returned (.bool (within v bs)) ∧ w = w' := by
  have HN := Lib.hid hn
  have HC := Lib.hid hc
  clear hn hc
  go_enter Try.func74, Try.ntmps74
  go_wp2
  go_loop [5] (fun i => ∃ k : Nat, k ≤ n + 1 ∧ i = .int .i64 (k + 1 : Nat) ∧ within v bs = within v (bs.drop k)) (fun i => n + 3 - (intOf i).toNat)
  case atStart => exact ⟨0, by omega, rfl, rfl⟩
  case round =>
    obtain ⟨k, hk, rfl, hw⟩ := hrel
    have HW := Lib.hid hw
    clear hw
    by_cases hlt : k + 1 < n
    · have c0 := HC.out k (by omega)
      have c1 := HC.out (k + 1) hlt
      have HS := Lib.hid (within_drop v bs k (by rw [HN.out]; exact hlt))
      have hlt2 : ((k + 1 : Nat) : Int) < (n : Int) := by omega
      go_wp2
      · have h1 : bs[k]?.getD 0 ≤ v := by assumption
        have h2 : v ≤ bs[k + 1]?.getD 0 := by assumption
        go_ret
        exact ⟨ret_bool (by rw [HW.out, HS.out]; simp [h1, h2]), rfl⟩
      · have h2 : bs[k + 1]?.getD 0 < v := by assumption
        exact ⟨⟨k + 2, by omega, by go_num, by rw [HW.out, HS.out]; simp; omega⟩, by simp [intOf]; omega⟩
      · have h1 : ¬ bs[k]?.getD 0 ≤ v := by assumption
        exact ⟨⟨k + 2, by omega, by go_num, by rw [HW.out, HS.out]; simp [h1]⟩, by simp [intOf]; omega⟩
    · have HE := Lib.hid (within_end v bs k (by rw [HN.out]; exact hlt))
      have hlt2 : ¬ ((k + 1 : Nat) : Int) < (n : Int) := by omega
      go_wp2
      go_ret
      exact ⟨ret_bool (by rw [HW.out, HE.out]), rfl⟩

/-- every number of the list is 0 -/
def zeros (l : List Int) : Bool := l.all (· == 0)

theorem zeros_take (l : List Int) (k : Nat) (h : k < l.length) : zeros (l.take (k + 1)) = (zeros (l.take k) && (l[k]?.getD 0 == 0)) := by
  unfold zeros
  rw [List.take_succ_eq_append_getElem h, List.all_append]
  simp [List.getElem?_eq_getElem h]

theorem zeros_no (l : List Int) (k : Nat) (h : k < l.length) (hz : (l[k]?.getD 0 == 0) = false) : zeros l = false := by
  rw [List.getElem?_eq_getElem h] at hz
  simp [zeros]
  exact ⟨_, List.getElem_mem h, by simpa using hz⟩

set_option maxHeartbeats 800000 in
theorem areZero_any (b off n c : Nat) (bs : List Int) (w : World) (hn : bs.length = n) (hm : n ≤ 1000)
    (hc : ∀ i, i < n → w.cell? ⟨b, off + i, none⟩ = some (.int .i64 (bs.getD i 0))) :
    Calls Try.prog 109 #[.slice (some ⟨b, off, none⟩) n c] w fun e w' => e = .returned (.bool (zeros bs)) ∧ w = w' := by
  have HN := Lib.hid hn
  have HC := Lib.hid hc
  clear hn hc
  go_enter Try.func109, Try.ntmps109
  go_wp2
  go_loop [4, 7] (fun _ i => ∃ k : Nat, k ≤ n ∧ i = .int .i64 k ∧ zeros (bs.take k) = true) (fun _ i => n - (intOf i).toNat)
  case atStart => exact ⟨0, by omega, rfl, rfl⟩
  case round =>
    obtain ⟨k, hk, rfl, hw⟩ := hrel
    have HW := Lib.hid hw
    clear hw
    by_cases hlt : k < n
    · have c0 := HC.out k (by omega)
      have HS := Lib.hid (zeros_take bs k (by rw [HN.out]; exact hlt))
      have HZ := Lib.hid (zeros_no bs k (by rw [HN.out]; exact hlt))
      cases hz : (bs[k]?.getD 0 == 0) with
      | true =>
        have hz' : (bs[k]?.getD 0 != 0) = false := by rw [bne, hz]; rfl
        go_wp2
        exact ⟨⟨k + 1, by omega, by go_num, by rw [HS.out, HW.out, hz]; rfl⟩, by simp [intOf]; omega⟩
      | false =>
        have hz' : (bs[k]?.getD 0 != 0) = true := by rw [bne, hz]; rfl
        go_wp2
        go_ret
        exact ⟨ret_bool (by rw [HZ.out hz]), rfl⟩
    · go_wp2
      go_ret
      exact ⟨ret_bool (by have hh := HW.out; rw [List.take_of_length_le (by rw [HN.out]; omega)] at hh; rw [hh]), rfl⟩

theorem cells_two (w : World) (x y : Int) (t : TypeId) :
    ∀ i, i < 2 → (w.alloc (.cells #[.int .i64 x, .int .i64 y] t)).cell? ⟨w.heap.size, 0 + i, none⟩ = some (.int .i64 ([x, y].getD i 0)) := by
  intro i hi
  match i, hi with
  | 0, _ => simp
  | 1, _ => simp

theorem cells_four (w : World) (x y z u : Int) (t : TypeId) :
    ∀ i, i < 4 → (w.alloc (.cells #[.int .i64 x, .int .i64 y, .int .i64 z, .int .i64 u] t)).cell? ⟨w.heap.size, 0 + i, none⟩ = some (.int .i64 ([x, y, z, u].getD i 0)) := by
  intro i hi
  match i, hi with
  | 0, _ => simp
  | 1, _ => simp
  | 2, _ => simp
  | 3, _ => simp

theorem cells_six (w : World) (x y z u v q : Int) (t : TypeId) :
    ∀ i, i < 6 → (w.alloc (.cells #[.int .i64 x, .int .i64 y, .int .i64 z, .int .i64 u, .int .i64 v, .int .i64 q] t)).cell? ⟨w.heap.size, 0 + i, none⟩ = some (.int .i64 ([x, y, z, u, v, q].getD i 0)) := by
  intro i hi
  match i, hi with
  | 0, _ => simp
  | 1, _ => simp
  | 2, _ => simp
  | 3, _ => simp
  | 4, _ => simp
  | 5, _ => simp

theorem isWithin_two (v a b : Int) (w : World) (t : TypeId) (g : Nat) (hg : g = w.heap.size) :
    Calls Try.prog 74 #[.int .i64 v, .slice (some ⟨g, 0, none⟩) 2 2] (w.alloc (.cells #[.int .i64 a, .int .i64 b] t))
      fun e w' => e = .returned (.bool (inR v a b)) ∧ w.alloc (.cells #[.int .i64 a, .int .i64 b] t) = w' := by
  subst hg
  exact (isWithin_any v _ 0 2 2 [a, b] _ rfl (by omega) (cells_two w a b t)).mono fun _ _ ⟨he, hw⟩ => ⟨by rw [he]; simp [within, inR], hw⟩

theorem isWithin_four (v a b c d : Int) (w : World) (t : TypeId) (g : Nat) (hg : g = w.heap.size) :
    Calls Try.prog 74 #[.int .i64 v, .slice (some ⟨g, 0, none⟩) 4 4] (w.alloc (.cells #[.int .i64 a, .int .i64 b, .int .i64 c, .int .i64 d] t))
      fun e w' => e = .returned (.bool (inR v a b || inR v c d)) ∧ w.alloc (.cells #[.int .i64 a, .int .i64 b, .int .i64 c, .int .i64 d] t) = w' := by
  subst hg
  exact (isWithin_any v _ 0 4 4 [a, b, c, d] _ rfl (by omega) (cells_four w a b c d t)).mono fun _ _ ⟨he, hw⟩ => ⟨by rw [he]; simp [within, inR], hw⟩

theorem areZero_four (a b c d : Int) (w : World) (t : TypeId) (g : Nat) (hg : g = w.heap.size) :
    Calls Try.prog 109 #[.slice (some ⟨g, 0, none⟩) 4 4] (w.alloc (.cells #[.int .i64 a, .int .i64 b, .int .i64 c, .int .i64 d] t))
      fun e w' => e = .returned (.bool (zeros [a, b, c, d])) ∧ w.alloc (.cells #[.int .i64 a, .int .i64 b, .int .i64 c, .int .i64 d] t) = w' := by
  subst hg
  exact areZero_any _ 0 4 4 [a, b, c, d] _ rfl (by omega) (cells_four w a b c d t)

theorem areZero_six (a b c d x y : Int) (w : World) (t : TypeId) (g : Nat) (hg : g = w.heap.size) :
    Calls Try.prog 109 #[.slice (some ⟨g, 0, none⟩) 6 6] (w.alloc (.cells #[.int .i64 a, .int .i64 b, .int .i64 c, .int .i64 d, .int .i64 x, .int .i64 y] t))
      fun e w' => e = .returned (.bool (zeros [a, b, c, d, x, y])) ∧ w.alloc (.cells #[.int .i64 a, .int .i64 b, .int .i64 c, .int .i64 d, .int .i64 x, .int .i64 y] t) = w' := by
  subst hg
  exact areZero_any _ 0 6 6 [a, b, c, d, x, y] _ rfl (by omega) (cells_six w a b c d x y t)

end Go.Proofs.Ytbfickdgjgbfhaa

/- Layouts as data: nodes, places, the faults of a layout, its places, and why the program's way and the model's come to the same. Plain facts. -/
namespace Go.Proofs.Ytbfickdgjgbfhaa
open Go.RowKit
set_option linter.unusedVariables false

theorem inR_iff {v a b : Int} : inR v a b = true ↔ a ≤ v ∧ v ≤ b := by simp [inR]

/-- five numbers: a node (kind, pane, first, a, b) or a place (pane, col, row, wide, high) -/
structure Q where
  x0 : Int
  x1 : Int
  x2 : Int
  x3 : Int
  x4 : Int

def q0 : Q := ⟨0, 0, 0, 0, 0⟩
def nth (l : List Q) (i : Nat) : Q := l.getD i q0
theorem nth_eq {l : List Q} {i : Nat} (h : i < l.length) : nth l i = l[i] := by simp [nth, List.getD_eq_getElem?_getD, h]
theorem nth_set {l : List Q} {i j : Nat} {x : Q} (h : j < l.length) : nth (l.set i x) j = if i = j then x else nth l j := by
  rw [nth_eq (by simpa using h), nth_eq h, List.getElem_set]

def isSplitB (n : Q) : Bool := n.x0 == 2 || n.x0 == 3

/-- the fault of the node n at i, of m nodes -/
def ndFault (n : Q) (i m : Int) : Int :=
  if n.x0 = 1 then (if n.x2 = 0 ∧ n.x3 = 0 ∧ n.x4 = 0 then (if inR n.x1 0 5 = true then 0 else 3) else 1)
  else if n.x0 = 2 ∨ n.x0 = 3 then (if n.x1 = 0 then (if inR n.x3 (i + 1) (m - 1) = true ∧ inR n.x4 (i + 1) (m - 1) = true then 0 else 3) else 1)
  else 1

/-- the first fault of the nodes from i on -/
def ndsFault (m : Int) : Nat → List Q → Int
  | _, [] => 0
  | i, n :: r => if ndFault n i m = 0 then ndsFault m (i + 1) r else ndFault n i m

/-- a node without a fault -/
def NdOk (n : Q) (i m : Nat) : Prop :=
  (n.x0 = 1 ∧ n.x2 = 0 ∧ n.x3 = 0 ∧ n.x4 = 0 ∧ 0 ≤ n.x1 ∧ n.x1 ≤ 5) ∨ ((n.x0 = 2 ∨ n.x0 = 3) ∧ n.x1 = 0 ∧ (i : Int) < n.x3 ∧ n.x3 < m ∧ (i : Int) < n.x4 ∧ n.x4 < m)

theorem ndFault_ok {n : Q} {i m : Nat} (h : ndFault n i m = 0) : NdOk n i m := by
  unfold ndFault at h
  unfold NdOk
  simp only [inR, Bool.and_eq_true, decide_eq_true_eq] at h
  by_cases h1 : n.x0 = 1
  · rw [if_pos h1] at h
    by_cases h2 : n.x2 = 0 ∧ n.x3 = 0 ∧ n.x4 = 0
    · rw [if_pos h2] at h
      by_cases h3 : 0 ≤ n.x1 ∧ n.x1 ≤ 5
      · exact .inl ⟨h1, h2.1, h2.2.1, h2.2.2, h3.1, h3.2⟩
      · rw [if_neg h3] at h; omega
    · rw [if_neg h2] at h; omega
  · rw [if_neg h1] at h
    by_cases h2 : n.x0 = 2 ∨ n.x0 = 3
    · rw [if_pos h2] at h
      by_cases h3 : n.x1 = 0
      · rw [if_pos h3] at h
        by_cases h4 : (((i : Int) + 1 ≤ n.x3 ∧ n.x3 ≤ (m : Int) - 1) ∧ ((i : Int) + 1 ≤ n.x4 ∧ n.x4 ≤ (m : Int) - 1))
        · exact .inr ⟨h2, h3, by omega, by omega, by omega, by omega⟩
        · rw [if_neg h4] at h; omega
      · rw [if_neg h3] at h; omega
    · rw [if_neg h2] at h; omega

/-- every node is without a fault -/
def Okay (ns : List Q) : Prop := ∀ i, i < ns.length → NdOk (nth ns i) i ns.length

theorem nth_drop (l : List Q) (k i : Nat) : nth (l.drop k) i = nth l (k + i) := by simp [nth, List.getD_eq_getElem?_getD]

theorem ndsFault_ok (m : Nat) : ∀ (l : List Q) (k : Nat), ndsFault m k l = 0 → ∀ i, i < l.length → NdOk (nth l i) (k + i) m
  | [], _, _, i, hi => by simp at hi
  | n :: r, k, h, i, hi => by
    unfold ndsFault at h
    by_cases h0 : ndFault n k m = 0
    · rw [if_pos h0] at h
      cases i with
      | zero => exact ndFault_ok h0
      | succ i =>
        have := ndsFault_ok m r (k + 1) h i (by simpa using hi)
        have e : k + 1 + i = k + (i + 1) := by omega
        rw [e] at this
        exact this
    · rw [if_neg h0] at h
      exact absurd h h0

theorem okay_of {ns : List Q} (h : ndsFault ns.length 0 ns = 0) : Okay ns := fun i hi => by
  have := ndsFault_ok ns.length ns 0 h i hi
  rwa [Nat.zero_add] at this

theorem NdOk.leaf {n : Q} {i m : Nat} (h : NdOk n i m) (hs : isSplitB n = false) : n.x0 = 1 ∧ n.x2 = 0 ∧ n.x3 = 0 ∧ n.x4 = 0 ∧ 0 ≤ n.x1 ∧ n.x1 ≤ 5 := by
  rcases h with h | ⟨h, _⟩
  · exact h
  · simp [isSplitB] at hs; omega
theorem NdOk.split {n : Q} {i m : Nat} (h : NdOk n i m) (hs : isSplitB n = true) : (n.x0 = 2 ∨ n.x0 = 3) ∧ n.x1 = 0 ∧ (i : Int) < n.x3 ∧ n.x3 < m ∧ (i : Int) < n.x4 ∧ n.x4 < m := by
  rcases h with h | h
  · simp [isSplitB] at hs; omega
  · exact h

/-- the nodes that a node has as its parts -/
def kid (n : Q) : List Int := if isSplitB n then [n.x3, n.x4] else []
def kids (ns : List Q) : List Int := ns.flatMap kid
/-- how often node j is a part -/
def usesOf (ns : List Q) (j : Nat) : Nat := (kids ns).count (j : Int)
def usesB (ns : List Q) : Bool := (List.range ns.length).all fun j => j == 0 || usesOf ns j == 1
/-- the panes of the nodes -/
def panes (ns : List Q) : List Int := (ns.filter fun n => !isSplitB n).map Q.x1
def treeB (ns : List Q) : Bool := usesB ns && decide (panes ns).Nodup

theorem uses_one {ns : List Q} (h : usesB ns = true) {j : Nat} (h0 : 0 < j) (hj : j < ns.length) : usesOf ns j = 1 := by
  unfold usesB at h
  rw [List.all_eq_true] at h
  have := h j (List.mem_range.2 hj)
  simp at this
  omega

theorem parent_of {ns : List Q} (ho : Okay ns) (h : usesB ns = true) {j : Nat} (h0 : 0 < j) (hj : j < ns.length) :
    ∃ p, p < j ∧ isSplitB (nth ns p) = true ∧ ((nth ns p).x3 = j ∨ (nth ns p).x4 = j) := by
  have h1 := uses_one h h0 hj
  have hm : (j : Int) ∈ kids ns := List.count_pos_iff.1 (by unfold usesOf at h1; omega)
  unfold kids at hm
  rw [List.mem_flatMap] at hm
  obtain ⟨n, hn, hk⟩ := hm
  obtain ⟨p, hp, rfl⟩ := List.mem_iff_getElem.1 hn
  rw [← nth_eq hp] at hk
  unfold kid at hk
  split at hk
  · rename_i hs
    have := (ho p hp).split hs
    simp at hk
    refine ⟨p, by omega, hs, ?_⟩
    rcases hk with hk | hk
    · exact .inl hk.symm
    · exact .inr hk.symm
  · simp at hk

theorem count_two {ns : List Q} {i j : Nat} (hij : i < j) (hj : j < ns.length) {c : Int} (h1 : c ∈ kid (nth ns i)) (h2 : c ∈ kid (nth ns j)) : 2 ≤ (kids ns).count c := by
  have e : ns = ns.take j ++ ns[j] :: ns.drop (j + 1) := by rw [← List.drop_eq_getElem_cons hj, List.take_append_drop]
  have e2 : kids ns = kids (ns.take j) ++ (kid ns[j] ++ kids (ns.drop (j + 1))) := by
    conv => lhs; rw [e]
    unfold kids
    rw [List.flatMap_append, List.flatMap_cons]
  rw [e2, List.count_append, List.count_append]
  rw [nth_eq hj] at h2
  have p2 := List.count_pos_iff.2 h2
  have p1 : c ∈ kids (ns.take j) := by
    unfold kids
    rw [List.mem_flatMap]
    refine ⟨nth ns i, ?_, h1⟩
    rw [nth_eq (Nat.lt_trans hij hj)]
    exact List.mem_iff_getElem.2 ⟨i, by simp; omega, by simp⟩
  have := List.count_pos_iff.2 p1
  omega

theorem kid_mem {n : Q} (hs : isSplitB n = true) : n.x3 ∈ kid n ∧ n.x4 ∈ kid n := by simp [kid, hs]

/-- parts of two nodes are two nodes -/
theorem kids_ne {ns : List Q} (ho : Okay ns) (h : usesB ns = true) {i j : Nat} (hi : i < ns.length) (hj : j < ns.length) (hij : i ≠ j) {c : Int} (h1 : c ∈ kid (nth ns i)) : c ∉ kid (nth ns j) := by
  intro h2
  have hc : 2 ≤ (kids ns).count c := by
    rcases Nat.lt_or_ge i j with hlt | hge
    · exact count_two hlt hj h1 h2
    · exact count_two (by omega) hi h2 h1
  have hs : isSplitB (nth ns i) = true := by
    cases h' : isSplitB (nth ns i)
    · simp [kid, h'] at h1
    · rfl
  have hb := (ho i hi).split hs
  have hc0 : (i : Int) < c ∧ c < ns.length := by
    simp [kid, hs] at h1
    omega
  have h1 := uses_one h (j := c.toNat) (by omega) (by omega)
  unfold usesOf at h1
  rw [Int.toNat_of_nonneg (by omega)] at h1
  omega

theorem parts_ne {ns : List Q} (ho : Okay ns) (h : usesB ns = true) {i : Nat} (hi : i < ns.length) (hs : isSplitB (nth ns i) = true) : (nth ns i).x3 ≠ (nth ns i).x4 := by
  intro e
  have hb := (ho i hi).split hs
  have h1 := uses_one h (j := (nth ns i).x3.toNat) (by omega) (by omega)
  unfold usesOf at h1
  rw [Int.toNat_of_nonneg (by omega)] at h1
  have e1 : ns = ns.take i ++ ns[i] :: ns.drop (i + 1) := by rw [← List.drop_eq_getElem_cons hi, List.take_append_drop]
  have e2 : kids ns = kids (ns.take i) ++ (kid ns[i] ++ kids (ns.drop (i + 1))) := by
    conv => lhs; rw [e1]
    unfold kids
    rw [List.flatMap_append, List.flatMap_cons]
  rw [e2, List.count_append, List.count_append, ← nth_eq hi] at h1
  have : kid (nth ns i) = [(nth ns i).x3, (nth ns i).x3] := by rw [kid, if_pos hs, ← e]
  rw [this] at h1
  simp at h1
  omega

/-! places -/

def partA (n r : Q) : Q := if n.x0 = 2 then ⟨r.x0, r.x1, r.x2, n.x2, r.x4⟩ else ⟨r.x0, r.x1, r.x2, r.x3, n.x2⟩
def partB (n r : Q) : Q := if n.x0 = 2 then ⟨r.x0, r.x1 + (n.x2 + 1), r.x2, r.x3 - (n.x2 + 1), r.x4⟩ else ⟨r.x0, r.x1, r.x2 + (n.x2 + 1), r.x3, r.x4 - (n.x2 + 1)⟩
def roomQ (r : Q) (k : Int) : Int := if k = 2 then r.x3 else r.x4

/-- the model's way: the places of the panes from a node on, and whether each place is one -/
def rcOf (ns : List Q) : Nat → Nat → Q → List Q × Bool
  | 0, _, _ => ([], false)
  | f + 1, i, r =>
    if r.x3 < 1 ∨ r.x4 < 1 then ([], false)
    else if (nth ns i).x0 = 1 then ([{ r with x0 := (nth ns i).x1 }], true)
    else if inR (nth ns i).x2 0 200 = true then
      ((rcOf ns f (nth ns i).x3.toNat (partA (nth ns i) r)).1 ++ (rcOf ns f (nth ns i).x4.toNat (partB (nth ns i) r)).1,
       (rcOf ns f (nth ns i).x3.toNat (partA (nth ns i) r)).2 && (rcOf ns f (nth ns i).x4.toNat (partB (nth ns i) r)).2)
    else ([], false)

/-- the program's way: one node's step -/
def stepR (n : Q) (i : Nat) (R : List Q) : Option (List Q) :=
  let r : Q := { nth R i with x0 := n.x1 }
  if isSplitB n = true then
    if inR n.x2 1 (roomQ r n.x0 - 2) = true then some (((R.set i r).set n.x3.toNat (partA n r)).set n.x4.toNat (partB n r)) else none
  else some (R.set i r)
def runR : Nat → List Q → List Q → Option (List Q)
  | _, [], R => some R
  | i, n :: t, R => match stepR n i R with
    | none => none
    | some R' => runR (i + 1) t R'

def whole (wide high : Int) : Q := ⟨0, 0, 0, wide, high⟩
def startR (m : Nat) (wide high : Int) : List Q := (List.replicate m q0).set 0 (whole wide high)

/-- two places are the same but for their panes -/
def Geo (r s : Q) : Prop := r.x1 = s.x1 ∧ r.x2 = s.x2 ∧ r.x3 = s.x3 ∧ r.x4 = s.x4
theorem Geo.refl (r : Q) : Geo r r := ⟨rfl, rfl, rfl, rfl⟩
theorem Geo.trans {a b c : Q} (h : Geo a b) (k : Geo b c) : Geo a c := ⟨h.1.trans k.1, h.2.1.trans k.2.1, h.2.2.1.trans k.2.2.1, h.2.2.2.trans k.2.2.2⟩
theorem Geo.symm {a b : Q} (h : Geo a b) : Geo b a := ⟨h.1.symm, h.2.1.symm, h.2.2.1.symm, h.2.2.2.symm⟩
theorem Geo.partA {n r s : Q} (h : Geo r s) : Geo (partA n r) (partA n s) := by
  obtain ⟨h1, h2, h3, h4⟩ := h
  unfold Go.Proofs.Ytbfickdgjgbfhaa.partA Geo
  split <;> simp [*]
theorem Geo.partB {n r s : Q} (h : Geo r s) : Geo (partB n r) (partB n s) := by
  obtain ⟨h1, h2, h3, h4⟩ := h
  unfold Go.Proofs.Ytbfickdgjgbfhaa.partB Geo
  split <;> simp [*]

/-- a place of at least one cell, within the greatest screen -/
def Good (r : Q) : Prop := 1 ≤ r.x3 ∧ r.x3 ≤ 200 ∧ 1 ≤ r.x4 ∧ r.x4 ≤ 200 ∧ 0 ≤ r.x1 ∧ r.x1 + r.x3 ≤ 200 ∧ 0 ≤ r.x2 ∧ r.x2 + r.x4 ≤ 200
theorem Good.geo {r s : Q} (h : Good r) (g : Geo s r) : Good s := by
  obtain ⟨h1, h2, h3, h4⟩ := g
  unfold Good at *
  rw [h1, h2, h3, h4]
  exact h
theorem Good.partA {n r : Q} (h : Good r) (hk : inR n.x2 1 (roomQ r n.x0 - 2) = true) : Good (partA n r) := by
  obtain ⟨k1, k2⟩ := inR_iff.1 hk
  unfold roomQ at k2
  unfold Good at *
  unfold Go.Proofs.Ytbfickdgjgbfhaa.partA
  by_cases h2 : n.x0 = 2
  · rw [if_pos h2] at k2 ⊢; refine ⟨?_, ?_, ?_, ?_, ?_, ?_, ?_, ?_⟩ <;> simp only <;> omega
  · rw [if_neg h2] at k2 ⊢; refine ⟨?_, ?_, ?_, ?_, ?_, ?_, ?_, ?_⟩ <;> simp only <;> omega
theorem Good.partB {n r : Q} (h : Good r) (hk : inR n.x2 1 (roomQ r n.x0 - 2) = true) : Good (partB n r) := by
  obtain ⟨k1, k2⟩ := inR_iff.1 hk
  unfold roomQ at k2
  unfold Good at *
  unfold Go.Proofs.Ytbfickdgjgbfhaa.partB
  by_cases h2 : n.x0 = 2
  · rw [if_pos h2] at k2 ⊢; refine ⟨?_, ?_, ?_, ?_, ?_, ?_, ?_, ?_⟩ <;> simp only <;> omega
  · rw [if_neg h2] at k2 ⊢; refine ⟨?_, ?_, ?_, ?_, ?_, ?_, ?_, ?_⟩ <;> simp only <;> omega

/-- what holds behind k nodes -/
structure Inv (ns : List Q) (wide high : Int) (k : Nat) (R : List Q) : Prop where
  len : R.length = ns.length
  root : Geo (nth R 0) (whole wide high)
  own : ∀ i, i < k → i < ns.length → (nth R i).x0 = (nth ns i).x1
  room : ∀ i, i < k → i < ns.length → isSplitB (nth ns i) = true → inR (nth ns i).x2 1 (roomQ (nth R i) (nth ns i).x0 - 2) = true
  partA : ∀ i, i < k → i < ns.length → isSplitB (nth ns i) = true → Geo (nth R (nth ns i).x3.toNat) (Go.Proofs.Ytbfickdgjgbfhaa.partA (nth ns i) (nth R i))
  partB : ∀ i, i < k → i < ns.length → isSplitB (nth ns i) = true → Geo (nth R (nth ns i).x4.toNat) (Go.Proofs.Ytbfickdgjgbfhaa.partB (nth ns i) (nth R i))

theorem Inv.start (ns : List Q) (wide high : Int) (h : 0 < ns.length) : Inv ns wide high 0 (startR ns.length wide high) := by
  refine ⟨by simp [startR], ?_, fun i hi => by omega, fun i hi => by omega, fun i hi => by omega, fun i hi => by omega⟩
  unfold startR
  rw [nth_set (by simpa using h), if_pos rfl]
  exact Geo.refl _

theorem Inv.good {ns : List Q} {wide high : Int} {k : Nat} {R : List Q} (h : Inv ns wide high k R) (ho : Okay ns) (hu : usesB ns = true) (hw : inR wide 1 200 = true) (hh : inR high 1 200 = true) :
    ∀ i, i ≤ k → i < ns.length → Good (nth R i) := by
  intro i
  induction i using Nat.strongRecOn with
  | ind i ih =>
    intro hk hi
    by_cases h0 : i = 0
    · subst h0
      refine Good.geo ?_ h.root
      simp only [inR, Bool.and_eq_true, decide_eq_true_eq] at hw hh
      unfold Good whole
      refine ⟨?_, ?_, ?_, ?_, ?_, ?_, ?_, ?_⟩ <;> simp only <;> omega
    · obtain ⟨p, hp, hs, hc⟩ := parent_of ho hu (by omega) hi
      have hg := ih p hp (by omega) (by omega)
      have hr := h.room p (by omega) (by omega) hs
      rcases hc with hc | hc
      · have := h.partA p (by omega) (by omega) hs
        rw [hc, Int.toNat_natCast] at this
        exact (hg.partA hr).geo this
      · have := h.partB p (by omega) (by omega) hs
        rw [hc, Int.toNat_natCast] at this
        exact (hg.partB hr).geo this

theorem Inv.step {ns : List Q} {wide high : Int} {k : Nat} {R R' : List Q} (h : Inv ns wide high k R) (ho : Okay ns) (hu : usesB ns = true) (hk : k < ns.length) (hs : stepR (nth ns k) k R = some R') :
    Inv ns wide high (k + 1) R' := by
  have hl := h.len
  unfold stepR at hs
  simp only at hs
  have hroom : ∀ (r : Q) (x : Int), roomQ { r with x0 := x } = roomQ r := fun r x => rfl
  by_cases hsp : isSplitB (nth ns k) = true
  · rw [if_pos hsp] at hs
    by_cases hr : inR (nth ns k).x2 1 (roomQ { nth R k with x0 := (nth ns k).x1 } (nth ns k).x0 - 2) = true
    · rw [if_pos hr] at hs
      have hs := (Option.some.inj hs).symm
      have hb := (ho k hk).split hsp
      have hne := parts_ne ho hu hk hsp
      -- what R' holds
      have hget : ∀ j, j < ns.length → nth R' j = if (nth ns k).x4.toNat = j then Go.Proofs.Ytbfickdgjgbfhaa.partB (nth ns k) { nth R k with x0 := (nth ns k).x1 } else if (nth ns k).x3.toNat = j then Go.Proofs.Ytbfickdgjgbfhaa.partA (nth ns k) { nth R k with x0 := (nth ns k).x1 } else if k = j then { nth R k with x0 := (nth ns k).x1 } else nth R j := by
        intro j hj
        rw [hs, nth_set (by simp; omega), nth_set (by simp; omega), nth_set (by omega)]
      have hk' : nth R' k = { nth R k with x0 := (nth ns k).x1 } := by
        rw [hget k hk, if_neg (by omega), if_neg (by omega), if_pos rfl]
      have hold : ∀ j, j < k → nth R' j = nth R j := fun j hj => by
        rw [hget j (by omega), if_neg (by omega), if_neg (by omega), if_neg (by omega)]
      -- a part of an earlier node
      have hpart : ∀ i, i < k → ∀ c : Int, c ∈ kid (nth ns i) → (i : Int) < c → c < ns.length → Geo (nth R' c.toNat) (nth R c.toNat) := by
        intro i hi c hc h1 h2
        have hno := kids_ne ho hu (by omega) hk (by omega : i ≠ k) hc
        simp only [kid, hsp, if_true, List.mem_cons, List.not_mem_nil, or_false, not_or] at hno
        rw [hget _ (by omega), if_neg (by omega), if_neg (by omega)]
        split
        · rename_i e; rw [← e]; exact ⟨rfl, rfl, rfl, rfl⟩
        · exact Geo.refl _
      refine ⟨by rw [hs]; simpa using hl, ?_, ?_, ?_, ?_, ?_⟩
      · rw [hget 0 (by omega), if_neg (by omega), if_neg (by omega)]
        split
        · rename_i e; subst e; exact ⟨h.root.1, h.root.2.1, h.root.2.2.1, h.root.2.2.2⟩
        · exact h.root
      · intro i hi hil
        by_cases e : i = k
        · subst e; rw [hk']
        · rw [hold i (by omega)]; exact h.own i (by omega) hil
      · intro i hi hil his
        by_cases e : i = k
        · subst e; rw [hk', hroom] at *; exact hr
        · rw [hold i (by omega)]; exact h.room i (by omega) hil his
      · intro i hi hil his
        have hbi := (ho i hil).split his
        by_cases e : i = k
        · subst e
          rw [hget _ (by omega), if_neg (by omega), if_pos rfl, hk']
          exact Geo.refl _
        · rw [hold i (by omega)]
          exact (hpart i (by omega) _ (kid_mem his).1 hbi.2.2.1 hbi.2.2.2.1).trans (h.partA i (by omega) hil his)
      · intro i hi hil his
        have hbi := (ho i hil).split his
        by_cases e : i = k
        · subst e
          rw [hget _ (by omega), if_pos rfl, hk']
          exact Geo.refl _
        · rw [hold i (by omega)]
          exact (hpart i (by omega) _ (kid_mem his).2 hbi.2.2.2.2.1 hbi.2.2.2.2.2).trans (h.partB i (by omega) hil his)
    · rw [if_neg hr] at hs; cases hs
  · rw [if_neg hsp] at hs
    have hs := (Option.some.inj hs).symm
    have hget : ∀ j, j < ns.length → nth R' j = if k = j then { nth R k with x0 := (nth ns k).x1 } else nth R j := by
      intro j hj
      rw [hs, nth_set (by omega)]
    have hgeo : ∀ j, j < ns.length → Geo (nth R' j) (nth R j) := fun j hj => by
      rw [hget j hj]
      split
      · rename_i e; rw [← e]; exact ⟨rfl, rfl, rfl, rfl⟩
      · exact Geo.refl _
    refine ⟨by rw [hs]; simpa using hl, (hgeo 0 (by omega)).trans h.root, ?_, ?_, ?_, ?_⟩
    · intro i hi hil
      rw [hget i hil]
      split
      · rename_i e; subst e; rfl
      · exact h.own i (by omega) hil
    · intro i hi hil his
      have e : i ≠ k := fun e => by subst e; exact hsp his
      rw [hget i hil, if_neg (Ne.symm e)]
      exact h.room i (by omega) hil his
    · intro i hi hil his
      have hbi := (ho i hil).split his
      have e : i ≠ k := fun e => by subst e; exact hsp his
      rw [hget i hil, if_neg (Ne.symm e)]
      exact (hgeo _ (by omega)).trans (h.partA i (by omega) hil his)
    · intro i hi hil his
      have hbi := (ho i hil).split his
      have e : i ≠ k := fun e => by subst e; exact hsp his
      rw [hget i hil, if_neg (Ne.symm e)]
      exact (hgeo _ (by omega)).trans (h.partB i (by omega) hil his)

theorem runR_some {ns : List Q} {wide high : Int} (ho : Okay ns) (hu : usesB ns = true) :
    ∀ (d k : Nat) (R R' : List Q), k + d = ns.length → Inv ns wide high k R → runR k (ns.drop k) R = some R' → Inv ns wide high ns.length R'
  | 0, k, R, R', hd, h, hr => by
    have e : k = ns.length := by omega
    subst e
    rw [List.drop_length] at hr
    unfold runR at hr
    cases hr
    exact h
  | d + 1, k, R, R', hd, h, hr => by
    have hk : k < ns.length := by omega
    rw [List.drop_eq_getElem_cons hk, ← nth_eq hk] at hr
    unfold runR at hr
    cases hs : stepR (nth ns k) k R with
    | none => rw [hs] at hr; cases hr
    | some R1 =>
      rw [hs] at hr
      exact runR_some ho hu d (k + 1) R1 R' (by omega) (h.step ho hu hk hs) hr

/-- the node's place is none of the model's -/
def Bad (ns : List Q) (i : Nat) (r : Q) : Prop := ∀ f s, Geo s r → (rcOf ns f i s).2 = false

theorem Bad.small {ns : List Q} {i : Nat} {r : Q} (h : r.x3 < 1 ∨ r.x4 < 1) : Bad ns i r := by
  intro f s hg
  cases f with
  | zero => rfl
  | succ f =>
    unfold rcOf
    rw [if_pos (by rw [hg.2.2.1, hg.2.2.2]; exact h)]

theorem Bad.up {ns : List Q} {p : Nat} {r a b : Q} (hs : isSplitB (nth ns p) = true) (ha : Geo a (partA (nth ns p) r)) (hb : Geo b (partB (nth ns p) r))
    (h : Bad ns (nth ns p).x3.toNat a ∨ Bad ns (nth ns p).x4.toNat b) : Bad ns p r := by
  intro f s hg
  cases f with
  | zero => rfl
  | succ f =>
    unfold rcOf
    split
    · rfl
    · have h1 : ¬ (nth ns p).x0 = 1 := by simp [isSplitB] at hs; omega
      rw [if_neg h1]
      split
      · show (_ && _) = false
        rcases h with h | h
        · rw [h f _ (hg.partA.trans ha.symm)]; rfl
        · rw [h f _ (hg.partB.trans hb.symm), Bool.and_false]
      · rfl

theorem Bad.room {ns : List Q} {p : Nat} {r : Q} (hs : isSplitB (nth ns p) = true) (hr : r.x3 ≤ 200 ∧ r.x4 ≤ 200) (h : inR (nth ns p).x2 1 (roomQ r (nth ns p).x0 - 2) = false) : Bad ns p r := by
  by_cases h2 : inR (nth ns p).x2 0 200 = true
  · refine Bad.up hs (Geo.refl _) (Geo.refl _) ?_
    simp only [inR, Bool.and_eq_true, decide_eq_true_eq] at h2
    have h : ¬ (1 ≤ (nth ns p).x2 ∧ (nth ns p).x2 ≤ roomQ r (nth ns p).x0 - 2) := fun h' => by rw [inR_iff.2 h'] at h; cases h
    by_cases hA : (nth ns p).x2 < 1
    · refine .inl (Bad.small ?_)
      unfold partA
      split
      · exact .inl hA
      · exact .inr hA
    · refine .inr (Bad.small ?_)
      unfold roomQ at h
      unfold partB
      by_cases hk : (nth ns p).x0 = 2
      · rw [if_pos hk] at h ⊢; left; simp only; omega
      · rw [if_neg hk] at h ⊢; right; simp only; omega
  · intro f s hg
    cases f with
    | zero => rfl
    | succ f =>
      unfold rcOf
      split
      · rfl
      · have h1 : ¬ (nth ns p).x0 = 1 := by simp [isSplitB] at hs; omega
        rw [if_neg h1]

theorem bad_climb {ns : List Q} {wide high : Int} {k : Nat} {R : List Q} (h : Inv ns wide high k R) (ho : Okay ns) (hu : usesB ns = true) :
    ∀ i, i ≤ k → i < ns.length → Bad ns i (nth R i) → Bad ns 0 (nth R 0) := by
  intro i
  induction i using Nat.strongRecOn with
  | ind i ih =>
    intro hk hi hb
    by_cases h0 : i = 0
    · subst h0; exact hb
    · obtain ⟨p, hp, hs, hc⟩ := parent_of ho hu (by omega) hi
      refine ih p hp (by omega) (by omega) ?_
      refine Bad.up hs (h.partA p (by omega) (by omega) hs) (h.partB p (by omega) (by omega) hs) ?_
      rcases hc with hc | hc
      · left; rw [hc, Int.toNat_natCast]; exact hb
      · right; rw [hc, Int.toNat_natCast]; exact hb

theorem runR_none {ns : List Q} {wide high : Int} (ho : Okay ns) (hu : usesB ns = true) (hw : inR wide 1 200 = true) (hh : inR high 1 200 = true) :
    ∀ (d k : Nat) (R : List Q), k + d = ns.length → Inv ns wide high k R → runR k (ns.drop k) R = none → Bad ns 0 (whole wide high)
  | 0, k, R, hd, h, hr => by
    have e : k = ns.length := by omega
    subst e
    rw [List.drop_length] at hr
    unfold runR at hr
    cases hr
  | d + 1, k, R, hd, h, hr => by
    have hk : k < ns.length := by omega
    rw [List.drop_eq_getElem_cons hk, ← nth_eq hk] at hr
    unfold runR at hr
    cases hs : stepR (nth ns k) k R with
    | some R1 =>
      rw [hs] at hr
      exact runR_none ho hu hw hh d (k + 1) R1 (by omega) (h.step ho hu hk hs) hr
    | none =>
      unfold stepR at hs
      simp only at hs
      by_cases hsp : isSplitB (nth ns k) = true
      · rw [if_pos hsp] at hs
        by_cases hr' : inR (nth ns k).x2 1 (roomQ { nth R k with x0 := (nth ns k).x1 } (nth ns k).x0 - 2) = true
        · rw [if_pos hr'] at hs; cases hs
        · have hg := h.good ho hu hw hh k (Nat.le_refl _) hk
          have hb : Bad ns k (nth R k) := Bad.room hsp ⟨hg.2.1, hg.2.2.2.1⟩ (Bool.eq_false_iff.2 hr')
          have := bad_climb h ho hu k (Nat.le_refl _) hk hb
          exact fun f s hg => this f s (hg.trans h.root.symm)
      · rw [if_neg hsp] at hs; cases hs

/-- the nodes from i on, in depth, A before B -/
def dfs (ns : List Q) : Nat → Nat → List Nat
  | 0, _ => []
  | f + 1, i => i :: (if isSplitB (nth ns i) = true then dfs ns f (nth ns i).x3.toNat ++ dfs ns f (nth ns i).x4.toNat else [])
def leafB (ns : List Q) (i : Nat) : Bool := !isSplitB (nth ns i)
/-- the places of the panes from node i on -/
def leaves (ns R : List Q) (f i : Nat) : List Q := ((dfs ns f i).filter (leafB ns)).map (nth R)

theorem leaves_leaf {ns R : List Q} {f i : Nat} (h : isSplitB (nth ns i) = false) : leaves ns R (f + 1) i = [nth R i] := by
  simp [leaves, dfs, h, leafB]
theorem leaves_split {ns R : List Q} {f i : Nat} (h : isSplitB (nth ns i) = true) : leaves ns R (f + 1) i = leaves ns R f (nth ns i).x3.toNat ++ leaves ns R f (nth ns i).x4.toNat := by
  simp [leaves, dfs, h, leafB]

theorem rcOf_leaves {ns : List Q} {wide high : Int} {R : List Q} (h : Inv ns wide high ns.length R) (ho : Okay ns) (hu : usesB ns = true) (hw : inR wide 1 200 = true) (hh : inR high 1 200 = true) :
    ∀ (f i : Nat) (s : Q), ns.length ≤ i + f → i < ns.length → Geo s (nth R i) → rcOf ns f i s = (leaves ns R f i, true)
  | 0, i, s, hf, hi, hg => by omega
  | f + 1, i, s, hf, hi, hg => by
    have hgd := h.good ho hu hw hh i (by omega) hi
    have hgs := hgd.geo hg
    unfold rcOf
    rw [if_neg (by unfold Good at hgs; omega)]
    cases hsp : isSplitB (nth ns i)
    · have hl := (ho i hi).leaf hsp
      rw [if_pos hl.1, leaves_leaf hsp]
      have e := h.own i hi hi
      have : ({ s with x0 := (nth ns i).x1 } : Q) = nth R i := by
        rw [← e]
        obtain ⟨g1, g2, g3, g4⟩ := hg
        cases hq : nth R i
        rw [hq] at g1 g2 g3 g4
        simp_all
      rw [this]
    · have hb := (ho i hi).split hsp
      have hr := h.room i hi hi hsp
      have hz : inR (nth ns i).x2 0 200 = true := by
        obtain ⟨k1, k2⟩ := inR_iff.1 hr
        unfold roomQ at k2
        unfold Good at hgd
        refine inR_iff.2 ?_
        by_cases h2 : (nth ns i).x0 = 2
        · rw [if_pos h2] at k2; omega
        · rw [if_neg h2] at k2; omega
      rw [if_neg (by omega), if_pos hz, leaves_split hsp,
        rcOf_leaves h ho hu hw hh f _ _ (by omega) (by omega) (hg.partA.trans (h.partA i hi hi hsp).symm),
        rcOf_leaves h ho hu hw hh f _ _ (by omega) (by omega) (hg.partB.trans (h.partB i hi hi hsp).symm)]
      rfl

/-- a place has a cell -/
def inQ (r : Q) (c w : Int) : Bool := inR c r.x1 (r.x1 + r.x3 - 1) && inR w r.x2 (r.x2 + r.x4 - 1)
theorem inQ_iff (r : Q) (c w : Int) : inQ r c w = true ↔ (r.x1 ≤ c ∧ c < r.x1 + r.x3) ∧ (r.x2 ≤ w ∧ w < r.x2 + r.x4) := by
  simp only [inQ, inR, Bool.and_eq_true, decide_eq_true_eq]; omega
theorem inQ_geo {r s : Q} (h : Geo r s) (c w : Int) : inQ r c w = inQ s c w := by
  unfold inQ; rw [h.1, h.2.1, h.2.2.1, h.2.2.2]
theorem inQ_part {n r : Q} (hg : Good r) (hk : inR n.x2 1 (roomQ r n.x0 - 2) = true) (c w : Int) :
    (inQ (partA n r) c w = true → inQ r c w = true) ∧ (inQ (partB n r) c w = true → inQ r c w = true) ∧ ¬ (inQ (partA n r) c w = true ∧ inQ (partB n r) c w = true) := by
  obtain ⟨k1, k2⟩ := inR_iff.1 hk
  unfold roomQ at k2
  unfold Good at hg
  simp only [inQ_iff]
  unfold partA partB
  by_cases h2 : n.x0 = 2
  · rw [if_pos h2] at k2; simp only [if_pos h2]; omega
  · rw [if_neg h2] at k2; simp only [if_neg h2]; omega

theorem leaf_in {ns : List Q} {wide high : Int} {R : List Q} (h : Inv ns wide high ns.length R) (ho : Okay ns) (hu : usesB ns = true) (hw : inR wide 1 200 = true) (hh : inR high 1 200 = true) (c w : Int) :
    ∀ (f i : Nat), i < ns.length → ∀ r ∈ leaves ns R f i, inQ r c w = true → inQ (nth R i) c w = true
  | 0, i, hi, r, hr, _ => by simp [leaves, dfs] at hr
  | f + 1, i, hi, r, hr, hc => by
    cases hsp : isSplitB (nth ns i)
    · rw [leaves_leaf hsp] at hr
      simp at hr
      rw [← hr]
      exact hc
    · rw [leaves_split hsp] at hr
      have hb := (ho i hi).split hsp
      have hp := inQ_part (h.good ho hu hw hh i (by omega) hi) (h.room i hi hi hsp) c w
      rcases List.mem_append.1 hr with hr | hr
      · have := leaf_in h ho hu hw hh c w f _ (by omega) r hr hc
        rw [inQ_geo (h.partA i hi hi hsp)] at this
        exact hp.1 this
      · have := leaf_in h ho hu hw hh c w f _ (by omega) r hr hc
        rw [inQ_geo (h.partB i hi hi hsp)] at this
        exact hp.2.1 this

/-- the pane of the first place that has the cell, or the border -/
def hitOf : List Q → Int → Int → Int
  | [], _, _ => -1
  | r :: t, c, w => if inQ r c w = true then r.x0 else hitOf t c w
theorem hitOf_append (l m : List Q) (c w : Int) : hitOf (l ++ m) c w = if (l.any fun r => inQ r c w) = true then hitOf l c w else hitOf m c w := by
  induction l with
  | nil => rfl
  | cons r t ih =>
    simp only [List.cons_append, hitOf, List.any_cons, ih]
    by_cases h : inQ r c w = true
    · simp [h]
    · simp [h]
theorem hitOf_none (l : List Q) (c w : Int) (h : (l.any fun r => inQ r c w) = false) : hitOf l c w = -1 := by
  induction l with
  | nil => rfl
  | cons r t ih =>
    simp only [List.any_cons, Bool.or_eq_false_iff] at h
    unfold hitOf
    rw [if_neg (by rw [h.1]; simp), ih h.2]
/-- the program's way: down from node i -/
def down (ns R : List Q) (c w : Int) : Nat → Nat → Int
  | 0, _ => -1
  | f + 1, i =>
    if isSplitB (nth ns i) = true then
      if inQ (nth R (nth ns i).x3.toNat) c w = true then down ns R c w f (nth ns i).x3.toNat
      else if inQ (nth R (nth ns i).x4.toNat) c w = true then down ns R c w f (nth ns i).x4.toNat
      else -1
    else (nth ns i).x1

theorem down_hit {ns : List Q} {wide high : Int} {R : List Q} (h : Inv ns wide high ns.length R) (ho : Okay ns) (hu : usesB ns = true) (hw : inR wide 1 200 = true) (hh : inR high 1 200 = true) (c w : Int) :
    ∀ (f i : Nat), ns.length ≤ i + f → i < ns.length → inQ (nth R i) c w = true → down ns R c w f i = hitOf (leaves ns R f i) c w
  | 0, i, hf, hi, _ => by omega
  | f + 1, i, hf, hi, hc => by
    unfold down
    cases hsp : isSplitB (nth ns i)
    · rw [leaves_leaf hsp, if_neg (by simp)]
      unfold hitOf
      rw [if_pos hc, h.own i hi hi]
    · rw [leaves_split hsp, if_pos rfl]
      have hb := (ho i hi).split hsp
      have hp := inQ_part (h.good ho hu hw hh i (by omega) hi) (h.room i hi hi hsp) c w
      rw [← inQ_geo (h.partA i hi hi hsp), ← inQ_geo (h.partB i hi hi hsp)] at hp
      have hno : ∀ j, j < ns.length → ¬ inQ (nth R j) c w = true → (leaves ns R f j).any (fun r => inQ r c w) = false := fun j hj hn => by
        rw [Bool.eq_false_iff]
        intro ha
        rw [List.any_eq_true] at ha
        obtain ⟨r, hr, hrc⟩ := ha
        exact hn (leaf_in h ho hu hw hh c w f j hj r hr hrc)
      by_cases h1 : inQ (nth R (nth ns i).x3.toNat) c w = true
      · have h2 : ¬ inQ (nth R (nth ns i).x4.toNat) c w = true := fun h2 => hp.2.2 ⟨h1, h2⟩
        rw [if_pos h1, hitOf_append, down_hit h ho hu hw hh c w f _ (by omega) (by omega) h1]
        split
        · rfl
        · rename_i hz
          rw [hitOf_none _ _ _ (by simpa using hz), hitOf_none _ _ _ (hno _ (by omega) h2)]
      · have hn1 := hno (nth ns i).x3.toNat (by omega) h1
        rw [if_neg h1, hitOf_append, hn1]
        by_cases h2 : inQ (nth R (nth ns i).x4.toNat) c w = true
        · rw [if_pos h2, down_hit h ho hu hw hh c w f _ (by omega) (by omega) h2]
          rfl
        · rw [if_neg h2]
          exact (hitOf_none _ _ _ (hno _ (by omega) h2)).symm

/-- no cell lies in two places -/
theorem leaves_apart {ns : List Q} {wide high : Int} {R : List Q} (h : Inv ns wide high ns.length R) (ho : Okay ns) (hu : usesB ns = true) (hw : inR wide 1 200 = true) (hh : inR high 1 200 = true) (c w : Int) :
    ∀ (f i : Nat), i < ns.length → (leaves ns R f i).Pairwise fun r s => ¬ (inQ r c w = true ∧ inQ s c w = true)
  | 0, i, hi => by simp [leaves, dfs]
  | f + 1, i, hi => by
    cases hsp : isSplitB (nth ns i)
    · rw [leaves_leaf hsp]; simp
    · rw [leaves_split hsp]
      have hb := (ho i hi).split hsp
      have hp := inQ_part (h.good ho hu hw hh i (by omega) hi) (h.room i hi hi hsp) c w
      rw [← inQ_geo (h.partA i hi hi hsp), ← inQ_geo (h.partB i hi hi hsp)] at hp
      refine List.pairwise_append.2 ⟨leaves_apart h ho hu hw hh c w f _ (by omega), leaves_apart h ho hu hw hh c w f _ (by omega), fun r hr s hs ⟨h1, h2⟩ => hp.2.2 ⟨?_, ?_⟩⟩
      · exact leaf_in h ho hu hw hh c w f _ (by omega) r hr h1
      · exact leaf_in h ho hu hw hh c w f _ (by omega) s hs h2

/-- a part of a node in depth is there too -/
theorem dfs_kid {ns : List Q} (ho : Okay ns) : ∀ (f i : Nat), ns.length ≤ i + f → i < ns.length → ∀ p ∈ dfs ns f i, isSplitB (nth ns p) = true → (nth ns p).x3.toNat ∈ dfs ns f i ∧ (nth ns p).x4.toNat ∈ dfs ns f i
  | 0, i, hf, hi => by omega
  | f + 1, i, hf, hi => by
    intro p hp hs
    have hhead : ∀ g j, ns.length ≤ j + g → j < ns.length → j ∈ dfs ns g j := fun g j h1 h2 => by
      cases g with
      | zero => omega
      | succ g => simp [dfs]
    unfold dfs at hp ⊢
    rcases List.mem_cons.1 hp with rfl | hp
    · have hb := (ho p hi).split hs
      rw [if_pos hs]
      exact ⟨List.mem_cons_of_mem _ (List.mem_append.2 (.inl (hhead f _ (by omega) (by omega)))), List.mem_cons_of_mem _ (List.mem_append.2 (.inr (hhead f _ (by omega) (by omega))))⟩
    · by_cases hsi : isSplitB (nth ns i) = true
      · have hb := (ho i hi).split hsi
        rw [if_pos hsi] at hp ⊢
        rcases List.mem_append.1 hp with hp | hp
        · have := dfs_kid ho f _ (by omega) (by omega) p hp hs
          exact ⟨List.mem_cons_of_mem _ (List.mem_append.2 (.inl this.1)), List.mem_cons_of_mem _ (List.mem_append.2 (.inl this.2))⟩
        · have := dfs_kid ho f _ (by omega) (by omega) p hp hs
          exact ⟨List.mem_cons_of_mem _ (List.mem_append.2 (.inr this.1)), List.mem_cons_of_mem _ (List.mem_append.2 (.inr this.2))⟩
      · rw [if_neg hsi] at hp; simp at hp

theorem dfs_all {ns : List Q} (ho : Okay ns) (hu : usesB ns = true) : ∀ i, i < ns.length → i ∈ dfs ns ns.length 0 := by
  intro i
  induction i using Nat.strongRecOn with
  | ind i ih =>
    intro hi
    by_cases h0 : i = 0
    · subst h0
      have : ns.length = (ns.length - 1) + 1 := by omega
      rw [this]
      simp [dfs]
    · obtain ⟨p, hp, hs, hc⟩ := parent_of ho hu (by omega) hi
      have := dfs_kid ho ns.length 0 (by omega) (by omega) p (ih p hp (by omega)) hs
      rcases hc with hc | hc
      · rw [hc, Int.toNat_natCast] at this; exact this.1
      · rw [hc, Int.toNat_natCast] at this; exact this.2

theorem dfs_lt {ns : List Q} (ho : Okay ns) : ∀ (f i : Nat), i < ns.length → ∀ p ∈ dfs ns f i, p < ns.length
  | 0, i, hi => by simp [dfs]
  | f + 1, i, hi => by
    intro p hp
    unfold dfs at hp
    rcases List.mem_cons.1 hp with rfl | hp
    · exact hi
    · by_cases hsi : isSplitB (nth ns i) = true
      · have hb := (ho i hi).split hsi
        rw [if_pos hsi] at hp
        rcases List.mem_append.1 hp with hp | hp
        · exact dfs_lt ho f _ (by omega) p hp
        · exact dfs_lt ho f _ (by omega) p hp
      · rw [if_neg hsi] at hp; simp at hp

/-- a pane is a node's -/
def hasB (ns : List Q) (p : Int) : Bool := ns.any fun n => n.x0 == 1 && n.x1 == p

theorem has_leaf {ns : List Q} {wide high : Int} {R : List Q} (h : Inv ns wide high ns.length R) (ho : Okay ns) (hu : usesB ns = true) (h0 : 0 < ns.length) (p : Int) :
    ((leaves ns R ns.length 0).any fun r => r.x0 == p) = hasB ns p := by
  rw [Bool.eq_iff_iff, List.any_eq_true]
  unfold hasB
  rw [List.any_eq_true]
  constructor
  · rintro ⟨r, hr, hp⟩
    unfold leaves at hr
    obtain ⟨i, hi, rfl⟩ := List.mem_map.1 hr
    obtain ⟨hi, hl⟩ := List.mem_filter.1 hi
    have hlt := dfs_lt ho ns.length 0 h0 i hi
    have hs : isSplitB (nth ns i) = false := by simpa [leafB] using hl
    have := (ho i hlt).leaf hs
    refine ⟨nth ns i, by rw [nth_eq hlt]; exact List.getElem_mem _, ?_⟩
    rw [h.own i hlt hlt] at hp
    simp [this.1, eq_of_beq hp]
  · rintro ⟨n, hn, hp⟩
    obtain ⟨i, hi, rfl⟩ := List.mem_iff_getElem.1 hn
    rw [← nth_eq hi] at hp
    simp only [Bool.and_eq_true, beq_iff_eq] at hp
    have hs : isSplitB (nth ns i) = false := by simp [isSplitB, hp.1]
    refine ⟨nth R i, ?_, ?_⟩
    · unfold leaves
      exact List.mem_map.2 ⟨i, List.mem_filter.2 ⟨dfs_all ho hu i hi, by simp [leafB, hs]⟩, rfl⟩
    · rw [h.own i hi hi]; simp [hp.2]

/-! the whole layout -/

structure Ly where
  wide : Int
  high : Int
  nodes : List Q

/-- the places of a layout's panes -/
def lyRects (x : Ly) : List Q := (rcOf x.nodes x.nodes.length 0 (whole x.wide x.high)).1
def lyFits (x : Ly) : Bool := (rcOf x.nodes x.nodes.length 0 (whole x.wide x.high)).2
def lyFault (x : Ly) : Int :=
  if inR x.nodes.length 1 11 = true then
    if inR x.wide 1 200 = true ∧ inR x.high 1 200 = true then
      if ndsFault x.nodes.length 0 x.nodes = 0 then
        if treeB x.nodes = true then (if lyFits x = true then 0 else 3) else 7
      else ndsFault x.nodes.length 0 x.nodes
    else 3
  else 2

/-- a layout whose nodes make a tree -/
structure Tree (x : Ly) : Prop where
  n0 : 0 < x.nodes.length
  n1 : x.nodes.length ≤ 11
  wide : inR x.wide 1 200 = true
  high : inR x.high 1 200 = true
  okay : Okay x.nodes
  uses : usesB x.nodes = true
  once : (panes x.nodes).Nodup

theorem tree_of {x : Ly} (h1 : inR x.nodes.length 1 11 = true) (h2 : inR x.wide 1 200 = true ∧ inR x.high 1 200 = true) (h3 : ndsFault x.nodes.length 0 x.nodes = 0) (h4 : treeB x.nodes = true) : Tree x := by
  simp only [inR, Bool.and_eq_true, decide_eq_true_eq] at h1
  simp only [treeB, Bool.and_eq_true, decide_eq_true_eq] at h4
  exact ⟨by omega, by omega, h2.1, h2.2, okay_of h3, h4.1, h4.2⟩

def lyRun (x : Ly) : Option (List Q) := runR 0 x.nodes (startR x.nodes.length x.wide x.high)

theorem Tree.some {x : Ly} (h : Tree x) {R : List Q} (hr : lyRun x = Option.some R) : Inv x.nodes x.wide x.high x.nodes.length R :=
  runR_some h.okay h.uses x.nodes.length 0 _ R (by omega) (Inv.start _ _ _ h.n0) (by simpa [lyRun] using hr)
theorem Tree.run {x : Ly} (h : Tree x) : (lyRun x).isSome = lyFits x := by
  cases hr : lyRun x with
  | none =>
    have := runR_none h.okay h.uses h.wide h.high x.nodes.length 0 _ (by omega) (Inv.start _ _ _ h.n0) (by simpa [lyRun] using hr)
    unfold lyFits
    rw [this _ _ (Geo.refl _)]
    rfl
  | some R =>
    have hi := h.some hr
    unfold lyFits
    rw [rcOf_leaves hi h.okay h.uses h.wide h.high _ 0 _ (by omega) h.n0 hi.root.symm]
    rfl
theorem Tree.rects {x : Ly} (h : Tree x) {R : List Q} (hr : lyRun x = Option.some R) : lyRects x = leaves x.nodes R x.nodes.length 0 := by
  have hi := h.some hr
  unfold lyRects
  rw [rcOf_leaves hi h.okay h.uses h.wide h.high _ 0 _ (by omega) h.n0 hi.root.symm]

theorem tree_of_fault {x : Ly} (h : lyFault x = 0) : Tree x ∧ lyFits x = true := by
  unfold lyFault at h
  split at h
  · split at h
    · split at h
      · split at h
        · split at h
          · exact ⟨tree_of ‹_› ‹_› ‹_› ‹_›, ‹_›⟩
          · omega
        · omega
      · exact absurd h ‹_›
    · omega
  · omega

theorem run_of_fault {x : Ly} (h : lyFault x = 0) : ∃ R, lyRun x = Option.some R ∧ Tree x ∧ Inv x.nodes x.wide x.high x.nodes.length R := by
  obtain ⟨ht, hf⟩ := tree_of_fault h
  have := ht.run
  rw [hf] at this
  obtain ⟨R, hR⟩ := Option.isSome_iff_exists.1 this
  exact ⟨R, hR, ht, ht.some hR⟩

end Go.Proofs.Ytbfickdgjgbfhaa

/- The walks of IsSpecial, of the model's and of the program's, and of the law over both. -/
namespace Go.Proofs.Ytbfickdgjgbfhaa
open Go.RowKit

def special (c : Int) : Bool := inR c 2000001 2000014






end Go.Proofs.Ytbfickdgjgbfhaa

/- A layout as a tree: its normal form, its places, that no node comes twice in depth. Plain facts. -/
namespace Go.Proofs.Ytbfickdgjgbfhaa
set_option linter.unusedVariables false
set_option linter.unusedSimpArgs false

/-- a layout's nodes as a tree: a pane, or a split (beside: true) with First and both parts -/
inductive Tr where
  | leaf (p : Int)
  | node (k : Bool) (f : Int) (a b : Tr)

def kd (b : Bool) : Int := if b = true then 2 else 3
def lfQ (p : Int) : Q := ⟨1, p, 0, 0, 0⟩
def Tr.size : Tr → Nat
  | .leaf _ => 1
  | .node _ _ a b => 1 + a.size + b.size
def Tr.panes : Tr → List Int
  | .leaf p => [p]
  | .node _ _ a b => a.panes ++ b.panes
/-- the nodes in normal form, numbered from s on -/
def num : Tr → Nat → List Q
  | .leaf p, _ => [lfQ p]
  | .node k f a b, s => ⟨kd k, 0, f, ((s + 1 : Nat) : Int), ((s + 1 + a.size : Nat) : Int)⟩ :: (num a (s + 1) ++ num b (s + 1 + a.size))
/-- the nodes in depth, without their numbers -/
def pre : Tr → List Q
  | .leaf p => [lfQ p]
  | .node k f a b => ⟨kd k, 0, f, 0, 0⟩ :: (pre a ++ pre b)
def strip (q : Q) : Q := if isSplitB q = true then ⟨q.x0, q.x1, q.x2, 0, 0⟩ else q

theorem kd_split (k : Bool) (x1 x2 x3 x4 : Int) : isSplitB ⟨kd k, x1, x2, x3, x4⟩ = true := by cases k <;> simp [isSplitB, kd]
theorem lf_split (p : Int) : isSplitB (lfQ p) = false := by simp [isSplitB, lfQ]
theorem num_len (t : Tr) : ∀ s, (num t s).length = t.size := by
  induction t with
  | leaf p => intro s; rfl
  | node k f a b ia ib => intro s; simp [num, Tr.size, ia, ib]; omega
theorem Tr.size_pos (t : Tr) : 0 < t.size := by cases t <;> simp [Tr.size] <;> omega
theorem num_strip (t : Tr) : ∀ s, (num t s).map strip = pre t := by
  induction t with
  | leaf p => intro s; simp [num, pre, strip, lf_split]
  | node k f a b ia ib => intro s; simp [num, pre, strip, kd_split, ia, ib]
theorem panes_ne (t : Tr) : t.panes ≠ [] := by
  induction t with
  | leaf p => simp [Tr.panes]
  | node k f a b ia ib => simp [Tr.panes, ia]
theorem size_panes (t : Tr) : t.size + 1 = 2 * t.panes.length := by
  induction t with
  | leaf p => rfl
  | node k f a b ia ib => simp only [Tr.size, Tr.panes, List.length_append]; omega

/-! the program's way: the numbers are laid anew from the end on -/

/-- nodes in depth: their numbers laid anew, and the nodes that no split has taken, the foremost one first -/
def lk : Nat → List Q → List Q × List Int
  | _, [] => ([], [])
  | s, q :: t =>
    let r := lk (s + 1) t
    if isSplitB q = true then (⟨q.x0, q.x1, q.x2, r.2.getD 0 0, r.2.getD 1 0⟩ :: r.1, (s : Int) :: r.2.drop 2) else (q :: r.1, (s : Int) :: r.2)
theorem strip_split (q : Q) : isSplitB (strip q) = isSplitB q := by
  unfold strip
  by_cases h : isSplitB q = true
  · rw [if_pos h, h]; simpa [isSplitB] using h
  · rw [if_neg h]
theorem lk_strip (l : List Q) : ∀ s, lk s (l.map strip) = lk s l := by
  induction l with
  | nil => intro s; rfl
  | cons q t ih =>
    intro s
    simp only [List.map_cons, lk, ih, strip_split]
    by_cases h : isSplitB q = true
    · simp [h, strip]
    · simp [h, strip]
theorem lk_pre (t : Tr) : ∀ (s : Nat) (l : List Q), lk s (pre t ++ l) = (num t s ++ (lk (s + t.size) l).1, (s : Int) :: (lk (s + t.size) l).2) := by
  induction t with
  | leaf p => intro s l; simp [pre, lk, lf_split, num, Tr.size]
  | node k f a b ia ib =>
    intro s l
    simp only [pre, List.cons_append, lk, List.append_assoc, ia, ib, kd_split, if_true]
    simp only [num, Tr.size, List.cons_append, List.append_assoc, Prod.mk.injEq]
    rw [show s + (1 + a.size + b.size) = s + 1 + a.size + b.size by omega]
    simp
theorem lk_all {l : List Q} {t : Tr} (h : l.map strip = pre t) : (lk 0 l).1 = num t 0 := by
  rw [← lk_strip, h]
  have := lk_pre t 0 []
  rw [List.append_nil] at this
  rw [this]
  simp [lk]

/-! a layout's nodes make a tree -/

def trOf (ns : List Q) : Nat → Nat → Tr
  | 0, _ => .leaf 0
  | f + 1, i => if isSplitB (nth ns i) = true then .node (decide ((nth ns i).x0 = 2)) (nth ns i).x2 (trOf ns f (nth ns i).x3.toNat) (trOf ns f (nth ns i).x4.toNat) else .leaf (nth ns i).x1

theorem kd_of {n : Q} (h : n.x0 = 2 ∨ n.x0 = 3) : kd (decide (n.x0 = 2)) = n.x0 := by
  rcases h with h | h <;> simp [kd, h]
theorem leaf_is {ns : List Q} (ho : Okay ns) {i : Nat} (hi : i < ns.length) (hs : isSplitB (nth ns i) = false) : nth ns i = lfQ (nth ns i).x1 := by
  have h := (ho i hi).leaf hs
  cases hq : nth ns i
  rw [hq] at h
  simp_all [lfQ]
theorem split_is {ns : List Q} (ho : Okay ns) {i : Nat} (hi : i < ns.length) (hs : isSplitB (nth ns i) = true) : nth ns i = ⟨kd (decide ((nth ns i).x0 = 2)), 0, (nth ns i).x2, (nth ns i).x3, (nth ns i).x4⟩ := by
  have h := (ho i hi).split hs
  rw [kd_of h.1]
  cases hq : nth ns i
  rw [hq] at h
  simp_all
/-- more rounds turn nothing -/
theorem trOf_fuel {ns : List Q} (ho : Okay ns) : ∀ (f g i : Nat), ns.length ≤ i + f → ns.length ≤ i + g → i < ns.length → trOf ns f i = trOf ns g i
  | 0, g, i, hf, hg, hi => by omega
  | f + 1, 0, i, hf, hg, hi => by omega
  | f + 1, g + 1, i, hf, hg, hi => by
    unfold trOf
    by_cases hs : isSplitB (nth ns i) = true
    · have h := (ho i hi).split hs
      rw [if_pos hs, if_pos hs, trOf_fuel ho f g _ (by omega) (by omega) (by omega), trOf_fuel ho f g (nth ns i).x4.toNat (by omega) (by omega) (by omega)]
    · rw [if_neg hs, if_neg hs]
theorem dfs_pre {ns : List Q} (ho : Okay ns) : ∀ (f i : Nat), ns.length ≤ i + f → i < ns.length → ((dfs ns f i).map (nth ns)).map strip = pre (trOf ns f i)
  | 0, i, hf, hi => by omega
  | f + 1, i, hf, hi => by
    unfold dfs trOf
    by_cases hs : isSplitB (nth ns i) = true
    · have h := (ho i hi).split hs
      rw [if_pos hs, if_pos hs]
      simp only [List.map_cons, List.map_append, pre]
      rw [dfs_pre ho f _ (by omega) (by omega), dfs_pre ho f _ (by omega) (by omega)]
      rw [kd_of h.1]
      simp [strip, hs, h.2.1]
    · rw [if_neg hs, if_neg hs]
      have e := leaf_is ho hi (by simpa using hs)
      simp only [List.map_cons, List.map_nil, pre, strip, if_neg hs]
      rw [← e]
/-- the nodes in normal form, the program's way -/
theorem tidy_nodes {ns : List Q} (ho : Okay ns) (h0 : 0 < ns.length) : (lk 0 ((dfs ns ns.length 0).map (nth ns))).1 = num (trOf ns ns.length 0) 0 :=
  lk_all (dfs_pre ho _ 0 (by omega) h0)

/-! the places of a tree -/

def rcT : Tr → Q → List Q × Bool
  | .leaf p, r => if r.x3 < 1 ∨ r.x4 < 1 then ([], false) else ([{ r with x0 := p }], true)
  | .node k f a b, r =>
    if r.x3 < 1 ∨ r.x4 < 1 then ([], false)
    else if inR f 0 200 = true then
      ((rcT a (partA ⟨kd k, 0, f, 0, 0⟩ r)).1 ++ (rcT b (partB ⟨kd k, 0, f, 0, 0⟩ r)).1, (rcT a (partA ⟨kd k, 0, f, 0, 0⟩ r)).2 && (rcT b (partB ⟨kd k, 0, f, 0, 0⟩ r)).2)
    else ([], false)
theorem rcOf_tr {ns : List Q} (ho : Okay ns) : ∀ (f i : Nat) (r : Q), ns.length ≤ i + f → i < ns.length → rcOf ns f i r = rcT (trOf ns f i) r
  | 0, i, r, hf, hi => by omega
  | f + 1, i, r, hf, hi => by
    unfold rcOf trOf
    by_cases hs : isSplitB (nth ns i) = true
    · have h := (ho i hi).split hs
      have e1 : (nth ns i).x0 ≠ 1 := by omega
      have ea : partA (nth ns i) r = partA ⟨kd (decide ((nth ns i).x0 = 2)), 0, (nth ns i).x2, 0, 0⟩ r := by simp [partA, kd_of h.1]
      have eb : partB (nth ns i) r = partB ⟨kd (decide ((nth ns i).x0 = 2)), 0, (nth ns i).x2, 0, 0⟩ r := by simp [partB, kd_of h.1]
      rw [if_neg e1, if_pos hs]
      simp only [rcT]
      rw [rcOf_tr ho f _ _ (by omega) (by omega), rcOf_tr ho f _ _ (by omega) (by omega), ea, eb]
    · have h := (ho i hi).leaf (by simpa using hs)
      rw [if_pos h.1, if_neg hs]
      simp only [rcT]
theorem rcT_panes (t : Tr) : ∀ r, (rcT t r).2 = true → (rcT t r).1.map Q.x0 = t.panes := by
  induction t with
  | leaf p =>
    intro r h
    by_cases hr : r.x3 < 1 ∨ r.x4 < 1
    · rw [rcT, if_pos hr] at h; simp at h
    · rw [rcT, if_neg hr]; rfl
  | node k f a b ia ib =>
    intro r h
    by_cases hr : r.x3 < 1 ∨ r.x4 < 1
    · rw [rcT, if_pos hr] at h; simp at h
    · by_cases hz : inR f 0 200 = true
      · rw [rcT, if_neg hr, if_pos hz] at h ⊢
        simp only [Bool.and_eq_true] at h
        simp only [List.map_append, Tr.panes, ia _ h.1, ib _ h.2]
      · rw [rcT, if_neg hr, if_neg hz] at h; simp at h

/-! in depth no node comes twice -/

/-- a node in depth is the first one or has its parent there -/
theorem dfs_up {ns : List Q} (ho : Okay ns) : ∀ (f i : Nat), i < ns.length → ∀ j ∈ dfs ns f i, j = i ∨ ∃ p ∈ dfs ns f i, p < ns.length ∧ (j : Int) ∈ kid (nth ns p)
  | 0, i, hi => by simp [dfs]
  | f + 1, i, hi => by
    intro j hj
    unfold dfs at hj ⊢
    rcases List.mem_cons.1 hj with rfl | hj
    · exact .inl rfl
    · by_cases hs : isSplitB (nth ns i) = true
      · have h := (ho i hi).split hs
        rw [if_pos hs] at hj ⊢
        right
        rcases List.mem_append.1 hj with hj | hj
        · rcases dfs_up ho f _ (by omega) j hj with rfl | ⟨p, hp, hl, hk⟩
          · exact ⟨i, List.mem_cons_self .., hi, by rw [Int.toNat_of_nonneg (by omega)]; exact (kid_mem hs).1⟩
          · exact ⟨p, List.mem_cons_of_mem _ (List.mem_append.2 (.inl hp)), hl, hk⟩
        · rcases dfs_up ho f _ (by omega) j hj with rfl | ⟨p, hp, hl, hk⟩
          · exact ⟨i, List.mem_cons_self .., hi, by rw [Int.toNat_of_nonneg (by omega)]; exact (kid_mem hs).2⟩
          · exact ⟨p, List.mem_cons_of_mem _ (List.mem_append.2 (.inr hp)), hl, hk⟩
      · rw [if_neg hs] at hj; simp at hj
theorem dfs_ge {ns : List Q} (ho : Okay ns) : ∀ (f i : Nat), i < ns.length → ∀ j ∈ dfs ns f i, i ≤ j
  | 0, i, hi => by simp [dfs]
  | f + 1, i, hi => by
    intro j hj
    unfold dfs at hj
    rcases List.mem_cons.1 hj with rfl | hj
    · exact Nat.le_refl _
    · by_cases hs : isSplitB (nth ns i) = true
      · have h := (ho i hi).split hs
        rw [if_pos hs] at hj
        rcases List.mem_append.1 hj with hj | hj
        · have := dfs_ge ho f _ (by omega) j hj; omega
        · have := dfs_ge ho f _ (by omega) j hj; omega
      · rw [if_neg hs] at hj; simp at hj
/-- what two parts of a node hold in depth is apart -/
theorem dfs_apart {ns : List Q} (ho : Okay ns) (hu : usesB ns = true) {i f g : Nat} (hi : i < ns.length) (hs : isSplitB (nth ns i) = true) :
    ∀ j, j ∈ dfs ns f (nth ns i).x3.toNat → j ∉ dfs ns g (nth ns i).x4.toNat := by
  have h := (ho i hi).split hs
  have hne := parts_ne ho hu hi hs
  intro j
  induction j using Nat.strongRecOn with
  | ind j ih =>
    intro ha hb
    have key : ∀ (c d : Int), c ∈ kid (nth ns i) → (i : Int) < d → d < ns.length → ∀ g' : Nat, (j : Int) = c → (∃ p ∈ dfs ns g' d.toNat, p < ns.length ∧ (j : Int) ∈ kid (nth ns p)) → False := by
      intro c d hc hd hdl g' hj ⟨p, hp, hl, hk⟩
      have hge := dfs_ge ho g' d.toNat (by omega) p hp
      exact kids_ne ho hu hi hl (by omega) (hj ▸ hc) hk
    rcases dfs_up ho f _ (by omega) j ha with ea | ⟨p, hp, hpl, hpk⟩
    · have ej : (j : Int) = (nth ns i).x3 := by omega
      rcases dfs_up ho g _ (by omega) j hb with eb | hq
      · omega
      · exact key _ _ (kid_mem hs).1 h.2.2.2.2.1 h.2.2.2.2.2 g ej hq
    · rcases dfs_up ho g _ (by omega) j hb with eb | ⟨q, hq, hql, hqk⟩
      · have ej : (j : Int) = (nth ns i).x4 := by omega
        exact key _ _ (kid_mem hs).2 h.2.2.1 h.2.2.2.1 f ej ⟨p, hp, hpl, hpk⟩
      · by_cases e : p = q
        · subst e
          have hps : isSplitB (nth ns p) = true := by
            cases h' : isSplitB (nth ns p)
            · simp [kid, h'] at hpk
            · rfl
          have hpo := (ho p hpl).split hps
          simp [kid, hps] at hpk
          exact ih p (by omega) hp hq
        · exact kids_ne ho hu hpl hql e hpk hqk
theorem dfs_nodup {ns : List Q} (ho : Okay ns) (hu : usesB ns = true) : ∀ (f i : Nat), i < ns.length → (dfs ns f i).Nodup
  | 0, i, hi => by simp [dfs]
  | f + 1, i, hi => by
    unfold dfs
    by_cases hs : isSplitB (nth ns i) = true
    · have h := (ho i hi).split hs
      rw [if_pos hs, List.nodup_cons, List.nodup_append]
      refine ⟨?_, dfs_nodup ho hu f _ (by omega), dfs_nodup ho hu f _ (by omega), ?_⟩
      · intro hm
        rcases List.mem_append.1 hm with hm | hm
        · have := dfs_ge ho f _ (by omega) i hm; omega
        · have := dfs_ge ho f _ (by omega) i hm; omega
      · rintro a ha b hb rfl
        exact dfs_apart ho hu hi hs a ha hb
    · rw [if_neg hs]; simp
theorem trOf_panes {ns : List Q} (ho : Okay ns) : ∀ (f i : Nat), ns.length ≤ i + f → i < ns.length → (trOf ns f i).panes = ((dfs ns f i).filter (leafB ns)).map fun j => (nth ns j).x1
  | 0, i, hf, hi => by omega
  | f + 1, i, hf, hi => by
    unfold dfs trOf
    by_cases hs : isSplitB (nth ns i) = true
    · have h := (ho i hi).split hs
      rw [if_pos hs, if_pos hs]
      simp only [Tr.panes]
      rw [trOf_panes ho f _ (by omega) (by omega), trOf_panes ho f _ (by omega) (by omega)]
      simp [leafB, hs]
    · rw [if_neg hs, if_neg hs]; simp [leafB, hs, Tr.panes]
theorem trOf_size {ns : List Q} (ho : Okay ns) : ∀ (f i : Nat), ns.length ≤ i + f → i < ns.length → (trOf ns f i).size = (dfs ns f i).length
  | 0, i, hf, hi => by omega
  | f + 1, i, hf, hi => by
    unfold dfs trOf
    by_cases hs : isSplitB (nth ns i) = true
    · have h := (ho i hi).split hs
      rw [if_pos hs, if_pos hs]
      simp only [Tr.size]
      rw [trOf_size ho f _ (by omega) (by omega), trOf_size ho f _ (by omega) (by omega)]
      simp; omega
    · rw [if_neg hs, if_neg hs]; simp [Tr.size]
/-- two nodes with one pane are one -/
theorem pane_one {ns : List Q} (hn : (panes ns).Nodup) {i j : Nat} (hi : i < ns.length) (hj : j < ns.length) (hsi : isSplitB (nth ns i) = false) (hsj : isSplitB (nth ns j) = false) (e : (nth ns i).x1 = (nth ns j).x1) : i = j := by
  have main : ∀ (i j : Nat), i < j → j < ns.length → isSplitB (nth ns i) = false → isSplitB (nth ns j) = false → (nth ns i).x1 = (nth ns j).x1 → False := by
    intro i j hij hj hsi hsj e
    have hi : i < ns.length := by omega
    have e1 : ns = ns.take j ++ ns[j] :: ns.drop (j + 1) := by rw [← List.drop_eq_getElem_cons hj, List.take_append_drop]
    rw [e1] at hn
    unfold panes at hn
    rw [nth_eq hj] at hsj e
    rw [List.filter_append, List.map_append, List.nodup_append] at hn
    refine hn.2.2 (nth ns i).x1 (List.mem_map.2 ⟨nth ns i, List.mem_filter.2 ⟨?_, by simp [hsi]⟩, rfl⟩) ns[j].x1 ?_ e
    · rw [nth_eq hi]; exact List.mem_iff_getElem.2 ⟨i, by simp; omega, by simp⟩
    · exact List.mem_map.2 ⟨ns[j], List.mem_filter.2 ⟨List.mem_cons_self .., by simp [hsj]⟩, rfl⟩
  rcases Nat.lt_trichotomy i j with h | h | h
  · exact (main i j h hj hsi hsj e).elim
  · exact h
  · exact (main j i h hi hsj hsi e.symm).elim
theorem nodup_map {α β : Type} {l : List α} (g : α → β) (hn : l.Nodup) (h : ∀ a ∈ l, ∀ b ∈ l, g a = g b → a = b) : (l.map g).Nodup := by
  induction l with
  | nil => simp
  | cons x t ih =>
    rw [List.nodup_cons] at hn
    rw [List.map_cons, List.nodup_cons]
    refine ⟨?_, ih hn.2 fun a ha b hb => h a (List.mem_cons_of_mem _ ha) b (List.mem_cons_of_mem _ hb)⟩
    intro hm
    obtain ⟨y, hy, e⟩ := List.mem_map.1 hm
    have := h y (List.mem_cons_of_mem _ hy) x (List.mem_cons_self ..) e
    exact hn.1 (this ▸ hy)
theorem trOf_nodup {ns : List Q} (ho : Okay ns) (hu : usesB ns = true) (hn : (panes ns).Nodup) (h0 : 0 < ns.length) : (trOf ns ns.length 0).panes.Nodup := by
  rw [trOf_panes ho _ 0 (by omega) h0]
  refine nodup_map _ ((dfs_nodup ho hu _ 0 h0).sublist List.filter_sublist) ?_
  intro a ha b hb e
  obtain ⟨ha, hla⟩ := List.mem_filter.1 ha
  obtain ⟨hb, hlb⟩ := List.mem_filter.1 hb
  exact pane_one hn (dfs_lt ho _ 0 h0 a ha) (dfs_lt ho _ 0 h0 b hb) (by simpa [leafB] using hla) (by simpa [leafB] using hlb) e
/-- numbers below n, none twice: at most n of them -/
theorem nodup_le : ∀ (n : Nat) (l : List Nat), l.Nodup → (∀ x ∈ l, x < n) → l.length ≤ n
  | 0, l, _, h => by cases l with | nil => simp | cons x t => exact absurd (h x (List.mem_cons_self ..)) (by omega)
  | n + 1, l, hn, h => by
    have h1 := nodup_le n (l.filter fun x => x != n) (hn.sublist List.filter_sublist) fun x hx => by
      obtain ⟨h2, h3⟩ := List.mem_filter.1 hx
      have := h x h2
      have h3 : x ≠ n := by simpa using h3
      omega
    have h2 : l.length ≤ (l.filter fun x => x != n).length + 1 := by
      clear h1 h
      induction l with
      | nil => simp
      | cons x t ih =>
        rw [List.nodup_cons] at hn
        by_cases e : x = n
        · subst e
          have : t.filter (fun y => y != x) = t := List.filter_eq_self.2 fun y hy => by
            have : y ≠ x := fun e => hn.1 (e ▸ hy)
            simpa using this
          simp [this]
        · have := ih hn.2
          simp [e]; omega
    omega
theorem all_le : ∀ (n : Nat) (l : List Nat), (∀ x, x < n → x ∈ l) → n ≤ l.length
  | 0, l, _ => Nat.zero_le _
  | n + 1, l, h => by
    have h1 := all_le n (l.filter fun x => x != n) fun x hx => List.mem_filter.2 ⟨h x (by omega), by simp; omega⟩
    have h2 : (l.filter fun x => x != n).length < l.length := by
      have hm := h n (by omega)
      clear h1 h
      induction l with
      | nil => simp at hm
      | cons x t ih =>
        by_cases e : x = n
        · subst e
          have := List.length_filter_le (fun y => y != x) t
          simp; omega
        · have hm2 : n ∈ t := by
            rcases List.mem_cons.1 hm with h | h
            · exact absurd h.symm e
            · exact h
          have := ih hm2
          simp [e]; omega
    omega
theorem tree_size {ns : List Q} (ho : Okay ns) (hu : usesB ns = true) (h0 : 0 < ns.length) : (trOf ns ns.length 0).size = ns.length := by
  rw [trOf_size ho _ 0 (by omega) h0]
  have h1 := nodup_le ns.length _ (dfs_nodup ho hu ns.length 0 h0) (dfs_lt ho _ 0 h0)
  have h2 := all_le ns.length _ (dfs_all ho hu)
  omega
end Go.Proofs.Ytbfickdgjgbfhaa

/- The edits of a tree, and what they are in the list of nodes. Plain facts. -/
namespace Go.Proofs.Ytbfickdgjgbfhaa
set_option linter.unusedVariables false
set_option linter.unusedSimpArgs false

/-! the nodes of a normal form make a layout -/

def InP (t : Tr) : Prop := ∀ p ∈ t.panes, 0 ≤ p ∧ p ≤ 5
theorem nth_app_left {l m : List Q} {i : Nat} (h : i < l.length) : nth (l ++ m) i = nth l i := by
  simp [nth, List.getD_eq_getElem?_getD, List.getElem?_append, h]
theorem nth_app_right {l m : List Q} {i : Nat} (h : l.length ≤ i) : nth (l ++ m) i = nth m (i - l.length) := by
  simp [nth, List.getD_eq_getElem?_getD, List.getElem?_append_right h]
theorem nth_zero (q : Q) (l : List Q) : nth (q :: l) 0 = q := rfl
theorem nth_succ (q : Q) (l : List Q) (i : Nat) : nth (q :: l) (i + 1) = nth l i := by simp [nth, List.getD_eq_getElem?_getD]
theorem num_node (k : Bool) (f : Int) (a b : Tr) (s : Nat) :
    nth (num (.node k f a b) s) 0 = ⟨kd k, 0, f, ((s + 1 : Nat) : Int), ((s + 1 + a.size : Nat) : Int)⟩ ∧ (∀ i, i < a.size → nth (num (.node k f a b) s) (1 + i) = nth (num a (s + 1)) i) ∧
    ∀ i, nth (num (.node k f a b) s) (1 + a.size + i) = nth (num b (s + 1 + a.size)) i := by
  refine ⟨rfl, fun i hi => ?_, fun i => ?_⟩
  · rw [Nat.add_comm 1 i]; simp only [num]; rw [nth_succ, nth_app_left (by rw [num_len]; exact hi)]
  · rw [show 1 + a.size + i = (a.size + i) + 1 by omega]; simp only [num]
    rw [nth_succ, nth_app_right (by rw [num_len]; omega), num_len]
    congr 1; omega
theorem num_ok (t : Tr) (hp : InP t) : ∀ s i m, i < t.size → s + t.size ≤ m → NdOk (nth (num t s) i) (s + i) m := by
  induction t with
  | leaf p =>
    intro s i m hi hm
    simp only [Tr.size] at hi
    obtain rfl : i = 0 := by omega
    have := hp p (by simp [Tr.panes])
    exact .inl ⟨rfl, rfl, rfl, rfl, this.1, this.2⟩
  | node k f a b ia ib =>
    intro s i m hi hm
    simp only [Tr.size] at hi hm
    obtain ⟨h0, h1, h2⟩ := num_node k f a b s
    have := a.size_pos
    have := b.size_pos
    rcases Nat.lt_or_ge i 1 with h | h
    · obtain rfl : i = 0 := by omega
      rw [h0]
      refine .inr ⟨by cases k <;> simp [kd], rfl, ?_, ?_, ?_, ?_⟩ <;> simp only [] <;> omega
    · obtain ⟨j, rfl⟩ := Nat.exists_eq_add_of_le h
      rcases Nat.lt_or_ge j a.size with h | h
      · rw [h1 j h, show s + (1 + j) = s + 1 + j by omega]
        exact ia (fun p hq => hp p (by simp [Tr.panes, hq])) (s + 1) j m h (by omega)
      · obtain ⟨j, rfl⟩ := Nat.exists_eq_add_of_le h
        rw [show 1 + (a.size + j) = 1 + a.size + j by omega, h2 j, show s + (1 + a.size + j) = s + 1 + a.size + j by omega]
        exact ib (fun p hq => hp p (by simp [Tr.panes, hq])) (s + 1 + a.size) j m (by omega) (by omega)
theorem num_okay {t : Tr} (hp : InP t) : Okay (num t 0) := fun i hi => by
  rw [num_len] at hi ⊢
  have := num_ok t hp 0 i t.size hi (by omega)
  rwa [Nat.zero_add] at this
theorem ndFault_zero {n : Q} {i m : Nat} (h : NdOk n i m) : ndFault n i m = 0 := by
  unfold ndFault
  simp only [inR, Bool.and_eq_true, decide_eq_true_eq]
  rcases h with ⟨h0, h1, h2, h3, h4, h5⟩ | ⟨h0, h1, h2, h3, h4, h5⟩
  · rw [if_pos h0, if_pos ⟨h1, h2, h3⟩, if_pos ⟨h4, h5⟩]
  · rw [if_neg (by omega), if_pos h0, if_pos h1, if_pos ⟨⟨by omega, by omega⟩, by omega, by omega⟩]
theorem ndsFault_zero (m : Nat) : ∀ (l : List Q) (k : Nat), (∀ i, i < l.length → NdOk (nth l i) (k + i) m) → ndsFault m k l = 0
  | [], k, h => rfl
  | q :: t, k, h => by
    unfold ndsFault
    have h0 := h 0 (by simp)
    rw [nth_zero, Nat.add_zero] at h0
    rw [if_pos (ndFault_zero h0)]
    refine ndsFault_zero m t (k + 1) fun i hi => ?_
    have := h (i + 1) (by simp; omega)
    rw [nth_succ] at this
    rwa [show k + 1 + i = k + (i + 1) by omega]
theorem num_kids (t : Tr) : ∀ (s : Nat) (c : Int), (kids (num t s)).count c = if (s : Int) < c ∧ c < ((s + t.size : Nat) : Int) then 1 else 0 := by
  induction t with
  | leaf p =>
    intro s c
    rw [if_neg (by simp only [Tr.size]; omega)]
    simp [num, kids, kid, lf_split]
  | node k f a b ia ib =>
    intro s c
    have e : kids (num (.node k f a b) s) = [((s + 1 : Nat) : Int), ((s + 1 + a.size : Nat) : Int)] ++ (kids (num a (s + 1)) ++ kids (num b (s + 1 + a.size))) := by
      simp only [num, kids, List.flatMap_cons, List.flatMap_append]
      simp [kid, kd_split]
    rw [e, List.count_append, List.count_append, ia, ib]
    have := a.size_pos
    have := b.size_pos
    have hsz : (Tr.node k f a b).size = 1 + a.size + b.size := rfl
    clear e ia ib
    by_cases hc : (s : Int) < c ∧ c < ((s + (Tr.node k f a b).size : Nat) : Int)
    · rw [if_pos hc]
      rw [hsz] at hc
      simp only [List.count_cons, List.count_nil, beq_iff_eq]
      repeat' split
      all_goals omega
    · rw [if_neg hc]
      rw [hsz] at hc
      simp only [List.count_cons, List.count_nil, beq_iff_eq]
      repeat' split
      all_goals omega
theorem num_uses (t : Tr) : usesB (num t 0) = true := by
  unfold usesB
  rw [List.all_eq_true]
  intro j hj
  have hj := List.mem_range.1 hj
  rw [num_len] at hj
  by_cases h0 : j = 0
  · simp [h0]
  · unfold usesOf
    rw [num_kids, if_pos (by omega)]
    simp
theorem num_panes (t : Tr) : ∀ s, panes (num t s) = t.panes := by
  induction t with
  | leaf p => intro s; simp [num, panes, lf_split, Tr.panes]; rfl
  | node k f a b ia ib =>
    intro s
    have h1 := ia (s + 1)
    have h2 := ib (s + 1 + a.size)
    unfold panes at h1 h2 ⊢
    simp only [num, Tr.panes]
    rw [List.filter_cons_of_neg (by simp [kd_split]), List.filter_append, List.map_append, h1, h2]
theorem trOf_num {L : List Q} (t : Tr) : ∀ (f s : Nat), t.size ≤ f → (∀ i, i < t.size → nth L (s + i) = nth (num t s) i) → trOf L f s = t := by
  induction t with
  | leaf p =>
    intro f s hf h
    have h0 := h 0 (by simp [Tr.size])
    rw [Nat.add_zero] at h0
    cases f with
    | zero => simp [Tr.size] at hf
    | succ f => unfold trOf; rw [h0]; simp [num, nth, lf_split, lfQ]; simp [isSplitB]
  | node k f a b ia ib =>
    intro g s hf h
    simp only [Tr.size] at hf h
    obtain ⟨h0, h1, h2⟩ := num_node k f a b s
    have e0 := h 0 (by omega)
    rw [Nat.add_zero, h0] at e0
    cases g with
    | zero => omega
    | succ g =>
      unfold trOf
      rw [e0, if_pos (kd_split ..)]
      simp only [Int.toNat_natCast]
      rw [ia g (s + 1) (by omega) fun i hi => by rw [← h1 i hi, ← h (1 + i) (by omega)]; congr 1; omega,
        ib g (s + 1 + a.size) (by omega) fun i hi => by rw [← h2 i, ← h (1 + a.size + i) (by omega)]; congr 1; omega]
      cases k <;> simp [kd]
theorem panes_six {t : Tr} (hn : t.panes.Nodup) (hp : InP t) : t.panes.length ≤ 6 := by
  have := nodup_le 6 (t.panes.map Int.toNat) (nodup_map _ hn fun a ha b hb e => by have := hp a ha; have := hp b hb; omega) fun x hx => by
    obtain ⟨p, hq, rfl⟩ := List.mem_map.1 hx
    have := hp p hq; omega
  simpa using this
/-- a tree whose panes are right and apart, in a screen: a layout; its fault is that of its places alone -/
theorem num_tree {t : Tr} {wide high : Int} (hn : t.panes.Nodup) (hp : InP t) (hw : inR wide 1 200 = true) (hh : inR high 1 200 = true) : Tree ⟨wide, high, num t 0⟩ where
  n0 := by simp only [num_len]; exact t.size_pos
  n1 := by have := panes_six hn hp; have := size_panes t; simp only [num_len]; omega
  wide := hw
  high := hh
  okay := num_okay hp
  uses := num_uses t
  once := by simpa [num_panes] using hn
theorem Tree.fault {x : Ly} (h : Tree x) : lyFault x = if lyFits x = true then 0 else 3 := by
  have h0 : inR x.nodes.length 1 11 = true := inR_iff.2 ⟨by have := h.n0; omega, by have := h.n1; omega⟩
  have h3 : ndsFault x.nodes.length 0 x.nodes = 0 := ndsFault_zero _ _ _ fun i hi => by rw [Nat.zero_add]; exact h.okay i hi
  have h4 : treeB x.nodes = true := by simp [treeB, h.uses, h.once]
  unfold lyFault
  rw [if_pos h0, if_pos ⟨h.wide, h.high⟩, if_pos h3, if_pos h4]
def Ly.tr (x : Ly) : Tr := trOf x.nodes x.nodes.length 0
def Ly.tidy (x : Ly) : Ly := ⟨x.wide, x.high, num x.tr 0⟩
theorem Tree.rc {x : Ly} (h : Tree x) : rcOf x.nodes x.nodes.length 0 (whole x.wide x.high) = rcT x.tr (whole x.wide x.high) := rcOf_tr h.okay _ 0 _ (by omega) h.n0
theorem Tree.nodup {x : Ly} (h : Tree x) : x.tr.panes.Nodup := trOf_nodup h.okay h.uses h.once h.n0
theorem Tree.inp {x : Ly} (h : Tree x) : InP x.tr := by
  intro p hp
  unfold Ly.tr at hp
  rw [trOf_panes h.okay _ 0 (by omega) h.n0] at hp
  obtain ⟨j, hj, rfl⟩ := List.mem_map.1 hp
  obtain ⟨hj, hl⟩ := List.mem_filter.1 hj
  have := (h.okay j (dfs_lt h.okay _ 0 h.n0 j hj)).leaf (by simpa [leafB] using hl)
  omega
theorem Tree.size {x : Ly} (h : Tree x) : x.tr.size = x.nodes.length := tree_size h.okay h.uses h.n0
theorem tr_num (t : Tr) (wide high : Int) : (⟨wide, high, num t 0⟩ : Ly).tr = t := by
  unfold Ly.tr
  exact trOf_num t _ 0 (by rw [num_len]; exact Nat.le_refl _) fun i hi => by rw [Nat.zero_add]
theorem Tree.tidy {x : Ly} (h : Tree x) : Tree x.tidy := num_tree h.nodup h.inp h.wide h.high
theorem Tree.tidy_tr {x : Ly} : x.tidy.tr = x.tr := tr_num ..
theorem Tree.tidy_rc {x : Ly} (h : Tree x) : lyRects x.tidy = lyRects x ∧ lyFits x.tidy = lyFits x := by
  have h1 := h.tidy.rc
  rw [Tree.tidy_tr] at h1
  have h2 := h.rc
  unfold lyRects lyFits
  rw [h1, h2]
  exact ⟨rfl, rfl⟩
theorem Tree.tidy_fault {x : Ly} (h : Tree x) : lyFault x.tidy = lyFault x := by rw [h.fault, h.tidy.fault, h.tidy_rc.2]
theorem Tree.tidy_tidy {x : Ly} : x.tidy.tidy = x.tidy := by
  show Ly.mk _ _ _ = _
  rw [Tree.tidy_tr]; rfl
theorem rects_panes {x : Ly} (h : lyFault x = 0) : (lyRects x).map Q.x0 = x.tr.panes := by
  obtain ⟨ht, hf⟩ := tree_of_fault h
  unfold lyFits at hf
  unfold lyRects
  rw [ht.rc] at hf ⊢
  exact rcT_panes _ _ hf
/-- a pane is there: in the nodes as in the tree -/
theorem has_tr {x : Ly} (h : Tree x) (p : Int) : hasB x.nodes p = true ↔ p ∈ x.tr.panes := by
  unfold hasB Ly.tr
  rw [List.any_eq_true, trOf_panes h.okay _ 0 (by omega) h.n0]
  constructor
  · rintro ⟨n, hn, hq⟩
    obtain ⟨i, hi, rfl⟩ := List.mem_iff_getElem.1 hn
    rw [← nth_eq hi] at hq
    simp only [Bool.and_eq_true, beq_iff_eq] at hq
    have hs : isSplitB (nth x.nodes i) = false := by simp [isSplitB, hq.1]
    exact List.mem_map.2 ⟨i, List.mem_filter.2 ⟨dfs_all h.okay h.uses i hi, by simp [leafB, hs]⟩, hq.2⟩
  · intro hm
    obtain ⟨i, hi, rfl⟩ := List.mem_map.1 hm
    obtain ⟨hi, hl⟩ := List.mem_filter.1 hi
    have hlt := dfs_lt h.okay _ 0 h.n0 i hi
    have := (h.okay i hlt).leaf (by simpa [leafB] using hl)
    exact ⟨nth x.nodes i, by rw [nth_eq hlt]; exact List.getElem_mem _, by simp [this.1]⟩

/-! the edits of a tree -/

def sub (p : Int) (n : Tr) : Tr → Tr
  | .leaf q => if q = p then n else .leaf q
  | .node k f a b => .node k f (sub p n a) (sub p n b)
def isL (p : Int) : Tr → Bool
  | .leaf q => q == p
  | .node .. => false
def kill (p : Int) : Tr → Tr
  | .leaf q => .leaf q
  | .node k f a b => if isL p a = true then b else if isL p b = true then a else .node k f (kill p a) (kill p b)
def upd (p by' : Int) : Tr → Tr
  | .leaf q => .leaf q
  | .node k f a b => if isL p a = true ∨ isL p b = true then .node k (f + by') a b else .node k f (upd p by' a) (upd p by' b)
theorem isL_is {p : Int} {t : Tr} (h : isL p t = true) : t = .leaf p := by
  cases t with
  | leaf q => simp [isL] at h; rw [h]
  | node => simp [isL] at h
theorem isL_not {p : Int} {t : Tr} (h : p ∉ t.panes) : isL p t = false := by
  cases t with
  | leaf q => simp [isL, Tr.panes] at h ⊢; omega
  | node => rfl
theorem sub_none {p : Int} {n t : Tr} (h : p ∉ t.panes) : sub p n t = t := by
  induction t with
  | leaf q => simp [Tr.panes] at h; simp [sub]; omega
  | node k f a b ia ib =>
    simp only [Tr.panes, List.mem_append, not_or] at h
    simp only [sub, ia h.1, ib h.2]
theorem kill_none {p : Int} {t : Tr} (h : p ∉ t.panes) : kill p t = t := by
  induction t with
  | leaf q => rfl
  | node k f a b ia ib =>
    simp only [Tr.panes, List.mem_append, not_or] at h
    simp only [kill, isL_not h.1, isL_not h.2, ia h.1, ib h.2]
    rfl
theorem upd_none {p y : Int} {t : Tr} (h : p ∉ t.panes) : upd p y t = t := by
  induction t with
  | leaf q => rfl
  | node k f a b ia ib =>
    simp only [Tr.panes, List.mem_append, not_or] at h
    simp only [upd, isL_not h.1, isL_not h.2, ia h.1, ib h.2]
    simp
theorem lf_num {p : Int} {t : Tr} (h : p ∉ t.panes) : ∀ s, lfQ p ∉ num t s := by
  induction t with
  | leaf q => intro s; simp [Tr.panes] at h; simp [num, lfQ]; omega
  | node k f a b ia ib =>
    intro s
    simp only [Tr.panes, List.mem_append, not_or] at h
    simp only [num, List.mem_cons, List.mem_append, not_or]
    refine ⟨?_, ia h.1 _, ib h.2 _⟩
    intro e
    have := congrArg Q.x0 e
    cases k <;> simp [lfQ, kd] at this
theorem split_leaf {p : Int} {t : Tr} (hm : p ∈ t.panes) (hn : t.panes.Nodup) : ∀ s, ∃ u v, num t s = u ++ lfQ p :: v ∧ lfQ p ∉ u ∧ ∀ n, u.map strip ++ (pre n ++ v.map strip) = pre (sub p n t) := by
  induction t with
  | leaf q =>
    intro s
    simp [Tr.panes] at hm
    subst hm
    exact ⟨[], [], rfl, by simp, fun n => by simp [sub]⟩
  | node k f a b ia ib =>
    intro s
    simp only [Tr.panes] at hm hn
    rw [List.nodup_append] at hn
    have hnr : lfQ p ≠ ⟨kd k, 0, f, ((s + 1 : Nat) : Int), ((s + 1 + a.size : Nat) : Int)⟩ := fun e => by
      have := congrArg Q.x0 e
      cases k <;> simp [lfQ, kd] at this
    have hst : strip ⟨kd k, 0, f, ((s + 1 : Nat) : Int), ((s + 1 + a.size : Nat) : Int)⟩ = ⟨kd k, 0, f, 0, 0⟩ := by simp [strip, kd_split]
    rcases List.mem_append.1 hm with hm | hm
    · have hb : p ∉ b.panes := fun h => hn.2.2 p hm p h rfl
      obtain ⟨u, v, e, hu, hp⟩ := ia hm hn.1 (s + 1)
      refine ⟨⟨kd k, 0, f, ((s + 1 : Nat) : Int), ((s + 1 + a.size : Nat) : Int)⟩ :: u, v ++ num b (s + 1 + a.size), by simp only [num, e]; simp, ?_, fun n => ?_⟩
      · simp only [List.mem_cons, not_or]; exact ⟨hnr, hu⟩
      · simp only [List.map_cons, List.map_append, sub, pre, ← hp n, sub_none hb, num_strip, List.cons_append, List.append_assoc, hst]
    · have ha : p ∉ a.panes := fun h => hn.2.2 p h p hm rfl
      obtain ⟨u, v, e, hu, hp⟩ := ib hm hn.2.1 (s + 1 + a.size)
      refine ⟨⟨kd k, 0, f, ((s + 1 : Nat) : Int), ((s + 1 + a.size : Nat) : Int)⟩ :: (num a (s + 1) ++ u), v, by simp only [num, e]; simp, ?_, fun n => ?_⟩
      · simp only [List.mem_cons, List.mem_append, not_or]; exact ⟨hnr, lf_num ha _, hu⟩
      · simp only [List.map_cons, List.map_append, sub, pre, ← hp n, sub_none ha, num_strip, List.cons_append, List.append_assoc, hst]
/-- a split has the node at as a part -/
def over (at' : Int) (q : Q) : Bool := isSplitB q && (q.x3 == at' || q.x4 == at')
theorem num_over (t : Tr) : ∀ (s : Nat) (c : Int), (c ≤ s ∨ ((s + t.size : Nat) : Int) ≤ c) → ∀ q ∈ num t s, over c q = false := by
  induction t with
  | leaf p => intro s c _ q hq; simp [num] at hq; subst hq; simp [over, lf_split]
  | node k f a b ia ib =>
    intro s c hc q hq
    simp only [Tr.size] at hc
    simp only [num, List.mem_cons, List.mem_append] at hq
    rcases hq with rfl | hq | hq
    · have := a.size_pos
      have := b.size_pos
      simp [over, kd_split]; omega
    · exact ia (s + 1) c (by omega) q hq
    · exact ib (s + 1 + a.size) c (by omega) q hq
theorem split_over {p : Int} {t : Tr} (hm : p ∈ t.panes) (hn : t.panes.Nodup) (hl : isL p t = false) : ∀ s, ∃ (u : List Q) (S : Q) (m v : List Q) (pos : Nat),
    num t s = u ++ S :: (m ++ lfQ p :: v) ∧ pos = s + u.length + 1 + m.length ∧ lfQ p ∉ u ++ S :: m ∧ over pos S = true ∧ (∀ q ∈ u, over pos q = false) ∧
    u.map strip ++ (m.map strip ++ v.map strip) = pre (kill p t) ∧ ∀ y, u ++ ⟨S.x0, S.x1, S.x2 + y, S.x3, S.x4⟩ :: (m ++ lfQ p :: v) = num (upd p y t) s := by
  induction t with
  | leaf q =>
    simp [Tr.panes] at hm
    subst hm
    simp [isL] at hl
  | node k f a b ia ib =>
    intro s
    simp only [Tr.panes] at hm hn
    rw [List.nodup_append] at hn
    have hnr : lfQ p ≠ ⟨kd k, 0, f, ((s + 1 : Nat) : Int), ((s + 1 + a.size : Nat) : Int)⟩ := fun e => by
      have := congrArg Q.x0 e
      cases k <;> simp [lfQ, kd] at this
    have hst : strip ⟨kd k, 0, f, ((s + 1 : Nat) : Int), ((s + 1 + a.size : Nat) : Int)⟩ = ⟨kd k, 0, f, 0, 0⟩ := by simp [strip, kd_split]
    have pa := a.size_pos
    have pb := b.size_pos
    rcases List.mem_append.1 hm with hm | hm
    · have hb : p ∉ b.panes := fun h => hn.2.2 p hm p h rfl
      cases hla : isL p a
      · obtain ⟨u, S, m, v, pos, e, hpos, hno, hov, hu, hk, hy⟩ := ia hm hn.1 hla (s + 1)
        have hlen := congrArg List.length e
        simp only [num_len, List.length_append, List.length_cons] at hlen
        refine ⟨⟨kd k, 0, f, ((s + 1 : Nat) : Int), ((s + 1 + a.size : Nat) : Int)⟩ :: u, S, m, v ++ num b (s + 1 + a.size), pos, by simp only [num, e]; simp, by simp only [List.length_cons]; omega, ?_, hov, ?_, ?_, ?_⟩
        · simp only [List.cons_append, List.mem_cons, not_or]; exact ⟨hnr, hno⟩
        · intro q hq
          rcases List.mem_cons.1 hq with rfl | hq
          · simp [over, kd_split]; omega
          · exact hu q hq
        · simp only [kill, hla, isL_not hb, pre, ← hk, kill_none hb, List.map_cons, List.map_append, num_strip, hst]
          simp [pre, ← hk, kill_none hb]
        · intro y
          have hy := hy y
          have hsz : (upd p y a).size = a.size := by
            have := congrArg List.length hy
            rw [num_len] at this
            simp only [List.length_append, List.length_cons] at this
            omega
          simp only [upd, hla, isL_not hb, upd_none hb]
          simp [num, ← hy, hsz]
      · obtain rfl := isL_is hla
        refine ⟨[], _, [], num b (s + 1 + 1), s + 1, rfl, by simp, ?_, ?_, by simp, ?_, ?_⟩
        · simpa using hnr
        · simp [over, kd_split]
        · simp [kill, isL, num_strip]
        · intro y; simp [upd, isL, num, Tr.size]
    · have ha : p ∉ a.panes := fun h => hn.2.2 p h p hm rfl
      cases hlb : isL p b
      · obtain ⟨u, S, m, v, pos, e, hpos, hno, hov, hu, hk, hy⟩ := ib hm hn.2.1 hlb (s + 1 + a.size)
        refine ⟨⟨kd k, 0, f, ((s + 1 : Nat) : Int), ((s + 1 + a.size : Nat) : Int)⟩ :: (num a (s + 1) ++ u), S, m, v, pos, by simp only [num, e]; simp, by simp only [List.length_cons, List.length_append, num_len]; omega, ?_, hov, ?_, ?_, ?_⟩
        · simp only [List.cons_append, List.mem_cons, List.append_assoc, List.mem_append, not_or] at hno ⊢; exact ⟨hnr, lf_num ha _, hno⟩
        · intro q hq
          simp only [List.mem_cons, List.mem_append] at hq
          rcases hq with rfl | hq | hq
          · simp [over, kd_split]; omega
          · exact num_over a (s + 1) pos (by omega) q hq
          · exact hu q hq
        · simp only [kill, isL_not ha, hlb, kill_none ha, List.map_cons, List.map_append, num_strip, hst]
          simp [pre, ← hk, kill_none ha]
        · intro y
          have hy := hy y
          simp only [upd, hlb, isL_not ha, upd_none ha]
          simp [num, ← hy]
      · obtain rfl := isL_is hlb
        refine ⟨[], _, num a (s + 1), [], s + 1 + a.size, rfl, by simp [num_len], ?_, ?_, by simp, ?_, ?_⟩
        · simp only [List.nil_append, List.mem_cons, not_or]; exact ⟨hnr, lf_num ha _⟩
        · simp [over, kd_split]
        · have hk : kill p (.node k f a (.leaf p)) = a := by simp only [kill, isL_not ha]; simp [isL]
          rw [hk]
          simp [num_strip]
        · intro y; simp [upd, isL, num]
end Go.Proofs.Ytbfickdgjgbfhaa

/- The edits of the nodes of a layout, as the model makes them, are edits of its tree. Plain facts. -/
namespace Go.Proofs.Ytbfickdgjgbfhaa
set_option linter.unusedVariables false
set_option linter.unusedSimpArgs false

/-! the model's edits of the nodes -/

theorem trOf_ne_leaf {ns : List Q} (ho : Okay ns) (hn : (panes ns).Nodup) {at' : Nat} {p : Int} (ha : at' < ns.length) (hsa : isSplitB (nth ns at') = false) (hpa : (nth ns at').x1 = p)
    {f j : Nat} (hj : j < ns.length) (hf : ns.length ≤ j + f) (hne : j ≠ at') : isL p (trOf ns f j) = false := by
  cases f with
  | zero => omega
  | succ f =>
    unfold trOf
    by_cases hs : isSplitB (nth ns j) = true
    · rw [if_pos hs]; rfl
    · rw [if_neg hs]
      have hs : isSplitB (nth ns j) = false := by simpa using hs
      cases he : isL p (.leaf (nth ns j).x1)
      · rfl
      · simp only [isL, beq_iff_eq] at he
        exact absurd (pane_one hn hj ha hs hsa (by omega)) hne
theorem trOf_at {ns : List Q} {at' : Nat} (hsa : isSplitB (nth ns at') = false) (f : Nat) : trOf ns (f + 1) at' = .leaf (nth ns at').x1 := by
  unfold trOf; simp [hsa]
/-- a pane that is split -/
theorem trOf_split {ns : List Q} (ho : Okay ns) (hn : (panes ns).Nodup) {at' : Nat} {p q first : Int} {k : Bool} (ha : at' < ns.length) (hsa : isSplitB (nth ns at') = false) (hpa : (nth ns at').x1 = p) :
    ∀ (f i : Nat), ns.length ≤ i + f → i < ns.length →
    trOf ((ns ++ [lfQ p, lfQ q]).set at' ⟨kd k, 0, first, ((ns.length : Nat) : Int), ((ns.length + 1 : Nat) : Int)⟩) (f + 2) i = sub p (.node k first (.leaf p) (.leaf q)) (trOf ns f i)
  | 0, i, hf, hi => by omega
  | f + 1, i, hf, hi => by
    have hN : ∀ j, j < ns.length → j ≠ at' → nth ((ns ++ [lfQ p, lfQ q]).set at' ⟨kd k, 0, first, ((ns.length : Nat) : Int), ((ns.length + 1 : Nat) : Int)⟩) j = nth ns j := fun j hj hne => by
      rw [nth_set (by simp; omega), if_neg (by omega), nth_app_left hj]
    by_cases e : i = at'
    · subst e
      have e1 : nth ((ns ++ [lfQ p, lfQ q]).set i ⟨kd k, 0, first, ((ns.length : Nat) : Int), ((ns.length + 1 : Nat) : Int)⟩) i = ⟨kd k, 0, first, ((ns.length : Nat) : Int), ((ns.length + 1 : Nat) : Int)⟩ := by
        rw [nth_set (by simp; omega), if_pos rfl]
      have e2 : nth ((ns ++ [lfQ p, lfQ q]).set i ⟨kd k, 0, first, ((ns.length : Nat) : Int), ((ns.length + 1 : Nat) : Int)⟩) ns.length = lfQ p := by
        rw [nth_set (by simp), if_neg (by omega), nth_app_right (by omega), Nat.sub_self]; rfl
      have e3 : nth ((ns ++ [lfQ p, lfQ q]).set i ⟨kd k, 0, first, ((ns.length : Nat) : Int), ((ns.length + 1 : Nat) : Int)⟩) (ns.length + 1) = lfQ q := by
        rw [nth_set (by simp), if_neg (by omega), nth_app_right (by omega), Nat.add_sub_cancel_left]; rfl
      rw [trOf_at hsa, hpa]
      simp only [sub, if_true]
      show trOf _ (f + 2 + 1) i = _
      unfold trOf
      rw [e1, if_pos (kd_split ..)]
      simp only [Int.toNat_natCast]
      rw [show f + 2 = f + 1 + 1 from rfl, trOf_at (by rw [e2]; exact lf_split p), trOf_at (by rw [e3]; exact lf_split q), e2, e3]
      cases k <;> simp [kd, lfQ]
    · show trOf _ (f + 2 + 1) i = _
      unfold trOf
      rw [hN i hi e]
      by_cases hs : isSplitB (nth ns i) = true
      · have h := (ho i hi).split hs
        rw [if_pos hs, if_pos hs, trOf_split ho hn ha hsa hpa f _ (by omega) (by omega), trOf_split ho hn ha hsa hpa f _ (by omega) (by omega)]
        rfl
      · rw [if_neg hs, if_neg hs]
        have hs : isSplitB (nth ns i) = false := by simpa using hs
        have : (nth ns i).x1 ≠ p := fun h => e (pane_one hn hi ha hs hsa (by omega))
        simp only [sub, if_neg this]
/-- nodes from j on that one did not touch -/
theorem trOf_set {ns : List Q} (ho : Okay ns) {up : Nat} {z : Q} (hu : up < ns.length) : ∀ (f j : Nat), up < j → j < ns.length → ns.length ≤ j + f → trOf (ns.set up z) f j = trOf ns f j
  | 0, j, h1, h2, hf => by omega
  | f + 1, j, h1, h2, hf => by
    have hN : nth (ns.set up z) j = nth ns j := by rw [nth_set h2, if_neg (by omega)]
    unfold trOf
    rw [hN]
    by_cases hs : isSplitB (nth ns j) = true
    · have h := (ho j h2).split hs
      rw [if_pos hs, if_pos hs, trOf_set ho hu f _ (by omega) (by omega) (by omega), trOf_set ho hu f (nth ns j).x4.toNat (by omega) (by omega) (by omega)]
    · rw [if_neg hs, if_neg hs]
theorem over_kid {c : Int} {n : Q} (h : over c n = true) : isSplitB n = true ∧ c ∈ kid n := by
  simp only [over, Bool.and_eq_true, Bool.or_eq_true, beq_iff_eq] at h
  refine ⟨h.1, ?_⟩
  simp only [kid, if_pos h.1, List.mem_cons]
  rcases h.2 with h | h
  · exact .inl h.symm
  · exact .inr (.inl h.symm)
theorem over_one {ns : List Q} (ho : Okay ns) (hu : usesB ns = true) {i j : Nat} {c : Int} (hi : i < ns.length) (hj : j < ns.length) (h1 : over c (nth ns i) = true) (h2 : over c (nth ns j) = true) : i = j := by
  by_cases e : i = j
  · exact e
  · exact absurd (over_kid h2).2 (kids_ne ho hu hi hj e (over_kid h1).2)
/-- a pane's split gives way to the other part -/
theorem trOf_kill {ns : List Q} (ho : Okay ns) (hu : usesB ns = true) (hn : (panes ns).Nodup) {at' up other : Nat} {p : Int} (ha : at' < ns.length) (hsa : isSplitB (nth ns at') = false) (hpa : (nth ns at').x1 = p)
    (hup : up < ns.length) (hov : over at' (nth ns up) = true) (hot : (other : Int) = (nth ns up).x3 + (nth ns up).x4 - at') :
    ∀ (f i : Nat), ns.length ≤ i + f → i < ns.length → trOf (ns.set up (nth ns other)) f i = kill p (trOf ns f i)
  | 0, i, hf, hi => by omega
  | f + 1, i, hf, hi => by
    obtain ⟨hsu, -⟩ := over_kid hov
    have hb := (ho up hup).split hsu
    have hpn := parts_ne ho hu hup hsu
    have hxx : ((nth ns up).x3 = at' ∧ (nth ns up).x4 = other) ∨ ((nth ns up).x3 = other ∧ (nth ns up).x4 = at') := by
      simp only [over, Bool.and_eq_true, Bool.or_eq_true, beq_iff_eq] at hov
      rcases hov.2 with h | h
      · exact .inl ⟨h, by omega⟩
      · exact .inr ⟨by omega, h⟩
    have hol : other < ns.length ∧ up < other ∧ other ≠ at' := by omega
    by_cases e : i = up
    · subst e
      have hself : trOf (ns.set i (nth ns other)) (f + 1) i = trOf ns f other := by
        rw [trOf_fuel ho f (f + 1) other (by omega) (by omega) hol.1]
        have hN : nth (ns.set i (nth ns other)) i = nth ns other := by rw [nth_set hup, if_pos rfl]
        unfold trOf
        rw [hN]
        by_cases hs : isSplitB (nth ns other) = true
        · have h := (ho other hol.1).split hs
          rw [if_pos hs, if_pos hs, trOf_set ho hup f _ (by omega) (by omega) (by omega), trOf_set ho hup f (nth ns other).x4.toNat (by omega) (by omega) (by omega)]
        · rw [if_neg hs, if_neg hs]
      rw [hself]
      have hl0 := trOf_ne_leaf ho hn ha hsa hpa (f := f) (j := other) hol.1 (by omega) hol.2.2
      have hla : trOf ns f at' = .leaf p := by
        cases f with
        | zero => omega
        | succ f => rw [trOf_at hsa, hpa]
      conv => rhs; unfold trOf
      rw [if_pos hsu]
      rcases hxx with ⟨h3, h4⟩ | ⟨h3, h4⟩
      · rw [h3, h4, Int.toNat_natCast, Int.toNat_natCast, hla]
        simp [kill, isL]
      · rw [h3, h4, Int.toNat_natCast, Int.toNat_natCast, hla]
        simp only [kill, hl0]
        simp [isL]
    · have hN : ∀ z, nth (ns.set up z) i = nth ns i := fun z => by rw [nth_set hi, if_neg (by omega)]
      unfold trOf
      rw [hN]
      by_cases hs : isSplitB (nth ns i) = true
      · have h := (ho i hi).split hs
        have hnk : ∀ c, c ∈ kid (nth ns i) → c ≠ (at' : Int) := fun c hc he => by
          subst he
          exact kids_ne ho hu hi hup e hc (over_kid hov).2
        have h3 := hnk _ (kid_mem hs).1
        have h4 := hnk _ (kid_mem hs).2
        rw [if_pos hs, if_pos hs, trOf_kill ho hu hn ha hsa hpa hup hov hot f _ (by omega) (by omega), trOf_kill ho hu hn ha hsa hpa hup hov hot f _ (by omega) (by omega)]
        have l3 := trOf_ne_leaf ho hn ha hsa hpa (f := f) (j := (nth ns i).x3.toNat) (by omega) (by omega) (by omega)
        have l4 := trOf_ne_leaf ho hn ha hsa hpa (f := f) (j := (nth ns i).x4.toNat) (by omega) (by omega) (by omega)
        simp only [kill, l3, l4]
        rfl
      · rw [if_neg hs, if_neg hs]; rfl
/-- First of a pane's split is moved -/
theorem trOf_upd {ns : List Q} (ho : Okay ns) (hu : usesB ns = true) (hn : (panes ns).Nodup) {at' up : Nat} {p y : Int} (ha : at' < ns.length) (hsa : isSplitB (nth ns at') = false) (hpa : (nth ns at').x1 = p)
    (hup : up < ns.length) (hov : over at' (nth ns up) = true) :
    ∀ (f i : Nat), ns.length ≤ i + f → i < ns.length → trOf (ns.set up ⟨(nth ns up).x0, (nth ns up).x1, (nth ns up).x2 + y, (nth ns up).x3, (nth ns up).x4⟩) f i = upd p y (trOf ns f i)
  | 0, i, hf, hi => by omega
  | f + 1, i, hf, hi => by
    obtain ⟨hsu, -⟩ := over_kid hov
    have hb := (ho up hup).split hsu
    by_cases e : i = up
    · subst e
      have hla : trOf ns f at' = .leaf p := by
        cases f with
        | zero => omega
        | succ f => rw [trOf_at hsa, hpa]
      have hN : ∀ z, nth (ns.set i z) i = z := fun z => by rw [nth_set hup, if_pos rfl]
      unfold trOf
      rw [hN, if_pos hsu]
      rw [if_pos (show isSplitB ⟨(nth ns i).x0, (nth ns i).x1, (nth ns i).x2 + y, (nth ns i).x3, (nth ns i).x4⟩ = true from hsu)]
      simp only []
      rw [trOf_set ho hup f _ (by omega) (by omega) (by omega), trOf_set ho hup f (nth ns i).x4.toNat (by omega) (by omega) (by omega)]
      have : isL p (trOf ns f (nth ns i).x3.toNat) = true ∨ isL p (trOf ns f (nth ns i).x4.toNat) = true := by
        simp only [over, Bool.and_eq_true, Bool.or_eq_true, beq_iff_eq] at hov
        rcases hov.2 with h | h
        · left; rw [h, Int.toNat_natCast, hla]; simp [isL]
        · right; rw [h, Int.toNat_natCast, hla]; simp [isL]
      simp only [upd, if_pos this]
    · have hN : ∀ z, nth (ns.set up z) i = nth ns i := fun z => by rw [nth_set hi, if_neg (by omega)]
      unfold trOf
      rw [hN]
      by_cases hs : isSplitB (nth ns i) = true
      · have h := (ho i hi).split hs
        have hnk : ∀ c, c ∈ kid (nth ns i) → c ≠ (at' : Int) := fun c hc he => by
          subst he
          exact kids_ne ho hu hi hup e hc (over_kid hov).2
        have h3 := hnk _ (kid_mem hs).1
        have h4 := hnk _ (kid_mem hs).2
        rw [if_pos hs, if_pos hs, trOf_upd ho hu hn ha hsa hpa hup hov f _ (by omega) (by omega), trOf_upd ho hu hn ha hsa hpa hup hov f _ (by omega) (by omega)]
        have l3 := trOf_ne_leaf ho hn ha hsa hpa (f := f) (j := (nth ns i).x3.toNat) (by omega) (by omega) (by omega)
        have l4 := trOf_ne_leaf ho hn ha hsa hpa (f := f) (j := (nth ns i).x4.toNat) (by omega) (by omega) (by omega)
        simp only [upd, l3, l4]
        simp
      · rw [if_neg hs, if_neg hs]; rfl

/-! the edited nodes are right ones -/
theorem NdOk.more {n : Q} {i m m' : Nat} (h : NdOk n i m) (hm : m ≤ m') : NdOk n i m' := by
  rcases h with h | ⟨h0, h1, h2, h3, h4, h5⟩
  · exact .inl h
  · exact .inr ⟨h0, h1, h2, by omega, h4, by omega⟩
theorem okay_split {ns : List Q} (ho : Okay ns) {at' : Nat} {p q first : Int} {k : Bool} (ha : at' < ns.length) (hp : 0 ≤ p ∧ p ≤ 5) (hq : 0 ≤ q ∧ q ≤ 5) :
    Okay ((ns ++ [lfQ p, lfQ q]).set at' ⟨kd k, 0, first, ((ns.length : Nat) : Int), ((ns.length + 1 : Nat) : Int)⟩) := by
  intro i hi
  simp only [List.length_set, List.length_append, List.length_cons, List.length_nil] at hi ⊢
  by_cases e : at' = i
  · subst e
    rw [nth_set (by simp; omega), if_pos rfl]
    refine .inr ⟨by cases k <;> simp [kd], rfl, ?_, ?_, ?_, ?_⟩ <;> simp only [] <;> omega
  · rw [nth_set (by simp; omega), if_neg e]
    rcases Nat.lt_or_ge i ns.length with h | h
    · rw [nth_app_left h]; exact (ho i h).more (by omega)
    · rw [nth_app_right h]
      rcases (show i - ns.length = 0 ∨ i - ns.length = 1 by omega) with h' | h'
      · rw [h']; exact .inl ⟨rfl, rfl, rfl, rfl, hp.1, hp.2⟩
      · rw [h']; exact .inl ⟨rfl, rfl, rfl, rfl, hq.1, hq.2⟩
theorem okay_kill {ns : List Q} (ho : Okay ns) {up other : Nat} (hup : up < ns.length) (hot : other < ns.length) (hlt : up < other) : Okay (ns.set up (nth ns other)) := by
  intro i hi
  simp only [List.length_set] at hi ⊢
  rw [nth_set hi]
  by_cases e : up = i
  · subst e
    rw [if_pos rfl]
    rcases ho other hot with h | ⟨h0, h1, h2, h3, h4, h5⟩
    · exact .inl h
    · exact .inr ⟨h0, h1, by omega, h3, by omega, h5⟩
  · rw [if_neg e]; exact ho i hi
theorem kids_set {ns : List Q} {up : Nat} {z : Q} (hup : up < ns.length) (h : kid z = kid (nth ns up)) : kids (ns.set up z) = kids ns := by
  have e1 : ns = ns.take up ++ nth ns up :: ns.drop (up + 1) := by rw [nth_eq hup, ← List.drop_eq_getElem_cons hup, List.take_append_drop]
  have e2 : ns.set up z = ns.take up ++ z :: ns.drop (up + 1) := by
    conv => lhs; rw [e1]
    rw [List.set_append_right _ _ (by rw [List.length_take]; omega), List.length_take, Nat.min_eq_left (by omega), Nat.sub_self]
    rfl
  conv => rhs; rw [e1]
  rw [e2]
  unfold kids
  rw [List.flatMap_append, List.flatMap_cons, List.flatMap_append, List.flatMap_cons, h]
theorem panes_set {ns : List Q} {up : Nat} {z : Q} (hup : up < ns.length) (hz : isSplitB z = true) (hs : isSplitB (nth ns up) = true) : panes (ns.set up z) = panes ns := by
  have e1 : ns = ns.take up ++ nth ns up :: ns.drop (up + 1) := by rw [nth_eq hup, ← List.drop_eq_getElem_cons hup, List.take_append_drop]
  have e2 : ns.set up z = ns.take up ++ z :: ns.drop (up + 1) := by
    conv => lhs; rw [e1]
    rw [List.set_append_right _ _ (by rw [List.length_take]; omega), List.length_take, Nat.min_eq_left (by omega), Nat.sub_self]
    rfl
  conv => rhs; rw [e1]
  rw [e2]
  unfold panes
  rw [List.filter_append, List.filter_append, List.filter_cons_of_neg (by simp [hz]), List.filter_cons_of_neg (by simp [hs])]
/-- First moved: still a tree -/
theorem Tree.upd {x : Ly} (h : Tree x) {up : Nat} {y : Int} (hup : up < x.nodes.length) (hs : isSplitB (nth x.nodes up) = true) :
    Tree ⟨x.wide, x.high, x.nodes.set up ⟨(nth x.nodes up).x0, (nth x.nodes up).x1, (nth x.nodes up).x2 + y, (nth x.nodes up).x3, (nth x.nodes up).x4⟩⟩ := by
  have hz : isSplitB ⟨(nth x.nodes up).x0, (nth x.nodes up).x1, (nth x.nodes up).x2 + y, (nth x.nodes up).x3, (nth x.nodes up).x4⟩ = true := hs
  refine ⟨by simpa using h.n0, by simpa using h.n1, h.wide, h.high, ?_, ?_, ?_⟩
  · intro i hi
    simp only [List.length_set] at hi ⊢
    rw [nth_set hi]
    by_cases e : up = i
    · subst e
      rw [if_pos rfl]
      have := (h.okay up hi).split hs
      exact .inr this
    · rw [if_neg e]; exact h.okay i hi
  · have := h.uses
    unfold usesB usesOf at this ⊢
    simp only [List.length_set]
    rw [kids_set hup (by simp only [kid, hz, hs])]
    exact this
  · show (panes _).Nodup
    rw [panes_set hup hz hs]; exact h.once

/-! trees: what the edits do with the panes -/
theorem sub_panes {p : Int} {n t : Tr} : ∀ q, q ∈ (sub p n t).panes ↔ (q ∈ t.panes ∧ q ≠ p) ∨ (p ∈ t.panes ∧ q ∈ n.panes) := by
  induction t with
  | leaf r =>
    intro q
    by_cases e : r = p
    · subst e; simp [sub, Tr.panes]
    · simp only [sub, if_neg e, Tr.panes, List.mem_singleton]
      constructor
      · rintro rfl; exact .inl ⟨rfl, e⟩
      · rintro (h | h)
        · exact h.1
        · exact absurd h.1.symm e
  | node k f a b ia ib =>
    intro q
    simp only [sub, Tr.panes, List.mem_append, ia q, ib q]
    constructor
    · rintro ((⟨h, h'⟩ | ⟨h, h'⟩) | (⟨h, h'⟩ | ⟨h, h'⟩))
      · exact .inl ⟨.inl h, h'⟩
      · exact .inr ⟨.inl h, h'⟩
      · exact .inl ⟨.inr h, h'⟩
      · exact .inr ⟨.inr h, h'⟩
    · rintro (⟨h | h, h'⟩ | ⟨h | h, h'⟩)
      · exact .inl (.inl ⟨h, h'⟩)
      · exact .inr (.inl ⟨h, h'⟩)
      · exact .inl (.inr ⟨h, h'⟩)
      · exact .inr (.inr ⟨h, h'⟩)
/-- the new pane killed again -/
theorem kill_sub {p q f : Int} {k : Bool} {t : Tr} (hq : q ∉ t.panes) (hm : p ∈ t.panes) (hn : t.panes.Nodup) : kill q (sub p (.node k f (.leaf p) (.leaf q)) t) = t ∧ isL q (sub p (.node k f (.leaf p) (.leaf q)) t) = false := by
  have hpq : p ≠ q := fun e => hq (e ▸ hm)
  induction t with
  | leaf r =>
    simp [Tr.panes] at hm
    subst hm
    simp [sub, kill, isL, hpq]
  | node k' f' a b ia ib =>
    simp only [Tr.panes, List.mem_append, not_or] at hm hn hq
    rw [List.nodup_append] at hn
    refine ⟨?_, rfl⟩
    rcases hm with hm | hm
    · have hb : p ∉ b.panes := fun h => hn.2.2 p hm p h rfl
      obtain ⟨h1, h2⟩ := ia hq.1 hm hn.1
      simp only [sub, sub_none hb, kill, h2, isL_not hq.2, h1, kill_none hq.2]
      rfl
    · have ha : p ∉ a.panes := fun h => hn.2.2 p h p hm rfl
      obtain ⟨h1, h2⟩ := ib hq.2 hm hn.2.1
      simp only [sub, sub_none ha, kill, h2, isL_not hq.1, h1, kill_none hq.1]
      rfl
theorem kill_panes {p : Int} {t : Tr} (hm : p ∈ t.panes) (hn : t.panes.Nodup) (hl : isL p t = false) : (kill p t).panes = t.panes.erase p ∧ (kill p t).size + 2 = t.size := by
  induction t with
  | leaf r =>
    simp [Tr.panes] at hm
    subst hm
    simp [isL] at hl
  | node k f a b ia ib =>
    simp only [Tr.panes, List.mem_append] at hm hn
    rw [List.nodup_append] at hn
    rcases hm with hm | hm
    · have hb : p ∉ b.panes := fun h => hn.2.2 p hm p h rfl
      cases hla : isL p a
      · obtain ⟨h1, h2⟩ := ia hm hn.1 hla
        simp only [kill, hla, isL_not hb, kill_none hb]
        simp only [Bool.false_eq_true, if_false, Tr.panes, Tr.size]
        rw [List.erase_append_left _ hm, h1]
        exact ⟨rfl, by omega⟩
      · obtain rfl := isL_is hla
        simp [kill, isL, Tr.panes, Tr.size]; omega
    · have ha : p ∉ a.panes := fun h => hn.2.2 p h p hm rfl
      cases hlb : isL p b
      · obtain ⟨h1, h2⟩ := ib hm hn.2.1 hlb
        simp only [kill, hlb, isL_not ha, kill_none ha]
        simp only [Bool.false_eq_true, if_false, Tr.panes, Tr.size]
        rw [List.erase_append_right _ ha, h1]
        exact ⟨rfl, by omega⟩
      · obtain rfl := isL_is hlb
        have hk : kill p (.node k f a (.leaf p)) = a := by simp only [kill, isL_not ha]; simp [isL]
        rw [hk]
        simp only [Tr.panes, Tr.size]
        rw [List.erase_append_right _ ha]
        simp; omega
theorem isL_size {p : Int} {t : Tr} (hm : p ∈ t.panes) : isL p t = decide (t.size = 1) := by
  cases t with
  | leaf q => simp [Tr.panes] at hm; simp [isL, Tr.size, hm]
  | node k f a b => have := a.size_pos; exact (decide_eq_false (by simp only [Tr.size]; omega)).symm
end Go.Proofs.Ytbfickdgjgbfhaa
