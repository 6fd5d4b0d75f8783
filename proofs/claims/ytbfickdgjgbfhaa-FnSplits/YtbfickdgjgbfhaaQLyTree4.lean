/- The program's numbers anew, node by node from the end on. Plain facts. -/
import Derived.Test.YtbfickdgjgbfhaaQNumsToLyTree3
namespace Go.Proofs.Ytbfickdgjgbfhaa
set_option linter.unusedVariables false
set_option linter.unusedSimpArgs false

/-- the nodes that no split has taken, behind the nodes from k on -/
def stk (l : List Q) (k : Nat) : List Int := (lk k (l.drop k)).2
/-- the nodes, those from k on with their numbers -/
def dn (l : List Q) (k : Nat) : List Q := l.take k ++ (lk k (l.drop k)).1
theorem lk_len (l : List Q) : ∀ s, (lk s l).1.length = l.length := by
  induction l with
  | nil => intro s; rfl
  | cons q t ih => intro s; simp only [lk]; split <;> simp [ih]
theorem dn_len (l : List Q) (k : Nat) : (dn l k).length = l.length := by
  unfold dn; rw [List.length_append, lk_len, ← List.length_append, List.take_append_drop]
theorem dn_zero (l : List Q) : dn l 0 = (lk 0 l).1 := by simp [dn]
theorem dn_end (l : List Q) : dn l l.length = l := by simp [dn, lk]
theorem stk_end (l : List Q) : stk l l.length = [] := by simp [stk, lk]
theorem stk_le (l : List Q) : ∀ s, (lk s l).2.length ≤ l.length := by
  induction l with
  | nil => intro s; simp [lk]
  | cons q t ih => intro s; have := ih (s + 1); simp only [lk]; split <;> simp <;> omega
theorem lk_at (l : List Q) (k : Nat) (h : k < l.length) : lk k (l.drop k) =
    if isSplitB (nth l k) = true then (⟨(nth l k).x0, (nth l k).x1, (nth l k).x2, (stk l (k + 1)).getD 0 0, (stk l (k + 1)).getD 1 0⟩ :: (lk (k + 1) (l.drop (k + 1))).1, (k : Int) :: (stk l (k + 1)).drop 2)
    else (nth l k :: (lk (k + 1) (l.drop (k + 1))).1, (k : Int) :: stk l (k + 1)) := by
  rw [List.drop_eq_getElem_cons h, lk, nth_eq h]; rfl
theorem dn_at (l : List Q) (k : Nat) (h : k < l.length) : nth (dn l (k + 1)) k = nth l k := by
  unfold dn
  rw [nth_eq (by rw [List.length_append, lk_len, ← List.length_append, List.take_append_drop]; exact h), nth_eq h, List.getElem_append_left (by simp; omega)]
  simp
theorem take_snoc (l : List Q) (k : Nat) (h : k < l.length) : l.take (k + 1) = l.take k ++ [nth l k] := by rw [List.take_succ_eq_append_getElem h, nth_eq h]
theorem dn_leaf (l : List Q) (k : Nat) (h : k < l.length) (hs : isSplitB (nth l k) = false) : dn l k = dn l (k + 1) ∧ stk l k = (k : Int) :: stk l (k + 1) := by
  have e := lk_at l k h
  rw [if_neg (by simp [hs])] at e
  refine ⟨?_, by unfold stk; rw [e]; rfl⟩
  unfold dn
  rw [e, take_snoc l k h]
  simp
theorem dn_split (l : List Q) (k : Nat) (h : k < l.length) (hs : isSplitB (nth l k) = true) (a b : Int) (r : List Int) (hst : stk l (k + 1) = a :: b :: r) :
    dn l k = (dn l (k + 1)).set k ⟨(nth l k).x0, (nth l k).x1, (nth l k).x2, a, b⟩ ∧ stk l k = (k : Int) :: r := by
  have e := lk_at l k h
  rw [if_pos hs, hst] at e
  refine ⟨?_, by unfold stk; rw [e]; rfl⟩
  unfold dn
  rw [e, take_snoc l k h, List.append_assoc, List.set_append_right _ _ (by simp; omega)]
  simp [Nat.min_eq_left (Nat.le_of_lt h)]
theorem pre_len (t : Tr) : (pre t).length = t.size := by
  rw [← num_strip t 0, List.length_map, num_len]
/-- at a split there are two nodes to take -/
theorem lk_two (t : Tr) : ∀ (s : Nat) (m : List Q) (k : Nat), k < t.size → isSplitB (nth (pre t ++ m) k) = true → 2 ≤ (lk (s + k + 1) ((pre t ++ m).drop (k + 1))).2.length := by
  induction t with
  | leaf p =>
    intro s m k hk hs
    simp only [Tr.size] at hk
    obtain rfl : k = 0 := by omega
    rw [pre, List.cons_append, nth_zero, lf_split] at hs
    cases hs
  | node kk f a b ia ib =>
    intro s m k hk hs
    simp only [Tr.size] at hk
    simp only [pre, List.cons_append, List.append_assoc] at hs ⊢
    cases k with
    | zero =>
      rw [List.drop_succ_cons, List.drop_zero, lk_pre, lk_pre]
      simp
    | succ k =>
      rw [nth_succ] at hs
      rw [List.drop_succ_cons]
      rcases Nat.lt_or_ge k a.size with h | h
      · have := ia (s + 1) (pre b ++ m) k h hs
        rwa [show s + (k + 1) + 1 = s + 1 + k + 1 by omega]
      · obtain ⟨j, rfl⟩ := Nat.exists_eq_add_of_le h
        rw [nth_app_right (by rw [pre_len]; omega), pre_len, Nat.add_sub_cancel_left] at hs
        have := ib (s + 1 + a.size) m j (by omega) hs
        rw [show s + (a.size + j + 1) + 1 = s + 1 + a.size + j + 1 by omega, List.drop_append, pre_len, List.drop_eq_nil_of_le (by rw [pre_len]; omega), List.nil_append,
          show a.size + j + 1 - a.size = j + 1 by omega]
        exact this
theorem stk_two {l : List Q} {t : Tr} (h : l.map strip = pre t) (k : Nat) (hk : k < l.length) (hs : isSplitB (nth l k) = true) : ∃ a b r, stk l (k + 1) = a :: b :: r := by
  have hl : l.length = t.size := by rw [← pre_len, ← h, List.length_map]
  have h1 : nth (pre t ++ []) k = strip (nth l k) := by
    rw [List.append_nil, ← h, nth_eq (by simpa using hk), nth_eq hk]; simp
  have := lk_two t 0 [] k (by omega) (by rw [h1, strip_split]; exact hs)
  rw [List.append_nil, ← h, ← List.map_drop, lk_strip, Nat.zero_add] at this
  unfold stk
  match hm : (lk (k + 1) (l.drop (k + 1))).2, this with
  | a :: b :: r, _ => exact ⟨a, b, r, rfl⟩
  | [], h' => simp at h'
  | [_], h' => simp at h'
theorem dn_all {l : List Q} {t : Tr} (h : l.map strip = pre t) : dn l 0 = num t 0 := by rw [dn_zero, lk_all h]
end Go.Proofs.Ytbfickdgjgbfhaa
