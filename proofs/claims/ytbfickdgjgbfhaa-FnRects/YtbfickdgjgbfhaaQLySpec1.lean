/- The model's look at nodes: l6Node, l6Once. -/
import Derived.Test.YtbfickdgjgbfhaaQQMemToLyTal
import Derived.Test.YtbfickdgjgbfhaaQQOpsToLwLy
namespace Go.Proofs.Ytbfickdgjgbfhaa
open Go.RowKit
set_option linter.unusedVariables false

set_option maxRecDepth 100000 in
set_option maxHeartbeats 2000000 in
theorem l6Node_any (q : Q) (b o : Nat) (i m : Nat) (w : World) (h : QAt w b o q) (hi : i ≤ 100) (hm : m ≤ 100) :
    Calls Try.prog 95 #[.pointer (some ⟨b, o, none⟩), .int .i64 i, .int .i64 m] w fun e w' => e = .returned (.int .i64 (ndFault q i m)) ∧ w = w' := by
  obtain ⟨c0, c1, c2, c3, c4⟩ := h
  have hi0 : (0 : Int) ≤ i := by omega
  have hm0 : (0 : Int) ≤ m := by omega
  by_cases h1 : q.x0 = 1
  · by_cases h2 : q.x2 = 0 ∧ q.x3 = 0 ∧ q.x4 = 0
    · obtain ⟨g2, g3, g4⟩ := h2
      cases h5 : inR q.x1 0 5
      all_goals
        have HR := Lib.hid (show ndFault q i m = _ by unfold ndFault; rw [if_pos h1, if_pos ⟨g2, g3, g4⟩, h5])
        rw [h1] at c0
        rw [g2] at c2
        rw [g3] at c3
        rw [g4] at c4
        clear h1 g2 g3 g4
        go_enter Try.func95, Try.ntmps95
        go_wp2_with (go_at_call 52; refine (l1In_any _ _ _ _).mono ?_; rw [h5]; rintro e w' ⟨rfl, rfl⟩)
        go_ret
        exact ⟨ret_int (by rw [HR.out]; simp), rfl⟩
    · have HR := Lib.hid (show ndFault q i m = 1 by unfold ndFault; rw [if_pos h1, if_neg h2])
      rw [h1] at c0
      clear h1
      cases g2 : (q.x2 != 0) <;> cases g3 : (q.x3 != 0) <;> cases g4 : (q.x4 != 0)
      all_goals first
        | (exfalso; simp at g2 g3 g4; exact h2 ⟨g2, g3, g4⟩)
        | (clear h2
           go_enter Try.func95, Try.ntmps95
           go_wp2
           go_ret
           exact ⟨ret_int HR.out.symm, rfl⟩)
  · by_cases h2 : q.x0 = 2 ∨ q.x0 = 3
    · by_cases h3 : q.x1 = 0
      · have HR := Lib.hid (show ndFault q i m = (if inR q.x3 (i + 1) (m - 1) = true ∧ inR q.x4 (i + 1) (m - 1) = true then 0 else 3) by unfold ndFault; rw [if_neg h1, if_pos h2, if_pos h3])
        rw [h3] at c1
        clear h3
        rcases h2 with h2 | h2
        all_goals
          rw [h2] at c0
          clear h1 h2
          cases g3 : inR q.x3 (i + 1) (m - 1) <;> cases g4 : inR q.x4 (i + 1) (m - 1)
        all_goals
          rw [g3, g4] at HR
          go_enter Try.func95, Try.ntmps95
          go_wp2_with (go_at_call 52; refine (l1In_any _ _ _ _).mono ?_; (first | rw [g3] | rw [g4]); rintro e w' ⟨rfl, rfl⟩)
          go_ret
          exact ⟨ret_int (by rw [HR.out]; simp), rfl⟩
      · have HR := Lib.hid (show ndFault q i m = 1 by unfold ndFault; rw [if_neg h1, if_pos h2, if_neg h3])
        have h3' : (q.x1 != 0) = true := by simpa using h3
        clear h3
        rcases h2 with h2 | h2
        all_goals
          rw [h2] at c0
          clear h1 h2
          go_enter Try.func95, Try.ntmps95
          go_wp2
          go_ret
          exact ⟨ret_int HR.out.symm, rfl⟩
    · have HR := Lib.hid (show ndFault q i m = 1 by unfold ndFault; rw [if_neg h1, if_neg h2])
      have g1 : (q.x0 == 1) = false := by simpa using h1
      have g2 : (q.x0 == 2) = false := by simp; omega
      have g3 : (q.x0 == 3) = false := by simp; omega
      clear h1 h2
      go_enter Try.func95, Try.ntmps95
      go_wp2
      go_ret
      exact ⟨ret_int HR.out.symm, rfl⟩

/-- the model's tally begins with the root's one use -/
def rootOne (j : Nat) : Int := if j = 0 then 1 else 0
theorem tal_root (n : Nat) (h : 0 < n) : (List.replicate n (0 : Int)).set 0 1 = tal n rootOne [] := by
  apply List.ext_getElem
  · simp [tal]
  · intro i h1 h2
    rw [List.getElem_set]
    simp only [tal, List.getElem_map, List.getElem_range, List.getElem_replicate, rootOne, List.count_nil]
    split
    · rename_i e; subst e; simp
    · rename_i e; rw [if_neg (Ne.symm e)]; rfl

/-- l6Once behind k nodes -/
structure OnceRel (w : World) (ns : List Q) (k : Nat) (wr : World) : Prop where
  used : OwnN wr w.heap.size (.slice (some ⟨w.heap.size, 0, none⟩) ns.length ns.length) (tal ns.length rootOne (kids (ns.take k)))
  seen : OwnN wr w.heap.size (.slice (some ⟨w.heap.size + 1, 0, none⟩) 6 6) (tal 6 (fun _ => 0) (panes (ns.take k)))
  once : (panes (ns.take k)).Nodup
  below : Below w.heap.size w wr

theorem OnceRel.leaf {w wr : World} {ns : List Q} {k : Nat} (h : OnceRel w ns k wr) (hk : k < ns.length) (hs : isSplitB (nth ns k) = false) (p : Nat) (hp : (nth ns k).x1 = p) (hp5 : p ≤ 5) (hc : (panes (ns.take k)).count (p : Int) = 0) :
    OnceRel w ns (k + 1) (wr.setCell ⟨w.heap.size + 1, p, none⟩ (.int .i64 (((panes (ns.take k)).count (p : Int) : Nat) + 1))) := by
  have hst := h.seen.stored p (((panes (ns.take k)).count (p : Int) : Nat) + 1)
  have ht := tal_set 6 (fun _ => 0) (panes (ns.take k)) p (by omega)
  simp only [Int.zero_add] at ht
  rw [ht] at hst
  have e : panes (ns.take (k + 1)) = panes (ns.take k) ++ [(p : Int)] := by rw [panes_succ ns k hk, hs, hp]; simp
  refine ⟨?_, by rw [e]; exact hst.1, by rw [e]; exact nodup_more h.once hc, h.below.trans (below_of_grown hst.2 h.below.size (fun g hg => by cases hg; omega))⟩
  rw [kids_succ ns k hk, kid_leaf hs, List.append_nil]
  exact h.used.far hst.2 (fun g hg e => by simp [Value.ownBlock] at hg e; omega)

theorem OnceRel.split {w wr : World} {ns : List Q} {k : Nat} (h : OnceRel w ns k wr) (hk : k < ns.length) (hs : isSplitB (nth ns k) = true) (a b : Nat) (ha : (nth ns k).x3 = a) (hb : (nth ns k).x4 = b) (hal : a < ns.length) (hbl : b < ns.length) :
    OnceRel w ns (k + 1) ((wr.setCell ⟨w.heap.size, a, none⟩ (.int .i64 (rootOne a + ((kids (ns.take k)).count (a : Int) : Nat) + 1))).setCell ⟨w.heap.size, b, none⟩ (.int .i64 (rootOne b + ((kids (ns.take k) ++ [(a : Int)]).count (b : Int) : Nat) + 1))) := by
  have s1 := h.used.stored a (rootOne a + ((kids (ns.take k)).count (a : Int) : Nat) + 1)
  rw [tal_set _ _ _ a hal] at s1
  have s2 := s1.1.stored b (rootOne b + ((kids (ns.take k) ++ [(a : Int)]).count (b : Int) : Nat) + 1)
  rw [tal_set _ _ _ b hbl] at s2
  have hg := grown_trans s1.2 s2.2
  have e : kids (ns.take (k + 1)) = kids (ns.take k) ++ [(a : Int)] ++ [(b : Int)] := by rw [kids_succ ns k hk, kid_split hs, ha, hb, List.append_assoc]
  have e2 : panes (ns.take (k + 1)) = panes (ns.take k) := by rw [panes_succ ns k hk, if_pos hs, List.append_nil]
  refine ⟨by rw [e]; exact s2.1, by rw [e2]; exact h.seen.far hg (fun g hg e => by simp [Value.ownBlock] at hg e; omega), by rw [e2]; exact h.once, h.below.trans (below_of_grown hg h.below.size (fun g hg => by cases hg; exact Nat.le_refl _))⟩

theorem once_end {ns : List Q} (ho : Okay ns) (hn : (panes ns).Nodup) (h : ∀ j, j < ns.length → rootOne j + (((kids ns).count (j : Int) : Nat) : Int) = 1) : treeB ns = true := by
  unfold treeB
  rw [Bool.and_eq_true, usesB_iff]
  refine ⟨fun j h0 hj => ?_, by simpa using hn⟩
  have := h j hj
  unfold rootOne at this
  rw [if_neg (by omega)] at this
  unfold usesOf
  omega
theorem once_not {ns : List Q} (ho : Okay ns) {j : Nat} (hj : j < ns.length) (h : rootOne j + (((kids ns).count (j : Int) : Nat) : Int) ≠ 1) : treeB ns = false := by
  rw [Bool.eq_false_iff]
  intro ht
  unfold treeB at ht
  rw [Bool.and_eq_true, usesB_iff] at ht
  apply h
  unfold rootOne
  by_cases h0 : j = 0
  · subst h0; rw [if_pos rfl]; have := zero_kid ho; simp [this]
  · rw [if_neg h0]; have := ht.1 j (by omega) hj; unfold usesOf at this; omega
theorem twice_not {ns : List Q} (h : ¬ (panes ns).Nodup) : treeB ns = false := by
  unfold treeB; simp [h]

end Go.Proofs.Ytbfickdgjgbfhaa
