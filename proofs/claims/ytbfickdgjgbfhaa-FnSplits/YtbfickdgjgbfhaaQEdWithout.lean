/- The program's without: a list of nodes without two of them. -/
import Derived.Test.YtbfickdgjgbfhaaQEdLinkToEdIns
import Derived.WalkMore
import Derived.ScopeJumps
import Derived.Handy
namespace Go.Proofs.Ytbfickdgjgbfhaa
open Go.RowKit
set_option linter.unusedVariables false
set_option linter.unusedSimpArgs false

/-- the rows whose number is neither i nor j, counted from k on -/
def keepQ (i j : Int) : Nat → List Q → List Q
  | _, [] => []
  | k, q :: t => if (k : Int) = i ∨ (k : Int) = j then keepQ i j (k + 1) t else q :: keepQ i j (k + 1) t
theorem keepQ_none (i j : Int) : ∀ (l : List Q) (k : Nat), (i < k ∨ ((k + l.length : Nat) : Int) ≤ i) → (j < k ∨ ((k + l.length : Nat) : Int) ≤ j) → keepQ i j k l = l
  | [], k, _, _ => rfl
  | q :: t, k, hi, hj => by
    simp only [List.length_cons] at hi hj
    rw [keepQ, if_neg (by omega), keepQ_none i j t (k + 1) (by omega) (by omega)]
theorem keepQ_app (i j : Int) : ∀ (u v : List Q) (k : Nat), keepQ i j k (u ++ v) = keepQ i j k u ++ keepQ i j (k + u.length) v
  | [], v, k => by simp [keepQ]
  | q :: u, v, k => by
    simp only [List.cons_append, keepQ, List.length_cons]
    rw [keepQ_app i j u v (k + 1), show k + 1 + u.length = k + (u.length + 1) by omega]
    split <;> rfl
theorem keepQ_snoc (i j : Int) (l : List Q) (k : Nat) (h : k < l.length) : keepQ i j 0 (l.take (k + 1)) = keepQ i j 0 (l.take k) ++ (if (k : Int) = i ∨ (k : Int) = j then [] else [nth l k]) := by
  rw [take_snoc l k h, keepQ_app]
  congr 1
  have e : 0 + (l.take k).length = k := by rw [List.length_take]; omega
  rw [e, keepQ, keepQ]
theorem keepQ_le (i j : Int) : ∀ (l : List Q) (k : Nat), (keepQ i j k l).length ≤ l.length
  | [], _ => Nat.le_refl _
  | q :: t, k => by
    have := keepQ_le i j t (k + 1)
    simp only [keepQ]
    split <;> simp <;> omega

set_option maxRecDepth 100000 in
set_option maxHeartbeats 4000000 in
theorem without_any (l : List Q) (i j : Int) (p : Option Addr) (c gb : Nat) (w : World) (h : Qs w w.heap.size p l) (hl : l.length ≤ 100) (h0 : w.cell? ⟨gb, 0, none⟩ = some (.int .i64 i)) (h1 : w.cell? ⟨gb, 1, none⟩ = some (.int .i64 j)) :
    Calls Try.prog 71 #[.slice p l.length c, .slice (some ⟨gb, 0, none⟩) 2 2] w (NewL w (keepQ i j 0 l)) := by
  have hgb := World.block_lt_of_cell? _ _ h0
  dsimp only at hgb
  have HH := Lib.hid h
  have HG := Lib.hid (fun W (hb : Below w.heap.size w W) => And.intro ((hb.cell (p := ⟨gb, 0, none⟩) hgb).trans h0) ((hb.cell (p := ⟨gb, 1, none⟩) hgb).trans h1))
  obtain ⟨i0r, hi0r, hz0, hz1, hz2⟩ := info_parts Try.info_nodeD
  have HI := Lib.hid (And.intro hi0r (And.intro hz0 (And.intro hz1 hz2)))
  clear hi0r hz0 hz1 hz2 h h0 h1
  go_enter Try.func71, Try.ntmps71
  go_wp2
  go_loopw [5, 6, 8] (fun v a _ wr => ∃ k : Nat, k ≤ l.length ∧ a = .int .i64 k ∧ OwnQ 76 wr w.heap.size v (keepQ i j 0 (l.take k)) ∧ Below w.heap.size w wr) (fun _ a _ _ => l.length - (intOf a).toNat)
  case atStart => exact ⟨0, by omega, rfl, by simpa [keepQ] using ownQ_nil _ _ _, Below.refl _ _⟩
  case round =>
    obtain ⟨k, hk, rfl, ho, hb⟩ := hrel
    have HO := Lib.hid ho
    have HB := Lib.hid hb
    clear ho hb
    by_cases hlt : k < l.length
    · obtain ⟨bn, off, rfl, _, _, hq⟩ := (HH.out.on HB.out) (by intro e; simp [e] at hlt)
      have hqk := hq k hlt
      obtain ⟨g0, g1⟩ := HG.out _ HB.out
      have HS := Lib.hid (keepQ_snoc i j l k hlt)
      have HLE := Lib.hid (Nat.le_trans (keepQ_le i j (l.take k) 0) (List.length_take_le _ _))
      have i1 : (k : Int) < (l.length : Int) := by omega
      have i0 : (0 : Int) ≤ (k : Int) := by omega
      clear hq
      by_cases hin : (k : Int) = i ∨ (k : Int) = j
      · rw [if_pos hin, List.append_nil] at HS
        have HIN := Lib.hid hin
        clear hin hqk
        go_wp2
        refine wp_scope_jumps 0 (fun a' w' => w' = wr ∧ ∃ x8 x9 x10 x11 x12 x13 x14 x15 x16 x17 x18 x19 x20 x21 x22 x23 x24 x25 x26 x27 x28 x29 x30 x31 : Value, a' = { tmps := #[.slice (some ⟨bn, off, none⟩) l.length c, .slice (some ⟨gb, 0, none⟩) 2 2, undef, undef, .slice none 0 0, u5, .int .i64 k, undef, x8, x9, x10, x11, x12, x13, x14, x15, x16, x17, x18, x19, x20, x21, x22, x23, x24, x25, x26, x27, x28, x29, x30, x31, undef], defers := [] }) (fun _ _ => 0) rfl ?_ ?_
        · cases h1 : ((k : Int) == i)
          · have h2 : ((k : Int) == j) = true := by have := HIN.out; simp at h1 ⊢; omega
            go_wp2
            refine wp_loop_rounds 2 ?_
            rw [rounds_succ]
            go_wp2
            rw [rounds_succ]
            go_wp2
            refine wp_goto ?_
            exact And.intro rfl ⟨rfl, _, _, _, _, _, _, _, _, _, _, _, _, _, _, _, _, _, _, _, _, _, _, _, _, rfl⟩
          · go_wp2
            refine wp_loop_rounds 1 ?_
            rw [rounds_succ]
            go_wp2
            refine wp_goto ?_
            exact And.intro rfl ⟨rfl, _, _, _, _, _, _, _, _, _, _, _, _, _, _, _, _, _, _, _, _, _, _, _, _, rfl⟩
        · rintro a' w' ⟨rfl, x8, x9, x10, x11, x12, x13, x14, x15, x16, x17, x18, x19, x20, x21, x22, x23, x24, x25, x26, x27, x28, x29, x30, x31, rfl⟩
          go_wp2
          refine (show Exit.inBlock 1 _ Exit.normal _ _ from ?_)
          go_wp2
          exact ⟨⟨k + 1, by omega, by go_num, by rw [HS.out]; exact HO.out, HB.out⟩, by simp [intOf]; omega⟩
      · rw [if_neg hin] at HS
        have h1 : ((k : Int) == i) = false := by simp; omega
        have h2 : ((k : Int) == j) = false := by simp; omega
        obtain ⟨c0, c1, c2, c3, c4⟩ := hqk
        have HNW := Lib.hid (fun j u hj => qat_new wr (nth l k) 76 j u hj)
        have HO4 := Lib.hid (HO.out.on (below_mk wr (.cells #[.int .i64 (nth l k).x0, .int .i64 (nth l k).x1, .int .i64 (nth l k).x2, .int .i64 (nth l k).x3, .int .i64 (nth l k).x4] 76)))
        have hsz := HB.out.size
        clear hin
        go_wp2
        go_step3
        go_wp2
        refine wp_loop_rounds 3 ?_
        rw [rounds_succ]
        go_wp2
        rw [rounds_succ]
        go_wp2
        rw [rounds_succ]
        go_wp2_with (at_builtin; refine wpList_append_own _ rfl _ _ 26 rfl w.heap.size 76 i0r _ 5 40 Try.underlying26 HI.out.1 HI.out.2.1 HI.out.2.2.1 HI.out.2.2.2 rfl (by decide) _ _ _ rfl HO4.out ⟨wr.heap.size, 0, none⟩ 1 1 (qC (nth l k)) rfl rfl HNW.out (qC_one _) (by have := HLE.out; unfold maxLen; omega) (by have := HLE.out; omega) (by simp; omega) ?_; intro v' w4 hown hgrow _)
        go_step3
        go_wp2
        rw [Exit.noGoto_normal]
        go_wp2
        have hb4 : Below w.heap.size w w4 := (below_on HB.out (below_mk wr _)).trans (below_of_grown hgrow (by simp; omega) (fun g hg => (HO.out.lt g hg).1))
        exact ⟨⟨k + 1, by omega, by go_num, by rw [HS.out]; exact OwnQ.snoc hown, hb4⟩, by simp [intOf]; omega⟩
    · obtain rfl : k = l.length := by omega
      rw [List.take_length] at HO
      go_wp2
      go_ret
      exact ⟨_, rfl, HO.out, HB.out⟩
end Go.Proofs.Ytbfickdgjgbfhaa
