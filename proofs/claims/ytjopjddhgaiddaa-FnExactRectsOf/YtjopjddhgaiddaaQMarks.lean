/- The laws' own marks over layouts and places. -/
import Derived.Test.YtjopjddhgaiddaaLyRes2
namespace Go.Proofs.Ytjopjddhgaiddaa
open Go.RowKit
set_option linter.unusedVariables false

set_option maxRecDepth 100000 in
set_option maxHeartbeats 2000000 in
theorem eqRect_same (q : Q) (w : World) : Calls Try.prog 74 #[.agg #[.int .i64 q.x0, .int .i64 q.x1, .int .i64 q.x2, .int .i64 q.x3, .int .i64 q.x4], .agg #[.int .i64 q.x0, .int .i64 q.x1, .int .i64 q.x2, .int .i64 q.x3, .int .i64 q.x4]] w fun e w' => e = .returned (.bool true) ∧ Below w.heap.size w w' := by
  go_enter Try.func74, Try.ntmps74
  go_wp2
  go_ret
  exact ⟨rfl, below_on (below_mk _ _) (below_mk _ _)⟩

set_option maxRecDepth 100000 in
set_option maxHeartbeats 4000000 in
theorem eqRectS_same (p q : Option Addr) (c d : Nat) (x : List Q) (w : World) (h : Qs w w.heap.size p x) (k : Qs w w.heap.size q x) (hx : x.length ≤ 1048576) :
    Calls Try.prog 50 #[.slice p x.length c, .slice q x.length d] w fun e w' => e = .returned (.bool true) ∧ Below w.heap.size w w' := by
  have H := Lib.hid h
  have K := Lib.hid k
  clear h k
  go_enter Try.func50, Try.ntmps50
  go_wp2
  go_loopw [5] (fun i wr => ∃ j : Nat, j ≤ x.length ∧ i = .int .i64 j ∧ Below w.heap.size w wr) (fun i _ => x.length - (intOf i).toNat)
  case atStart => exact ⟨0, by omega, rfl, Below.refl _ _⟩
  case round =>
    obtain ⟨j, hj, rfl, hb⟩ := hrel
    by_cases hlt : j < x.length
    · obtain ⟨b, off, rfl, _, _, hc⟩ := (H.out.on hb) (by intro e; simp [e] at hlt)
      obtain ⟨b', off', rfl, _, _, hc'⟩ := (K.out.on hb) (by intro e; simp [e] at hlt)
      obtain ⟨c0, c1, c2, c3, c4⟩ := hc j hlt
      obtain ⟨e0, e1, e2, e3, e4⟩ := hc' j hlt
      have i1 : (j : Int) < (x.length : Int) := by omega
      have i0 : (0 : Int) ≤ (j : Int) := by omega
      clear hc hc'
      go_wp2
      go_still_tail 8, (by kernel_rfl)
      change wpList _ _ _ _ _ wr.drew
      have hbd : Below wr.heap.size wr wr.drew := (Below.refl _ _).drew
      have hb2 := below_on hb hbd
      clear c0 c1 c2 c3 c4 e0 e1 e2 e3 e4 hbd
      generalize wr.drew = w2 at hb2 ⊢
      go_wp2_with (go_at_call 74; refine (eqRect_same (nth x j) _).mono ?_; rintro en w3 ⟨rfl, hb3⟩)
      exact ⟨⟨j + 1, by omega, by go_num, below_on hb2 hb3⟩, by simp [intOf]; omega⟩
    · go_wp2
      go_ret
      exact ⟨rfl, hb⟩



set_option maxRecDepth 100000 in
set_option maxHeartbeats 2000000 in
theorem eqRectsResult_same (k : Int) (l : List Q) (p q : Option Addr) (c d : Nat) (w : World) (h : Qs w w.heap.size p l) (h' : Qs w w.heap.size q l) (hl : l.length ≤ 1048576) :
    Calls Try.prog 19 #[.agg #[.int .i64 k, .slice p l.length c], .agg #[.int .i64 k, .slice q l.length d]] w fun en w' => en = .returned (.bool true) ∧ Below w.heap.size w w' := by
  go_enter Try.func19, Try.ntmps19
  go_wp2_with fail
  refine (eqRectS_same _ _ _ _ _ _ ((h.alloc _).alloc _) ((h'.alloc _).alloc _) hl).mono ?_
  rintro en w1 ⟨rfl, hb⟩
  go_wp2
  go_ret
  exact ⟨rfl, below_on (below_on (below_mk _ _) (below_mk _ _)) hb⟩

/-- what marking leaves -/
def MarkedQ (T : TypeId) (w : World) (base : Nat) (v : Value) (l : List Q) (k : Nat) (e : Ending) (w' : World) : Prop :=
  e = .returned (.int .i64 ((k + l.length * 5 : Nat) : Int)) ∧ OwnQ T w' base v (marksQ k l.length) ∧ w.grownBy w' v.ownBlock

theorem OwnQ.markRow {T : TypeId} {w : World} {base g n c k j : Nat} {l : List Q} (h : OwnQ T w base (.slice (some ⟨g, 0, none⟩) n c) (halfQ l k j)) (hj : j < l.length) :
    OwnQ T (((((w.setCell ⟨g, j * 5, none⟩ (.int .i64 ((k + j * 5 : Nat) : Int))).setCell ⟨g, j * 5 + 1, none⟩ (.int .i64 (((k + j * 5 : Nat) : Int) + 1))).setCell ⟨g, j * 5 + 2, none⟩ (.int .i64 (((k + j * 5 : Nat) : Int) + 1 + 1))).setCell ⟨g, j * 5 + 3, none⟩ (.int .i64 (((k + j * 5 : Nat) : Int) + 1 + 1 + 1))).setCell ⟨g, j * 5 + 4, none⟩ (.int .i64 (((k + j * 5 : Nat) : Int) + 1 + 1 + 1 + 1))) base (.slice (some ⟨g, 0, none⟩) n c) (halfQ l k (j + 1)) ∧
    w.grownBy (((((w.setCell ⟨g, j * 5, none⟩ (.int .i64 ((k + j * 5 : Nat) : Int))).setCell ⟨g, j * 5 + 1, none⟩ (.int .i64 (((k + j * 5 : Nat) : Int) + 1))).setCell ⟨g, j * 5 + 2, none⟩ (.int .i64 (((k + j * 5 : Nat) : Int) + 1 + 1))).setCell ⟨g, j * 5 + 3, none⟩ (.int .i64 (((k + j * 5 : Nat) : Int) + 1 + 1 + 1))).setCell ⟨g, j * 5 + 4, none⟩ (.int .i64 (((k + j * 5 : Nat) : Int) + 1 + 1 + 1 + 1))) (some g) := by
  have e : (⟨((k + j * 5 : Nat) : Int), ((k + j * 5 : Nat) : Int) + 1, ((k + j * 5 : Nat) : Int) + 1 + 1, ((k + j * 5 : Nat) : Int) + 1 + 1 + 1, ((k + j * 5 : Nat) : Int) + 1 + 1 + 1 + 1⟩ : Q) = markQ (k + j * 5) := by
    unfold markQ; congr 1 <;> omega
  have := h.put j ⟨((k + j * 5 : Nat) : Int), ((k + j * 5 : Nat) : Int) + 1, ((k + j * 5 : Nat) : Int) + 1 + 1, ((k + j * 5 : Nat) : Int) + 1 + 1 + 1, ((k + j * 5 : Nat) : Int) + 1 + 1 + 1 + 1⟩ (by rw [halfQ_len l k j (by omega)]; exact hj)
  rw [← halfQ_set l k j hj, ← e]
  exact this


set_option maxRecDepth 100000 in
set_option maxHeartbeats 4000000 in
theorem markNodeS_own (w : World) (base g cap k : Nat) (l : List Q) (h : OwnQ 62 w base (.slice (some ⟨g, 0, none⟩) l.length cap) l) (hl : l.length ≤ 1048576) (hk : k ≤ 1048576) :
    Calls Try.prog 51 #[.slice (some ⟨g, 0, none⟩) l.length cap, .int .i64 k] w (MarkedQ 62 w base (.slice (some ⟨g, 0, none⟩) l.length cap) l k) := by
  have HO := Lib.hid h
  clear h
  go_enter Try.func51, Try.ntmps51
  go_wp2
  go_loopw [1, 5] (fun q i wr => ∃ j : Nat, j ≤ l.length ∧ i = .int .i64 j ∧ q = .int .i64 (k + j * 5 : Nat) ∧ OwnQ 62 wr base (.slice (some ⟨g, 0, none⟩) l.length cap) (halfQ l k j) ∧ w.grownBy wr (some g)) (fun _ i _ => l.length - (intOf i).toNat)
  case atStart => exact ⟨0, by omega, rfl, by simp, by rw [halfQ_zero]; exact HO.out, World.grownBy.refl w _⟩
  case round =>
    obtain ⟨j, hj, rfl, rfl, ho, hg⟩ := hrel
    by_cases hlt : j < l.length
    · have HS := Lib.hid (ho.markRow hlt)
      obtain ⟨-, hrow, hfz⟩ := ho.row
      obtain ⟨c0, c1, c2, c3, c4⟩ := hrow j (by rw [halfQ_len l k j hj]; exact hlt)
      have HG := Lib.hid hg
      have i3 : (j : Int) < (l.length : Int) := by omega
      have i0 : (0 : Int) ≤ (j : Int) := by omega
      clear ho hg HO hrow
      generalize hm : (k + j * 5 : Nat) = m at *
      have hm0 : (m : Int) ≤ 10000000 := by omega
      have HM := Lib.hid hm
      clear hm
      go_wp2
      exact ⟨⟨j + 1, by omega, by go_num, by have := HM.out; go_num, HS.out.1, grown_trans HG.out HS.out.2⟩, by simp [intOf]; omega⟩
    · obtain rfl : j = l.length := by omega
      rw [halfQ_all] at ho
      go_wp2
      go_ret
      exact ⟨rfl, ho, hg⟩

set_option maxHeartbeats 400000 in
theorem markNodeS_nil (w : World) (k : Nat) :
    Calls Try.prog 51 #[.slice none 0 0, .int .i64 k] w fun e w' => e = .returned (.int .i64 k) ∧ w = w' := by
  go_enter Try.func51, Try.ntmps51
  go_wp2
  go_loop [1, 5] (fun q i => i = .int .i64 0 ∧ q = .int .i64 k) (fun _ _ => 0)
  case atStart => exact ⟨rfl, rfl⟩
  case round =>
    obtain ⟨rfl, rfl⟩ := hrel
    go_wp2
    go_ret
    exact ⟨rfl, rfl⟩

theorem markNodeS_any (w : World) (base k : Nat) (v : Value) (l : List Q) (h : OwnQ 62 w base v l) (hl : l.length ≤ 1048576) (hk : k ≤ 1048576) :
    Calls Try.prog 51 #[v, .int .i64 k] w (MarkedQ 62 w base v l k) := by
  rcases h.form with ⟨rfl, rfl⟩ | ⟨g, cap, rfl, _, _, _⟩
  · exact (markNodeS_nil w k).mono fun _ _ ⟨he, hw⟩ => ⟨by rw [he]; rfl, by subst hw; exact h, by subst hw; exact grown_refl _ _⟩
  · exact markNodeS_own w base g cap k l h hl hk


set_option maxRecDepth 100000 in
set_option maxHeartbeats 4000000 in
theorem markRectS_own (w : World) (base g cap k : Nat) (l : List Q) (h : OwnQ 59 w base (.slice (some ⟨g, 0, none⟩) l.length cap) l) (hl : l.length ≤ 1048576) (hk : k ≤ 1048576) :
    Calls Try.prog 52 #[.slice (some ⟨g, 0, none⟩) l.length cap, .int .i64 k] w (MarkedQ 59 w base (.slice (some ⟨g, 0, none⟩) l.length cap) l k) := by
  have HO := Lib.hid h
  clear h
  go_enter Try.func52, Try.ntmps52
  go_wp2
  go_loopw [1, 5] (fun q i wr => ∃ j : Nat, j ≤ l.length ∧ i = .int .i64 j ∧ q = .int .i64 (k + j * 5 : Nat) ∧ OwnQ 59 wr base (.slice (some ⟨g, 0, none⟩) l.length cap) (halfQ l k j) ∧ w.grownBy wr (some g)) (fun _ i _ => l.length - (intOf i).toNat)
  case atStart => exact ⟨0, by omega, rfl, by simp, by rw [halfQ_zero]; exact HO.out, World.grownBy.refl w _⟩
  case round =>
    obtain ⟨j, hj, rfl, rfl, ho, hg⟩ := hrel
    by_cases hlt : j < l.length
    · have HS := Lib.hid (ho.markRow hlt)
      obtain ⟨-, hrow, hfz⟩ := ho.row
      obtain ⟨c0, c1, c2, c3, c4⟩ := hrow j (by rw [halfQ_len l k j hj]; exact hlt)
      have HG := Lib.hid hg
      have i3 : (j : Int) < (l.length : Int) := by omega
      have i0 : (0 : Int) ≤ (j : Int) := by omega
      clear ho hg HO hrow
      generalize hm : (k + j * 5 : Nat) = m at *
      have hm0 : (m : Int) ≤ 10000000 := by omega
      have HM := Lib.hid hm
      clear hm
      go_wp2
      exact ⟨⟨j + 1, by omega, by go_num, by have := HM.out; go_num, HS.out.1, grown_trans HG.out HS.out.2⟩, by simp [intOf]; omega⟩
    · obtain rfl : j = l.length := by omega
      rw [halfQ_all] at ho
      go_wp2
      go_ret
      exact ⟨rfl, ho, hg⟩

set_option maxHeartbeats 400000 in
theorem markRectS_nil (w : World) (k : Nat) :
    Calls Try.prog 52 #[.slice none 0 0, .int .i64 k] w fun e w' => e = .returned (.int .i64 k) ∧ w = w' := by
  go_enter Try.func52, Try.ntmps52
  go_wp2
  go_loop [1, 5] (fun q i => i = .int .i64 0 ∧ q = .int .i64 k) (fun _ _ => 0)
  case atStart => exact ⟨rfl, rfl⟩
  case round =>
    obtain ⟨rfl, rfl⟩ := hrel
    go_wp2
    go_ret
    exact ⟨rfl, rfl⟩

theorem markRectS_any (w : World) (base k : Nat) (v : Value) (l : List Q) (h : OwnQ 59 w base v l) (hl : l.length ≤ 1048576) (hk : k ≤ 1048576) :
    Calls Try.prog 52 #[v, .int .i64 k] w (MarkedQ 59 w base v l k) := by
  rcases h.form with ⟨rfl, rfl⟩ | ⟨g, cap, rfl, _, _, _⟩
  · exact (markRectS_nil w k).mono fun _ _ ⟨he, hw⟩ => ⟨by rw [he]; rfl, by subst hw; exact h, by subst hw; exact grown_refl _ _⟩
  · exact markRectS_own w base g cap k l h hl hk


set_option maxRecDepth 100000 in
set_option maxHeartbeats 4000000 in
theorem heldRectS_any (w : World) (p : Option Addr) (c k n : Nat) {lo hi : Nat} (h : Qx w lo hi p (marksQ k n)) (hl : n ≤ 1048576) (hk : k ≤ 1048576) :
    Calls Try.prog 53 #[.slice p n c, .int .i64 k] w fun e w' => e = .returned (.int .i64 ((k + n * 5 : Nat) : Int)) ∧ w = w' := by
  have HO := Lib.hid h
  clear h
  go_enter Try.func53, Try.ntmps53
  go_wp2
  go_loop [1, 5] (fun q i => ∃ j : Nat, j ≤ n ∧ i = .int .i64 j ∧ q = .int .i64 (k + j * 5 : Nat)) (fun _ i => n - (intOf i).toNat)
  case atStart => exact ⟨0, by omega, rfl, by simp⟩
  case round =>
    obtain ⟨j, hj, rfl, rfl⟩ := hrel
    by_cases hlt : j < n
    · obtain ⟨b, off, rfl, _, _, hc⟩ := HO.out (by intro e; have := congrArg List.length e; rw [marksQ_len] at this; simp at this; omega)
      obtain ⟨c0, c1, c2, c3, c4⟩ := hc j (by rw [marksQ_len]; exact hlt)
      rw [marksQ_at k n j hlt] at c0 c1 c2 c3 c4
      unfold markQ at c0 c1 c2 c3 c4
      dsimp only at c0 c1 c2 c3 c4
      have i3 : (j : Int) < (n : Int) := by omega
      have i0 : (0 : Int) ≤ (j : Int) := by omega
      clear hc
      generalize hm : (k + j * 5 : Nat) = m at *
      have hm0 : (m : Int) ≤ 10000000 := by omega
      have HM := Lib.hid hm
      clear hm
      have q1 : ((((m + 1 : Nat) : Int)) != (m : Int) + 1) = false := by simp
      have q2 : ((((m + 2 : Nat) : Int)) != (m : Int) + 1 + 1) = false := by simp; omega
      have q3 : ((((m + 3 : Nat) : Int)) != (m : Int) + 1 + 1 + 1) = false := by simp; omega
      have q4 : ((((m + 4 : Nat) : Int)) != (m : Int) + 1 + 1 + 1 + 1) = false := by simp; omega
      go_wp2
      exact ⟨⟨j + 1, by omega, by go_num, by have := HM.out; go_num⟩, by simp [intOf]; omega⟩
    · obtain rfl : j = n := by omega
      go_wp2
      go_ret
      exact ⟨rfl, rfl⟩

set_option maxRecDepth 100000 in
set_option maxHeartbeats 1000000 in
theorem heldRectsResult_any (w : World) (code : Int) (p : Option Addr) (c k n : Nat) {lo hi : Nat} (h : Qx w lo hi p (marksQ k n)) (hh : hi ≤ w.heap.size) (hl : n ≤ 1048576) (hk : k ≤ 1048576) :
    Calls Try.prog 22 #[.agg #[.int .i64 code, .slice p n c], .int .i64 k] w fun e w' => e = .returned (.int .i64 ((k + n * 5 : Nat) : Int)) ∧ Below w.heap.size w w' := by
  have HC := Lib.hid (fun o => heldRectS_any (w.alloc o) p c k n (h.at (below_mk w o) hh) hl hk)
  go_enter Try.func22, Try.ntmps22
  go_wp2_with (go_at_call 53; refine (HC.out _).mono ?_; rintro e w1 ⟨rfl, rfl⟩)
  go_ret
  exact ⟨rfl, below_mk _ _⟩

set_option maxRecDepth 100000 in
set_option maxHeartbeats 1000000 in
theorem markRectsResult_any (w : World) (base k : Nat) (code : Int) (l : List Q) (p : Option Addr) (c : Nat) (h : OwnQ 59 w base (.slice p l.length c) l) (hl : l.length ≤ 1048576) (hk : k ≤ 1048576) :
    Calls Try.prog 21 #[.agg #[.int .i64 code, .slice p l.length c], .int .i64 k] w (MarkedQ 59 w base (.slice p l.length c) l k) := by
  have HC := Lib.hid (fun o => markRectS_any (w.alloc o) base k _ l (h.on (below_mk w o)) hl hk)
  clear h
  go_enter Try.func21, Try.ntmps21
  go_wp2_with (go_at_call 52; refine (HC.out _).mono ?_; rintro e w1 ⟨rfl, ho, hg⟩)
  go_ret
  exact ⟨rfl, ho, grown_trans (grown_of_below (below_mk _ _) _) hg⟩

set_option maxRecDepth 100000 in
set_option maxHeartbeats 1000000 in
theorem markLayout_any (w : World) (base k : Nat) (wide high : Int) (l : List Q) (p : Option Addr) (c : Nat) (h : OwnQ 62 w base (.slice p l.length c) l) (hl : l.length ≤ 1048576) (hk : k ≤ 1048576) :
    Calls Try.prog 20 #[.agg #[.int .i64 wide, .int .i64 high, .slice p l.length c], .int .i64 k] w (MarkedQ 62 w base (.slice p l.length c) l k) := by
  have HC := Lib.hid (fun o => markNodeS_any (w.alloc o) base k _ l (h.on (below_mk w o)) hl hk)
  clear h
  go_enter Try.func20, Try.ntmps20
  go_wp2_with (go_at_call 51; refine (HC.out _).mono ?_; rintro e w1 ⟨rfl, ho, hg⟩)
  go_ret
  exact ⟨rfl, ho, grown_trans (grown_of_below (below_mk _ _) _) hg⟩

end Go.Proofs.Ytjopjddhgaiddaa
