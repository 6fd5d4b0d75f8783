/- Two layouts with their codes compared, marked, looked at again. -/
import Derived.Test.YtbfickdgjgbfhaaQEdDataToEdKill
import Derived.Test.YtbfickdgjgbfhaaQRSt
namespace Go.Proofs.Ytbfickdgjgbfhaa
open Go.RowKit
set_option linter.unusedVariables false
set_option linter.unusedSimpArgs false

set_option maxRecDepth 100000 in
set_option maxHeartbeats 4000000 in
theorem heldNodeS_any (w : World) (p : Option Addr) (c k n : Nat) {lo hi : Nat} (h : Qx w lo hi p (marksQ k n)) (hl : n ≤ 1048576) (hk : k ≤ 1048576) :
    Calls Try.prog 105 #[.slice p n c, .int .i64 k] w fun e w' => e = .returned (.int .i64 ((k + n * 5 : Nat) : Int)) ∧ w = w' := by
  have HO := Lib.hid h
  clear h
  go_enter Try.func105, Try.ntmps105
  go_wp2
  go_loop [1, 5] (fun q i => ∃ j : Nat, j ≤ n ∧ i = .int .i64 j ∧ q = .int .i64 (k + j * 5 : Nat)) (fun _ i => n - (intOf i).toNat)
  case atStart => exact ⟨0, by omega, rfl, by simp⟩
  case round =>
    obtain ⟨j, hj, rfl, rfl⟩ := hrel
    by_cases hlt : j < n
    · obtain ⟨b, off, rfl, _, _, hc⟩ := HO.out (by intro e; have := congrArg List.length e; rw [marksQ_len] at this; simp at this; omega)
      obtain ⟨c0, c1, c2, c3, c4⟩ := hc j (by rw [marksQ_len]; exact hlt)
      rw [marksQ_at k n j hlt] at c0 c1 c2 c3 c4
      unfold markQ at c0 c1 c2 c3 c4
      dsimp only at c0 c1 c2 c3 c4
      have i3 : (j : Int) < (n : Int) := by omega
      have i0 : (0 : Int) ≤ (j : Int) := by omega
      clear hc
      generalize hm : (k + j * 5 : Nat) = m at *
      have hm0 : (m : Int) ≤ 10000000 := by omega
      have HM := Lib.hid hm
      clear hm
      have q1 : ((((m + 1 : Nat) : Int)) != (m : Int) + 1) = false := by simp
      have q2 : ((((m + 2 : Nat) : Int)) != (m : Int) + 1 + 1) = false := by simp; omega
      have q3 : ((((m + 3 : Nat) : Int)) != (m : Int) + 1 + 1 + 1) = false := by simp; omega
      have q4 : ((((m + 4 : Nat) : Int)) != (m : Int) + 1 + 1 + 1 + 1) = false := by simp; omega
      go_wp2
      exact ⟨⟨j + 1, by omega, by go_num, by have := HM.out; go_num⟩, by simp [intOf]; omega⟩
    · obtain rfl : j = n := by omega
      go_wp2
      go_ret
      exact ⟨rfl, rfl⟩


set_option maxRecDepth 100000 in
set_option maxHeartbeats 1000000 in
theorem heldLayout_any (w : World) (wide high : Int) (p : Option Addr) (c k n : Nat) {lo hi : Nat} (h : Qx w lo hi p (marksQ k n)) (hh : hi ≤ w.heap.size) (hl : n ≤ 1048576) (hk : k ≤ 1048576) :
    Calls Try.prog 67 #[.agg #[.int .i64 wide, .int .i64 high, .slice p n c], .int .i64 k] w fun e w' => e = .returned (.int .i64 ((k + n * 5 : Nat) : Int)) ∧ Below w.heap.size w w' := by
  have HC := Lib.hid (fun o => heldNodeS_any (w.alloc o) p c k n (h.at (below_mk w o) hh) hl hk)
  have hnn : ¬ (((k + n * 5 : Nat) : Int) < 0) := by omega
  generalize ((k + n * 5 : Nat) : Int) = m at *
  go_enter Try.func67, Try.ntmps67
  go_wp2_with (go_at_call 105; refine (HC.out _).mono ?_; rintro e w1 ⟨rfl, rfl⟩)
  go_ret
  exact ⟨rfl, below_mk _ _⟩

set_option maxRecDepth 100000 in
set_option maxHeartbeats 1000000 in
theorem heldLayoutResult_any (w : World) (code wide high : Int) (p : Option Addr) (c k n : Nat) {lo hi : Nat} (h : Qx w lo hi p (marksQ k n)) (hh : hi ≤ w.heap.size) (hl : n ≤ 1048576) (hk : k ≤ 1048576) :
    Calls Try.prog 18 #[.agg #[.int .i64 code, .int .i64 wide, .int .i64 high, .slice p n c], .int .i64 k] w fun e w' => e = .returned (.int .i64 ((k + n * 5 : Nat) : Int)) ∧ Below w.heap.size w w' := by
  have HC := Lib.hid (fun o => heldLayout_any (w.alloc o) wide high p c k n (h.at (below_mk w o) hh) (by simp; omega) hl hk)
  have hnn : ¬ (((k + n * 5 : Nat) : Int) < 0) := by omega
  generalize ((k + n * 5 : Nat) : Int) = m at *
  go_enter Try.func18, Try.ntmps18
  go_wp2_with fail
  refine (HC.out _).mono ?_
  rintro e w1 ⟨rfl, b1⟩
  have HB := Lib.hid (below_on (below_mk w _) b1)
  clear b1
  go_wp2
  go_ret
  exact ⟨rfl, HB.out⟩

set_option maxRecDepth 100000 in
set_option maxHeartbeats 1000000 in
theorem markLayoutResult_any (w : World) (base k : Nat) (code wide high : Int) (l : List Q) (p : Option Addr) (c : Nat) (h : OwnQ 76 w base (.slice p l.length c) l) (hl : l.length ≤ 1048576) (hk : k ≤ 1048576) :
    Calls Try.prog 17 #[.agg #[.int .i64 code, .int .i64 wide, .int .i64 high, .slice p l.length c], .int .i64 k] w (MarkedQ 76 w base (.slice p l.length c) l k) := by
  have HC := Lib.hid (fun o => markLayout_any (w.alloc o) base k wide high l p c (h.on (below_mk w o)) hl hk)
  clear h
  go_enter Try.func17, Try.ntmps17
  go_wp2_with fail
  refine (HC.out _).mono ?_
  rintro e w1 ⟨rfl, ho, hg⟩
  have HO := Lib.hid ho
  have HG := Lib.hid (grown_trans (grown_of_below (below_mk w _) _) hg)
  clear ho hg
  go_wp2
  go_ret
  exact ⟨rfl, HO.out, HG.out⟩

set_option maxRecDepth 100000 in
set_option maxHeartbeats 1000000 in
theorem eqLayoutResult_same (k : Int) (x : Ly) (p q : Option Addr) (c d : Nat) (w : World) (h : Qs w w.heap.size p x.nodes) (h' : Qs w w.heap.size q x.nodes) (hl : x.nodes.length ≤ 1048576) :
    Calls Try.prog 14 #[.agg #[.int .i64 k, .int .i64 x.wide, .int .i64 x.high, .slice p x.nodes.length c], .agg #[.int .i64 k, .int .i64 x.wide, .int .i64 x.high, .slice q x.nodes.length d]] w fun en w' => en = .returned (.bool true) ∧ Below w.heap.size w w' := by
  have HC := Lib.hid (fun o1 o2 => eqLayout_same x p q c d ((w.alloc o1).alloc o2) ((h.alloc o1).alloc o2) ((h'.alloc o1).alloc o2) hl)
  unfold lyV at HC
  clear h h'
  go_enter Try.func14, Try.ntmps14
  go_wp2_with fail
  refine (HC.out _ _).mono ?_
  rintro e w1 ⟨rfl, b1⟩
  have HB := Lib.hid (below_on (below_on (below_mk w _) (below_mk _ _)) b1)
  clear b1
  go_wp2
  go_ret
  exact ⟨rfl, HB.out⟩
end Go.Proofs.Ytbfickdgjgbfhaa
