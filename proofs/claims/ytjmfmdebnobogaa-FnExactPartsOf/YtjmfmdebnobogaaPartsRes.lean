/- The contracts of eqPartsResult, markPartsResult, heldPartsResult; toByteS as a slice of the call's own. -/
import Derived.Test.YtjmfmdebnobogaaPartsImpl
import Derived.Test.YtjmfmdebnobogaaInts
import Derived.Test.YtjmfmdebnobogaaMarks
namespace Go.Proofs.Ytjmfmdebnobogaa
open Go.RowKit

theorem prAt_small (l : List UInt8) (s : Nat) : (prAt l s).nums.length ≤ 4 := by
  unfold prAt
  split
  · simp
  split
  · simp
  split
  · simp
  · rename_i h
    have : (pieces ((l.take (s + bsz (l.drop s))).drop s)).length ≤ 4 := by
      simpa [fits] using h
    simpa [numsOf] using this
theorem prOf_small (l : List UInt8) : (prOf l).nums.length ≤ 4 := by
  unfold prOf
  split <;> exact prAt_small _ _

set_option maxHeartbeats 1000000 in
theorem eqPartsResult_same (r : Pr) (p q : Option Addr) (c d : Nat) (w : World) (h : Is w w.heap.size p r.nums) (k : Is w w.heap.size q r.nums) (hl : r.nums.length ≤ 1048576) :
    Calls Try.prog 12 #[prV r (.slice p r.nums.length c), prV r (.slice q r.nums.length d)] w fun e w' => e = .returned (.bool true) ∧ Below w.heap.size w w' := by
  obtain ⟨code, priv, nums, fin, size⟩ := r
  dsimp only at h k hl ⊢
  unfold prV
  dsimp only
  have h1 : (code != code) = false := by simp
  have h2 : (priv != priv) = false := by simp
  have h3 : (fin != fin) = false := by simp
  have h4 : (size != size) = false := by simp
  have hb := fun o1 o2 => (below_mk w o1).trans ((below_mk (w.alloc o1) o2).mono (by simp))
  have H := Lib.hid (fun o1 o2 => h.below (hb o1 o2))
  have K := Lib.hid (fun o1 o2 => k.below (hb o1 o2))
  have HBB := Lib.hid hb
  clear h k hb
  go_enter Try.func12, Try.ntmps12
  go_wp2_with fail
  refine (eqInt64S_same _ _ _ _ nums _ (H.out _ _) (K.out _ _) hl).mono ?_
  rintro e w1 ⟨rfl, b1⟩
  have X1 := ((AtL.new w [.int .i64 code, .bool priv, .slice p nums.length c, .int .u8 fin, .int .i64 size] 32).on (below_mk _ (.cells #[.int .i64 code, .bool priv, .slice q nums.length d, .int .u8 fin, .int .i64 size] 32))).on b1
  have X2 := (AtL.new (w.alloc (.cells #[.int .i64 code, .bool priv, .slice p nums.length c, .int .u8 fin, .int .i64 size] 32)) [.int .i64 code, .bool priv, .slice q nums.length d, .int .u8 fin, .int .i64 size] 32).on b1
  rw [World.size_alloc] at X2
  have y3 := X1.get 3 rfl
  have y4 := X1.get 4 rfl
  have z3 := X2.get 3 rfl
  have z4 := X2.get 4 rfl
  clear X1 X2
  go_wp2
  go_ret
  exact ⟨rfl, (HBB.out _ _).trans (b1.mono (by simp; omega))⟩

set_option maxHeartbeats 1000000 in
theorem markPartsResult_any (w : World) (base k : Nat) (r : Pr) (p : Option Addr) (c : Nat) (h : OwnI w base (.slice p r.nums.length c) r.nums) (hl : r.nums.length ≤ 1048576) (hk : k ≤ 1048576) :
    Calls Try.prog 14 #[prV r (.slice p r.nums.length c), .int .i64 k] w (MarkedI w base (.slice p r.nums.length c) r.nums k) := by
  obtain ⟨code, priv, nums, fin, size⟩ := r
  dsimp only at h hl ⊢
  unfold prV
  dsimp only
  go_enter Try.func14, Try.ntmps14
  go_wp2_with (go_at_call 24; refine (markInt64S_any _ base k _ nums (h.on (below_mk _ _)) hl hk).mono ?_; rintro e w1 ⟨rfl, ho, hg⟩)
  go_ret
  exact ⟨rfl, ho, growI_trans (grown_of_below (below_mk _ _) _) hg⟩

set_option maxHeartbeats 1000000 in
theorem heldPartsResult_any (w : World) (k n : Nat) (r : Pr) (p : Option Addr) (c : Nat) (h : Is w w.heap.size p (marksI k n)) (hl : n ≤ 1048576) (hk : k ≤ 1048576) :
    Calls Try.prog 15 #[prV r (.slice p n c), .int .i64 k] w fun en w' => en = .returned (.int .i64 ((k + n : Nat) : Int)) ∧ Below w.heap.size w w' := by
  obtain ⟨code, priv, nums, fin, size⟩ := r
  unfold prV
  dsimp only
  have HC : Hid (∀ o, Calls Try.prog 25 #[.slice p n c, .int .i64 k] (w.alloc o) fun e w' => e = .returned (.int .i64 ((k + n : Nat) : Int)) ∧ w.alloc o = w') := fun o => by
    have := heldInt64S_any (w.alloc o) p c k (marksI k n) (h.alloc o) (by rw [marksI_length]) (by rw [marksI_length]; exact hl) hk
    rw [marksI_length] at this
    exact this
  go_enter Try.func15, Try.ntmps15
  go_wp2_with (go_at_call 25; refine (HC.out _).mono ?_; rintro e w1 ⟨rfl, rfl⟩)
  go_ret
  exact ⟨rfl, below_mk _ _⟩

/-- toByteS: a slice of the call's own -/
def NewX (w : World) (l : List UInt8) (e : Ending) (w' : World) : Prop :=
  ∃ g, e = .returned (.slice (some ⟨g, 0, none⟩) l.length l.length) ∧ g = w.heap.size ∧ Own w' w.heap.size (.slice (some ⟨g, 0, none⟩) l.length l.length) l ∧ Below w.heap.size w w'
theorem toByteS_own (p : Option Addr) (c : Nat) (l : List UInt8) (w : World) (h : Bs w w.heap.size p l) (hl : l.length ≤ 1048576) :
    Calls Try.prog 6 #[.slice p l.length c] w (NewX w l) :=
  (toByteS_any p c l w h hl).mono fun _ _ ⟨he, hw⟩ => ⟨_, he, rfl, by subst hw; exact own_lit w l _ _ _ rfl rfl rfl hl, by subst hw; exact below_mk _ _⟩

end Go.Proofs.Ytjmfmdebnobogaa
