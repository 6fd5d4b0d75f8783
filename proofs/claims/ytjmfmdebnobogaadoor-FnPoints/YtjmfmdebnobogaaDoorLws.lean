/- The laws' own small functions: lwBig, lwSame, lwBytes. -/
import Derived.Test.YtjmfmdebnobogaaDoorBytes
import Derived.Test.YtjmfmdebnobogaaDoorFault
namespace Go.Proofs.YtjmfmdebnobogaaDoor
open Go.RowKit

set_option maxRecDepth 100000 in
set_option maxHeartbeats 400000 in
theorem lwBig_any (p : Option Addr) (n c : Nat) (w : World) :
    Calls Tryd.prog 6 #[.slice p n c] w fun e w' => e = .returned (.bool (decide (1048576 < (n : Int)))) ∧ w = w' := by
  go_enter Tryd.func6, Tryd.ntmps6
  go_wp2
  go_ret
  exact ⟨rfl, rfl⟩

set_option maxRecDepth 100000 in
set_option maxHeartbeats 400000 in
theorem lwSame_any (p q : Option Addr) (c d : Nat) (a b : List UInt8) (w : World) {B C : Nat} (h : Bs w B p a) (k : Bs w C q b) :
    Calls Tryd.prog 25 #[.slice p a.length c, .slice q b.length d] w fun e w' => e = .returned (.bool (a == b)) ∧ w = w' := by
  have h1 := convert_str (P := Tryd.prog) Tryd.underlying22 Tryd.underlying5 Tryd.underlying9 p c a w h
  have h2 := convert_str (P := Tryd.prog) Tryd.underlying22 Tryd.underlying5 Tryd.underlying9 q d b w k
  clear h k
  go_enter Tryd.func25, Tryd.ntmps25
  go_wp2
  go_ret
  exact ⟨ret_bool (by simp), rfl⟩

set_option maxRecDepth 100000 in
set_option maxHeartbeats 400000 in
theorem lwBytes_any (x y : Int) (p q : Option Addr) (c d : Nat) (a b : List UInt8) (w : World) (h : Bs w w.heap.size p a) (k : Bs w w.heap.size q b) :
    Calls Tryd.prog 15 #[.agg #[.int .i64 x, .slice p a.length c], .agg #[.int .i64 y, .slice q b.length d]] w fun e w' => e = .returned (.bool (x == y && a == b)) ∧ Below w.heap.size w w' := by
  have H := Lib.hid h
  have K := Lib.hid k
  clear h k
  cases hxy : (x == y)
  · go_enter Tryd.func15, Tryd.ntmps15
    go_wp2
    go_ret
    exact ⟨rfl, ((Below.refl _ _).alloc (Nat.le_refl _) _).alloc (by simp) _⟩
  · go_enter Tryd.func15, Tryd.ntmps15
    go_wp2_with (go_at_call 25; refine (lwSame_any _ _ _ _ a b _ ((H.out.alloc _).alloc _) ((K.out.alloc _).alloc _)).mono ?_; rintro e w' ⟨rfl, rfl⟩)
    go_ret
    exact ⟨ret_bool (by simp), ((Below.refl _ _).alloc (Nat.le_refl _) _).alloc (by simp) _⟩

end Go.Proofs.YtjmfmdebnobogaaDoor
