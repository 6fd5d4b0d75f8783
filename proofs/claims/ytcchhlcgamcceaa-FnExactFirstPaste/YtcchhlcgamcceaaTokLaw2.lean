/- What the laws over tokens of bytes share: the argument's copy as a slice of the call's own. -/
import Derived.Test.YtcchhlcgamcceaaTokLaw
namespace Go.Proofs.Ytcchhlcgamcceaa
open Go.RowKit

/-- toByteS: a slice of the call's own -/
def NewXb (w : World) (l : List UInt8) (e : Ending) (w' : World) : Prop :=
  ∃ g, e = .returned (.slice (some ⟨g, 0, none⟩) l.length l.length) ∧ g = w.heap.size ∧ Own w' w.heap.size (.slice (some ⟨g, 0, none⟩) l.length l.length) l ∧ Below w.heap.size w w'
theorem toByteS_x (p : Option Addr) (c : Nat) (l : List UInt8) (w : World) (h : Bs w w.heap.size p l) (hl : l.length ≤ 1048576) :
    Calls Try.prog 27 #[.slice p l.length c] w (NewXb w l) :=
  (toByteS_any p c l w h hl).mono fun _ _ ⟨he, hw⟩ => ⟨_, he, rfl, by subst hw; exact own_lit w l _ _ _ rfl rfl rfl hl, by subst hw; exact below_mk _ _⟩

end Go.Proofs.Ytcchhlcgamcceaa
