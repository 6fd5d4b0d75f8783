/- The contract of the model's PartsBytes. -/
import Derived.Test.YtjopjddhgaiddaaDoorQL2Bytes
import Derived.Test.YtjopjddhgaiddaaDoorQPutToBytesRes
import Derived.Test.YtjopjddhgaiddaaDoorQPiecesInToPartsImpl
namespace Go.Proofs.YtjopjddhgaiddaaDoor
open Go.RowKit

def pbCode (nums : List Int) (fin : UInt8) : Int := if finl fin = false then 3 else if inNum nums = false then 3 else if 4 < nums.length then 2 else 0
def pbRes (priv : Bool) (nums : List Int) (fin : UInt8) : List UInt8 := if finl fin = false then [] else if inNum nums = false then [] else if 4 < nums.length then [] else pb priv nums fin

theorem inNum_next (l : List Int) (k : Nat) (h : k < l.length) : inNum (l.take (k + 1)) = (inNum (l.take k) && inR (l.getD k 0) 0 9999999) := by
  unfold inNum
  rw [List.take_succ_eq_append_getElem h, List.all_append, List.getD_eq_getElem?_getD, List.getElem?_eq_getElem h]
  simp
theorem inNum_no (l : List Int) (k : Nat) (h : k < l.length) (hz : inR (l.getD k 0) 0 9999999 = false) : inNum l = false := by
  rw [List.getD_eq_getElem?_getD, List.getElem?_eq_getElem h] at hz
  simp only [inNum, List.all_eq_false]
  exact ⟨_, List.getElem_mem h, by simpa using hz⟩

theorem br_code {w w1 : World} {o : Obj} {code : Int} {u1 u2 : Value} (hb : Below (w.alloc o).heap.size (w.alloc o) w1) :
    NewBr w code [] (.returned (brV code (.slice none 0 0))) ((w1.setCell ⟨w.heap.size, 0, none⟩ u1).setCell ⟨w.heap.size, 1, none⟩ u2) := br_end (own_nil _ _) hb



end Go.Proofs.YtjopjddhgaiddaaDoor
