/- What the listed table of powers of ten gives; a world for the witness. -/
import Derived.Test.YtjopjddhgaiddaaDoorRows
import Derived.Test.YtjopjddhgaiddaaDoorQShelfAI
import Derived.Lib.LaidU8
namespace Go.Proofs.YtjopjddhgaiddaaDoor
open Go.RowKit

theorem gPow : Tryd.prog.globalNamed "internal/strconv.uint64pow10" = some 0 := by kernel_rfl
theorem gPowType : (Tryd.prog.globals[0]?).map (·.type) = some 114 := by kernel_rfl
theorem cU64 : Tryd.prog.cellsOf 104 = 1 := by kernel_rfl
theorem cPow : Tryd.prog.cellsOf 114 = 20 := by kernel_rfl
theorem uPow : Tryd.prog.underlying 114 = some (.array 20 104) := by kernel_rfl
theorem pow_datum : (Rows.laid_internal_strconv_uint64pow10 : DataW Unit) = Lib.tabData .u64 Lib.pow10Tab := by kernel_rfl

theorem pow_of_reads {w : World} (h : Lib.VarReads Tryd.prog w "internal/strconv.uint64pow10" Rows.laid_internal_strconv_uint64pow10) : Lib.TabIs Tryd.prog w "internal/strconv.uint64pow10" .u64 Lib.pow10Tab := by
  obtain ⟨g, t, cs, fuel, p, hg, hty, hvar, hd⟩ := h
  obtain rfl := Option.some.inj (gPow.symm.trans hg)
  obtain rfl := Option.some.inj (gPowType.symm.trans hty)
  rw [pow_datum] at hd
  have hcs := Lib.cells_of_tab uPow Tryd.underlying104 cU64 cPow hd
  unfold Lib.TabIs
  rw [hvar, ← hcs]

/-- a block's cells laid anew -/
def relaidP (cs : Array Value) : Obj → Obj
  | .cells _ t frozen => .cells cs t frozen
  | o => o
def deb32 : List Int := [0, 1, 28, 2, 29, 14, 24, 3, 30, 22, 20, 15, 25, 17, 4, 8, 31, 27, 13, 23, 21, 19, 16, 7, 26, 12, 18, 6, 11, 5, 10, 9]
def deb64 : List Int := [0, 1, 56, 2, 57, 49, 28, 3, 61, 58, 42, 50, 38, 29, 17, 4, 62, 47, 59, 36, 45, 43, 51, 22, 53, 39, 33, 30, 24, 18, 12, 5, 63, 55, 48, 27, 60, 41, 37, 16, 46, 35, 44, 21, 52, 32, 23, 11, 54, 26, 40, 15, 34, 20, 31, 10, 25, 14, 19, 9, 13, 8, 7, 6]
/-- a world for the witness: the settled one, its tables as their text lays them -/
noncomputable def laidWorldP (os : Os) : World :=
  let w := World.holding Tryd.prog os ⟨#[], #[], []⟩
  { w with heap := ((w.heap.modify 1 (relaidP (deb32.map (Value.int .u8)).toArray)).modify 2 (relaidP (deb64.map (Value.int .u8)).toArray)).modify 0 (relaidP (Lib.pow10Tab.map (Value.int .u64)).toArray) }

end Go.Proofs.YtjopjddhgaiddaaDoor
