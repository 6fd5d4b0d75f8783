/- What the listed tables of utf8 give: their cells. -/
import Derived.Test.YtbnpodledgaipaaGreatDoorRows
import Derived.Test.YtbnpodledgaipaaGreatDoorQFaultToLws
import Derived.Lib.LaidU8
namespace Go.Proofs.YtbnpodledgaipaaGreatDoor
open Go.RowKit

theorem gFirst : Tryz.prog.globalNamed "unicode/utf8.first" = some 0 := by kernel_rfl
theorem gFirstType : (Tryz.prog.globals[0]?).map (·.type) = some 148 := by kernel_rfl
theorem gAcc : Tryz.prog.globalNamed "unicode/utf8.acceptRanges" = some 1 := by kernel_rfl
theorem gAccType : (Tryz.prog.globals[1]?).map (·.type) = some 151 := by kernel_rfl
theorem cU8 : Tryz.prog.cellsOf 5 = 1 := by kernel_rfl
theorem cFirst : Tryz.prog.cellsOf 148 = 256 := by kernel_rfl
theorem cRange : Tryz.prog.cellsOf 150 = 2 := by kernel_rfl
theorem uFirst : Tryz.prog.underlying 148 = some (.array 256 5) := by kernel_rfl
theorem uAcc : Tryz.prog.underlying 151 = some (.array 16 150) := by kernel_rfl
theorem first_datum : Rows.laid_unicode_utf8_first = Lib.tabData .u8 ((List.range 256).map firstX) := by kernel_rfl

/-- a pair of the ranges' table -/
theorem range_cells {w : World} {cs : Array Value} {fuel : Nat} {p : List MemPlace} {ds : List (DataW Unit)} (hvar : w.var? Tryz.prog "unicode/utf8.acceptRanges" = some cs)
    (hd : DataW.trod (fun _ => ()) Tryz.prog w 0 (fun _ => true) false fuel 151 cs.toList = some (.agg ds, p)) (i : Nat) (hi : i < 16) (lo hi' : Int)
    (hds : ds[i]? = some (.agg ([lo, hi'].map fun z => .lit (.int .u8 z)))) :
    w.cell? ⟨1, i * 2, none⟩ = some (.int .u8 lo) ∧ w.cell? ⟨1, i * 2 + 1, none⟩ = some (.int .u8 hi') := by
  obtain ⟨fuel', d, q, hdi, he⟩ := Lib.array_elem uAcc hd i hi
  rw [hds] at hdi
  obtain rfl := Option.some.inj hdi
  rw [cRange] at he
  have hcs := Lib.ints_of_struct Tryz.underlying150 (fun j f hj => by
    match j, hj with
    | 0, hj => simp at hj; subst hj; exact ⟨Tryz.underlying5, rfl, cU8⟩
    | 1, hj => simp at hj; subst hj; exact ⟨Tryz.underlying5, rfl, cU8⟩
    | j + 2, hj => simp at hj) (by rw [cRange]; rfl) he
  have e0 := congrArg (·[0]?) hcs
  have e1 := congrArg (·[1]?) hcs
  simp only [List.getElem?_take, List.getElem?_drop] at e0 e1
  constructor
  · rw [World.var?_cell gAcc hvar (i * 2), ← Array.getElem?_toList]
    simpa using e0
  · rw [World.var?_cell gAcc hvar (i * 2 + 1), ← Array.getElem?_toList]
    simpa using e1

theorem tabs_of_reads {w : World} (h3 : Lib.VarReads Tryz.prog w "unicode/utf8.first" Rows.laid_unicode_utf8_first) (h4 : Lib.VarReads Tryz.prog w "unicode/utf8.acceptRanges" Rows.laid_unicode_utf8_acceptRanges) : Tabs w := by
  obtain ⟨g, t, cs, fuel, p, hg, hty, hvar, hd⟩ := h3
  obtain rfl := Option.some.inj (gFirst.symm.trans hg)
  obtain rfl := Option.some.inj (gFirstType.symm.trans hty)
  rw [first_datum] at hd
  have hcs := Lib.cells_of_tab uFirst Tryz.underlying5 cU8 cFirst hd
  obtain ⟨g, t, cs', fuel', p', hg', hty', hvar', hd'⟩ := h4
  obtain rfl := Option.some.inj (gAcc.symm.trans hg')
  obtain rfl := Option.some.inj (gAccType.symm.trans hty')
  have hr := fun i hi lo hi' hds => range_cells hvar' hd' i hi lo hi' hds
  refine ⟨fun i hi => ?_, (hr 0 (by omega) 128 191 rfl).1, (hr 0 (by omega) 128 191 rfl).2, (hr 1 (by omega) 160 191 rfl).1, (hr 1 (by omega) 160 191 rfl).2, (hr 2 (by omega) 128 159 rfl).1, (hr 2 (by omega) 128 159 rfl).2,
    (hr 3 (by omega) 144 191 rfl).1, (hr 3 (by omega) 144 191 rfl).2, (hr 4 (by omega) 128 143 rfl).1, (hr 4 (by omega) 128 143 rfl).2⟩
  rw [World.var?_cell gFirst hvar i, ← Array.getElem?_toList, hcs]
  simp [hi]

/-- a block's cells laid anew -/
def relaid (cs : Array Value) : Obj → Obj
  | .cells _ t frozen => .cells cs t frozen
  | o => o
/-- the numbers of the ranges' table -/
def accZ : List Int := [128, 191, 160, 191, 128, 159, 144, 191, 128, 143, 0, 0, 0, 0, 0, 0, 0, 0, 0, 0, 0, 0, 0, 0, 0, 0, 0, 0, 0, 0, 0, 0]
/-- a world for the witness: the settled one, its two tables as their text lays them -/
noncomputable def laidWorld (os : Os) : World :=
  let w := World.holding Tryz.prog os ⟨#[], #[], []⟩
  { w with heap := (w.heap.modify 0 (relaid (((List.range 256).map firstX).map (Value.int .u8)).toArray)).modify 1 (relaid (accZ.map (Value.int .u8)).toArray) }

end Go.Proofs.YtbnpodledgaipaaGreatDoor
