/- Contracts of the functions over byte slices: toByteS, eqByteS, SameBytes (of the model and of the program). -/
import Derived.Test.YtbfickdgjgbfhaaQNumsToLyTree3
import Derived.Deep.OwnRows
import Derived.Laws.BytesArg
import Derived.Deep.QuietTactic
import Derived.BigQuiet
namespace Go.Proofs.Ytbfickdgjgbfhaa
open Go.RowKit

/-- the slice value '.slice p l.length c' holds the bytes l, in a block below B -/
def Bs (w : World) (B : Nat) (p : Option Addr) (l : List UInt8) : Prop :=
  l ≠ [] → ∃ b off, p = some ⟨b, off, none⟩ ∧ b < B ∧ ∀ i, i < l.length → w.cell? ⟨b, off + i, none⟩ = some (.int .u8 ((l.getD i 0).toNat : Int))

theorem Bs.keep {w w' : World} {B B' : Nat} {p : Option Addr} {l : List UInt8} (h : Bs w B p l) (hB : B ≤ B') (hk : ∀ a : Addr, a.block < B → w'.cell? a = w.cell? a) : Bs w' B' p l := by
  intro hl
  obtain ⟨b, off, e, hb, hc⟩ := h hl
  exact ⟨b, off, e, by omega, fun i hi => (hk ⟨b, off + i, none⟩ hb).trans (hc i hi)⟩
theorem Bs.below {w w' : World} {B : Nat} {p : Option Addr} {l : List UInt8} (h : Bs w B p l) (hb : Below B w w') : Bs w' B p l := h.keep (Nat.le_refl _) fun _ ha => hb.cell ha
theorem Bs.more {w : World} {B B' : Nat} {p : Option Addr} {l : List UInt8} (h : Bs w B p l) (hB : B ≤ B') : Bs w B' p l := h.keep hB fun _ _ => rfl
theorem Bs.alloc {w : World} {p : Option Addr} {l : List UInt8} (h : Bs w w.heap.size p l) (o : Obj) : Bs (w.alloc o) (w.alloc o).heap.size p l :=
  h.keep (by simp) fun a ha => World.cell?_alloc_lt w o a ha

/-- the bytes as cells -/
def bcells (l : List UInt8) : Array Value := (l.map fun x : UInt8 => Value.int .u8 (x.toNat : Int)).toArray

theorem Bs.new (w : World) (l : List UInt8) (t : TypeId) : Bs (w.alloc (.cells (bcells l) t)) (w.heap.size + 1) (some ⟨w.heap.size, 0, none⟩) l := by
  intro _
  refine ⟨_, _, rfl, by omega, fun i hi => ?_⟩
  simp [bcells, hi]

/-- what toByteS has filled behind k rounds -/
def filled (l : List UInt8) (k : Nat) : Array Value := ((l.take k).map (fun x : UInt8 => Value.int .u8 (x.toNat : Int)) ++ List.replicate (l.length - k) (Value.int .u8 0)).toArray

theorem filled_zero (l : List UInt8) : filled l 0 = madeCells #[.int .u8 0] l.length := by
  apply Array.toList_inj.1
  rw [toList_madeCells_one]
  simp [filled]
theorem filled_all (l : List UInt8) : filled l l.length = bcells l := by simp [filled, bcells]
theorem filled_size (l : List UInt8) (k : Nat) (h : k ≤ l.length) : (filled l k).size = l.length := by simp [filled]; omega
theorem filled_succ (l : List UInt8) (k : Nat) (h : k < l.length) : (filled l k).setIfInBounds k (.int .u8 (l[k].toNat : Int)) = filled l (k + 1) := by
  have e : l.length - k = (l.length - (k + 1)) + 1 := by omega
  have ht : l.take (k + 1) = l.take k ++ [l[k]] := List.take_succ_eq_append_getElem h
  have hlen : ((l.take k).map (fun x : UInt8 => Value.int .u8 (x.toNat : Int))).length = k := by simp; omega
  apply Array.toList_inj.1
  simp only [filled, Array.toList_setIfInBounds, ht, List.map_append, e]
  rw [List.replicate_succ, List.set_append_right _ _ (by omega), hlen]
  simp
theorem filled_get (l : List UInt8) (k : Nat) (h : k < l.length) : (filled l k)[k]? = some (.int .u8 0) := by
  have hlen : ((l.take k).map (fun x : UInt8 => Value.int .u8 (x.toNat : Int))).length = k := by simp; omega
  simp only [filled, List.getElem?_toArray]
  rw [List.getElem?_append_right (Nat.le_of_eq hlen), hlen, Nat.sub_self, List.getElem?_replicate, if_pos (by omega)]

theorem Try.info_u8 : (Try.prog.info? 5).map (fun i => (i.zero, i.size, i.bytes)) = some (some (.int .u8 0), 1, 1) := by kernel_rfl



/-- 'string(b)' of a slice that holds the bytes l -/
theorem convert_str {P : Program} {src e dst : TypeId} (hs : P.underlying src = some (.slice e)) (he : P.underlying e = some (.int .u8)) (hd : P.underlying dst = some .string)
    (p : Option Addr) (c : Nat) (l : List UInt8) (w : World) {B : Nat} (h : Bs w B p l) : (convert src dst (.slice p l.length c)).run P w = .ok (.string ⟨l.toArray⟩) w := by
  by_cases hl : l = []
  · subst hl
    show (convert src dst (.slice p 0 c)).run P w = _
    rw [run_convert_bytes_string w src dst e _ 0 c hs he hd]
    cases p <;> simp [Conv.bytesToString] <;> rfl
  · obtain ⟨b, off, rfl, _, hc⟩ := h hl
    rw [run_convert_bytes_arg w src e hs he b off l.length c (l.map fun x : UInt8 => (x.toNat : Int)) (by simp) (fun i hi => by rw [hc i hi]; simp [hi]) dst hd]
    have e : strOfNums (l.map fun x : UInt8 => (x.toNat : Int)) = ⟨l.toArray⟩ := by simp [strOfNums, Function.comp_def]
    rw [e]







theorem Bs.on {w w' : World} {p : Option Addr} {l : List UInt8} (h : Bs w w.heap.size p l) (hb : Below w.heap.size w w') : Bs w' w'.heap.size p l := (h.below hb).more hb.size
theorem below_on {w w1 w2 : World} (h : Below w.heap.size w w1) (k : Below w1.heap.size w1 w2) : Below w.heap.size w w2 := h.trans (k.mono h.size)
theorem below_drewN {B : Nat} {a w : World} (h : Below B a w) (n : Nat) : Below B a (w.drewN n) := ⟨h.os, h.tape, h.output, h.size, h.block⟩

/-- what a call that hands back a new slice of the bytes l leaves -/
def NewBytes (w : World) (l : List UInt8) (e : Ending) (w' : World) : Prop :=
  ∃ p, e = .returned (.slice p l.length l.length) ∧ Bs w' w'.heap.size p l ∧ Below w.heap.size w w'





end Go.Proofs.Ytbfickdgjgbfhaa

/- A struct in a block: its cells, and how they are kept. -/
namespace Go.Proofs.Ytbfickdgjgbfhaa
open Go.RowKit

/-- block b holds the cells vs -/
def AtL (w : World) (b : Nat) (vs : List Value) : Prop := b < w.heap.size ∧ ∀ i v, vs[i]? = some v → w.cell? ⟨b, i, none⟩ = some v
theorem AtL.get {w : World} {b : Nat} {vs : List Value} (h : AtL w b vs) (i : Nat) {v : Value} (hv : vs[i]? = some v) : w.cell? ⟨b, i, none⟩ = some v := h.2 i v hv
theorem AtL.keep {w w' : World} {b : Nat} {vs : List Value} (h : AtL w b vs) (hs : w.heap.size ≤ w'.heap.size) (hk : ∀ o, w'.cell? ⟨b, o, none⟩ = w.cell? ⟨b, o, none⟩) : AtL w' b vs :=
  ⟨Nat.lt_of_lt_of_le h.1 hs, fun i v hv => (hk i).trans (h.2 i v hv)⟩
theorem AtL.on {w w' : World} {b : Nat} {vs : List Value} (h : AtL w b vs) (hb : Below w.heap.size w w') : AtL w' b vs := h.keep hb.size fun o => hb.cell (p := ⟨b, o, none⟩) h.1
theorem AtL.far {w w' : World} {b : Nat} {vs : List Value} (h : AtL w b vs) {row : Option Nat} (hg : w.grownBy w' row) (hr : some b ≠ row) : AtL w' b vs :=
  h.keep hg.size fun o => World.cell?_of_block (a := ⟨b, o, none⟩) (hg.block b h.1 hr)
theorem AtL.new (w : World) (vs : List Value) (t : TypeId) : AtL (w.alloc (.cells vs.toArray t)) w.heap.size vs :=
  ⟨by simp, fun i v hv => by simp [hv]⟩
theorem AtL.five {w : World} {b : Nat} {v0 v1 v2 v3 v4 : Value} (h : AtL w b [v0, v1, v2, v3, v4]) : w.cell? ⟨b, 0, none⟩ = some v0 ∧ w.cell? ⟨b, 1, none⟩ = some v1 ∧ w.cell? ⟨b, 2, none⟩ = some v2 ∧ w.cell? ⟨b, 3, none⟩ = some v3 ∧ w.cell? ⟨b, 4, none⟩ = some v4 :=
  ⟨h.get 0 rfl, h.get 1 rfl, h.get 2 rfl, h.get 3 rfl, h.get 4 rfl⟩
theorem below_mk (w : World) (o : Obj) : Below w.heap.size w (w.alloc o) := (Below.refl _ _).alloc (Nat.le_refl _) o

end Go.Proofs.Ytbfickdgjgbfhaa
