/- What the listed tables of utf8 give: their cells. -/
import Derived.Test.YtcchhlcgamcceaaDoorRows
import Derived.Test.YtcchhlcgamcceaaDoorQFirstImpl
import Derived.Lib.LaidU8
import Derived.Test.YtcchhlcgamcceaaDoorQEventsToFault
import Derived.Laws.OwnMore
import Derived.Lib.RuneBytes
namespace Go.Proofs.YtcchhlcgamcceaaDoor
open Go.RowKit

theorem gFirst : Tryd.prog.globalNamed "unicode/utf8.first" = some 0 := by kernel_rfl
theorem gFirstType : (Tryd.prog.globals[0]?).map (·.type) = some 88 := by kernel_rfl
theorem gAcc : Tryd.prog.globalNamed "unicode/utf8.acceptRanges" = some 1 := by kernel_rfl
theorem gAccType : (Tryd.prog.globals[1]?).map (·.type) = some 91 := by kernel_rfl
theorem cU8 : Tryd.prog.cellsOf 5 = 1 := by kernel_rfl
theorem cFirst : Tryd.prog.cellsOf 88 = 256 := by kernel_rfl
theorem cRange : Tryd.prog.cellsOf 90 = 2 := by kernel_rfl
theorem uFirst : Tryd.prog.underlying 88 = some (.array 256 5) := by kernel_rfl
theorem uAcc : Tryd.prog.underlying 91 = some (.array 16 90) := by kernel_rfl
theorem first_datum : Rows.laid_unicode_utf8_first = Lib.tabData .u8 ((List.range 256).map firstX) := by kernel_rfl

/-- a pair of the ranges' table -/
theorem range_cells {w : World} {cs : Array Value} {fuel : Nat} {p : List MemPlace} {ds : List (DataW Unit)} (hvar : w.var? Tryd.prog "unicode/utf8.acceptRanges" = some cs)
    (hd : DataW.trod (fun _ => ()) Tryd.prog w 0 (fun _ => true) false fuel 91 cs.toList = some (.agg ds, p)) (i : Nat) (hi : i < 16) (lo hi' : Int)
    (hds : ds[i]? = some (.agg ([lo, hi'].map fun z => .lit (.int .u8 z)))) :
    w.cell? ⟨1, i * 2, none⟩ = some (.int .u8 lo) ∧ w.cell? ⟨1, i * 2 + 1, none⟩ = some (.int .u8 hi') := by
  obtain ⟨fuel', d, q, hdi, he⟩ := Lib.array_elem uAcc hd i hi
  rw [hds] at hdi
  obtain rfl := Option.some.inj hdi
  rw [cRange] at he
  have hcs := Lib.ints_of_struct Tryd.underlying90 (fun j f hj => by
    match j, hj with
    | 0, hj => simp at hj; subst hj; exact ⟨Tryd.underlying5, rfl, cU8⟩
    | 1, hj => simp at hj; subst hj; exact ⟨Tryd.underlying5, rfl, cU8⟩
    | j + 2, hj => simp at hj) (by rw [cRange]; rfl) he
  have e0 := congrArg (·[0]?) hcs
  have e1 := congrArg (·[1]?) hcs
  simp only [List.getElem?_take, List.getElem?_drop] at e0 e1
  constructor
  · rw [World.var?_cell gAcc hvar (i * 2), ← Array.getElem?_toList]
    simpa using e0
  · rw [World.var?_cell gAcc hvar (i * 2 + 1), ← Array.getElem?_toList]
    simpa using e1

theorem tabs_of_reads {w : World} (h3 : Lib.VarReads Tryd.prog w "unicode/utf8.first" Rows.laid_unicode_utf8_first) (h4 : Lib.VarReads Tryd.prog w "unicode/utf8.acceptRanges" Rows.laid_unicode_utf8_acceptRanges) : Tabs w := by
  obtain ⟨g, t, cs, fuel, p, hg, hty, hvar, hd⟩ := h3
  obtain rfl := Option.some.inj (gFirst.symm.trans hg)
  obtain rfl := Option.some.inj (gFirstType.symm.trans hty)
  rw [first_datum] at hd
  have hcs := Lib.cells_of_tab uFirst Tryd.underlying5 cU8 cFirst hd
  obtain ⟨g, t, cs', fuel', p', hg', hty', hvar', hd'⟩ := h4
  obtain rfl := Option.some.inj (gAcc.symm.trans hg')
  obtain rfl := Option.some.inj (gAccType.symm.trans hty')
  have hr := fun i hi lo hi' hds => range_cells hvar' hd' i hi lo hi' hds
  refine ⟨fun i hi => ?_, (hr 0 (by omega) 128 191 rfl).1, (hr 0 (by omega) 128 191 rfl).2, (hr 1 (by omega) 160 191 rfl).1, (hr 1 (by omega) 160 191 rfl).2, (hr 2 (by omega) 128 159 rfl).1, (hr 2 (by omega) 128 159 rfl).2,
    (hr 3 (by omega) 144 191 rfl).1, (hr 3 (by omega) 144 191 rfl).2, (hr 4 (by omega) 128 143 rfl).1, (hr 4 (by omega) 128 143 rfl).2⟩
  rw [World.var?_cell gFirst hvar i, ← Array.getElem?_toList, hcs]
  simp [hi]

/-- a block's cells laid anew -/
def relaid (cs : Array Value) : Obj → Obj
  | .cells _ t frozen => .cells cs t frozen
  | o => o
/-- the numbers of the ranges' table -/
def accZ : List Int := [128, 191, 160, 191, 128, 159, 144, 191, 128, 143, 0, 0, 0, 0, 0, 0, 0, 0, 0, 0, 0, 0, 0, 0, 0, 0, 0, 0, 0, 0, 0, 0]
/-- a world for the witness: the settled one, its two tables as their text lays them -/
noncomputable def laidWorld (os : Os) : World :=
  let w := World.holding Tryd.prog os ⟨#[], #[], []⟩
  { w with heap := (w.heap.modify 0 (relaid (((List.range 256).map firstX).map (Value.int .u8)).toArray)).modify 1 (relaid (accZ.map (Value.int .u8)).toArray) }

end Go.Proofs.YtcchhlcgamcceaaDoor

/- The contracts of the law's own helpers over events: szByteS, szEvent, toEvent, eqEvent. -/
namespace Go.Proofs.YtcchhlcgamcceaaDoor
open Go.RowKit

/-- what is left of a budget behind n values: -1 where it is spent -/
def leftOf (left : Int) (n : Nat) : Int := if left - n < 0 then -1 else left - n


theorem leftOf_neg {left : Int} {n : Nat} (h : leftOf left n < 0) : leftOf left n = -1 := by
  unfold leftOf at h ⊢; split at h <;> simp_all
theorem leftOf_le {left : Int} {n : Nat} (h : 0 ≤ leftOf left n) : leftOf left n ≤ left ∧ (n : Int) ≤ left := by
  unfold leftOf at h ⊢; split at h <;> simp_all <;> omega


theorem Bs.new_at (w : World) (l : List UInt8) (t : TypeId) (g B : Nat) (hg : g = w.heap.size) (hB : w.heap.size < B) : Bs (w.alloc (.cells (bcells l) t)) B (some ⟨g, 0, none⟩) l := by
  subst hg
  exact (Bs.new w l t).more hB

/-- as 'Bs', in a block from lo on -/
def Bsx (w : World) (lo hi : Nat) (p : Option Addr) (l : List UInt8) : Prop :=
  l ≠ [] → ∃ b off, p = some ⟨b, off, none⟩ ∧ lo ≤ b ∧ b < hi ∧ ∀ i, i < l.length → w.cell? ⟨b, off + i, none⟩ = some (.int .u8 ((l.getD i 0).toNat : Int))
theorem Bsx.bs {w : World} {lo hi : Nat} {p : Option Addr} {l : List UInt8} (h : Bsx w lo hi p l) : Bs w hi p l := fun hl => by
  obtain ⟨b, off, e, _, h2, h3⟩ := h hl
  exact ⟨b, off, e, h2, h3⟩
theorem Bsx.keep {w w' : World} {lo lo' hi hi' : Nat} {p : Option Addr} {l : List UInt8} (h : Bsx w lo hi p l) (hlo : lo' ≤ lo) (hhi : hi ≤ hi') (hk : ∀ a : Addr, lo ≤ a.block → a.block < hi → w'.cell? a = w.cell? a) : Bsx w' lo' hi' p l := fun hl => by
  obtain ⟨b, off, e, h1, h2, h3⟩ := h hl
  exact ⟨b, off, e, by omega, by omega, fun i hi => (hk ⟨b, off + i, none⟩ h1 h2).trans (h3 i hi)⟩
theorem Bsx.new_at (w : World) (l : List UInt8) (t : TypeId) (g lo B : Nat) (hg : g = w.heap.size) (hlo : lo ≤ g) (hB : w.heap.size < B) : Bsx (w.alloc (.cells (bcells l) t)) lo B (some ⟨g, 0, none⟩) l := fun hl => by
  subst hg
  obtain ⟨b, off, e, _, h3⟩ := Bs.new w l t hl
  simp at e
  obtain ⟨rfl, rfl⟩ := e
  exact ⟨_, _, rfl, hlo, hB, h3⟩

/-- what a call that hands back a new event leaves: its data lie in a block of the call's own -/
def FreshEv (w : World) (e : Ev) (en : Ending) (w' : World) : Prop :=
  ∃ p, en = .returned (evV e p e.data.length) ∧ Bsx w' w.heap.size w'.heap.size p e.data ∧ Below w.heap.size w w'
/-- what a call that hands back a new event leaves -/
def NewEv (w : World) (e : Ev) (en : Ending) (w' : World) : Prop :=
  ∃ p, en = .returned (evV e p e.data.length) ∧ Bs w' w'.heap.size p e.data ∧ Below w.heap.size w w'



set_option maxRecDepth 100000 in
set_option maxHeartbeats 2000000 in
theorem eqEvent_same (e : Ev) (p q : Option Addr) (c d : Nat) (w : World) (h : Bs w w.heap.size p e.data) (k : Bs w w.heap.size q e.data) (hl : e.data.length ≤ 1048576) :
    Calls Tryd.prog 44 #[evV e p c, evV e q d] w fun en w' => en = .returned (.bool true) ∧ Below w.heap.size w w' := by
  unfold evV
  go_enter Tryd.func44, Tryd.ntmps44
  go_wp2_with fail
  refine (eqByteS_same _ _ _ _ _ _ ((h.alloc _).alloc _) ((k.alloc _).alloc _) hl).mono ?_
  rintro en w1 ⟨rfl, hb⟩
  go_wp2
  go_ret
  exact ⟨rfl, below_on (((Below.refl _ _).alloc (Nat.le_refl _) _).alloc (by simp) _) hb⟩

end Go.Proofs.YtcchhlcgamcceaaDoor

/- The contracts of the model's l1Put and of utf8.AppendRune onto nil: a code point's bytes. -/
namespace Go.Proofs.YtcchhlcgamcceaaDoor
open Go.RowKit

/-- the numbers of a code point's bytes -/
def putZ (p : Int) : List Int :=
  if p < 128 then [p] else if p < 2048 then [192 + p / 64, 128 + p % 64] else if p < 65536 then [224 + p / 4096, 128 + p / 64 % 64, 128 + p % 64]
  else [240 + p / 262144, 128 + p / 4096 % 64, 128 + p / 64 % 64, 128 + p % 64]
/-- its bytes -/
def putB (p : Int) : List UInt8 := (putZ p).map fun x => UInt8.ofNat x.toNat

theorem putZ_range {p : Int} (h0 : 0 ≤ p) (h1 : p ≤ 1114111) : ∀ x ∈ putZ p, 0 ≤ x ∧ x < 256 := by
  intro x hx
  unfold putZ at hx
  split at hx
  · simp at hx; omega
  split at hx
  · simp at hx; omega
  split at hx
  · simp at hx; omega
  · simp at hx; omega

theorem putB_cells {p : Int} (h0 : 0 ≤ p) (h1 : p ≤ 1114111) : (putB p).map (fun x : UInt8 => Value.int .u8 (x.toNat : Int)) = (putZ p).map (Value.int .u8) := by
  unfold putB
  rw [List.map_map]
  apply List.map_congr_left
  intro x hx
  have := putZ_range h0 h1 x hx
  simp
  omega

theorem point_range {p : Int} (h : point p = true) : 0 ≤ p ∧ p ≤ 1114111 ∧ ¬ (55296 ≤ p ∧ p ≤ 57343) := by
  simp [point, inR] at h; omega

/-- a value that is a new slice of the bytes l, all of it the call's own -/
def Own (w : World) (base : Nat) (v : Value) (l : List UInt8) : Prop :=
  w.ownsRow base 5 1 v l.length (l.map fun x : UInt8 => Value.int .u8 (x.toNat : Int))

theorem own_lit (w : World) (l : List UInt8) (cs : Array Value) (g n : Nat) (hg : g = w.heap.size) (hn : n = l.length) (hcs : cs = bcells l) (hm : l.length ≤ 1048576) :
    Own (w.alloc (.cells cs 5)) w.heap.size (.slice (some ⟨g, 0, none⟩) n n) l := by
  subst hg; subst hn; subst hcs
  have h := World.ownsRow_lit (base := w.heap.size) (e := 5) (size := 1) w (bcells l) l.length (Nat.le_refl _) (by simp [maxLen]; omega) (by simp [bcells])
  simpa [Own, bcells] using h

/-- what a call leaves that hands back a new slice of the bytes l of its own -/
def NewOwn (w : World) (l : List UInt8) (e : Ending) (w' : World) : Prop := ∃ v, e = .returned v ∧ Own w' w.heap.size v l ∧ Below w.heap.size w w'

theorem put_len {p : Int} : (putB p).length = (putZ p).length := by simp [putB]
theorem put_small (p : Int) : 1 ≤ (putZ p).length ∧ (putZ p).length ≤ 4 := by
  unfold putZ
  split
  · simp
  split
  · simp
  split <;> simp

theorem put_new {p : Int} (h0 : 0 ≤ p) (h1 : p ≤ 1114111) (w : World) (zs : List Int) (hz : putZ p = zs) :
    NewOwn w (putB p) (.returned (.slice (some ⟨w.heap.size, 0, none⟩) zs.length zs.length)) (w.alloc (.cells (zs.map (Value.int .u8)).toArray 5)) := by
  subst hz
  have hs := put_small p
  exact ⟨_, rfl, own_lit w (putB p) _ _ _ rfl put_len.symm (by rw [bcells, putB_cells h0 h1]) (by rw [put_len]; omega), (Below.refl _ _).alloc (Nat.le_refl _) _⟩

theorem putZ_1 {p : Int} (c1 : p < 128) : putZ p = [p] := by unfold putZ; rw [if_pos c1]
theorem putZ_2 {p : Int} (c1 : 128 ≤ p) (c2 : p < 2048) : putZ p = [192 + p / 64, 128 + p % 64] := by unfold putZ; rw [if_neg (by omega), if_pos c2]
theorem putZ_3 {p : Int} (c2 : 2048 ≤ p) (c3 : p < 65536) : putZ p = [224 + p / 4096, 128 + p / 64 % 64, 128 + p % 64] := by unfold putZ; rw [if_neg (by omega), if_neg (by omega), if_pos c3]
theorem putZ_4 {p : Int} (c3 : 65536 ≤ p) : putZ p = [240 + p / 262144, 128 + p / 4096 % 64, 128 + p / 64 % 64, 128 + p % 64] := by unfold putZ; rw [if_neg (by omega), if_neg (by omega), if_neg (by omega)]

set_option maxHeartbeats 1000000 in
theorem l1Put_any (p : Int) (w : World) (h0 : 0 ≤ p) (h1 : p ≤ 1114111) :
    Calls Tryd.prog 39 #[.int .i64 p] w (NewOwn w (putB p)) := by
  by_cases c1 : p < 128
  · have HP := Lib.hid (put_new h0 h1 w _ (putZ_1 c1))
    go_enter Tryd.func39, Tryd.ntmps39
    go_wp2
    go_ret
    exact HP.out
  by_cases c2 : p < 2048
  · have HP := Lib.hid (put_new h0 h1 w _ (putZ_2 (by omega) c2))
    go_enter Tryd.func39, Tryd.ntmps39
    go_wp2
    go_ret
    exact HP.out
  by_cases c3 : p < 65536
  · have HP := Lib.hid (put_new h0 h1 w _ (putZ_3 (by omega) c3))
    go_enter Tryd.func39, Tryd.ntmps39
    go_wp2
    go_ret
    exact HP.out
  · have HP := Lib.hid (put_new h0 h1 w _ (putZ_4 (by omega)))
    go_enter Tryd.func39, Tryd.ntmps39
    go_wp2
    go_ret
    exact HP.out

/-- behind an append onto nil of the numbers zs -/
theorem appended {p : Int} (h0 : 0 ≤ p) (h1 : p ≤ 1114111) (w w2 : World) (o : Obj) (zs : List Int) (v' : Value) (n : Nat) (hz : putZ p = zs) (hn : n = zs.length)
    (hown : w2.ownsRow w.heap.size 5 1 v' n (zs.map (Value.int .u8))) (hg : (w.alloc o).grownBy w2 none) : NewOwn w (putB p) (.returned v') w2 := by
  subst hz; subst hn
  refine ⟨v', rfl, ?_, ((Below.refl _ _).alloc (Nat.le_refl _) o).grown hg (by simp) (fun k hk => by cases hk)⟩
  rw [Own, putB_cells h0 h1, put_len]
  exact hown















end Go.Proofs.YtcchhlcgamcceaaDoor

/- Slices of bytes of the call's own: what is known of them, and how it is kept. -/
namespace Go.Proofs.YtcchhlcgamcceaaDoor
open Go.RowKit

/-- an owned slice: nil, or a row of cells that is the call's own -/
theorem Own.form {w : World} {base : Nat} {v : Value} {l : List UInt8} (h : Own w base v l) :
    (v = .slice none 0 0 ∧ l = []) ∨ ∃ g cap, v = .slice (some ⟨g, 0, none⟩) l.length cap ∧ base ≤ g ∧ g < w.heap.size ∧ v.ownBlock = some g := by
  rcases h.2 with ⟨rfl, hn⟩ | ⟨g, cap, cur, rfl, hb, hh, _⟩
  · exact .inl ⟨rfl, List.eq_nil_of_length_eq_zero hn⟩
  · refine .inr ⟨g, cap, rfl, hb, ?_, rfl⟩
    rcases Nat.lt_or_ge g w.heap.size with h | h
    · exact h
    · rw [Array.getElem?_eq_none h] at hh; cases hh

theorem Own.keep {w w' : World} {base : Nat} {v : Value} {l : List UInt8} (h : Own w base v l) (hk : ∀ g, v.ownBlock = some g → w'.heap[g]? = w.heap[g]?) : Own w' base v l := by
  refine ⟨h.1, ?_⟩
  rcases h.2 with h' | ⟨g, cap, cur, rfl, hb, hh, r⟩
  · exact .inl h'
  · exact .inr ⟨g, cap, cur, rfl, hb, (hk g rfl).trans hh, r⟩
theorem Own.lt {w : World} {base : Nat} {v : Value} {l : List UInt8} (h : Own w base v l) : ∀ g, v.ownBlock = some g → base ≤ g ∧ g < w.heap.size := World.ownsRow.lt h
theorem Own.below {w w' : World} {base B : Nat} {v : Value} {l : List UInt8} (h : Own w base v l) (hb : Below B w w') (hB : ∀ g, v.ownBlock = some g → g < B) : Own w' base v l := h.keep fun g hg => hb.block g (hB g hg)
theorem Own.on {w w' : World} {base : Nat} {v : Value} {l : List UInt8} (h : Own w base v l) (hb : Below w.heap.size w w') : Own w' base v l := h.below hb fun g hg => (h.lt g hg).2
theorem Own.far {w w' : World} {base : Nat} {v : Value} {l : List UInt8} (h : Own w base v l) {row : Option Nat} (hb : w.grownBy w' row) (hr : ∀ g, v.ownBlock = some g → some g ≠ row) : Own w' base v l := h.keep fun g hg => hb.block g (h.lt g hg).2 (hr g hg)

theorem Own.bs {w : World} {base : Nat} {p : Option Addr} {n c : Nat} {l : List UInt8} (h : Own w base (.slice p n c) l) : n = l.length ∧ Bs w w.heap.size p l := by
  rcases h.form with ⟨e, rfl⟩ | ⟨g, cap, e, _, hlt, _⟩
  · simp at e; exact ⟨by simp [e.2.1], fun h => absurd rfl h⟩
  · simp at e
    obtain ⟨rfl, rfl, rfl⟩ := e
    refine ⟨rfl, fun _ => ⟨g, 0, rfl, hlt, fun i hi => ?_⟩⟩
    have := World.ownsRow.cellAt h i (by simpa using hi)
    simp at this ⊢
    rw [this]
    simp [hi]

theorem grown_trans {a b c : World} {row : Option Nat} (h : a.grownBy b row) (k : b.grownBy c row) : a.grownBy c row :=
  ⟨k.os.trans h.os, k.tape.trans h.tape, k.output.trans h.output, Nat.le_trans h.size k.size, fun i hi hne => (k.block i (Nat.lt_of_lt_of_le hi h.size) hne).trans (h.block i hi hne)⟩
theorem grown_refl (w : World) (row : Option Nat) : w.grownBy w row := ⟨rfl, rfl, rfl, Nat.le_refl _, fun _ _ _ => rfl⟩
theorem grown_of_below {a b : World} (h : Below a.heap.size a b) (row : Option Nat) : a.grownBy b row := ⟨h.os, h.tape, h.output, h.size, fun i hi _ => h.block i hi⟩
theorem below_of_grown {a b : World} {B : Nat} {row : Option Nat} (h : a.grownBy b row) (hB : B ≤ a.heap.size) (hr : ∀ g, row = some g → B ≤ g) : Below B a b :=
  ⟨h.os, h.tape, h.output, h.size, fun i hi => h.block i (by omega) (fun e => by have := hr i e.symm; omega)⟩

theorem Own.lower {w : World} {base base' : Nat} {v : Value} {l : List UInt8} (h : Own w base v l) (hb : base' ≤ base) : Own w base' v l := by
  refine ⟨h.1, ?_⟩
  rcases h.2 with h' | ⟨g, cap, cur, e, hg, r⟩
  · exact .inl h'
  · exact .inr ⟨g, cap, cur, e, by omega, r⟩

theorem Own.slice {w : World} {base : Nat} {v : Value} {l : List UInt8} (h : Own w base v l) : ∃ p c, v = .slice p l.length c := by
  rcases h.form with ⟨rfl, rfl⟩ | ⟨g, cap, rfl, _⟩
  · exact ⟨_, _, rfl⟩
  · exact ⟨_, _, rfl⟩
theorem Own.setBelow {w : World} {base : Nat} {v : Value} {l : List UInt8} (h : Own w base v l) {a : Addr} (ha : a.block < base) (u : Value) : Own (w.setCell a u) base v l := ownsRow_setCell_below h ha u
theorem own_nil (w : World) (base : Nat) : Own w base (.slice none 0 0) [] := World.ownsRow_nil w _ _ _

end Go.Proofs.YtcchhlcgamcceaaDoor
