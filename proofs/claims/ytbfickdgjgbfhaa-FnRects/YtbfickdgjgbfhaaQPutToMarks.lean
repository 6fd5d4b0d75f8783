/- The contracts of the model's l1Put and of utf8.AppendRune onto nil: a code point's bytes. -/
import Derived.Test.YtbfickdgjgbfhaaQFaultToLws
import Derived.Laws.OwnMore
import Derived.Lib.RuneBytes
namespace Go.Proofs.Ytbfickdgjgbfhaa
open Go.RowKit

/-- the numbers of a code point's bytes -/
def putZ (p : Int) : List Int :=
  if p < 128 then [p] else if p < 2048 then [192 + p / 64, 128 + p % 64] else if p < 65536 then [224 + p / 4096, 128 + p / 64 % 64, 128 + p % 64]
  else [240 + p / 262144, 128 + p / 4096 % 64, 128 + p / 64 % 64, 128 + p % 64]
/-- its bytes -/
def putB (p : Int) : List UInt8 := (putZ p).map fun x => UInt8.ofNat x.toNat

theorem putZ_range {p : Int} (h0 : 0 ≤ p) (h1 : p ≤ 1114111) : ∀ x ∈ putZ p, 0 ≤ x ∧ x < 256 := by
  intro x hx
  unfold putZ at hx
  split at hx
  · simp at hx; omega
  split at hx
  · simp at hx; omega
  split at hx
  · simp at hx; omega
  · simp at hx; omega

theorem putB_cells {p : Int} (h0 : 0 ≤ p) (h1 : p ≤ 1114111) : (putB p).map (fun x : UInt8 => Value.int .u8 (x.toNat : Int)) = (putZ p).map (Value.int .u8) := by
  unfold putB
  rw [List.map_map]
  apply List.map_congr_left
  intro x hx
  have := putZ_range h0 h1 x hx
  simp
  omega

theorem point_range {p : Int} (h : point p = true) : 0 ≤ p ∧ p ≤ 1114111 ∧ ¬ (55296 ≤ p ∧ p ≤ 57343) := by
  simp [point, inR] at h; omega

/-- a value that is a new slice of the bytes l, all of it the call's own -/
def Own (w : World) (base : Nat) (v : Value) (l : List UInt8) : Prop :=
  w.ownsRow base 5 1 v l.length (l.map fun x : UInt8 => Value.int .u8 (x.toNat : Int))

theorem own_lit (w : World) (l : List UInt8) (cs : Array Value) (g n : Nat) (hg : g = w.heap.size) (hn : n = l.length) (hcs : cs = bcells l) (hm : l.length ≤ 1048576) :
    Own (w.alloc (.cells cs 5)) w.heap.size (.slice (some ⟨g, 0, none⟩) n n) l := by
  subst hg; subst hn; subst hcs
  have h := World.ownsRow_lit (base := w.heap.size) (e := 5) (size := 1) w (bcells l) l.length (Nat.le_refl _) (by simp [maxLen]; omega) (by simp [bcells])
  simpa [Own, bcells] using h

/-- what a call leaves that hands back a new slice of the bytes l of its own -/
def NewOwn (w : World) (l : List UInt8) (e : Ending) (w' : World) : Prop := ∃ v, e = .returned v ∧ Own w' w.heap.size v l ∧ Below w.heap.size w w'

theorem put_len {p : Int} : (putB p).length = (putZ p).length := by simp [putB]
theorem put_small (p : Int) : 1 ≤ (putZ p).length ∧ (putZ p).length ≤ 4 := by
  unfold putZ
  split
  · simp
  split
  · simp
  split <;> simp

theorem put_new {p : Int} (h0 : 0 ≤ p) (h1 : p ≤ 1114111) (w : World) (zs : List Int) (hz : putZ p = zs) :
    NewOwn w (putB p) (.returned (.slice (some ⟨w.heap.size, 0, none⟩) zs.length zs.length)) (w.alloc (.cells (zs.map (Value.int .u8)).toArray 5)) := by
  subst hz
  have hs := put_small p
  exact ⟨_, rfl, own_lit w (putB p) _ _ _ rfl put_len.symm (by rw [bcells, putB_cells h0 h1]) (by rw [put_len]; omega), (Below.refl _ _).alloc (Nat.le_refl _) _⟩

theorem putZ_1 {p : Int} (c1 : p < 128) : putZ p = [p] := by unfold putZ; rw [if_pos c1]
theorem putZ_2 {p : Int} (c1 : 128 ≤ p) (c2 : p < 2048) : putZ p = [192 + p / 64, 128 + p % 64] := by unfold putZ; rw [if_neg (by omega), if_pos c2]
theorem putZ_3 {p : Int} (c2 : 2048 ≤ p) (c3 : p < 65536) : putZ p = [224 + p / 4096, 128 + p / 64 % 64, 128 + p % 64] := by unfold putZ; rw [if_neg (by omega), if_neg (by omega), if_pos c3]
theorem putZ_4 {p : Int} (c3 : 65536 ≤ p) : putZ p = [240 + p / 262144, 128 + p / 4096 % 64, 128 + p / 64 % 64, 128 + p % 64] := by unfold putZ; rw [if_neg (by omega), if_neg (by omega), if_neg (by omega)]



/-- behind an append onto nil of the numbers zs -/
theorem appended {p : Int} (h0 : 0 ≤ p) (h1 : p ≤ 1114111) (w w2 : World) (o : Obj) (zs : List Int) (v' : Value) (n : Nat) (hz : putZ p = zs) (hn : n = zs.length)
    (hown : w2.ownsRow w.heap.size 5 1 v' n (zs.map (Value.int .u8))) (hg : (w.alloc o).grownBy w2 none) : NewOwn w (putB p) (.returned v') w2 := by
  subst hz; subst hn
  refine ⟨v', rfl, ?_, ((Below.refl _ _).alloc (Nat.le_refl _) o).grown hg (by simp) (fun k hk => by cases hk)⟩
  rw [Own, putB_cells h0 h1, put_len]
  exact hown















end Go.Proofs.Ytbfickdgjgbfhaa

/- Slices of bytes of the call's own: what is known of them, and how it is kept. -/
namespace Go.Proofs.Ytbfickdgjgbfhaa
open Go.RowKit

/-- an owned slice: nil, or a row of cells that is the call's own -/
theorem Own.form {w : World} {base : Nat} {v : Value} {l : List UInt8} (h : Own w base v l) :
    (v = .slice none 0 0 ∧ l = []) ∨ ∃ g cap, v = .slice (some ⟨g, 0, none⟩) l.length cap ∧ base ≤ g ∧ g < w.heap.size ∧ v.ownBlock = some g := by
  rcases h.2 with ⟨rfl, hn⟩ | ⟨g, cap, cur, rfl, hb, hh, _⟩
  · exact .inl ⟨rfl, List.eq_nil_of_length_eq_zero hn⟩
  · refine .inr ⟨g, cap, rfl, hb, ?_, rfl⟩
    rcases Nat.lt_or_ge g w.heap.size with h | h
    · exact h
    · rw [Array.getElem?_eq_none h] at hh; cases hh

theorem Own.keep {w w' : World} {base : Nat} {v : Value} {l : List UInt8} (h : Own w base v l) (hk : ∀ g, v.ownBlock = some g → w'.heap[g]? = w.heap[g]?) : Own w' base v l := by
  refine ⟨h.1, ?_⟩
  rcases h.2 with h' | ⟨g, cap, cur, rfl, hb, hh, r⟩
  · exact .inl h'
  · exact .inr ⟨g, cap, cur, rfl, hb, (hk g rfl).trans hh, r⟩
theorem Own.lt {w : World} {base : Nat} {v : Value} {l : List UInt8} (h : Own w base v l) : ∀ g, v.ownBlock = some g → base ≤ g ∧ g < w.heap.size := World.ownsRow.lt h
theorem Own.below {w w' : World} {base B : Nat} {v : Value} {l : List UInt8} (h : Own w base v l) (hb : Below B w w') (hB : ∀ g, v.ownBlock = some g → g < B) : Own w' base v l := h.keep fun g hg => hb.block g (hB g hg)
theorem Own.on {w w' : World} {base : Nat} {v : Value} {l : List UInt8} (h : Own w base v l) (hb : Below w.heap.size w w') : Own w' base v l := h.below hb fun g hg => (h.lt g hg).2
theorem Own.far {w w' : World} {base : Nat} {v : Value} {l : List UInt8} (h : Own w base v l) {row : Option Nat} (hb : w.grownBy w' row) (hr : ∀ g, v.ownBlock = some g → some g ≠ row) : Own w' base v l := h.keep fun g hg => hb.block g (h.lt g hg).2 (hr g hg)

theorem Own.bs {w : World} {base : Nat} {p : Option Addr} {n c : Nat} {l : List UInt8} (h : Own w base (.slice p n c) l) : n = l.length ∧ Bs w w.heap.size p l := by
  rcases h.form with ⟨e, rfl⟩ | ⟨g, cap, e, _, hlt, _⟩
  · simp at e; exact ⟨by simp [e.2.1], fun h => absurd rfl h⟩
  · simp at e
    obtain ⟨rfl, rfl, rfl⟩ := e
    refine ⟨rfl, fun _ => ⟨g, 0, rfl, hlt, fun i hi => ?_⟩⟩
    have := World.ownsRow.cellAt h i (by simpa using hi)
    simp at this ⊢
    rw [this]
    simp [hi]

theorem grown_trans {a b c : World} {row : Option Nat} (h : a.grownBy b row) (k : b.grownBy c row) : a.grownBy c row :=
  ⟨k.os.trans h.os, k.tape.trans h.tape, k.output.trans h.output, Nat.le_trans h.size k.size, fun i hi hne => (k.block i (Nat.lt_of_lt_of_le hi h.size) hne).trans (h.block i hi hne)⟩
theorem grown_refl (w : World) (row : Option Nat) : w.grownBy w row := ⟨rfl, rfl, rfl, Nat.le_refl _, fun _ _ _ => rfl⟩
theorem grown_of_below {a b : World} (h : Below a.heap.size a b) (row : Option Nat) : a.grownBy b row := ⟨h.os, h.tape, h.output, h.size, fun i hi _ => h.block i hi⟩
theorem below_of_grown {a b : World} {B : Nat} {row : Option Nat} (h : a.grownBy b row) (hB : B ≤ a.heap.size) (hr : ∀ g, row = some g → B ≤ g) : Below B a b :=
  ⟨h.os, h.tape, h.output, h.size, fun i hi => h.block i (by omega) (fun e => by have := hr i e.symm; omega)⟩

theorem Own.lower {w : World} {base base' : Nat} {v : Value} {l : List UInt8} (h : Own w base v l) (hb : base' ≤ base) : Own w base' v l := by
  refine ⟨h.1, ?_⟩
  rcases h.2 with h' | ⟨g, cap, cur, e, hg, r⟩
  · exact .inl h'
  · exact .inr ⟨g, cap, cur, e, by omega, r⟩

theorem Own.slice {w : World} {base : Nat} {v : Value} {l : List UInt8} (h : Own w base v l) : ∃ p c, v = .slice p l.length c := by
  rcases h.form with ⟨rfl, rfl⟩ | ⟨g, cap, rfl, _⟩
  · exact ⟨_, _, rfl⟩
  · exact ⟨_, _, rfl⟩
theorem Own.setBelow {w : World} {base : Nat} {v : Value} {l : List UInt8} (h : Own w base v l) {a : Addr} (ha : a.block < base) (u : Value) : Own (w.setCell a u) base v l := ownsRow_setCell_below h ha u
theorem own_nil (w : World) (base : Nat) : Own w base (.slice none 0 0) [] := World.ownsRow_nil w _ _ _

end Go.Proofs.Ytbfickdgjgbfhaa

/- Marks: the contracts of markByteS and heldByteS over a slice of the call's own. -/
namespace Go.Proofs.Ytbfickdgjgbfhaa
open Go.RowKit

/-- the marks k, k + 1, .. of n bytes -/
def marksL (k n : Nat) : List UInt8 := (List.range n).map fun i => UInt8.ofNat (k + i)

theorem marksL_length (k n : Nat) : (marksL k n).length = n := by simp [marksL]
theorem marksL_get (k n i : Nat) (h : i < n) : (marksL k n)[i]? = some (UInt8.ofNat (k + i)) := by simp [marksL, h]

/-- the cells of marks so far, and what is left of l -/
def half (l : List UInt8) (k j : Nat) : List UInt8 := marksL k j ++ l.drop j
theorem half_zero (l : List UInt8) (k : Nat) : half l k 0 = l := by simp [half, marksL]
theorem half_all (l : List UInt8) (k : Nat) : half l k l.length = marksL k l.length := by simp [half]
theorem half_len (l : List UInt8) (k j : Nat) (h : j ≤ l.length) : (half l k j).length = l.length := by simp [half, marksL_length]; omega
theorem half_set (l : List UInt8) (k j : Nat) (h : j < l.length) : (half l k j).set j (UInt8.ofNat (k + j)) = half l k (j + 1) := by
  unfold half
  have e : marksL k (j + 1) = marksL k j ++ [UInt8.ofNat (k + j)] := by simp [marksL, List.range_succ]
  rw [List.drop_eq_getElem_cons h, List.set_append_right _ _ (by rw [marksL_length]; exact Nat.le_refl _), marksL_length, Nat.sub_self, List.set_cons_zero, e, List.append_assoc, List.singleton_append]

theorem Own.stored {w : World} {base g cap n : Nat} {l : List UInt8} (h : Own w base (.slice (some ⟨g, 0, none⟩) n cap) l) (j : Nat) (x : UInt8) :
    Own (w.setCell ⟨g, j, none⟩ (.int .u8 (x.toNat : Int))) base (.slice (some ⟨g, 0, none⟩) n cap) (l.set j x) ∧ w.grownBy (w.setCell ⟨g, j, none⟩ (.int .u8 (x.toNat : Int))) (some g) := by
  have hn := h.bs.1
  subst hn
  obtain ⟨h1, h2⟩ := World.ownsRow.stored h j (.int .u8 (x.toNat : Int))
  refine ⟨?_, h2⟩
  rw [Own, List.map_set, List.length_set]
  exact h1

theorem ofNat_mod (k j : Nat) : ((UInt8.ofNat (k + j)).toNat : Int) = ((k : Int) + (j : Int)) % 256 := by
  simp
theorem Own.cellAt {w : World} {base g cap n : Nat} {l : List UInt8} (h : Own w base (.slice (some ⟨g, 0, none⟩) n cap) l) (j : Nat) (hj : j < l.length) :
    w.cell? ⟨g, j, none⟩ = some (.int .u8 ((l.getD j 0).toNat : Int)) ∧ w.frozen? ⟨g, j, none⟩ = false := by
  have hn := h.bs.1
  subst hn
  refine ⟨?_, World.ownsRow.frozenAt h j⟩
  rw [World.ownsRow.cellAt h j (by simpa using hj)]
  simp [hj]



/-- what marking leaves -/
def Marked (w : World) (base : Nat) (v : Value) (l : List UInt8) (k : Nat) (e : Ending) (w' : World) : Prop :=
  e = .returned (.int .i64 ((k + l.length : Nat) : Int)) ∧ Own w' base v (marksL k l.length) ∧ w.grownBy w' v.ownBlock


theorem marks_get (l : List UInt8) (k j : Nat) (hm : l = marksL k l.length) (h : j < l.length) : ((l.getD j 0).toNat : Int) = ((k : Int) + (j : Int)) % 256 := by
  have e : l[j]? = some (UInt8.ofNat (k + j)) := by rw [hm]; exact marksL_get k _ j h
  rw [List.getD_eq_getElem?_getD, e]
  simp


end Go.Proofs.Ytbfickdgjgbfhaa
