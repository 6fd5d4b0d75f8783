/- The contracts of the model's l1Put and of utf8.AppendRune onto nil: a code point's bytes. -/
import Derived.Test.YtjopjddhgaiddaaFault
import Derived.Laws.OwnMore
import Derived.Lib.RuneBytes
namespace Go.Proofs.Ytjopjddhgaiddaa
open Go.RowKit

/-- the numbers of a code point's bytes -/
def putZ (p : Int) : List Int :=
  if p < 128 then [p] else if p < 2048 then [192 + p / 64, 128 + p % 64] else if p < 65536 then [224 + p / 4096, 128 + p / 64 % 64, 128 + p % 64]
  else [240 + p / 262144, 128 + p / 4096 % 64, 128 + p / 64 % 64, 128 + p % 64]
/-- its bytes -/
def putB (p : Int) : List UInt8 := (putZ p).map fun x => UInt8.ofNat x.toNat

theorem putZ_range {p : Int} (h0 : 0 ≤ p) (h1 : p ≤ 1114111) : ∀ x ∈ putZ p, 0 ≤ x ∧ x < 256 := by
  intro x hx
  unfold putZ at hx
  split at hx
  · simp at hx; omega
  split at hx
  · simp at hx; omega
  split at hx
  · simp at hx; omega
  · simp at hx; omega

theorem putB_cells {p : Int} (h0 : 0 ≤ p) (h1 : p ≤ 1114111) : (putB p).map (fun x : UInt8 => Value.int .u8 (x.toNat : Int)) = (putZ p).map (Value.int .u8) := by
  unfold putB
  rw [List.map_map]
  apply List.map_congr_left
  intro x hx
  have := putZ_range h0 h1 x hx
  simp
  omega

theorem point_range {p : Int} (h : point p = true) : 0 ≤ p ∧ p ≤ 1114111 ∧ ¬ (55296 ≤ p ∧ p ≤ 57343) := by
  simp [point, inR] at h; omega

/-- a value that is a new slice of the bytes l, all of it the call's own -/
def Own (w : World) (base : Nat) (v : Value) (l : List UInt8) : Prop :=
  w.ownsRow base 5 1 v l.length (l.map fun x : UInt8 => Value.int .u8 (x.toNat : Int))

theorem own_lit (w : World) (l : List UInt8) (cs : Array Value) (g n : Nat) (hg : g = w.heap.size) (hn : n = l.length) (hcs : cs = bcells l) (hm : l.length ≤ 1048576) :
    Own (w.alloc (.cells cs 5)) w.heap.size (.slice (some ⟨g, 0, none⟩) n n) l := by
  subst hg; subst hn; subst hcs
  have h := World.ownsRow_lit (base := w.heap.size) (e := 5) (size := 1) w (bcells l) l.length (Nat.le_refl _) (by simp [maxLen]; omega) (by simp [bcells])
  simpa [Own, bcells] using h

/-- what a call leaves that hands back a new slice of the bytes l of its own -/
def NewOwn (w : World) (l : List UInt8) (e : Ending) (w' : World) : Prop := ∃ v, e = .returned v ∧ Own w' w.heap.size v l ∧ Below w.heap.size w w'

theorem put_len {p : Int} : (putB p).length = (putZ p).length := by simp [putB]
theorem put_small (p : Int) : 1 ≤ (putZ p).length ∧ (putZ p).length ≤ 4 := by
  unfold putZ
  split
  · simp
  split
  · simp
  split <;> simp

theorem put_new {p : Int} (h0 : 0 ≤ p) (h1 : p ≤ 1114111) (w : World) (zs : List Int) (hz : putZ p = zs) :
    NewOwn w (putB p) (.returned (.slice (some ⟨w.heap.size, 0, none⟩) zs.length zs.length)) (w.alloc (.cells (zs.map (Value.int .u8)).toArray 5)) := by
  subst hz
  have hs := put_small p
  exact ⟨_, rfl, own_lit w (putB p) _ _ _ rfl put_len.symm (by rw [bcells, putB_cells h0 h1]) (by rw [put_len]; omega), (Below.refl _ _).alloc (Nat.le_refl _) _⟩

theorem putZ_1 {p : Int} (c1 : p < 128) : putZ p = [p] := by unfold putZ; rw [if_pos c1]
theorem putZ_2 {p : Int} (c1 : 128 ≤ p) (c2 : p < 2048) : putZ p = [192 + p / 64, 128 + p % 64] := by unfold putZ; rw [if_neg (by omega), if_pos c2]
theorem putZ_3 {p : Int} (c2 : 2048 ≤ p) (c3 : p < 65536) : putZ p = [224 + p / 4096, 128 + p / 64 % 64, 128 + p % 64] := by unfold putZ; rw [if_neg (by omega), if_neg (by omega), if_pos c3]
theorem putZ_4 {p : Int} (c3 : 65536 ≤ p) : putZ p = [240 + p / 262144, 128 + p / 4096 % 64, 128 + p / 64 % 64, 128 + p % 64] := by unfold putZ; rw [if_neg (by omega), if_neg (by omega), if_neg (by omega)]



/-- behind an append onto nil of the numbers zs -/
theorem appended {p : Int} (h0 : 0 ≤ p) (h1 : p ≤ 1114111) (w w2 : World) (o : Obj) (zs : List Int) (v' : Value) (n : Nat) (hz : putZ p = zs) (hn : n = zs.length)
    (hown : w2.ownsRow w.heap.size 5 1 v' n (zs.map (Value.int .u8))) (hg : (w.alloc o).grownBy w2 none) : NewOwn w (putB p) (.returned v') w2 := by
  subst hz; subst hn
  refine ⟨v', rfl, ?_, ((Below.refl _ _).alloc (Nat.le_refl _) o).grown hg (by simp) (fun k hk => by cases hk)⟩
  rw [Own, putB_cells h0 h1, put_len]
  exact hown















end Go.Proofs.Ytjopjddhgaiddaa
