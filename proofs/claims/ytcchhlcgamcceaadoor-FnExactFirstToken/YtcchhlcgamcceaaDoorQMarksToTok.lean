/- Marks: the contracts of markByteS and heldByteS over a slice of the call's own. -/
import Derived.Test.YtcchhlcgamcceaaDoorQLaidToMarks0
import Derived.Test.YtcchhlcgamcceaaDoorQNumsToBytes
namespace Go.Proofs.YtcchhlcgamcceaaDoor
open Go.RowKit

/-- the marks k, k + 1, .. of n bytes -/
def marksL (k n : Nat) : List UInt8 := (List.range n).map fun i => UInt8.ofNat (k + i)

theorem marksL_length (k n : Nat) : (marksL k n).length = n := by simp [marksL]
theorem marksL_get (k n i : Nat) (h : i < n) : (marksL k n)[i]? = some (UInt8.ofNat (k + i)) := by simp [marksL, h]

/-- the cells of marks so far, and what is left of l -/
def half (l : List UInt8) (k j : Nat) : List UInt8 := marksL k j ++ l.drop j
theorem half_zero (l : List UInt8) (k : Nat) : half l k 0 = l := by simp [half, marksL]
theorem half_all (l : List UInt8) (k : Nat) : half l k l.length = marksL k l.length := by simp [half]
theorem half_len (l : List UInt8) (k j : Nat) (h : j ≤ l.length) : (half l k j).length = l.length := by simp [half, marksL_length]; omega
theorem half_set (l : List UInt8) (k j : Nat) (h : j < l.length) : (half l k j).set j (UInt8.ofNat (k + j)) = half l k (j + 1) := by
  unfold half
  have e : marksL k (j + 1) = marksL k j ++ [UInt8.ofNat (k + j)] := by simp [marksL, List.range_succ]
  rw [List.drop_eq_getElem_cons h, List.set_append_right _ _ (by rw [marksL_length]; exact Nat.le_refl _), marksL_length, Nat.sub_self, List.set_cons_zero, e, List.append_assoc, List.singleton_append]

theorem Own.stored {w : World} {base g cap n : Nat} {l : List UInt8} (h : Own w base (.slice (some ⟨g, 0, none⟩) n cap) l) (j : Nat) (x : UInt8) :
    Own (w.setCell ⟨g, j, none⟩ (.int .u8 (x.toNat : Int))) base (.slice (some ⟨g, 0, none⟩) n cap) (l.set j x) ∧ w.grownBy (w.setCell ⟨g, j, none⟩ (.int .u8 (x.toNat : Int))) (some g) := by
  have hn := h.bs.1
  subst hn
  obtain ⟨h1, h2⟩ := World.ownsRow.stored h j (.int .u8 (x.toNat : Int))
  refine ⟨?_, h2⟩
  rw [Own, List.map_set, List.length_set]
  exact h1

theorem ofNat_mod (k j : Nat) : ((UInt8.ofNat (k + j)).toNat : Int) = ((k : Int) + (j : Int)) % 256 := by
  simp
theorem Own.cellAt {w : World} {base g cap n : Nat} {l : List UInt8} (h : Own w base (.slice (some ⟨g, 0, none⟩) n cap) l) (j : Nat) (hj : j < l.length) :
    w.cell? ⟨g, j, none⟩ = some (.int .u8 ((l.getD j 0).toNat : Int)) ∧ w.frozen? ⟨g, j, none⟩ = false := by
  have hn := h.bs.1
  subst hn
  refine ⟨?_, World.ownsRow.frozenAt h j⟩
  rw [World.ownsRow.cellAt h j (by simpa using hj)]
  simp [hj]

set_option maxHeartbeats 1000000 in
theorem markByteS_own (w : World) (base g cap k : Nat) (l : List UInt8) (h : Own w base (.slice (some ⟨g, 0, none⟩) l.length cap) l) (hl : l.length ≤ 1048576) (hk : k ≤ 1048576) :
    Calls Tryd.prog 10 #[.slice (some ⟨g, 0, none⟩) l.length cap, .int .i64 k] w fun e w' => e = .returned (.int .i64 ((k + l.length : Nat) : Int)) ∧
      Own w' base (.slice (some ⟨g, 0, none⟩) l.length cap) (marksL k l.length) ∧ w.grownBy w' (some g) := by
  have HO := Lib.hid h
  clear h
  go_enter Tryd.func10, Tryd.ntmps10
  go_wp2
  go_loopw [1, 5] (fun q i wr => ∃ j : Nat, j ≤ l.length ∧ i = .int .i64 j ∧ q = .int .i64 (k + j : Nat) ∧ Own wr base (.slice (some ⟨g, 0, none⟩) l.length cap) (half l k j) ∧ w.grownBy wr (some g)) (fun _ i _ => l.length - (intOf i).toNat)
  case atStart => exact ⟨0, by omega, rfl, rfl, by rw [half_zero]; exact HO.out, World.grownBy.refl w _⟩
  case round =>
    obtain ⟨j, hj, rfl, rfl, ho, hg⟩ := hrel
    by_cases hlt : j < l.length
    · have HS := Lib.hid (ho.stored j (UInt8.ofNat (k + j)))
      have HT := Lib.hid (half_set l k j hlt)
      have HM := Lib.hid (ofNat_mod k j)
      obtain ⟨hc, hf⟩ := ho.cellAt j (by rw [half_len l k j hj]; exact hlt)
      have HG := Lib.hid hg
      clear ho hg HO
      go_wp2
      have hs := HS.out
      rw [HT.out, HM.out] at hs
      exact ⟨⟨j + 1, by omega, by go_num, by go_num, hs.1, grown_trans HG.out hs.2⟩, by simp [intOf]; omega⟩
    · obtain rfl : j = l.length := by omega
      have HA := Lib.hid (half_all l k)
      go_wp2
      go_ret
      exact ⟨by go_num, by rw [← HA.out]; exact ho, hg⟩

set_option maxHeartbeats 400000 in
theorem markByteS_nil (w : World) (k : Nat) :
    Calls Tryd.prog 10 #[.slice none 0 0, .int .i64 k] w fun e w' => e = .returned (.int .i64 k) ∧ w = w' := by
  go_enter Tryd.func10, Tryd.ntmps10
  go_wp2
  go_loop [1, 5] (fun q i => i = .int .i64 0 ∧ q = .int .i64 k) (fun _ _ => 0)
  case atStart => exact ⟨rfl, rfl⟩
  case round =>
    obtain ⟨rfl, rfl⟩ := hrel
    go_wp2
    go_ret
    exact ⟨rfl, rfl⟩

/-- what marking leaves -/
def Marked (w : World) (base : Nat) (v : Value) (l : List UInt8) (k : Nat) (e : Ending) (w' : World) : Prop :=
  e = .returned (.int .i64 ((k + l.length : Nat) : Int)) ∧ Own w' base v (marksL k l.length) ∧ w.grownBy w' v.ownBlock

theorem markByteS_any (w : World) (base k : Nat) (v : Value) (l : List UInt8) (h : Own w base v l) (hl : l.length ≤ 1048576) (hk : k ≤ 1048576) :
    Calls Tryd.prog 10 #[v, .int .i64 k] w (Marked w base v l k) := by
  rcases h.form with ⟨rfl, rfl⟩ | ⟨g, cap, rfl, _, _, _⟩
  · exact (markByteS_nil w k).mono fun _ _ ⟨he, hw⟩ => ⟨by rw [he]; rfl, by subst hw; exact h, by subst hw; exact grown_refl _ _⟩
  · exact markByteS_own w base g cap k l h hl hk

theorem marks_get (l : List UInt8) (k j : Nat) (hm : l = marksL k l.length) (h : j < l.length) : ((l.getD j 0).toNat : Int) = ((k : Int) + (j : Int)) % 256 := by
  have e : l[j]? = some (UInt8.ofNat (k + j)) := by rw [hm]; exact marksL_get k _ j h
  rw [List.getD_eq_getElem?_getD, e]
  simp

set_option maxHeartbeats 1000000 in
theorem heldByteS_any (w : World) (p : Option Addr) (c k : Nat) (l : List UInt8) {B : Nat} (h : Bs w B p l) (hm : l = marksL k l.length) (hl : l.length ≤ 1048576) (hk : k ≤ 1048576) :
    Calls Tryd.prog 60 #[.slice p l.length c, .int .i64 k] w fun e w' => e = .returned (.int .i64 ((k + l.length : Nat) : Int)) ∧ w = w' := by
  have HO := Lib.hid h
  have HM := Lib.hid hm
  clear h hm
  go_enter Tryd.func60, Tryd.ntmps60
  go_wp2
  go_loop [1, 5] (fun q i => ∃ j : Nat, j ≤ l.length ∧ i = .int .i64 j ∧ q = .int .i64 (k + j : Nat)) (fun _ i => l.length - (intOf i).toNat)
  case atStart => exact ⟨0, by omega, rfl, rfl⟩
  case round =>
    obtain ⟨j, hj, rfl, rfl⟩ := hrel
    by_cases hlt : j < l.length
    · obtain ⟨b, off, rfl, _, hc⟩ := HO.out (by intro e; simp [e] at hlt)
      have hc0 := hc j hlt
      rw [marks_get l k j HM.out hlt] at hc0
      clear hc
      go_wp2
      exact ⟨⟨j + 1, by omega, by go_num, by go_num⟩, by simp [intOf]; omega⟩
    · obtain rfl : j = l.length := by omega
      go_wp2
      go_ret
      exact ⟨by go_num, rfl⟩

end Go.Proofs.YtcchhlcgamcceaaDoor

/- A struct in a block: its cells, and how they are kept. -/
namespace Go.Proofs.YtcchhlcgamcceaaDoor
open Go.RowKit

/-- block b holds the cells vs -/
def AtL (w : World) (b : Nat) (vs : List Value) : Prop := b < w.heap.size ∧ ∀ i v, vs[i]? = some v → w.cell? ⟨b, i, none⟩ = some v
theorem AtL.get {w : World} {b : Nat} {vs : List Value} (h : AtL w b vs) (i : Nat) {v : Value} (hv : vs[i]? = some v) : w.cell? ⟨b, i, none⟩ = some v := h.2 i v hv
theorem AtL.keep {w w' : World} {b : Nat} {vs : List Value} (h : AtL w b vs) (hs : w.heap.size ≤ w'.heap.size) (hk : ∀ o, w'.cell? ⟨b, o, none⟩ = w.cell? ⟨b, o, none⟩) : AtL w' b vs :=
  ⟨Nat.lt_of_lt_of_le h.1 hs, fun i v hv => (hk i).trans (h.2 i v hv)⟩
theorem AtL.on {w w' : World} {b : Nat} {vs : List Value} (h : AtL w b vs) (hb : Below w.heap.size w w') : AtL w' b vs := h.keep hb.size fun o => hb.cell (p := ⟨b, o, none⟩) h.1
theorem AtL.far {w w' : World} {b : Nat} {vs : List Value} (h : AtL w b vs) {row : Option Nat} (hg : w.grownBy w' row) (hr : some b ≠ row) : AtL w' b vs :=
  h.keep hg.size fun o => World.cell?_of_block (a := ⟨b, o, none⟩) (hg.block b h.1 hr)
theorem AtL.new (w : World) (vs : List Value) (t : TypeId) : AtL (w.alloc (.cells vs.toArray t)) w.heap.size vs :=
  ⟨by simp, fun i v hv => by simp [hv]⟩
theorem AtL.five {w : World} {b : Nat} {v0 v1 v2 v3 v4 : Value} (h : AtL w b [v0, v1, v2, v3, v4]) : w.cell? ⟨b, 0, none⟩ = some v0 ∧ w.cell? ⟨b, 1, none⟩ = some v1 ∧ w.cell? ⟨b, 2, none⟩ = some v2 ∧ w.cell? ⟨b, 3, none⟩ = some v3 ∧ w.cell? ⟨b, 4, none⟩ = some v4 :=
  ⟨h.get 0 rfl, h.get 1 rfl, h.get 2 rfl, h.get 3 rfl, h.get 4 rfl⟩
theorem below_mk (w : World) (o : Obj) : Below w.heap.size w (w.alloc o) := (Below.refl _ _).alloc (Nat.le_refl _) o

end Go.Proofs.YtcchhlcgamcceaaDoor

/- Tokens as plain data, and the contracts of what makes one: keyToken, keyResult; the model's l3Token, l3Key, l3Bad. -/
namespace Go.Proofs.YtcchhlcgamcceaaDoor
open Go.RowKit

/-- a TokenResult as data -/
structure Tk where
  code : Int
  ev : Ev
  size : Int
  paste : Bool
  none : Bool

/-- no event -/
def noEv : Ev := ⟨0, 0, 0, 0, 0, 0, 0, []⟩
def keyEv (code mods : Int) : Ev := ⟨1, code, mods, 0, 0, 0, 0, []⟩
def keyTk (code mods size : Int) : Tk := ⟨0, keyEv code mods, size, false, false⟩
def badTk (c : Int) : Tk := ⟨c, noEv, 0, false, false⟩

/-- a Token as a value, its data at v -/
def tokV (e : Ev) (v : Value) (size : Int) (paste none : Bool) : Value :=
  .agg #[.int .i64 e.kind, .int .i64 e.code, .int .i64 e.mods, .int .i64 e.button, .int .i64 e.act, .int .i64 e.col, .int .i64 e.row, v, .int .i64 size, .bool paste, .bool none]
/-- a TokenResult as a value, its data at v -/
def tkV (t : Tk) (v : Value) : Value :=
  .agg #[.int .i64 t.code, .int .i64 t.ev.kind, .int .i64 t.ev.code, .int .i64 t.ev.mods, .int .i64 t.ev.button, .int .i64 t.ev.act, .int .i64 t.ev.col, .int .i64 t.ev.row, v, .int .i64 t.size, .bool t.paste, .bool t.none]
/-- its cells -/
def tkL (t : Tk) (v : Value) : List Value :=
  [.int .i64 t.code, .int .i64 t.ev.kind, .int .i64 t.ev.code, .int .i64 t.ev.mods, .int .i64 t.ev.button, .int .i64 t.ev.act, .int .i64 t.ev.col, .int .i64 t.ev.row, v, .int .i64 t.size, .bool t.paste, .bool t.none]

/-- what a call leaves that hands back a token without data -/
def PlainTk (w : World) (t : Tk) (e : Ending) (w' : World) : Prop := e = .returned (tkV t (.slice none 0 0)) ∧ Below w.heap.size w w'
/-- what a call leaves that hands back a token with data of its own -/
def NewTk (w : World) (t : Tk) (e : Ending) (w' : World) : Prop := ∃ v, e = .returned (tkV t v) ∧ Own w' w.heap.size v t.ev.data ∧ Below w.heap.size w w'
theorem PlainTk.new {w : World} {t : Tk} {e : Ending} {w' : World} (ht : t.ev.data = []) (h : PlainTk w t e w') : NewTk w t e w' := ⟨_, h.1, by rw [ht]; exact own_nil _ _, h.2⟩

/-- a result's twelve cells, written -/
def sets (w : World) (b : Nat) : Nat → List Value → World
  | _, [] => w
  | i, v :: r => sets (w.setCell ⟨b, i, none⟩ v) b (i + 1) r
theorem sets_below {B b : Nat} (hB : B ≤ b) : ∀ (vs : List Value) (i : Nat) (a w : World), Below B a w → Below B a (sets w b i vs)
  | [], _, _, _, h => h
  | _ :: r, i, a, _, h => sets_below hB r (i + 1) a _ (h.setCell hB _)
theorem sets_own {b base : Nat} {v : Value} {l : List UInt8} (hb : b < base) : ∀ (vs : List Value) (i : Nat) (w : World), Own w base v l → Own (sets w b i vs) base v l
  | [], _, _, h => h
  | _ :: r, i, _, h => sets_own hb r (i + 1) _ (h.setBelow (a := ⟨b, i, none⟩) hb _)

/-- the result's cells written behind the callee's own memory -/
theorem tk_end {w w1 : World} {o : Obj} {t : Tk} {v : Value} (vs : List Value) (ho : Own w1 (w.alloc o).heap.size v t.ev.data) (hb : Below (w.alloc o).heap.size (w.alloc o) w1) :
    NewTk w t (.returned (tkV t v)) (sets w1 w.heap.size 0 vs) :=
  ⟨v, rfl, (sets_own (by simp) vs 0 _ ho).lower (by simp), sets_below (Nat.le_refl _) vs 0 _ _ (below_on (below_mk _ o) hb)⟩
theorem tk_end_plain {w w1 : World} {o : Obj} {t : Tk} (vs : List Value) (hb : Below (w.alloc o).heap.size (w.alloc o) w1) :
    PlainTk w t (.returned (tkV t (.slice none 0 0))) (sets w1 w.heap.size 0 vs) :=
  ⟨rfl, sets_below (Nat.le_refl _) vs 0 _ _ (below_on (below_mk _ o) hb)⟩

set_option maxHeartbeats 1000000 in
theorem keyToken_any (c m s : Int) (w : World) : Calls Tryd.prog 48 #[.int .i64 c, .int .i64 m, .int .i64 s] w fun e w' => e = .returned (tokV (keyEv c m) (.slice none 0 0) s false false) ∧ Below w.heap.size w w' := by
  go_enter Tryd.func48, Tryd.ntmps48
  go_wp2
  exact bodyPost_ret (v := tokV (keyEv c m) (.slice none 0 0) s false false) (by simp [results, Tryd.results48, tokV, keyEv, go_sem]) rfl ⟨rfl, below_mk _ _⟩

set_option maxHeartbeats 1000000 in
theorem keyResult_any (c m s : Int) (w : World) : Calls Tryd.prog 59 #[.int .i64 c, .int .i64 m, .int .i64 s] w (PlainTk w (keyTk c m s)) := by
  go_enter Tryd.func59, Tryd.ntmps59
  go_wp2_with (go_at_call 48; refine (keyToken_any _ _ _ _).mono ?_; rintro e w1 ⟨rfl, hb⟩; unfold tokV keyEv; obtain ⟨hc, hf⟩ := bcell hb)
  exact bodyPost_ret (v := tkV (keyTk c m s) (.slice none 0 0)) (by simp [results, Tryd.results59, tkV, keyTk, keyEv, go_sem, hc]) rfl (tk_end_plain (tkL (keyTk c m s) (.slice none 0 0)) hb)

end Go.Proofs.YtcchhlcgamcceaaDoor
