/- Tokens as plain data, and the contracts of what makes one: keyToken, keyResult; the model's l3Token, l3Key, l3Bad. -/
import Derived.Test.YtjopjddhgaiddabGreatDoorQFaultToFirstFull
import Derived.Test.YtjopjddhgaiddabGreatDoorQPutToBytesRes
import Derived.Test.YtjopjddhgaiddabGreatDoorQBytesToCells
import Derived.Test.YtjopjddhgaiddabGreatDoorQNumsToIsSpecial
import Derived.Deep.RegionHeld3
import Derived.Deep.QuietTactic
namespace Go.Proofs.YtjopjddhgaiddabGreatDoor
open Go.RowKit

/-- a TokenResult as data -/
structure Tk where
  code : Int
  ev : Ev
  size : Int
  paste : Bool
  none : Bool

/-- no event -/
def noEv : Ev := ⟨0, 0, 0, 0, 0, 0, 0, []⟩
def keyEv (code mods : Int) : Ev := ⟨1, code, mods, 0, 0, 0, 0, []⟩
def keyTk (code mods size : Int) : Tk := ⟨0, keyEv code mods, size, false, false⟩
def badTk (c : Int) : Tk := ⟨c, noEv, 0, false, false⟩

/-- a Token as a value, its data at v -/
def tokV (e : Ev) (v : Value) (size : Int) (paste none : Bool) : Value :=
  .agg #[.int .i64 e.kind, .int .i64 e.code, .int .i64 e.mods, .int .i64 e.button, .int .i64 e.act, .int .i64 e.col, .int .i64 e.row, v, .int .i64 size, .bool paste, .bool none]
/-- a TokenResult as a value, its data at v -/
def tkV (t : Tk) (v : Value) : Value :=
  .agg #[.int .i64 t.code, .int .i64 t.ev.kind, .int .i64 t.ev.code, .int .i64 t.ev.mods, .int .i64 t.ev.button, .int .i64 t.ev.act, .int .i64 t.ev.col, .int .i64 t.ev.row, v, .int .i64 t.size, .bool t.paste, .bool t.none]
/-- its cells -/
def tkL (t : Tk) (v : Value) : List Value :=
  [.int .i64 t.code, .int .i64 t.ev.kind, .int .i64 t.ev.code, .int .i64 t.ev.mods, .int .i64 t.ev.button, .int .i64 t.ev.act, .int .i64 t.ev.col, .int .i64 t.ev.row, v, .int .i64 t.size, .bool t.paste, .bool t.none]

/-- what a call leaves that hands back a token without data -/
def PlainTk (w : World) (t : Tk) (e : Ending) (w' : World) : Prop := e = .returned (tkV t (.slice none 0 0)) ∧ Below w.heap.size w w'
/-- what a call leaves that hands back a token with data of its own -/
def NewTk (w : World) (t : Tk) (e : Ending) (w' : World) : Prop := ∃ v, e = .returned (tkV t v) ∧ Own w' w.heap.size v t.ev.data ∧ Below w.heap.size w w'
theorem PlainTk.new {w : World} {t : Tk} {e : Ending} {w' : World} (ht : t.ev.data = []) (h : PlainTk w t e w') : NewTk w t e w' := ⟨_, h.1, by rw [ht]; exact own_nil _ _, h.2⟩

/-- a result's twelve cells, written -/
def sets (w : World) (b : Nat) : Nat → List Value → World
  | _, [] => w
  | i, v :: r => sets (w.setCell ⟨b, i, none⟩ v) b (i + 1) r
theorem sets_below {B b : Nat} (hB : B ≤ b) : ∀ (vs : List Value) (i : Nat) (a w : World), Below B a w → Below B a (sets w b i vs)
  | [], _, _, _, h => h
  | _ :: r, i, a, _, h => sets_below hB r (i + 1) a _ (h.setCell hB _)
theorem sets_own {b base : Nat} {v : Value} {l : List UInt8} (hb : b < base) : ∀ (vs : List Value) (i : Nat) (w : World), Own w base v l → Own (sets w b i vs) base v l
  | [], _, _, h => h
  | _ :: r, i, _, h => sets_own hb r (i + 1) _ (h.setBelow (a := ⟨b, i, none⟩) hb _)

/-- the result's cells written behind the callee's own memory -/
theorem tk_end {w w1 : World} {o : Obj} {t : Tk} {v : Value} (vs : List Value) (ho : Own w1 (w.alloc o).heap.size v t.ev.data) (hb : Below (w.alloc o).heap.size (w.alloc o) w1) :
    NewTk w t (.returned (tkV t v)) (sets w1 w.heap.size 0 vs) :=
  ⟨v, rfl, (sets_own (by simp) vs 0 _ ho).lower (by simp), sets_below (Nat.le_refl _) vs 0 _ _ (below_on (below_mk _ o) hb)⟩
theorem tk_end_plain {w w1 : World} {o : Obj} {t : Tk} (vs : List Value) (hb : Below (w.alloc o).heap.size (w.alloc o) w1) :
    PlainTk w t (.returned (tkV t (.slice none 0 0))) (sets w1 w.heap.size 0 vs) :=
  ⟨rfl, sets_below (Nat.le_refl _) vs 0 _ _ (below_on (below_mk _ o) hb)⟩

set_option maxHeartbeats 1000000 in
theorem keyToken_any (c m s : Int) (w : World) : Calls Tryz.prog 102 #[.int .i64 c, .int .i64 m, .int .i64 s] w fun e w' => e = .returned (tokV (keyEv c m) (.slice none 0 0) s false false) ∧ Below w.heap.size w w' := by
  go_enter Tryz.func102, Tryz.ntmps102
  go_wp2
  exact bodyPost_ret (v := tokV (keyEv c m) (.slice none 0 0) s false false) (by simp [results, Tryz.results102, tokV, keyEv, go_sem]) rfl ⟨rfl, below_mk _ _⟩

set_option maxHeartbeats 1000000 in
theorem keyResult_any (c m s : Int) (w : World) : Calls Tryz.prog 140 #[.int .i64 c, .int .i64 m, .int .i64 s] w (PlainTk w (keyTk c m s)) := by
  go_enter Tryz.func140, Tryz.ntmps140
  go_wp2_with (go_at_call 102; refine (keyToken_any _ _ _ _).mono ?_; rintro e w1 ⟨rfl, hb⟩; unfold tokV keyEv; obtain ⟨hc, hf⟩ := bcell hb)
  exact bodyPost_ret (v := tkV (keyTk c m s) (.slice none 0 0)) (by simp [results, Tryz.results140, tkV, keyTk, keyEv, go_sem, hc]) rfl (tk_end_plain (tkL (keyTk c m s) (.slice none 0 0)) hb)

end Go.Proofs.YtjopjddhgaiddabGreatDoor

/- Steps in a region that draws its order: what is taken, what its guard passes over, what comes up alone. -/
namespace Go.Proofs.YtjopjddhgaiddabGreatDoor
open Go.RowKit

theorem takeR {P : Program} {ops : Array Oper} {Q : Exit → Act → World → Prop} {md : Region.Mode} {S : World → Prop} {fuel : Nat} {listed : Array Bool} {a : Act} {w : World} (i d : Nat) (v : Value)
    (hi : (ops[i]?).map (fun o => o.dst) = some (some d)) (hs : Region.noSelect ops = true) (hf : Region.free md ops listed i = true) (hr : (Region.ready md ops listed).contains i = true)
    (hQ : ∀ c (a : Act) w, Q (.panic c) (a.put (some d) v) w → Q (.panic c) a w) (hw : (ops[i]?).map (fun o => Region.wanted o (yielded ops a.tmps)) = some true)
    (hv : ∀ w o, S w → some o = ops[i]? → (execOp a.eval o).run P w = .ok (.value v) w) (hS : S w)
    (h : wpAnyH P md ops Q S fuel (listed.setIfInBounds i true) (a.put (some d) v) w) : wpAnyH P md ops Q S (fuel + 1) listed a w := by
  cases ho : ops[i]? with
  | none => rw [ho] at hi; simp at hi
  | some o =>
    rw [ho] at hi hw
    simp only [Option.map_some, Option.some.injEq] at hi hw
    exact wpAnyH_take ho hs hf hr (by rw [hi]; exact hQ) (Or.inl ⟨hw, fun w hSw => hv w o hSw ho.symm⟩) hS (by rw [hi]; exact h)

theorem skipR {P : Program} {ops : Array Oper} {Q : Exit → Act → World → Prop} {md : Region.Mode} {S : World → Prop} {fuel : Nat} {listed : Array Bool} {a : Act} {w : World} (i d : Nat)
    (hi : (ops[i]?).map (fun o => o.dst) = some (some d)) (hs : Region.noSelect ops = true) (hf : Region.free md ops listed i = true) (hr : (Region.ready md ops listed).contains i = true)
    (hQ : ∀ c (a : Act) w, Q (.panic c) (a.put (some d) undef) w → Q (.panic c) a w) (hw : (ops[i]?).map (fun o => Region.wanted o (yielded ops a.tmps)) = some false) (hS : S w)
    (h : wpAnyH P md ops Q S fuel (listed.setIfInBounds i true) (a.put (some d) undef) w) : wpAnyH P md ops Q S (fuel + 1) listed a w := by
  cases ho : ops[i]? with
  | none => rw [ho] at hi; simp at hi
  | some o =>
    rw [ho] at hi hw
    simp only [Option.map_some, Option.some.injEq] at hi hw
    exact wpAnyH_take ho hs hf hr (by rw [hi]; exact hQ) (Or.inr ⟨hw, rfl⟩) hS (by rw [hi]; exact h)

theorem oneR {P : Program} {ops : Array Oper} {Q : Exit → Act → World → Prop} {md : Region.Mode} {S : World → Prop} {fuel : Nat} {listed : Array Bool} {a : Act} {w : World} (i : Nat)
    (hr : Region.ready md ops listed = [i]) (hw : (ops[i]?).map (fun o => Region.wanted o (yielded ops a.tmps)) = some true)
    (h : ∀ o, some o = ops[i]? → ∀ K' : Act → World → Prop, Shut (∀ a w, S w → (S w → wpAnyH P md ops Q S fuel (listed.setIfInBounds i true) a w) → K' a w) → Oper.wp P o a w K' Q) : wpAnyH P md ops Q S (fuel + 1) listed a w := by
  cases ho : ops[i]? with
  | none => rw [ho] at hw; simp at hw
  | some o =>
    rw [ho] at hw
    simp only [Option.map_some, Option.some.injEq] at hw
    exact wpAnyH_ready hr (by simp) (AllReadyH.cons ho (fun K' hK => by rw [if_pos hw]; exact h o ho.symm K' hK) AllReadyH.nil)

theorem twoR {P : Program} {ops : Array Oper} {Q : Exit → Act → World → Prop} {md : Region.Mode} {S : World → Prop} {fuel : Nat} {listed : Array Bool} {a : Act} {w : World} (i j : Nat)
    (hr : Region.ready md ops listed = [i, j]) (hw : (ops[i]?).map (fun o => Region.wanted o (yielded ops a.tmps)) = some true) (kw : (ops[j]?).map (fun o => Region.wanted o (yielded ops a.tmps)) = some true)
    (h : ∀ o, some o = ops[i]? → ∀ K' : Act → World → Prop, Shut (∀ a w, S w → (S w → wpAnyH P md ops Q S fuel (listed.setIfInBounds i true) a w) → K' a w) → Oper.wp P o a w K' Q)
    (k : ∀ o, some o = ops[j]? → ∀ K' : Act → World → Prop, Shut (∀ a w, S w → (S w → wpAnyH P md ops Q S fuel (listed.setIfInBounds j true) a w) → K' a w) → Oper.wp P o a w K' Q) : wpAnyH P md ops Q S (fuel + 1) listed a w := by
  cases ho : ops[i]? with
  | none => rw [ho] at hw; simp at hw
  | some o =>
    cases ko : ops[j]? with
    | none => rw [ko] at kw; simp at kw
    | some o' =>
      rw [ho] at hw
      rw [ko] at kw
      simp only [Option.map_some, Option.some.injEq] at hw kw
      exact wpAnyH_ready hr (by simp) (AllReadyH.cons ho (fun K' hK => by rw [if_pos hw]; exact h o ho.symm K' hK) (AllReadyH.cons ko (fun K' hK => by rw [if_pos kw]; exact k o' ko.symm K' hK) AllReadyH.nil))

theorem sets_atl {b c : Nat} (hbc : c ≠ b) {us : List Value} : ∀ (vs : List Value) (i : Nat) (w : World), AtL w c us → AtL (sets w b i vs) c us
  | [], _, _, h => h
  | v :: vs, i, w, h => sets_atl hbc vs (i + 1) _ (h.keep (by simp) fun o => World.cell?_setCell_far _ _ _ _ (fun e => hbc (by simpa using e.symm)))

theorem sets_low {b : Nat} : ∀ (vs : List Value) (i k : Nat) (w : World), k < i → (sets w b i vs).cell? ⟨b, k, none⟩ = w.cell? ⟨b, k, none⟩
  | [], _, _, _, _ => rfl
  | v :: vs, i, k, w, h => (sets_low vs (i + 1) k _ (by omega)).trans (World.cell?_setCell_other _ _ _ _ (fun e => by have := congrArg Addr.off e; simp only at this; omega))
theorem sets_cells {b : Nat} : ∀ (vs us : List Value) (i : Nat) (w : World), us.length = vs.length → (∀ j v, us[j]? = some v → w.cell? ⟨b, i + j, none⟩ = some v) → ∀ j v, vs[j]? = some v → (sets w b i vs).cell? ⟨b, i + j, none⟩ = some v
  | [], _, _, _, _, _ => fun j v h => by simp at h
  | v :: vs, [], _, _, hl, _ => by simp at hl
  | v :: vs, u :: us, i, w, hl, hc => fun j x h => by
    match j with
    | 0 =>
      simp at h
      subst h
      exact (sets_low vs (i + 1) i _ (by omega)).trans (World.cell?_setCell_same _ _ _ (hc 0 u rfl))
    | j + 1 =>
      simp at h
      have := sets_cells vs us (i + 1) (w.setCell ⟨b, i, none⟩ v) (by simpa using hl) (fun k y hk => by
        rw [World.cell?_setCell_other _ _ _ _ (fun e => by have := congrArg Addr.off e; simp only at this; omega)]
        have := hc (k + 1) y (by simpa using hk)
        rw [show i + 1 + k = i + (k + 1) by omega]
        exact this) j x h
      rw [show i + (j + 1) = i + 1 + j by omega]
      exact this
theorem sets_at {b : Nat} {us : List Value} {w : World} (vs : List Value) (h : AtL w b us) (hl : us.length = vs.length) : AtL (sets w b 0 vs) b vs :=
  ⟨Nat.lt_of_lt_of_le h.1 (sets_below (B := 0) (Nat.zero_le _) vs 0 w w (Below.refl _ _)).size, fun j v hj => by
    have := sets_cells vs us 0 w hl (fun j v hj => by rw [Nat.zero_add]; exact h.2 j v hj) j v hj
    rw [Nat.zero_add] at this
    exact this⟩

theorem at_two (w : World) (o : Obj) (vs : List Value) (t : TypeId) : AtL ((w.alloc o).alloc (.cells vs.toArray t)).drew (w.heap.size + 1) vs := by
  have h := AtL.new (w.alloc o) vs t
  rw [World.size_alloc] at h
  exact ⟨h.1, h.2⟩

theorem at_one (w : World) (vs : List Value) (t : TypeId) (o : Obj) : AtL ((w.alloc (.cells vs.toArray t)).alloc o).drew w.heap.size vs := by
  have h := (AtL.new w vs t).on (below_mk _ o)
  exact ⟨h.1, h.2⟩
theorem below_two_set (w : World) (o1 o2 : Obj) (i : Nat) (u : Value) : Below w.heap.size w (((w.alloc o1).alloc o2).setCell ⟨w.heap.size + 1, i, none⟩ u).drew :=
  below_drewN ((below_on (below_mk _ _) (below_mk _ _)).setCell (by simp) _) 1
theorem at_two_set (w : World) (o : Obj) (i : Nat) (u : Value) (vs : List Value) (t : TypeId) : AtL (((w.alloc o).alloc (.cells vs.toArray t)).setCell ⟨w.heap.size + 1, i, none⟩ u).drew (w.heap.size + 1) (vs.set i u) := by
  have h := at_two w o vs t
  refine ⟨by simp, fun j v hj => ?_⟩
  by_cases hji : i = j
  · subst hji
    have hlt : i < vs.length := by
      have := (List.getElem?_eq_some_iff.1 hj).1
      simpa using this
    rw [List.getElem?_set_self hlt] at hj
    obtain rfl := Option.some.inj hj
    have hc := h.2 i (vs[i]) (by simp)
    exact World.cell?_setCell_same _ _ _ (show ((w.alloc o).alloc (.cells vs.toArray t)).cell? ⟨w.heap.size + 1, i, none⟩ = some vs[i] from hc)
  · rw [List.getElem?_set_ne hji] at hj
    exact (World.cell?_setCell_other _ _ _ _ (fun e => hji (by simpa using e.symm))).trans (h.2 j v hj)

end Go.Proofs.YtjopjddhgaiddabGreatDoor

/- A struct in a block that may be written. -/
namespace Go.Proofs.YtjopjddhgaiddabGreatDoor
open Go.RowKit
set_option linter.unusedVariables false

/-- block b holds the cells vs, and they may be written -/
structure AtM (w : World) (b : Nat) (vs : List Value) : Prop where
  cells : AtL w b vs
  free : ∀ o, w.frozen? ⟨b, o, none⟩ = false
theorem AtM.keep {w w' : World} {b : Nat} {vs : List Value} (h : AtM w b vs) (hs : w.heap.size ≤ w'.heap.size) (hk : w'.heap[b]? = w.heap[b]?) : AtM w' b vs :=
  ⟨h.cells.keep hs fun o => World.cell?_of_block (a := ⟨b, o, none⟩) hk, fun o => (World.frozen?_of_block (a := ⟨b, o, none⟩) hk).trans (h.free o)⟩
theorem AtM.on {w w' : World} {b : Nat} {vs : List Value} (h : AtM w b vs) (hb : Below w.heap.size w w') : AtM w' b vs := h.keep hb.size (hb.block b h.cells.1)
theorem AtM.far {w w' : World} {b : Nat} {vs : List Value} (h : AtM w b vs) {row : Option Nat} (hg : w.grownBy w' row) (hr : some b ≠ row) : AtM w' b vs := h.keep hg.size (hg.block b h.cells.1 hr)
theorem AtM.new (w : World) (vs : List Value) (t : TypeId) : AtM (w.alloc (.cells vs.toArray t)) w.heap.size vs := ⟨AtL.new w vs t, fun o => by simp⟩
theorem AtM.set {w : World} {b : Nat} {vs : List Value} (h : AtM w b vs) (i : Nat) (v : Value) : AtM (w.setCell ⟨b, i, none⟩ v) b (vs.set i v) := by
  refine ⟨⟨by simpa using h.cells.1, fun j u hj => ?_⟩, fun o => by simpa using h.free o⟩
  by_cases hij : i = j
  · subst hij
    have hlt : i < vs.length := by
      have := (List.getElem?_eq_some_iff.1 hj).1
      simpa using this
    rw [List.getElem?_set_self hlt] at hj
    obtain rfl := Option.some.inj hj
    exact World.cell?_setCell_same _ _ _ (h.cells.2 i vs[i] (by simp))
  · rw [List.getElem?_set_ne hij] at hj
    exact (World.cell?_setCell_other _ _ _ _ (fun e => hij (by simpa using e.symm))).trans (h.cells.2 j u hj)
theorem AtM.other {w : World} {b c : Nat} {vs : List Value} (h : AtM w b vs) (hne : b ≠ c) (i : Nat) (v : Value) : AtM (w.setCell ⟨c, i, none⟩ v) b vs :=
  h.keep (by simp) (Below.heap_setCell _ _ _ _ hne)
theorem sets_size (b : Nat) : ∀ (vs : List Value) (i : Nat) (w : World), (sets w b i vs).heap.size = w.heap.size
  | [], _, _ => rfl
  | _ :: vs, i, w => (sets_size b vs (i + 1) _).trans (by simp)
theorem sets_block {b c : Nat} (hne : c ≠ b) : ∀ (vs : List Value) (i : Nat) (w : World), (sets w b i vs).heap[c]? = w.heap[c]?
  | [], _, _ => rfl
  | _ :: vs, i, w => (sets_block hne vs (i + 1) _).trans (Below.heap_setCell _ _ _ _ hne)
theorem sets_frozen (b : Nat) (a : Addr) : ∀ (vs : List Value) (i : Nat) (w : World), (sets w b i vs).frozen? a = w.frozen? a
  | [], _, _ => rfl
  | _ :: vs, i, w => (sets_frozen b a vs (i + 1) _).trans (by simp)
theorem AtM.sets {w : World} {b : Nat} {us : List Value} (vs : List Value) (h : AtM w b us) (hl : us.length = vs.length) : AtM (sets w b 0 vs) b vs :=
  ⟨sets_at vs h.cells hl, fun o => (sets_frozen b _ vs 0 w).trans (h.free o)⟩
theorem AtM.beside {w : World} {b c : Nat} {us : List Value} (h : AtM w b us) (hne : b ≠ c) (vs : List Value) (i : Nat) : AtM (Go.Proofs.YtjopjddhgaiddabGreatDoor.sets w c i vs) b us :=
  h.keep (by rw [sets_size]; exact Nat.le_refl _) (sets_block hne vs i w)
theorem sets_grown {b : Nat} : ∀ (vs : List Value) (i : Nat) (w : World), w.grownBy (sets w b i vs) (some b)
  | [], _, w => World.grownBy.refl w _
  | v :: vs, i, w =>
    have h : w.grownBy (w.setCell ⟨b, i, none⟩ v) (some b) := ⟨rfl, rfl, rfl, by simp, fun k _ hk => Below.heap_setCell _ _ _ _ (fun e => hk (by rw [e]))⟩
    have k := sets_grown vs (i + 1) (w.setCell ⟨b, i, none⟩ v)
    ⟨k.os.trans h.os, k.tape.trans h.tape, k.output.trans h.output, Nat.le_trans h.size k.size, fun j hj hne => (k.block j (Nat.lt_of_lt_of_le hj h.size) hne).trans (h.block j hj hne)⟩

end Go.Proofs.YtjopjddhgaiddabGreatDoor

/- The contracts of KeyOfByte, the program's and the model's. -/
namespace Go.Proofs.YtjopjddhgaiddabGreatDoor
open Go.RowKit

/-- the key of a byte -/
def keyB (b : Int) : Tk :=
  if b = 9 then keyTk 2000002 0 1 else if b = 13 then keyTk 2000001 0 1 else if b = 27 then keyTk 2000004 0 1 else if b = 127 then keyTk 2000003 0 1
  else if b = 0 then keyTk 32 4 1 else if b ≤ 26 then keyTk (96 + b) 4 1 else if 32 ≤ b ∧ b ≤ 126 then keyTk b 0 1 else badTk 5

theorem keyB_data (b : Int) : (keyB b).ev.data = [] := by
  unfold keyB
  repeat' split
  all_goals rfl

set_option maxHeartbeats 1000000 in
theorem l3Token_any (e : Ev) (p : Option Addr) (c : Nat) (s : Int) (w : World) : Calls Tryz.prog 114 #[evV e p c, .int .i64 s] w fun en w' => en = .returned (tkV ⟨0, e, s, false, false⟩ (.slice p e.data.length c)) ∧ Below w.heap.size w w' := by
  unfold evV
  go_enter Tryz.func114, Tryz.ntmps114
  go_wp2
  exact bodyPost_ret (v := tkV ⟨0, e, s, false, false⟩ (.slice p e.data.length c)) (by simp [results, Tryz.results114, tkV, go_sem]) rfl ⟨rfl, below_on (below_mk _ _) (below_mk _ _)⟩

set_option maxHeartbeats 1000000 in
theorem l3Bad_any (c : Int) (w : World) : Calls Tryz.prog 48 #[.int .i64 c] w (PlainTk w (badTk c)) := by
  go_enter Tryz.func48, Tryz.ntmps48
  go_wp2
  exact bodyPost_ret (v := tkV (badTk c) (.slice none 0 0)) (by simp [results, Tryz.results48, tkV, badTk, noEv, go_sem]) rfl ⟨rfl, below_mk _ _⟩

theorem l3Token_key (c m s : Int) (w : World) : Calls Tryz.prog 114 #[.agg #[.int .i64 1, .int .i64 c, .int .i64 m, .int .i64 0, .int .i64 0, .int .i64 0, .int .i64 0, .slice none 0 0], .int .i64 s] w (PlainTk w (keyTk c m s)) :=
  l3Token_any (keyEv c m) none 0 s w

set_option maxHeartbeats 1000000 in
theorem l3Key_any (c m s : Int) (w : World) : Calls Tryz.prog 83 #[.int .i64 c, .int .i64 m, .int .i64 s] w (PlainTk w (keyTk c m s)) := by
  go_enter Tryz.func83, Tryz.ntmps83
  go_wp2_with (go_at_call 114; refine (l3Token_key _ _ _ _).mono ?_; rintro e w1 ⟨rfl, hb⟩; unfold tkV keyTk keyEv; obtain ⟨hc, hf⟩ := bcell hb)
  exact bodyPost_ret (v := tkV (keyTk c m s) (.slice none 0 0)) (by simp [results, Tryz.results83, tkV, keyTk, keyEv, go_sem, hc]) rfl (tk_end_plain (tkL (keyTk c m s) (.slice none 0 0)) hb)

set_option maxHeartbeats 1000000 in
theorem isPlain_any (b : Int) (w : World) : Calls Tryz.prog 138 #[.int .u8 b] w fun e w' => e = .returned (.bool (inR b 32 126)) ∧ w = w' := by
  by_cases h : 32 ≤ b
  · go_enter Tryz.func138, Tryz.ntmps138
    go_wp2
    go_ret
    exact ⟨ret_bool (by simp [inR, h]), rfl⟩
  · go_enter Tryz.func138, Tryz.ntmps138
    go_wp2
    go_ret
    exact ⟨ret_bool (by simp [inR]; omega), rfl⟩

set_option maxHeartbeats 1000000 in
theorem specKey_end (b c m : Int) (w : World) (hk : keyB b = keyTk c m 1) {o : Obj} {w1 : World} (hb : Below (w.alloc o).heap.size (w.alloc o) w1) :
    PlainTk w (keyB b) (.returned (tkV (keyTk c m 1) (.slice none 0 0))) (sets w1 w.heap.size 0 (tkL (keyTk c m 1) (.slice none 0 0))) := by
  rw [hk]
  exact tk_end_plain _ hb

set_option maxRecDepth 100000 in
set_option maxHeartbeats 4000000 in
theorem implKeyOfByte_0 (w : World) : Calls Tryz.prog 128 #[.int .u8 9] w (PlainTk w (keyTk 2000002 0 1)) := by
  go_enter Tryz.func128, Tryz.ntmps128
  go_wp2_with (first | (go_at_call 140; refine (keyResult_any _ _ _ _).mono ?_; rintro e w1 ⟨rfl, hb⟩; unfold tkV keyTk keyEv; obtain ⟨hc, hf⟩ := bcell hb) | (go_at_call 138; refine (isPlain_any _ _).mono ?_; rintro e w0 ⟨rfl, rfl⟩))
  exact bodyPost_ret (v := tkV (keyTk 2000002 0 1) (.slice none 0 0)) (by simp [results, Tryz.results128, tkV, keyTk, keyEv, go_sem, hc]) rfl (tk_end_plain (tkL (keyTk 2000002 0 1) (.slice none 0 0)) hb)

set_option maxRecDepth 100000 in
set_option maxHeartbeats 4000000 in
theorem implKeyOfByte_1 (w : World) : Calls Tryz.prog 128 #[.int .u8 13] w (PlainTk w (keyTk 2000001 0 1)) := by
  go_enter Tryz.func128, Tryz.ntmps128
  go_wp2_with (first | (go_at_call 140; refine (keyResult_any _ _ _ _).mono ?_; rintro e w1 ⟨rfl, hb⟩; unfold tkV keyTk keyEv; obtain ⟨hc, hf⟩ := bcell hb) | (go_at_call 138; refine (isPlain_any _ _).mono ?_; rintro e w0 ⟨rfl, rfl⟩))
  exact bodyPost_ret (v := tkV (keyTk 2000001 0 1) (.slice none 0 0)) (by simp [results, Tryz.results128, tkV, keyTk, keyEv, go_sem, hc]) rfl (tk_end_plain (tkL (keyTk 2000001 0 1) (.slice none 0 0)) hb)

set_option maxRecDepth 100000 in
set_option maxHeartbeats 4000000 in
theorem implKeyOfByte_2 (w : World) : Calls Tryz.prog 128 #[.int .u8 27] w (PlainTk w (keyTk 2000004 0 1)) := by
  go_enter Tryz.func128, Tryz.ntmps128
  go_wp2_with (first | (go_at_call 140; refine (keyResult_any _ _ _ _).mono ?_; rintro e w1 ⟨rfl, hb⟩; unfold tkV keyTk keyEv; obtain ⟨hc, hf⟩ := bcell hb) | (go_at_call 138; refine (isPlain_any _ _).mono ?_; rintro e w0 ⟨rfl, rfl⟩))
  exact bodyPost_ret (v := tkV (keyTk 2000004 0 1) (.slice none 0 0)) (by simp [results, Tryz.results128, tkV, keyTk, keyEv, go_sem, hc]) rfl (tk_end_plain (tkL (keyTk 2000004 0 1) (.slice none 0 0)) hb)

set_option maxRecDepth 100000 in
set_option maxHeartbeats 4000000 in
theorem implKeyOfByte_3 (w : World) : Calls Tryz.prog 128 #[.int .u8 127] w (PlainTk w (keyTk 2000003 0 1)) := by
  go_enter Tryz.func128, Tryz.ntmps128
  go_wp2_with (first | (go_at_call 140; refine (keyResult_any _ _ _ _).mono ?_; rintro e w1 ⟨rfl, hb⟩; unfold tkV keyTk keyEv; obtain ⟨hc, hf⟩ := bcell hb) | (go_at_call 138; refine (isPlain_any _ _).mono ?_; rintro e w0 ⟨rfl, rfl⟩))
  exact bodyPost_ret (v := tkV (keyTk 2000003 0 1) (.slice none 0 0)) (by simp [results, Tryz.results128, tkV, keyTk, keyEv, go_sem, hc]) rfl (tk_end_plain (tkL (keyTk 2000003 0 1) (.slice none 0 0)) hb)

set_option maxRecDepth 100000 in
set_option maxHeartbeats 4000000 in
theorem implKeyOfByte_4 (w : World) : Calls Tryz.prog 128 #[.int .u8 0] w (PlainTk w (keyTk 32 4 1)) := by
  go_enter Tryz.func128, Tryz.ntmps128
  go_wp2_with (first | (go_at_call 140; refine (keyResult_any _ _ _ _).mono ?_; rintro e w1 ⟨rfl, hb⟩; unfold tkV keyTk keyEv; obtain ⟨hc, hf⟩ := bcell hb) | (go_at_call 138; refine (isPlain_any _ _).mono ?_; rintro e w0 ⟨rfl, rfl⟩))
  exact bodyPost_ret (v := tkV (keyTk 32 4 1) (.slice none 0 0)) (by simp [results, Tryz.results128, tkV, keyTk, keyEv, go_sem, hc]) rfl (tk_end_plain (tkL (keyTk 32 4 1) (.slice none 0 0)) hb)

set_option maxRecDepth 100000 in
set_option maxHeartbeats 4000000 in
theorem implKeyOfByte_5 (b : Int) (w : World) (hlo : 1 ≤ b) (hhi : b ≤ 26) (h9 : ¬ b = 9) (h13 : ¬ b = 13) : Calls Tryz.prog 128 #[.int .u8 b] w (PlainTk w (keyTk (96 + b) 4 1)) := by
  go_enter Tryz.func128, Tryz.ntmps128
  go_wp2_with (first | (go_at_call 140; refine (keyResult_any _ _ _ _).mono ?_; rintro e w1 ⟨rfl, hb⟩; unfold tkV keyTk keyEv; obtain ⟨hc, hf⟩ := bcell hb) | (go_at_call 138; refine (isPlain_any _ _).mono ?_; rintro e w0 ⟨rfl, rfl⟩))
  exact bodyPost_ret (v := tkV (keyTk (96 + b) 4 1) (.slice none 0 0)) (by simp [results, Tryz.results128, tkV, keyTk, keyEv, go_sem, hc]) rfl (tk_end_plain (tkL (keyTk (96 + b) 4 1) (.slice none 0 0)) hb)

set_option maxRecDepth 100000 in
set_option maxHeartbeats 4000000 in
theorem implKeyOfByte_6 (b : Int) (w : World) (hlo : 32 ≤ b) (hhi : b ≤ 126) : Calls Tryz.prog 128 #[.int .u8 b] w (PlainTk w (keyTk b 0 1)) := by
  have hin : inR b 32 126 = true := by simp [inR, hlo, hhi]
  go_enter Tryz.func128, Tryz.ntmps128
  go_wp2_with (first | (go_at_call 140; refine (keyResult_any _ _ _ _).mono ?_; rintro e w1 ⟨rfl, hb⟩; unfold tkV keyTk keyEv; obtain ⟨hc, hf⟩ := bcell hb) | (go_at_call 138; refine (isPlain_any _ _).mono ?_; rintro e w0 ⟨rfl, rfl⟩))
  exact bodyPost_ret (v := tkV (keyTk b 0 1) (.slice none 0 0)) (by simp [results, Tryz.results128, tkV, keyTk, keyEv, go_sem, hc]) rfl (tk_end_plain (tkL (keyTk b 0 1) (.slice none 0 0)) hb)

set_option maxRecDepth 100000 in
set_option maxHeartbeats 4000000 in
theorem implKeyOfByte_7 (b : Int) (w : World) (hlo : 28 ≤ b) (hne : ¬ b = 127) (hout : b < 32 ∨ 126 < b) : Calls Tryz.prog 128 #[.int .u8 b] w (PlainTk w (badTk 5)) := by
  rcases hout with hout | hout
  all_goals
    have hin : inR b 32 126 = false := by simp [inR]; omega
    go_enter Tryz.func128, Tryz.ntmps128
    go_wp2_with (first | (go_at_call 138; refine (isPlain_any _ _).mono ?_; rintro e w0 ⟨rfl, rfl⟩))
    exact bodyPost_ret (v := tkV (badTk 5) (.slice none 0 0)) (by simp [results, Tryz.results128, tkV, badTk, noEv, go_sem]) rfl ⟨rfl, below_mk _ _⟩

theorem implKeyOfByte_any (b : Int) (w : World) (h0 : 0 ≤ b) : Calls Tryz.prog 128 #[.int .u8 b] w (PlainTk w (keyB b)) := by
  by_cases h1 : b = 9
  · have hk : keyB b = keyTk 2000002 0 1 := by unfold keyB; rw [if_pos h1]
    rw [hk, h1]
    exact implKeyOfByte_0 w
  by_cases h2 : b = 13
  · have hk : keyB b = keyTk 2000001 0 1 := by unfold keyB; rw [if_neg h1, if_pos h2]
    rw [hk, h2]
    exact implKeyOfByte_1 w
  by_cases h3 : b = 27
  · have hk : keyB b = keyTk 2000004 0 1 := by unfold keyB; rw [if_neg h1, if_neg h2, if_pos h3]
    rw [hk, h3]
    exact implKeyOfByte_2 w
  by_cases h4 : b = 127
  · have hk : keyB b = keyTk 2000003 0 1 := by unfold keyB; rw [if_neg h1, if_neg h2, if_neg h3, if_pos h4]
    rw [hk, h4]
    exact implKeyOfByte_3 w
  by_cases h5 : b = 0
  · have hk : keyB b = keyTk 32 4 1 := by unfold keyB; rw [if_neg h1, if_neg h2, if_neg h3, if_neg h4, if_pos h5]
    rw [hk, h5]
    exact implKeyOfByte_4 w
  by_cases h6 : b ≤ 26
  · have hk : keyB b = keyTk (96 + b) 4 1 := by unfold keyB; rw [if_neg h1, if_neg h2, if_neg h3, if_neg h4, if_neg h5, if_pos h6]
    rw [hk]
    exact implKeyOfByte_5 b w (by omega) (by omega) h1 h2
  by_cases h7 : 32 ≤ b ∧ b ≤ 126
  · have hk : keyB b = keyTk b 0 1 := by unfold keyB; rw [if_neg h1, if_neg h2, if_neg h3, if_neg h4, if_neg h5, if_neg h6, if_pos h7]
    rw [hk]
    exact implKeyOfByte_6 b w (by omega) (by omega)
  · have hk : keyB b = badTk 5 := by unfold keyB; rw [if_neg h1, if_neg h2, if_neg h3, if_neg h4, if_neg h5, if_neg h6, if_neg h7]
    rw [hk]
    exact implKeyOfByte_7 b w (by omega) (by omega) (by omega)

set_option maxRecDepth 100000 in
set_option maxHeartbeats 4000000 in
theorem specKeyOfByte_0 (w : World) : Calls Tryz.prog 80 #[.int .u8 9] w (PlainTk w (keyTk 2000002 0 1)) := by
  go_enter Tryz.func80, Tryz.ntmps80
  go_wp2_with (first | (go_at_call 83; refine (l3Key_any _ _ _ _).mono ?_; rintro e w1 ⟨rfl, hb⟩; unfold tkV keyTk keyEv; obtain ⟨hc, hf⟩ := bcell hb))
  exact bodyPost_ret (v := tkV (keyTk 2000002 0 1) (.slice none 0 0)) (by simp [results, Tryz.results80, tkV, keyTk, keyEv, go_sem, hc]) rfl (tk_end_plain (tkL (keyTk 2000002 0 1) (.slice none 0 0)) hb)

set_option maxRecDepth 100000 in
set_option maxHeartbeats 4000000 in
theorem specKeyOfByte_1 (w : World) : Calls Tryz.prog 80 #[.int .u8 13] w (PlainTk w (keyTk 2000001 0 1)) := by
  go_enter Tryz.func80, Tryz.ntmps80
  go_wp2_with (first | (go_at_call 83; refine (l3Key_any _ _ _ _).mono ?_; rintro e w1 ⟨rfl, hb⟩; unfold tkV keyTk keyEv; obtain ⟨hc, hf⟩ := bcell hb))
  exact bodyPost_ret (v := tkV (keyTk 2000001 0 1) (.slice none 0 0)) (by simp [results, Tryz.results80, tkV, keyTk, keyEv, go_sem, hc]) rfl (tk_end_plain (tkL (keyTk 2000001 0 1) (.slice none 0 0)) hb)

set_option maxRecDepth 100000 in
set_option maxHeartbeats 4000000 in
theorem specKeyOfByte_2 (w : World) : Calls Tryz.prog 80 #[.int .u8 27] w (PlainTk w (keyTk 2000004 0 1)) := by
  go_enter Tryz.func80, Tryz.ntmps80
  go_wp2_with (first | (go_at_call 83; refine (l3Key_any _ _ _ _).mono ?_; rintro e w1 ⟨rfl, hb⟩; unfold tkV keyTk keyEv; obtain ⟨hc, hf⟩ := bcell hb))
  exact bodyPost_ret (v := tkV (keyTk 2000004 0 1) (.slice none 0 0)) (by simp [results, Tryz.results80, tkV, keyTk, keyEv, go_sem, hc]) rfl (tk_end_plain (tkL (keyTk 2000004 0 1) (.slice none 0 0)) hb)

set_option maxRecDepth 100000 in
set_option maxHeartbeats 4000000 in
theorem specKeyOfByte_3 (w : World) : Calls Tryz.prog 80 #[.int .u8 127] w (PlainTk w (keyTk 2000003 0 1)) := by
  go_enter Tryz.func80, Tryz.ntmps80
  go_wp2_with (first | (go_at_call 83; refine (l3Key_any _ _ _ _).mono ?_; rintro e w1 ⟨rfl, hb⟩; unfold tkV keyTk keyEv; obtain ⟨hc, hf⟩ := bcell hb))
  exact bodyPost_ret (v := tkV (keyTk 2000003 0 1) (.slice none 0 0)) (by simp [results, Tryz.results80, tkV, keyTk, keyEv, go_sem, hc]) rfl (tk_end_plain (tkL (keyTk 2000003 0 1) (.slice none 0 0)) hb)

set_option maxRecDepth 100000 in
set_option maxHeartbeats 4000000 in
theorem specKeyOfByte_4 (w : World) : Calls Tryz.prog 80 #[.int .u8 0] w (PlainTk w (keyTk 32 4 1)) := by
  go_enter Tryz.func80, Tryz.ntmps80
  go_wp2_with (first | (go_at_call 83; refine (l3Key_any _ _ _ _).mono ?_; rintro e w1 ⟨rfl, hb⟩; unfold tkV keyTk keyEv; obtain ⟨hc, hf⟩ := bcell hb))
  exact bodyPost_ret (v := tkV (keyTk 32 4 1) (.slice none 0 0)) (by simp [results, Tryz.results80, tkV, keyTk, keyEv, go_sem, hc]) rfl (tk_end_plain (tkL (keyTk 32 4 1) (.slice none 0 0)) hb)

set_option maxRecDepth 100000 in
set_option maxHeartbeats 4000000 in
theorem specKeyOfByte_5 (b : Int) (w : World) (hlo : 1 ≤ b) (hhi : b ≤ 26) (h9 : ¬ b = 9) (h13 : ¬ b = 13) : Calls Tryz.prog 80 #[.int .u8 b] w (PlainTk w (keyTk (97 + b - 1) 4 1)) := by
  go_enter Tryz.func80, Tryz.ntmps80
  go_wp2_with (first | (go_at_call 83; refine (l3Key_any _ _ _ _).mono ?_; rintro e w1 ⟨rfl, hb⟩; unfold tkV keyTk keyEv; obtain ⟨hc, hf⟩ := bcell hb))
  exact bodyPost_ret (v := tkV (keyTk (97 + b - 1) 4 1) (.slice none 0 0)) (by simp [results, Tryz.results80, tkV, keyTk, keyEv, go_sem, hc]) rfl (tk_end_plain (tkL (keyTk (97 + b - 1) 4 1) (.slice none 0 0)) hb)

set_option maxRecDepth 100000 in
set_option maxHeartbeats 4000000 in
theorem specKeyOfByte_6 (b : Int) (w : World) (hlo : 32 ≤ b) (hhi : b ≤ 126) : Calls Tryz.prog 80 #[.int .u8 b] w (PlainTk w (keyTk b 0 1)) := by
  go_enter Tryz.func80, Tryz.ntmps80
  go_wp2_with (first | (go_at_call 83; refine (l3Key_any _ _ _ _).mono ?_; rintro e w1 ⟨rfl, hb⟩; unfold tkV keyTk keyEv; obtain ⟨hc, hf⟩ := bcell hb))
  exact bodyPost_ret (v := tkV (keyTk b 0 1) (.slice none 0 0)) (by simp [results, Tryz.results80, tkV, keyTk, keyEv, go_sem, hc]) rfl (tk_end_plain (tkL (keyTk b 0 1) (.slice none 0 0)) hb)

set_option maxRecDepth 100000 in
set_option maxHeartbeats 4000000 in
theorem specKeyOfByte_7 (b : Int) (w : World) (hlo : 28 ≤ b) (hne : ¬ b = 127) (hout : b < 32 ∨ 126 < b) : Calls Tryz.prog 80 #[.int .u8 b] w (PlainTk w (badTk 5)) := by
  rcases hout with hout | hout
  all_goals
    go_enter Tryz.func80, Tryz.ntmps80
    go_wp2_with (first | (go_at_call 48; refine (l3Bad_any _ _).mono ?_; rintro e w1 ⟨rfl, hb⟩; unfold tkV badTk noEv; obtain ⟨hc, hf⟩ := bcell hb))
    all_goals first | (exfalso; omega) | exact bodyPost_ret (v := tkV (badTk 5) (.slice none 0 0)) (by simp [results, Tryz.results80, tkV, badTk, noEv, go_sem, hc]) rfl (tk_end_plain (tkL (badTk 5) (.slice none 0 0)) hb)

theorem specKeyOfByte_any (b : Int) (w : World) (h0 : 0 ≤ b) : Calls Tryz.prog 80 #[.int .u8 b] w (PlainTk w (keyB b)) := by
  by_cases h1 : b = 9
  · have hk : keyB b = keyTk 2000002 0 1 := by unfold keyB; rw [if_pos h1]
    rw [hk, h1]
    exact specKeyOfByte_0 w
  by_cases h2 : b = 13
  · have hk : keyB b = keyTk 2000001 0 1 := by unfold keyB; rw [if_neg h1, if_pos h2]
    rw [hk, h2]
    exact specKeyOfByte_1 w
  by_cases h3 : b = 27
  · have hk : keyB b = keyTk 2000004 0 1 := by unfold keyB; rw [if_neg h1, if_neg h2, if_pos h3]
    rw [hk, h3]
    exact specKeyOfByte_2 w
  by_cases h4 : b = 127
  · have hk : keyB b = keyTk 2000003 0 1 := by unfold keyB; rw [if_neg h1, if_neg h2, if_neg h3, if_pos h4]
    rw [hk, h4]
    exact specKeyOfByte_3 w
  by_cases h5 : b = 0
  · have hk : keyB b = keyTk 32 4 1 := by unfold keyB; rw [if_neg h1, if_neg h2, if_neg h3, if_neg h4, if_pos h5]
    rw [hk, h5]
    exact specKeyOfByte_4 w
  by_cases h6 : b ≤ 26
  · have hk : keyB b = keyTk (96 + b) 4 1 := by unfold keyB; rw [if_neg h1, if_neg h2, if_neg h3, if_neg h4, if_neg h5, if_pos h6]
    rw [hk, show 96 + b = 97 + b - 1 by omega]
    exact specKeyOfByte_5 b w (by omega) (by omega) h1 h2
  by_cases h7 : 32 ≤ b ∧ b ≤ 126
  · have hk : keyB b = keyTk b 0 1 := by unfold keyB; rw [if_neg h1, if_neg h2, if_neg h3, if_neg h4, if_neg h5, if_neg h6, if_pos h7]
    rw [hk]
    exact specKeyOfByte_6 b w (by omega) (by omega)
  · have hk : keyB b = badTk 5 := by unfold keyB; rw [if_neg h1, if_neg h2, if_neg h3, if_neg h4, if_neg h5, if_neg h6, if_neg h7]
    rw [hk]
    exact specKeyOfByte_7 b w (by omega) (by omega) (by omega)

end Go.Proofs.YtjopjddhgaiddabGreatDoor

/- Fields of a token's value. -/
namespace Go.Proofs.YtjopjddhgaiddabGreatDoor
open Go.RowKit

theorem fld_token (a0 a1 a2 a3 a4 a5 a6 a7 a8 a9 a10 a11 : Value) (w : World) : (Instr.field 58 (.agg #[a0, a1, a2, a3, a4, a5, a6, a7, a8, a9, a10, a11]) 1).run Tryz.prog w = .ok (.agg #[a1, a2, a3, a4, a5, a6, a7, a8, a9, a10, a11]) w := by kernel_rfl
theorem fld_code (a0 a1 a2 a3 a4 a5 a6 a7 a8 a9 a10 a11 : Value) (w : World) : (Instr.field 58 (.agg #[a0, a1, a2, a3, a4, a5, a6, a7, a8, a9, a10, a11]) 0).run Tryz.prog w = .ok a0 w := by kernel_rfl
theorem fld_event (a1 a2 a3 a4 a5 a6 a7 a8 a9 a10 a11 : Value) (w : World) : (Instr.field 56 (.agg #[a1, a2, a3, a4, a5, a6, a7, a8, a9, a10, a11]) 0).run Tryz.prog w = .ok (.agg #[a1, a2, a3, a4, a5, a6, a7, a8]) w := by kernel_rfl
theorem fld_evcode (a1 a2 a3 a4 a5 a6 a7 a8 : Value) (w : World) : (Instr.field 31 (.agg #[a1, a2, a3, a4, a5, a6, a7, a8]) 1).run Tryz.prog w = .ok a2 w := by kernel_rfl

end Go.Proofs.YtjopjddhgaiddabGreatDoor

/- The contracts of eqTokenResult, markTokenResult, heldTokenResult. -/
namespace Go.Proofs.YtjopjddhgaiddabGreatDoor
open Go.RowKit



theorem grown_mk {w w' : World} {o : Obj} {row : Option Nat} (h : (w.alloc o).grownBy w' row) : w.grownBy w' row :=
  grown_trans (grown_of_below (below_mk w o) row) h







end Go.Proofs.YtjopjddhgaiddabGreatDoor
