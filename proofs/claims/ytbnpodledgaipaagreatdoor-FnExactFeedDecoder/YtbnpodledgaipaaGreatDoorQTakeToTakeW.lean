/- takeTokens: what its loop keeps. -/
import Derived.Test.YtbnpodledgaipaaGreatDoorQJoinsToPend
import Derived.Test.YtbnpodledgaipaaGreatDoorQEvRowsToDraws10
namespace Go.Proofs.YtbnpodledgaipaaGreatDoor
open Go.RowKit
set_option linter.unusedVariables false

/-- what a call of takeTokens leaves: the events, and the decoder's bytes and mode -/
def TakenP (w : World) (db : Nat) (due : Int) (r : List Ev × List UInt8 × Bool) (e : Ending) (W : World) : Prop :=
  ∃ v rows p c, e = .returned v ∧ rows.map Prod.fst = r.1 ∧ EvsOwn W w.heap.size v rows ∧ Apart rows ∧ AtM W db [.slice p r.2.1.length c, .bool r.2.2, .int .i64 due] ∧ Own W w.heap.size (.slice p r.2.1.length c) r.2.1
    ∧ (∀ x ∈ rows, ∀ j, (rowSlice x).ownBlock = some j → (Value.slice p r.2.1.length c).ownBlock ≠ some j) ∧ w.grownBy W (some db)

/-- what stays the same through the loop: the call's world, the decoder's block, the rule -/
structure TEnv where
  w : World
  db : Nat
  F : Nat
  f : Rule
  p : Option Addr
  c : Nat
  l : List UInt8
  q : Bool
  due : Int

/-- what every place of the loop keeps: rows are the events so far, l' the bytes that no token has used, q' the mode -/
structure TKeep (E : TEnv) (l' : List UInt8) (q' : Bool) (bx : List UInt8) (ev : Value) (rows : List EvRow) (W : World) : Prop where
  all : takeAll E.f E.l E.q = (rows.map Prod.fst ++ (takeAll E.f l' q').1, (takeAll E.f l' q').2)
  len : rows.length + l'.length ≤ E.l.length
  evs : EvsOwn W (E.w.heap.size + 2) ev rows
  dec : AtM W E.db [.slice E.p E.l.length E.c, .bool q', .int .i64 E.due]
  box : ∃ p c, BoxB W E.w.heap.size p c bx
  rule : AtL W (E.w.heap.size + 1) [.func (.func E.F) #[] #[]]
  grown : E.w.grownBy W (some E.db)
  low : E.db < E.w.heap.size

/-- the loop's head: the token of (l', q') lies in block R, its data at pp -/
structure THead (E : TEnv) (l' : List UInt8) (q' : Bool) (rows : List EvRow) (R : Nat) (pp : Option Addr) (cc : Nat) (ev : Value) (W : World) : Prop where
  keep : TKeep E l' q' (restOf E.f l' q') ev rows W
  tok : AtM W R (tkL (E.f l' q') (.slice pp (E.f l' q').ev.data.length cc))
  own : Own W (E.w.heap.size + 2) (.slice pp (E.f l' q').ev.data.length cc) (E.f l' q').ev.data
  apart : Apart (rows ++ [((E.f l' q').ev, pp, cc)])
  hi : E.w.heap.size + 2 ≤ R
  evR : ∀ j, ev.ownBlock = some j → j ≠ R

def TRel (E : TEnv) (ev r : Value) (W : World) : Prop :=
  ∃ l' q' rows R pp cc, r = .pointer (some ⟨R, 0, none⟩) ∧ THead E l' q' rows R pp cc ev W

/-- the bytes in the box, doubled, and one more where a token is at hand -/
def tmeas (b : Nat) (r : Value) (W : World) : Nat :=
  (match W.cell? ⟨b, 0, none⟩ with | some (.slice _ n _) => 2 * n | _ => 0) + (match r with | .pointer (some a) => (match W.cell? a with | some (.int _ 0) => 1 | _ => 0) | _ => 0)
theorem tmeas_at {E : TEnv} {l' : List UInt8} {q' : Bool} {rows : List EvRow} {R : Nat} {pp : Option Addr} {cc : Nat} {ev : Value} {W : World} (h : THead E l' q' rows R pp cc ev W) :
    tmeas E.w.heap.size (.pointer (some ⟨R, 0, none⟩)) W = 2 * (restOf E.f l' q').length + (if (E.f l' q').code = 0 then 1 else 0) := by
  obtain ⟨p, c, hb, _⟩ := h.keep.box
  have h0 := hb.cells.get 0 rfl
  have h1 := h.tok.cells.get 0 rfl
  unfold tmeas
  rw [h0]
  dsimp only
  rw [h1]
  by_cases hc : (E.f l' q').code = 0
  · rw [hc]; simp
  · rw [if_neg hc]
    congr 1
    split
    · rename_i e
      simp only [Option.some.injEq, Value.int.injEq] at e
      exact absurd e.2 hc
    · rfl

theorem Bs.lowAlloc {w : World} {B : Nat} {p : Option Addr} {l : List UInt8} (h : Bs w B p l) (hB : B ≤ w.heap.size) {w' : World} (hb : Below w.heap.size w w') : Bs w' B p l := h.below (hb.mono hB)
theorem BoxB.on {w w' : World} {b : Nat} {p : Option Addr} {c : Nat} {l : List UInt8} (h : BoxB w b p c l) (hb : Below w.heap.size w w') : BoxB w' b p c l :=
  ⟨h.1.on hb, h.2.1.below (hb.mono (Nat.le_of_lt h.1.cells.1)), h.2.2⟩
/-- a block other than the box, not below it, is written -/
theorem BoxB.far {w w' : World} {b : Nat} {p : Option Addr} {c : Nat} {l : List UInt8} {row : Nat} (h : BoxB w b p c l) (hg : w.grownBy w' (some row)) (hr : b < row) : BoxB w' b p c l :=
  ⟨h.1.far hg (by intro e; cases e; omega), h.2.1.keep (Nat.le_refl _) (fun a ha => World.cell?_of_block (hg.block a.block (Nat.lt_trans ha h.1.cells.1) (by intro e; cases e; omega))), h.2.2⟩
theorem grown_on {a b c : World} {row : Option Nat} (h : a.grownBy b row) (k : Below b.heap.size b c) : a.grownBy c row := grown_trans h (grown_of_below k row)
theorem grown_past {a b c : World} {row : Option Nat} {j : Nat} (h : a.grownBy b row) (k : b.grownBy c (some j)) (hj : a.heap.size ≤ j) : a.grownBy c row :=
  ⟨k.os.trans h.os, k.tape.trans h.tape, k.output.trans h.output, Nat.le_trans h.size k.size, fun i hi hne => (k.block i (Nat.lt_of_lt_of_le hi h.size) (by intro e; cases e; omega)).trans (h.block i hi hne)⟩
theorem Apart.left {xs ys : List EvRow} (h : Apart (xs ++ ys)) : Apart xs := (List.pairwise_append.1 h).1
theorem Apart.snoc {xs : List EvRow} {r : EvRow} (h : Apart xs) (hr : ∀ x ∈ xs, ∀ j, (rowSlice x).ownBlock = some j → (rowSlice r).ownBlock ≠ some j) : Apart (xs ++ [r]) := by
  refine List.pairwise_append.2 ⟨h, by simp, ?_⟩
  intro a ha b hb
  obtain rfl : b = r := by simpa using hb
  exact hr a ha
/-- fresh data are apart from all that was there -/
theorem Apart.fresh {W W' : World} {base : Nat} {v : Value} {xs : List EvRow} {r : EvRow} (h : Apart xs) (ho : EvsOwn W base v xs) (hn : Own W' W.heap.size (rowSlice r) r.1.data) : Apart (xs ++ [r]) :=
  h.snoc fun x hx j hj e => by
    have h1 := ((ho.2 x hx).lt j hj).2
    have h2 := (hn.lt j e).1
    omega

theorem Tabs.below {w w' : World} {B : Nat} (h : Tabs w) (hb : Below B w w') (h0 : 0 < B) (h1 : 1 < B) : Tabs w' := by
  have k0 : ∀ o, w'.cell? ⟨0, o, none⟩ = w.cell? ⟨0, o, none⟩ := fun o => hb.cell (p := ⟨0, o, none⟩) h0
  have k1 : ∀ o, w'.cell? ⟨1, o, none⟩ = w.cell? ⟨1, o, none⟩ := fun o => hb.cell (p := ⟨1, o, none⟩) h1
  exact ⟨fun i hi => (k0 i).trans (h.first i hi), (k1 _).trans h.l0, (k1 _).trans h.h0, (k1 _).trans h.l1, (k1 _).trans h.h1, (k1 _).trans h.l2, (k1 _).trans h.h2, (k1 _).trans h.l3, (k1 _).trans h.h3, (k1 _).trans h.l4, (k1 _).trans h.h4⟩
/-- the tables lie below b -/
def TabLow (b : Nat) : Prop := 0 < b ∧ 1 < b
theorem Tabs.tabLow {w : World} (h : Tabs w) {b : Nat} (hb : w.heap.size ≤ b) : TabLow b := ⟨Nat.lt_of_lt_of_le h.lt0 hb, Nat.lt_of_lt_of_le h.lt1 hb⟩
theorem TKeep.tabs {E : TEnv} {l' : List UInt8} {q' : Bool} {bx : List UInt8} {ev : Value} {rows : List EvRow} {W : World} (h : TKeep E l' q' bx ev rows W) (ht : Tabs E.w) (hl : TabLow E.db) : Tabs W :=
  ht.below (B := E.db) ⟨h.grown.os, h.grown.tape, h.grown.output, h.grown.size, fun k hk => h.grown.block k (by have := h.low; omega) (by intro e; cases e; omega)⟩ hl.1 hl.2

/-- no byte lies where something else lies -/
theorem Bs.setOther {w : World} {B : Nat} {p : Option Addr} {l : List UInt8} (h : Bs w B p l) {a : Addr} {v : Value} (hv : w.cell? a = some v) (hn : ∀ x, v ≠ .int .u8 x) (u : Value) : Bs (w.setCell a u) B p l := by
  intro hl
  obtain ⟨b, off, e, hb, hc⟩ := h hl
  refine ⟨b, off, e, hb, fun i hi => ?_⟩
  rw [World.cell?_setCell_other _ _ _ _ (fun e => by subst e; exact hn _ (Option.some.inj (hv.symm.trans (hc i hi))))]
  exact hc i hi
theorem grown_cell (W : World) (b i : Nat) (v : Value) : W.grownBy (W.setCell ⟨b, i, none⟩ v) (some b) := ⟨rfl, rfl, rfl, by simp, fun k _ hk => Below.heap_setCell _ _ _ _ (fun e => hk (by rw [e]))⟩

/-- behind the token: l' is what is left, q' the new mode; the token t still lies in block R -/
structure TMid (E : TEnv) (l' : List UInt8) (q' : Bool) (rows : List EvRow) (ev : Value) (R : Nat) (t : Tk) (v : Value) (W : World) : Prop where
  keep : TKeep E l' q' l' ev rows W
  tok : AtM W R (tkL t v)
  apart : Apart rows
  hi : E.w.heap.size + 2 ≤ R

theorem TKeep.mode {E : TEnv} {l' : List UInt8} {q' : Bool} {bx : List UInt8} {ev : Value} {rows : List EvRow} {W : World} (h : TKeep E l' q' bx ev rows W) (q'' : Bool) {l'' : List UInt8} {rows' : List EvRow}
    (hall : takeAll E.f E.l E.q = (rows'.map Prod.fst ++ (takeAll E.f l'' q'').1, (takeAll E.f l'' q'').2)) (hlen : rows'.length + l''.length ≤ E.l.length) (hr : rows' = rows) :
    TKeep E l'' q'' bx ev rows' (W.setCell ⟨E.db, 1, none⟩ (.bool q'')) := by
  subst hr
  obtain ⟨p, c, b1, b2, b3⟩ := h.box
  have hlow := h.low
  have hg := grown_cell W E.db 1 (.bool q'')
  refine ⟨hall, hlen, h.evs.kept hg ?_ ?_, ?_, ⟨p, c, b1.other (by omega) _ _, b2.setOther (h.dec.cells.get 1 rfl) (by simp) _, b3⟩, h.rule.keep (by simp) (fun o => World.cell?_setCell_far _ _ _ _ (by show E.db ≠ E.w.heap.size + 1; omega)), grown_trans h.grown hg, hlow⟩
  · exact .inl fun e => by have := (h.evs.lt _ e).1; omega
  · intro r hr j hj e
    cases e
    have := ((h.evs.2 r hr).lt _ hj).1
    omega
  · exact h.dec.set 1 (.bool q'')

theorem THead.pass {E : TEnv} {l' : List UInt8} {q' : Bool} {rows : List EvRow} {R : Nat} {pp : Option Addr} {cc : Nat} {ev : Value} {W : World} (hf : GoodRule E.f) (h : THead E l' q' rows R pp cc ev W) (hc : (E.f l' q').code = 0) (hn : (E.f l' q').none = true) :
    TMid E (restOf E.f l' q') (E.f l' q').paste rows ev R (E.f l' q') (.slice pp (E.f l' q').ev.data.length cc) (W.setCell ⟨E.db, 1, none⟩ (.bool (E.f l' q').paste)) := by
  obtain ⟨⟨k, hk, h1, h2⟩, _⟩ := hf l' q' hc
  have hlen : (restOf E.f l' q').length + k = l'.length := by unfold restOf; rw [hk]; simp; omega
  have hlow := h.keep.low
  have hhi := h.hi
  refine ⟨h.keep.mode _ ?_ ?_ rfl, h.tok.other (by omega) _ _, h.apart.left, h.hi⟩
  · rw [h.keep.all, takeAll_step hf hc]
    unfold tkEvs restOf
    rw [if_pos hn]
    rfl
  · have := h.keep.len; omega

theorem THead.push {E : TEnv} {l' : List UInt8} {q' : Bool} {rows : List EvRow} {R : Nat} {pp : Option Addr} {cc : Nat} {ev : Value} {W : World} (hf : GoodRule E.f) (h : THead E l' q' rows R pp cc ev W) (hc : (E.f l' q').code = 0) (hn : (E.f l' q').none = false)
    {ev' : Value} {W3 : World} {o : Obj}
    (ho : W3.ownsRow (E.w.heap.size + 2) 26 8 ev' (rows.length + 1) (rows.flatMap rowCells ++ rowCells ((E.f l' q').ev, pp, cc))) (hg : ((W.setCell ⟨E.db, 1, none⟩ (.bool (E.f l' q').paste)).alloc o).grownBy W3 ev.ownBlock) :
    TMid E (restOf E.f l' q') (E.f l' q').paste (rows ++ [((E.f l' q').ev, pp, cc)]) ev' R (E.f l' q') (.slice pp (E.f l' q').ev.data.length cc) W3 := by
  obtain ⟨⟨k, hk, h1, h2⟩, _⟩ := hf l' q' hc
  have hlen : (restOf E.f l' q').length + k = l'.length := by unfold restOf; rw [hk]; simp; omega
  have hlow := h.keep.low
  have hhi := h.hi
  have hgc := grown_cell W E.db 1 (.bool (E.f l' q').paste)
  obtain ⟨p, c, b1, b2, b3⟩ := h.keep.box
  have hev : EvsOwn (W.setCell ⟨E.db, 1, none⟩ (.bool (E.f l' q').paste)) (E.w.heap.size + 2) ev rows := h.keep.evs.kept hgc (.inl fun e => by have := (h.keep.evs.lt _ e).1; omega) (fun r hr j hj e => by
    cases e
    have := ((h.keep.evs.2 r hr).lt _ hj).1
    omega)
  have how : Own (W.setCell ⟨E.db, 1, none⟩ (.bool (E.f l' q').paste)) (E.w.heap.size + 2) (.slice pp (E.f l' q').ev.data.length cc) (E.f l' q').ev.data := h.own.setBelow (by show E.db < _; omega) _
  have hbm := below_mk (W.setCell ⟨E.db, 1, none⟩ (.bool (E.f l' q').paste)) o
  have hev2 := hev.below hbm
  have how2 := how.on hbm
  have hblk : ∀ j, ev.ownBlock = some j → E.w.heap.size + 2 ≤ j := fun j hj => (h.keep.evs.lt j hj).1
  have hB : ∀ j, j < E.w.heap.size + 2 → some j ≠ ev.ownBlock := fun j hj e => by have := hblk j e.symm; omega
  have hdec := ((h.keep.dec.set 1 (.bool (E.f l' q').paste)).on hbm).far hg (hB _ (by omega))
  have hbox : BoxB W3 E.w.heap.size p c (restOf E.f l' q') := by
    refine ⟨((b1.other (c := E.db) (by omega) 1 _).on hbm).far hg (hB _ (by omega)), ?_, b3⟩
    have k1 := (b2.setOther (h.keep.dec.cells.get 1 rfl) (by simp) (.bool (E.f l' q').paste))
    have hsz : E.w.heap.size < W.heap.size := b1.cells.1
    have k2 := k1.below (hbm.mono (by simp; omega))
    exact k2.keep (Nat.le_refl _) (fun a ha => World.cell?_of_block (hg.block a.block (by simp; omega) (hB _ (by omega))))
  have hrule : AtL W3 (E.w.heap.size + 1) [.func (.func E.F) #[] #[]] := ((h.keep.rule.keep (w' := W.setCell ⟨E.db, 1, none⟩ (.bool (E.f l' q').paste)) (by simp) (fun o => World.cell?_setCell_far _ _ _ _ (by show E.db ≠ E.w.heap.size + 1; omega))).on hbm).far hg (hB _ (by omega))
  have hgr : E.w.grownBy W3 (some E.db) := by
    have g1 := grown_on (grown_trans h.keep.grown hgc) hbm
    exact ⟨hg.os.trans g1.os, hg.tape.trans g1.tape, hg.output.trans g1.output, Nat.le_trans g1.size hg.size, fun j hj hne => (hg.block j (Nat.lt_of_lt_of_le hj g1.size) (hB _ (by omega))).trans (g1.block j hj hne)⟩
  refine ⟨⟨?_, ?_, hev2.append (r := ((E.f l' q').ev, pp, cc)) how2 ho hg, hdec, ⟨p, c, hbox⟩, hrule, hgr, hlow⟩, ?_, h.apart, h.hi⟩
  · rw [h.keep.all, takeAll_step hf hc]
    unfold tkEvs restOf
    rw [if_neg (by rw [hn]; simp)]
    simp
  · have := h.keep.len
    rw [List.length_append]
    simp
    omega
  · exact ((h.tok.other (c := E.db) (by omega) 1 _).on hbm).far hg (fun e => h.evR R e.symm rfl)

/-- the next token is taken into a new block -/
theorem TMid.next {E : TEnv} {l' : List UInt8} {q' : Bool} {rows : List EvRow} {ev : Value} {R : Nat} {t : Tk} {v : Value} {W : World} (h : TMid E l' q' rows ev R t v W)
    {o : Obj} {us : List Value} (hus : us.length = 12) (hn : AtM (W.alloc o) W.heap.size us) {w3 : World} {pp : Option Addr} {cc : Nat} {p' : Option Addr} {c' : Nat}
    (ho : Own w3 (W.alloc o).heap.size (.slice pp (E.f l' q').ev.data.length cc) (E.f l' q').ev.data) (hbox : BoxB w3 E.w.heap.size p' c' (restOf E.f l' q')) (hg : (W.alloc o).grownBy w3 (some E.w.heap.size)) :
    THead E l' q' rows W.heap.size pp cc ev (sets w3 W.heap.size 0 (tkL (E.f l' q') (.slice pp (E.f l' q').ev.data.length cc))) := by
  have hlow := h.keep.low
  obtain ⟨p0, c0, b0, _⟩ := h.keep.box
  have hsz : E.w.heap.size + 1 < W.heap.size := h.keep.rule.1
  have hbm := below_mk W o
  have hsg := sets_grown (b := W.heap.size) (tkL (E.f l' q') (.slice pp (E.f l' q').ev.data.length cc)) 0 w3
  have hev1 := (h.keep.evs.below hbm).kept hg (.inl fun e => by have := (h.keep.evs.lt _ e).1; omega) (fun r hr j hj e => by cases e; have := ((h.keep.evs.2 r hr).lt _ hj).1; omega)
  have hev2 := hev1.kept hsg (.inl fun e => by have := (h.keep.evs.lt _ e).2; omega) (fun r hr j hj e => by cases e; have := ((h.keep.evs.2 r hr).lt _ hj).2; omega)
  have hrow : ∀ j, (rowSlice ((E.f l' q').ev, pp, cc)).ownBlock = some j → W.heap.size < j := fun j hj => by have := (ho.lt j hj).1; simp at this; omega
  refine ⟨⟨h.keep.all, h.keep.len, hev2, ((h.keep.dec.on hbm).far hg (by intro e; injection e; omega)).far hsg (by intro e; injection e; omega), ⟨p', c', hbox.far hsg (by omega)⟩,
    ((h.keep.rule.on hbm).far hg (by intro e; injection e; omega)).far hsg (by intro e; injection e; omega), ?_, hlow⟩, ?_, ?_, ?_, by omega, ?_⟩
  · exact grown_past (grown_past (grown_on h.keep.grown hbm) hg (Nat.le_refl _)) hsg (by omega)
  · exact (hn.far hg (by intro e; injection e; omega)).sets _ (by rw [hus]; rfl)
  · refine (sets_own (base := W.heap.size + 1) (by omega) _ 0 _ ?_).lower (by omega)
    exact ho.lower (by simp)
  · refine h.apart.snoc fun x hx j hj e => ?_
    have h1 := ((h.keep.evs.2 x hx).lt j hj).2
    have h2 := hrow j e
    omega
  · intro j hj
    have := (h.keep.evs.lt j hj).2
    omega

theorem rows_lower {w : World} {base base' size n : Nat} {e : TypeId} {v : Value} {xs : List Value} (h : w.ownsRow base e size v n xs) (hb : base' ≤ base) : w.ownsRow base' e size v n xs := by
  refine ⟨h.1, ?_⟩
  rcases h.2 with h' | ⟨g, cap, cur, e, hg, r⟩
  · exact .inl h'
  · exact .inr ⟨g, cap, cur, e, by omega, r⟩

/-- nothing more is taken -/
theorem THead.last {E : TEnv} {l' : List UInt8} {q' : Bool} {rows : List EvRow} {R : Nat} {pp : Option Addr} {cc : Nat} {ev : Value} {W : World} (h : THead E l' q' rows R pp cc ev W) (hc : ¬ (E.f l' q').code = 0) (hz : (E.f l' q').size = 0)
    {w4 : World} {p4 : Option Addr} {c4 n4 : Nat} (hn : n4 = l'.length) (ho : Own w4 W.heap.size (.slice p4 n4 c4) l') (hb : Below W.heap.size W w4) :
    TakenP E.w E.db E.due (takeAll E.f E.l E.q) (.returned ev) (w4.setCell ⟨E.db, 0, none⟩ (.slice p4 n4 c4)) := by
  subst hn
  have hlow := h.keep.low
  have e : takeAll E.f E.l E.q = (rows.map Prod.fst, l', q') := by rw [h.keep.all, takeAll_stop hc]; simp
  rw [e]
  have hgc := grown_cell w4 E.db 0 (.slice p4 l'.length c4)
  have hsz : E.w.heap.size + 1 < W.heap.size := h.keep.rule.1
  have hev := (h.keep.evs.below hb).kept hgc (.inl fun e => by have := (h.keep.evs.lt _ e).1; omega) (fun r hr j hj e => by cases e; have := ((h.keep.evs.2 r hr).lt _ hj).1; omega)
  refine ⟨ev, rows, p4, c4, rfl, rfl, ⟨rows_lower hev.1 (by omega), fun r hr => (hev.2 r hr).lower (by omega)⟩, h.apart.left, (h.keep.dec.on hb).set 0 _, (ho.setBelow (by show E.db < _; omega) _).lower (by omega), ?_, grown_trans (grown_on h.keep.grown hb) hgc⟩
  intro x hx j hj e
  have h1 := ((h.keep.evs.2 x hx).lt j hj).2
  have h2 := (ho.lt j e).1
  omega

/-- the first token -/
theorem THead.first {E : TEnv} {w1 w2 : World} {pp p2 : Option Addr} {cc c2 : Nat} {t : TypeId} (hlow : E.db < E.w.heap.size) (hd : AtM w1 E.db [.slice E.p E.l.length E.c, .bool E.q, .int .i64 E.due]) (hr : AtL w1 (E.w.heap.size + 1) [.func (.func E.F) #[] #[]]) (hs : w1.heap.size = E.w.heap.size + 2)
    (hg1 : E.w.grownBy w1 (some E.db)) (ho : Own w2 w1.heap.size (.slice pp (E.f E.l E.q).ev.data.length cc) (E.f E.l E.q).ev.data) (hbox : BoxB w2 E.w.heap.size p2 c2 (restOf E.f E.l E.q)) (hg : w1.grownBy w2 (some E.w.heap.size)) :
    THead E E.l E.q [] w2.heap.size pp cc (.slice none 0 0) (w2.alloc (.cells (tkL (E.f E.l E.q) (.slice pp (E.f E.l E.q).ev.data.length cc)).toArray t)) := by
  have hbm := below_mk w2 (.cells (tkL (E.f E.l E.q) (.slice pp (E.f E.l E.q).ev.data.length cc)).toArray t)
  have hsz := hg.size
  refine ⟨⟨by simp, by simp, ⟨World.ownsRow_nil _ _ _ _, by simp⟩, (hd.far hg (by intro e; injection e; omega)).on hbm, ⟨p2, c2, hbox.on hbm⟩, (hr.far hg (by intro e; injection e; omega)).on hbm, grown_on (grown_past hg1 hg (Nat.le_refl _)) hbm, hlow⟩, AtM.new _ _ _, (ho.on hbm).lower (by omega), by simp [Apart], by omega, fun j hj => by simp [Value.ownBlock] at hj⟩

theorem restOf_zero {f : Rule} {l : List UInt8} {q : Bool} (h : (f l q).size = 0) : restOf f l q = l := by unfold restOf; rw [h]; rfl
/-- the measure falls -/
theorem tmeas_less {f : Rule} (hf : GoodRule f) (hz : ∀ l q, ¬ (f l q).code = 0 → (f l q).size = 0) (l : List UInt8) (q : Bool) : 2 * (restOf f l q).length + (if (f l q).code = 0 then 1 else 0) < 2 * l.length + 1 := by
  by_cases hc : (f l q).code = 0
  · obtain ⟨⟨k, hk, h1, h2⟩, _⟩ := hf l q hc
    rw [if_pos hc]
    unfold restOf
    rw [hk]
    simp
    omega
  · rw [if_neg hc, restOf_zero (hz l q hc)]
    omega

end Go.Proofs.YtbnpodledgaipaaGreatDoor

/- takeTokens: the walk. -/
namespace Go.Proofs.YtbnpodledgaipaaGreatDoor
open Go.RowKit
set_option linter.unusedVariables false

/-- the first function of pendingInput at a rule -/
def TakesBy (F : Nat) (f : Rule) : Prop := ∀ (b1 b : Nat) (p : Option Addr) (c : Nat) (l : List UInt8) (q : Bool) (w : World), AtL w b1 [.func (.func F) #[] #[]] → BoxB w b p c l → Tabs w →
  Calls Tryz.prog 140 #[.bool q, .pointer (some ⟨b1, 0, none⟩), .pointer (some ⟨b, 0, none⟩)] w (Took w b (f l q) (restOf f l q))

set_option maxRecDepth 100000 in
set_option maxHeartbeats 4000000 in
theorem takeTokens_any (F : Nat) (f : Rule) (hf : GoodRule f) (hz : ∀ l q, ¬ (f l q).code = 0 → (f l q).size = 0) (HP : Hid (TakesBy F f)) (db : Nat) (p : Option Addr) (c : Nat) (l : List UInt8) (q : Bool) (due : Int) (w : World)
    (hd : AtM w db [.slice p l.length c, .bool q, .int .i64 due]) (hb : Bs w w.heap.size p l) (hp : p = none → c = 0) (hc : l.length ≤ c) (hl : l.length ≤ 100000) (ht : Tabs w) (hlow : TabLow db) :
    Calls Tryz.prog 84 #[.pointer (some ⟨db, 0, none⟩), .func (.func F) #[] #[]] w (TakenP w db due (takeAll f l q)) := by
  have d0 := hd.cells.get 0 rfl
  have d1 := hd.cells.get 1 rfl
  have dl := hd.cells.1
  have HX := Lib.hid (And.intro hd (And.intro hb (And.intro hp (And.intro ht hlow))))
  have HG := Lib.hid (And.intro hf hz)
  clear hd hb hp ht hlow hf hz
  obtain ⟨i0, hi, hz0, hz1, hz2⟩ := info_parts Tryz.info_evd
  have HI := Lib.hid (And.intro hi (And.intro hz0 (And.intro hz1 hz2)))
  clear hi hz0 hz1 hz2
  go_enter Tryz.func84, Tryz.ntmps84
  go_wp2_with fail
  refine (pendingInput_any p l.length c F w).mono ?_
  rintro e w1 ⟨rfl, rfl⟩
  have B1 := below_mk w (.cells #[.slice p l.length c] 22)
  have B2 := below_mk (w.alloc (.cells #[.slice p l.length c] 22)) (.cells #[.func (.func F) #[] #[]] 119)
  have D1 := (HX.out.1.on B1).on B2
  have HBX : Hid (BoxB ((w.alloc (.cells #[.slice p l.length c] 22)).alloc (.cells #[.func (.func F) #[] #[]] 119)) w.heap.size p c l) :=
    ⟨(AtM.new w [.slice p l.length c] 22).on B2, (HX.out.2.1.below (below_on B1 B2)), HX.out.2.2.1, hc, by omega⟩
  have HRL : Hid (AtL ((w.alloc (.cells #[.slice p l.length c] 22)).alloc (.cells #[.func (.func F) #[] #[]] 119)) (w.heap.size + 1) [.func (.func F) #[] #[]]) := by
    have := AtL.new (w.alloc (.cells #[.slice p l.length c] 22)) [.func (.func F) #[] #[]] 119
    rw [World.size_alloc] at this
    exact this
  have HT1 := Lib.hid ((HX.out.2.2.2.1.on B1).on B2)
  have HGW := Lib.hid (grown_of_below (below_on B1 B2) (some db))
  have hsz1 : ((w.alloc (.cells #[.slice p l.length c] 22)).alloc (.cells #[.func (.func F) #[] #[]] 119)).heap.size = w.heap.size + 2 := by simp
  have HSZ := Lib.hid hsz1
  have HD1 := Lib.hid D1
  have e1 := D1.cells.get 1 rfl
  clear B1 B2 D1 d0 d1 hsz1
  generalize (w.alloc (.cells #[.slice p l.length c] 22)).alloc (.cells #[.func (.func F) #[] #[]] 119) = w1 at *
  go_wp2_with fail
  refine (HP.out _ _ _ _ _ _ _ HRL.out HBX.out HT1.out).mono ?_
  rintro e w2 ⟨v, p2, c2, rfl, ho2, hbx2, hg2⟩
  obtain ⟨pp, cc, hv⟩ := ho2.slice
  subst hv
  have HF1 : Hid (THead ⟨w, db, F, f, p, c, l, q, due⟩ l q [] w2.heap.size pp cc (.slice none 0 0) (w2.alloc (.cells (tkL (f l q) (.slice pp (f l q).ev.data.length cc)).toArray 30))) :=
    THead.first (E := ⟨w, db, F, f, p, c, l, q, due⟩) dl HD1.out HRL.out HSZ.out HGW.out ho2 hbx2 hg2
  clear ho2 hbx2 hg2 HBX HRL HT1 HGW HSZ HD1 e1
  unfold tkV
  unfold tkL at HF1
  go_wp2_with fail
  go_loopw [7, 8] (fun ev r W => TRel ⟨w, db, F, f, p, c, l, q, due⟩ ev r W) (fun _ r W => tmeas w.heap.size r W)
  case atStart => exact ⟨l, q, [], w2.heap.size, pp, cc, rfl, HF1.out⟩
  case round =>
    obtain ⟨l', q', rows, R, pq, cq, rfl, hH⟩ := hrel
    clear HF1
    have HH := Lib.hid hH
    obtain ⟨a0, a1, a2, a3, a4, a5, a6, a7, a8, a9, a10, a11⟩ := AtL.twelve hH.tok.cells
    have d1 := hH.keep.dec.cells.get 1 rfl
    have d2 := hH.keep.dec.free 1
    have hRl := hH.tok.cells.1
    have hdl := hH.keep.dec.cells.1
    have hRd : R ≠ db := by have := hH.hi; have := dl; dsimp only at *; omega
    dsimp only at a0 a1 a2 a3 a4 a5 a6 a7 a8 a9 a10 a11 d1 d2 hdl
    clear hH
    by_cases hcode : (f l' q').code = 0
    · rw [hcode] at a0
      have HCO := Lib.hid hcode
      cases hn : (f l' q').none
      · have HN := Lib.hid hn
        rw [hn] at a11
        clear hcode hn
        have hlr : rows.length ≤ 100000 := by have := HH.out.keep.len; dsimp only at this; omega
        have HEV : Hid (∀ o, EvsOwn ((wr.setCell ⟨db, 1, none⟩ (.bool (f l' q').paste)).alloc o) (w.heap.size + 2) u7 rows) := fun o =>
          (HH.out.keep.evs.kept (grown_cell wr db 1 (.bool (f l' q').paste)) (.inl fun e => by have := (HH.out.keep.evs.lt _ e).1; dsimp only at this; omega) (fun r hr j hj e => by
            cases e
            have := ((HH.out.keep.evs.2 r hr).lt _ hj).1
            dsimp only at this
            omega)).alloc o
        have HSW : Hid (w.heap.size + 2 ≤ wr.heap.size) := by have := HH.out.keep.rule.1; dsimp only at this; exact this
        go_wp2_with (at_builtin; refine wpList_append_own_at _ rfl _ _ 41 rfl (w.heap.size + 2) 26 i0 _ 8 80 Tryz.underlying41 HI.out.1 HI.out.2.1 HI.out.2.2.1 HI.out.2.2.2 rfl (by decide) _ _ _ rfl (HEV.out _).1 ⟨wr.heap.size, 0, none⟩ 1 1 (rowCells ((f l' q').ev, pq, cq)) rfl (by simp [row_len]) ?c1 ?c2 ?c3 ?c4 ?c5 ?_)
        case c1 => exact row_at _ ((f l' q').ev, pq, cq) _ _ (by simp)
        case c2 => exact row_one _
        case c3 => unfold maxLen; omega
        case c4 => omega
        case c5 => have := HSW.out; simp; omega
        intro v' w4 hown' hgrow hnil hblk
        have HM : Hid (TMid ⟨w, db, F, f, p, c, l, q, due⟩ (restOf f l' q') (f l' q').paste (rows ++ [((f l' q').ev, pq, cq)]) v' R (f l' q') (.slice pq (f l' q').ev.data.length cq) w4) := HH.out.push HG.out.1 HCO.out HN.out hown' hgrow
        clear hown' hgrow hnil hblk a0 a1 a2 a3 a4 a5 a6 a7 a8 a9 a10 a11 d1 d2 hRl hdl HEV HSW
        go_upto_region 9 with (fail)
        generalize rows ++ [((f l' q').ev, pq, cq)] = rows2 at *
        refine wp_gen (TMid ⟨w, db, F, f, p, c, l, q, due⟩ (restOf f l' q') (f l' q').paste rows2 v' R (f l' q') (.slice pq (f l' q').ev.data.length cq)) HM.out (fun W' hM => ?_)
        clear HM
        have HMM := Lib.hid hM
        obtain ⟨a0, a1, a2, a3, a4, a5, a6, a7, a8, a9, a10, a11⟩ := AtL.twelve hM.tok.cells
        obtain ⟨p3, c3, hbx⟩ := hM.keep.box
        have e1 := hM.keep.dec.cells.get 1 rfl
        have e2 := hM.keep.dec.cells.1
        dsimp only at e1 e2
        have B3 := below_mk W' (.cells (tkL (f l' q') (.slice pq (f l' q').ev.data.length cq)).toArray 30)
        have HR3 := Lib.hid (hM.keep.rule.on B3)
        have HB3 := Lib.hid (hbx.on B3)
        have HT3 := Lib.hid ((hM.keep.tabs HX.out.2.2.2.1 HX.out.2.2.2.2).on B3)
        have HN3 := Lib.hid (AtM.new W' (tkL (f l' q') (.slice pq (f l' q').ev.data.length cq)) 30)
        have HNB : Hid (w.heap.size ≠ W'.heap.size) := by have := hM.keep.rule.1; dsimp only at this; show _ ≠ _; omega
        dsimp only at HR3 HB3
        unfold tkL at HR3 HB3 HT3 HN3
        clear hM hbx B3
        go_wp2_with fail
        refine (HP.out _ _ _ _ _ _ _ HR3.out HB3.out HT3.out).mono ?_
        rintro e w5 ⟨v5, p5, c5, rfl, ho5, hbx5, hg5⟩
        obtain ⟨p6, c6, hv⟩ := ho5.slice
        subst hv
        have HE := Lib.hid (HMM.out.next rfl HN3.out ho5 hbx5 hg5)
        have hnn := HN3.out.far hg5 (fun e => HNB.out (by injection e with e; exact e.symm))
        obtain ⟨r0, r1, r2, r3, r4, r5, r6, r7, r8, r9, r10, r11⟩ := AtL.twelve hnn.cells
        have hfr := hnn.free
        clear a0 a1 a2 a3 a4 a5 a6 a7 a8 a9 a10 a11 ho5 hbx5 hg5 hnn HR3 HB3 HT3 HN3 e1 e2
        unfold tkV
        go_wp2_with fail
        have hm1 := tmeas_at HE.out
        have hm2 := tmeas_at HH.out
        rw [if_pos (show ((⟨w, db, F, f, p, c, l, q, due⟩ : TEnv).f l' q').code = 0 from HCO.out)] at hm2
        exact ⟨⟨_, _, _, _, _, _, rfl, HE.out⟩, Nat.lt_of_le_of_lt (Nat.le_of_eq hm1) (Nat.lt_of_lt_of_le (tmeas_less HG.out.1 HG.out.2 (restOf f l' q') (f l' q').paste) (Nat.le_of_eq hm2.symm))⟩
      · have HN := Lib.hid hn
        rw [hn] at a11
        clear hcode hn
        have HM : Hid (TMid ⟨w, db, F, f, p, c, l, q, due⟩ (restOf f l' q') (f l' q').paste rows u7 R (f l' q') (.slice pq (f l' q').ev.data.length cq) (wr.setCell ⟨db, 1, none⟩ (.bool (f l' q').paste))) := HH.out.pass HG.out.1 HCO.out HN.out
        go_upto_region 9 with (fail)
        clear a0 a1 a2 a3 a4 a5 a6 a7 a8 a9 a10 a11 d1 d2 hRl hdl
        refine wp_gen (TMid ⟨w, db, F, f, p, c, l, q, due⟩ (restOf f l' q') (f l' q').paste rows u7 R (f l' q') (.slice pq (f l' q').ev.data.length cq)) HM.out (fun W' hM => ?_)
        clear HM
        have HMM := Lib.hid hM
        obtain ⟨a0, a1, a2, a3, a4, a5, a6, a7, a8, a9, a10, a11⟩ := AtL.twelve hM.tok.cells
        obtain ⟨p3, c3, hbx⟩ := hM.keep.box
        have e1 := hM.keep.dec.cells.get 1 rfl
        have e2 := hM.keep.dec.cells.1
        dsimp only at e1 e2
        have B3 := below_mk W' (.cells (tkL (f l' q') (.slice pq (f l' q').ev.data.length cq)).toArray 30)
        have HR3 := Lib.hid (hM.keep.rule.on B3)
        have HB3 := Lib.hid (hbx.on B3)
        have HT3 := Lib.hid ((hM.keep.tabs HX.out.2.2.2.1 HX.out.2.2.2.2).on B3)
        have HN3 := Lib.hid (AtM.new W' (tkL (f l' q') (.slice pq (f l' q').ev.data.length cq)) 30)
        have HNB : Hid (w.heap.size ≠ W'.heap.size) := by have := hM.keep.rule.1; dsimp only at this; show _ ≠ _; omega
        dsimp only at HR3 HB3
        unfold tkL at HR3 HB3 HT3 HN3
        clear hM hbx B3
        go_wp2_with fail
        refine (HP.out _ _ _ _ _ _ _ HR3.out HB3.out HT3.out).mono ?_
        rintro e w5 ⟨v5, p5, c5, rfl, ho5, hbx5, hg5⟩
        obtain ⟨p6, c6, hv⟩ := ho5.slice
        subst hv
        have HE := Lib.hid (HMM.out.next rfl HN3.out ho5 hbx5 hg5)
        have hnn := HN3.out.far hg5 (fun e => HNB.out (by injection e with e; exact e.symm))
        obtain ⟨r0, r1, r2, r3, r4, r5, r6, r7, r8, r9, r10, r11⟩ := AtL.twelve hnn.cells
        have hfr := hnn.free
        clear a0 a1 a2 a3 a4 a5 a6 a7 a8 a9 a10 a11 ho5 hbx5 hg5 hnn HR3 HB3 HT3 HN3 e1 e2
        unfold tkV
        go_wp2_with fail
        have hm1 := tmeas_at HE.out
        have hm2 := tmeas_at HH.out
        rw [if_pos (show ((⟨w, db, F, f, p, c, l, q, due⟩ : TEnv).f l' q').code = 0 from HCO.out)] at hm2
        exact ⟨⟨_, _, _, _, _, _, rfl, HE.out⟩, Nat.lt_of_le_of_lt (Nat.le_of_eq hm1) (Nat.lt_of_lt_of_le (tmeas_less HG.out.1 HG.out.2 (restOf f l' q') (f l' q').paste) (Nat.le_of_eq hm2.symm))⟩
    · have hce : ((f l' q').code == 0) = false := by simpa using hcode
      have HCO := Lib.hid hcode
      clear hcode
      obtain ⟨p3, c3, hbx⟩ := HH.out.keep.box
      have hzz := HG.out.2 l' q' HCO.out
      dsimp only at hbx
      rw [restOf_zero hzz] at hbx
      have HZ := Lib.hid hzz
      clear hzz
      go_wp2_with fail
      refine (pendingRest_any _ _ _ _ _ hbx).mono ?_
      rintro e w4 ⟨v4, rfl, ho4, hb4⟩
      obtain ⟨p4, c4, hv⟩ := ho4.slice
      subst hv
      have hdd := HH.out.keep.dec.on hb4
      have f0 := hdd.cells.get 0 rfl
      have f1 := hdd.free 0
      have HE := Lib.hid (HH.out.last HCO.out HZ.out rfl ho4 hb4)
      dsimp only at f0 f1
      clear a0 a1 a2 a3 a4 a5 a6 a7 a8 a9 a10 a11 d1 d2 hRl hdl hdd ho4 hb4 hbx
      go_wp2_with fail
      go_ret
      exact HE.out

end Go.Proofs.YtbnpodledgaipaaGreatDoor
