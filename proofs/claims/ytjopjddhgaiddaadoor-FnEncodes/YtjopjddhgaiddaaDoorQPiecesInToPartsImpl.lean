/- The program's iterator over the pieces between semicolons: its contract. -/
import Derived.Test.YtjopjddhgaiddaaDoorQPieces
import Derived.RangeFuncNested
import Derived.RangeFuncBound
import Derived.RangeFuncCalls
import Derived.RangeFuncLeaves
import Derived.RangeFuncBox
import Derived.Shelf.Abstract
import Derived.Shelf.RegionOpen
import Derived.OwnWalkIn
import Derived.TacticsInMore
import Derived.LoopNIn
import Derived.LoopIn
import Derived.Maps.AppendAt
import Derived.Laws.OwnMore
namespace Go.Proofs.YtjopjddhgaiddaaDoor
open Go.RowKit Go.Shelf
attribute [local go_sem] Oper.semAt_some

/-- a piece that is handed out: its address, its capacity, its bytes, as they lie in the world w0 below n₀ -/
abbrev Pc (w0 : World) (n₀ : Nat) : Type := { x : (Option Addr × Nat) × List UInt8 // Bs w0 n₀ x.1.1 x.2 ∧ x.2.length ≤ 1048576 }
def Pc.bytes {w0 : World} {n₀ : Nat} (x : Pc w0 n₀) : List UInt8 := x.1.2
def Pc.enc {w0 : World} {n₀ : Nat} (x : Pc w0 n₀) : Array Value := #[.slice x.1.1.1 x.1.2.length x.1.1.2]

/-- how much is left, read off the two slots -/
def leftPc (r m : Value) : Nat := match m, r with
  | .bool true, .slice _ n _ => n + 1
  | _, _ => 0

/-- what the loop of the iterator keeps -/
def PcRel (w0 : World) (n₀ : Nat) (body : List UInt8) (J : List (Pc w0 n₀) → World → Prop) (r m : Value) (wr : World) : Prop :=
  ∃ (pre : List (Pc w0 n₀)) (rest : List UInt8) (q : Option Addr) (c : Nat), r = .slice q rest.length c ∧ rest.length ≤ c ∧ rest.length ≤ 1048576 ∧ Bs w0 n₀ q rest ∧ J pre wr ∧ Below n₀ w0 wr ∧
    ((m = .bool true ∧ pre.map Pc.bytes ++ sp rest = pieces body) ∨ (m = .bool false ∧ pre.map Pc.bytes = pieces body))

theorem grown_drewN (W : World) (n : Nat) : W.grownBy (W.drewN n) none := ⟨rfl, rfl, rfl, Nat.le_refl _, fun _ _ _ => rfl⟩







end Go.Proofs.YtjopjddhgaiddaaDoor

/- The contract of the program's numbersOf: the numbers of the pieces, where there are no more than four. -/
namespace Go.Proofs.YtjopjddhgaiddaaDoor
open Go.RowKit Go.Shelf
attribute [local go_sem] Oper.semAt_some

/-- a value that is a new slice of the numbers l, all of it the call's own -/
def OwnI (w : World) (base : Nat) (v : Value) (l : List Int) : Prop := w.ownsRow base 2 1 v l.length (l.map (Value.int .i64))

theorem Tryd.info_i64 : (Tryd.prog.info? 2).map (fun i => (i.zero, i.size, i.bytes)) = some (some (.int .i64 0), 1, 8) := by kernel_rfl

theorem Boxed.below {w w' : World} {B b : Nat} {t : TypeId} {v : Value} (h : Boxed w b t v) (hb : Below B w w') (hlt : b < B) : Boxed w' b t v := (hb.block b hlt).trans h
theorem ownsRow_below {w w' : World} {base B size n : Nat} {e : TypeId} {v : Value} {xs : List Value} (h : w.ownsRow base e size v n xs) (hb : Below B w w') (hB : w.heap.size ≤ B) : w'.ownsRow base e size v n xs := by
  refine ⟨h.1, ?_⟩
  rcases h.2 with h' | ⟨g, cap, cur, rfl, hg, hh, r⟩
  · exact .inl h'
  · refine .inr ⟨g, cap, cur, rfl, hg, (hb.block g ?_).trans hh, r⟩
    rcases Nat.lt_or_ge g w.heap.size with h1 | h1
    · omega
    · rw [Array.getElem?_eq_none h1] at hh; cases hh
theorem bcellI {W w1 : World} (hb : Below W.heap.size W w1) : (∀ b o, b < W.heap.size → w1.cell? ⟨b, o, none⟩ = W.cell? ⟨b, o, none⟩) ∧ (∀ b o, b < W.heap.size → w1.frozen? ⟨b, o, none⟩ = W.frozen? ⟨b, o, none⟩) :=
  ⟨fun b o h => hb.cell (p := ⟨b, o, none⟩) h, fun b o h => hb.frozen (p := ⟨b, o, none⟩) h⟩

def numsOf (l : List UInt8) : List Int := (pieces l).map numRes
def fits (l : List UInt8) : Bool := decide ((pieces l).length ≤ 4)

def NumbersPost (w : World) (l : List UInt8) (e : Ending) (w' : World) : Prop :=
  ∃ v, e = .returned (.tuple #[v, .bool (fits l)]) ∧ OwnI w' w.heap.size v (if fits l = true then numsOf l else []) ∧ Below w.heap.size w w'

/-- what lies between two rounds -/
def NumI (w : World) (pre : List (Pc w w.heap.size)) (W : World) : Prop :=
  (∃ v, Boxed W (w.heap.size + 2) 80 v ∧ W.ownsRow w.heap.size 2 1 v pre.length ((pre.map fun x => numRes x.bytes).map (Value.int .i64)) ∧ True) ∧
    (pre.length ≤ 4 ∧ Boxed W w.heap.size 80 (.slice none 0 0) ∧ Boxed W (w.heap.size + 1) 4 (.bool false)) ∧ Below w.heap.size w W
def NumX (w : World) (c : Code) (pre : List (Pc w w.heap.size)) (W : World) : Prop :=
  (c = .ret ∧ 5 ≤ pre.length ∧ Boxed W w.heap.size 80 (.slice none 0 0) ∧ Boxed W (w.heap.size + 1) 4 (.bool false)) ∧ Below w.heap.size w W

theorem grown_of_below' {a b : World} (h : Below a.heap.size a b) : a.grownBy b none := ⟨h.os, h.tape, h.output, h.size, fun i hi _ => h.block i hi⟩
theorem below_undrew {B : Nat} {a b : World} (h : Below B a.drew b) : Below B a b := ⟨h.os, h.tape, h.output, h.size, h.block⟩
theorem Bs.drew {w : World} {B : Nat} {p : Option Addr} {l : List UInt8} (h : Bs w B p l) : Bs w.drew B p l := h
theorem boxed_own' {b : Nat} {t : TypeId} {v : Value} {A B : World} {row : Option Nat} (h : Boxed A b t v) (hg : A.grownBy B row) (hr : ∀ r, row = some r → ∃ o : Obj, A.heap[r]? = some o ∧ o.isCells = false) : Boxed B b t v :=
  h.kept hg fun e => by
    obtain ⟨o, ho, hc⟩ := hr b e.symm
    rw [show A.heap[b]? = _ from h] at ho; cases ho; cases hc

theorem numI_own (w : World) (B : Nat) (hB : w.heap.size ≤ B) : OwnFrom B (NumI w) :=
  OwnFrom.and (Own.from (holdsRow_own w.heap.size (w.heap.size + 2) 80 2 1 (fun pre : List (Pc w w.heap.size) => pre.length) (fun pre => (pre.map fun x => numRes x.bytes).map (Value.int .i64)) (fun _ _ => True)) _)
    (OwnFrom.and (Own.from (fun _ _ _ _ hs hg hr => ⟨hs.1, boxed_own' hs.2.1 hg hr, boxed_own' hs.2.2 hg hr⟩) _) (ownFrom_below (Nat.le_refl _) hB))
theorem numX_own (w : World) (B : Nat) (hB : w.heap.size ≤ B) (c : Code) : OwnFrom B (NumX w c) :=
  OwnFrom.and (Own.from (fun _ _ _ _ hs hg hr => ⟨hs.1, hs.2.1, boxed_own' hs.2.2.1 hg hr, boxed_own' hs.2.2.2 hg hr⟩) _) (ownFrom_below (Nat.le_refl _) hB)

/-- behind the call in a round: the append's run, and what lies behind its store -/
def After (W W1 : World) (n₀ B : Nat) (v : Value) (x : Int) (k : Nat) (xs : List Value) : Prop :=
  ∃ g cap w2, (∀ ty, (Builtin.append_ #[80, 80] ty #[v, .slice (some ⟨W1.heap.size, 0, none⟩) 1 1]).run Tryd.prog (W1.alloc (.cells #[.int .i64 x] 2)) = .ok (.slice (some ⟨g, 0, none⟩) (k + 1) cap) w2) ∧
    Boxed w2 B 80 v ∧ Boxed (w2.setCell ⟨B, 0, none⟩ (.slice (some ⟨g, 0, none⟩) (k + 1) cap)) B 80 (.slice (some ⟨g, 0, none⟩) (k + 1) cap) ∧
    (w2.setCell ⟨B, 0, none⟩ (.slice (some ⟨g, 0, none⟩) (k + 1) cap)).ownsRow n₀ 2 1 (.slice (some ⟨g, 0, none⟩) (k + 1) cap) (k + 1) (xs ++ [.int .i64 x]) ∧
    KeepsOthers W (w2.setCell ⟨B, 0, none⟩ (.slice (some ⟨g, 0, none⟩) (k + 1) cap)) ∧ Below n₀ W (w2.setCell ⟨B, 0, none⟩ (.slice (some ⟨g, 0, none⟩) (k + 1) cap)) ∧
    (∀ b t u, Boxed W b t u → b ≠ B → t ≠ 2 → Boxed (w2.setCell ⟨B, 0, none⟩ (.slice (some ⟨g, 0, none⟩) (k + 1) cap)) b t u)

theorem after_call {W W1 : World} {n₀ B : Nat} {v : Value} {x : Int} {k : Nat} {xs : List Value} (hb : Below W.heap.size W W1) (hv : Boxed W B 80 v) (hrow : W.ownsRow n₀ 2 1 v k xs) (hn₀ : n₀ ≤ W.heap.size) (hB : n₀ ≤ B) (hk : k ≤ 1000) :
    After W W1 n₀ B v x k xs := by
  obtain ⟨i0, hi, hz0, hz1, hz2⟩ := info_parts Tryd.info_i64
  have hrow1 := ownsRow_below hrow hb (Nat.le_refl _)
  have hv1 : Boxed W1 B 80 v := Boxed.below hv hb hv.lt
  have hn1 : n₀ ≤ W1.heap.size := Nat.le_trans hn₀ hb.size
  obtain ⟨v', w2, hrun, hown', hgrow, _, _⟩ := run_append_own_at (P := Tryd.prog) (W1.alloc (.cells #[.int .i64 x] 2)) n₀ 80 80 2 i0 (.int .i64 0) 1 8 Tryd.underlying80 hi hz0 hz1 hz2 rfl (by decide) v k xs (hrow1.alloc _) ⟨W1.heap.size, 0, none⟩ 1 1 [.int .i64 x] rfl (cell_one_new _ _ _) (by simp [Value.oneCell']) (by unfold maxLen; omega) (by omega) (by simp; omega)
  obtain ⟨g, cap, rfl⟩ := ownsRow_succ hown'
  obtain ⟨a1, a2, a3, a4, a5⟩ := hv1.appended (by decide) hrow1 hn1 hB hown' hgrow
  refine ⟨g, cap, w2, fun ty => hrun, a1, a2, by simpa using a3, (KeepsOthers.of_grownBy (grown_of_below' hb) (fun j o ej hj => by cases ej)).trans a4, (hb.mono hn₀).trans a5, ?_⟩
  intro b t u hbx hne ht
  have h1 : Boxed W1 b t u := Boxed.below hbx hb hbx.lt
  have h2 : Boxed w2 b t u := (h1.alloc _).kept hgrow (h1.not_row ht hrow1)
  exact h2.kept (grownBy_setCell' w2 B _) (fun e => hne (by simpa using e))

theorem stepIn_append {F : Fence} {n : Nat} {P : Program} {w : World} {ops : Array Oper} {o : Oper} {a : Act} {K : Act → World → Prop} {Q : Exit → Act → World → Prop} {E : Prop} (hgd : o.guard = none) (s x : Operand) (t : TypeId)
    (hop : o.op = Op.call { callee := Callee.builtin Builtin.append, args := #[s, x], argTypes := #[t, t] }) (v u : Value) (hs : a.eval s = v) (hx : a.eval x = u) (v' : Value) (w' : World)
    (hrun : (Builtin.append_ #[t, t] o.type #[v, u]).run P w = .ok v' w') (hK : K (a.put o.dst v') w') : if Region.wanted o (yielded ops a.tmps) = true then Oper.wpIn F n P o a w K Q else E := by
  have hw : Region.wanted o (yielded ops a.tmps) = true := by simp [Region.wanted, hgd]
  rw [if_pos hw]
  unfold Oper.wpIn
  refine ⟨?_, ?_⟩
  · simp [Oper.about, hop, resolve, Target.leads, Sem.run_pure]
  · rw [Oper.semAt_plain F _ _ (by rw [hop]; intro c hc'; cases hc')]
    simp [execOp, hop, resolve, invoke, builtin, hs, hx, hrun, Result.andThen]
    exact hK

theorem fin_round {w W W' : World} (pre : List (Pc w w.heap.size)) (x : Pc w w.heap.size) (v : Value) (hp4 : pre.length ≤ 4) (h4 : ¬ pre.length = 4) (hv2 : Boxed W w.heap.size 80 (.slice none 0 0)) (hv3 : Boxed W (w.heap.size + 1) 4 (.bool false)) (hB : Below w.heap.size w W)
    (c2 : Boxed W' (w.heap.size + 2) 80 v) (c3 : W'.ownsRow w.heap.size 2 1 v (pre.length + 1) ((pre.map fun x => numRes x.bytes).map (Value.int .i64) ++ [.int .i64 (numRes x.bytes)])) (c4 : KeepsOthers W W') (c5 : Below w.heap.size W W')
    (c6 : ∀ b t u, Boxed W b t u → b ≠ w.heap.size + 2 → t ≠ 2 → Boxed W' b t u) : KeepsOthers W W' ∧ Below w.heap.size W W' ∧ NumI w (pre ++ [x]) W' :=
  ⟨c4, c5, ⟨v, c2, by simpa using c3, trivial⟩, ⟨by simp; omega, c6 _ _ _ hv2 (by omega) (by decide), c6 _ _ _ hv3 (by omega) (by decide)⟩, hB.trans c5⟩





end Go.Proofs.YtjopjddhgaiddaaDoor

/- Slices of numbers: what is known of them, and the contracts of toInt64S, eqInt64S, markInt64S, heldInt64S. -/
namespace Go.Proofs.YtjopjddhgaiddaaDoor
open Go.RowKit

/-- the slice value '.slice p l.length c' holds the numbers l, in a block below B -/
def Is (w : World) (B : Nat) (p : Option Addr) (l : List Int) : Prop :=
  l ≠ [] → ∃ b off, p = some ⟨b, off, none⟩ ∧ b < B ∧ ∀ i, i < l.length → w.cell? ⟨b, off + i, none⟩ = some (.int .i64 (l.getD i 0))

theorem Is.keep {w w' : World} {B B' : Nat} {p : Option Addr} {l : List Int} (h : Is w B p l) (hB : B ≤ B') (hk : ∀ a : Addr, a.block < B → w'.cell? a = w.cell? a) : Is w' B' p l := by
  intro hl
  obtain ⟨b, off, e, hb, hc⟩ := h hl
  exact ⟨b, off, e, by omega, fun i hi => (hk ⟨b, off + i, none⟩ hb).trans (hc i hi)⟩
theorem Is.below {w w' : World} {B : Nat} {p : Option Addr} {l : List Int} (h : Is w B p l) (hb : Below B w w') : Is w' B p l := h.keep (Nat.le_refl _) fun _ ha => hb.cell ha
theorem Is.more {w : World} {B B' : Nat} {p : Option Addr} {l : List Int} (h : Is w B p l) (hB : B ≤ B') : Is w B' p l := h.keep hB fun _ _ => rfl
theorem Is.on {w w' : World} {p : Option Addr} {l : List Int} (h : Is w w.heap.size p l) (hb : Below w.heap.size w w') : Is w' w'.heap.size p l := (h.below hb).more hb.size
theorem Is.alloc {w : World} {p : Option Addr} {l : List Int} (h : Is w w.heap.size p l) (o : Obj) : Is (w.alloc o) (w.alloc o).heap.size p l :=
  h.keep (by simp) fun a ha => World.cell?_alloc_lt w o a ha

/-- an owned slice: nil, or a row of cells that is the call's own -/
theorem OwnI.form2 {w : World} {base : Nat} {v : Value} {l : List Int} (h : OwnI w base v l) :
    (v = .slice none 0 0 ∧ l = []) ∨ ∃ g cap, v = .slice (some ⟨g, 0, none⟩) l.length cap ∧ base ≤ g ∧ g < w.heap.size ∧ v.ownBlock = some g := by
  rcases h.2 with ⟨rfl, hn⟩ | ⟨g, cap, cur, rfl, hb, hh, _⟩
  · exact .inl ⟨rfl, List.eq_nil_of_length_eq_zero hn⟩
  · refine .inr ⟨g, cap, rfl, hb, ?_, rfl⟩
    rcases Nat.lt_or_ge g w.heap.size with h | h
    · exact h
    · rw [Array.getElem?_eq_none h] at hh; cases hh
theorem OwnI.slice {w : World} {base : Nat} {v : Value} {l : List Int} (h : OwnI w base v l) : ∃ p c, v = .slice p l.length c := by
  rcases h.form2 with ⟨rfl, rfl⟩ | ⟨g, cap, rfl, _⟩
  · exact ⟨_, _, rfl⟩
  · exact ⟨_, _, rfl⟩
theorem OwnI.keep {w w' : World} {base : Nat} {v : Value} {l : List Int} (h : OwnI w base v l) (hk : ∀ g, v.ownBlock = some g → w'.heap[g]? = w.heap[g]?) : OwnI w' base v l := by
  refine ⟨h.1, ?_⟩
  rcases h.2 with h' | ⟨g, cap, cur, rfl, hb, hh, r⟩
  · exact .inl h'
  · exact .inr ⟨g, cap, cur, rfl, hb, (hk g rfl).trans hh, r⟩
theorem OwnI.lt {w : World} {base : Nat} {v : Value} {l : List Int} (h : OwnI w base v l) : ∀ g, v.ownBlock = some g → base ≤ g ∧ g < w.heap.size := World.ownsRow.lt h
theorem OwnI.on {w w' : World} {base : Nat} {v : Value} {l : List Int} (h : OwnI w base v l) (hb : Below w.heap.size w w') : OwnI w' base v l := h.keep fun g hg => hb.block g (h.lt g hg).2
theorem OwnI.far {w w' : World} {base : Nat} {v : Value} {l : List Int} (h : OwnI w base v l) {row : Option Nat} (hb : w.grownBy w' row) (hr : ∀ g, v.ownBlock = some g → some g ≠ row) : OwnI w' base v l := h.keep fun g hg => hb.block g (h.lt g hg).2 (hr g hg)
theorem OwnI.is {w : World} {base : Nat} {p : Option Addr} {n c : Nat} {l : List Int} (h : OwnI w base (.slice p n c) l) : n = l.length ∧ Is w w.heap.size p l := by
  rcases h.form2 with ⟨e, rfl⟩ | ⟨g, cap, e, _, hlt, _⟩
  · simp at e; exact ⟨by simp [e.2.1], fun h => absurd rfl h⟩
  · simp at e
    obtain ⟨rfl, rfl, rfl⟩ := e
    refine ⟨rfl, fun _ => ⟨g, 0, rfl, hlt, fun i hi => ?_⟩⟩
    have := World.ownsRow.cellAt h i (by simpa using hi)
    simp at this ⊢
    rw [this]
    simp [hi]





/-- the marks k, k + 1, .. of n numbers -/
def marksI (k n : Nat) : List Int := (List.range n).map fun i => ((k + i : Nat) : Int)
theorem marksI_length (k n : Nat) : (marksI k n).length = n := by simp [marksI]
theorem marksI_get (k n i : Nat) (h : i < n) : (marksI k n)[i]? = some ((k + i : Nat) : Int) := by simp [marksI, h]
def halfI (l : List Int) (k j : Nat) : List Int := marksI k j ++ l.drop j
theorem halfI_zero (l : List Int) (k : Nat) : halfI l k 0 = l := by simp [halfI, marksI]
theorem halfI_all (l : List Int) (k : Nat) : halfI l k l.length = marksI k l.length := by simp [halfI]
theorem halfI_len (l : List Int) (k j : Nat) (h : j ≤ l.length) : (halfI l k j).length = l.length := by simp [halfI, marksI_length]; omega
theorem halfI_set (l : List Int) (k j : Nat) (h : j < l.length) : (halfI l k j).set j ((k + j : Nat) : Int) = halfI l k (j + 1) := by
  unfold halfI
  have e : marksI k (j + 1) = marksI k j ++ [((k + j : Nat) : Int)] := by simp [marksI, List.range_succ]
  rw [List.drop_eq_getElem_cons h, List.set_append_right _ _ (by rw [marksI_length]; exact Nat.le_refl _), marksI_length, Nat.sub_self, List.set_cons_zero, e, List.append_assoc, List.singleton_append]
theorem OwnI.stored {w : World} {base g cap n : Nat} {l : List Int} (h : OwnI w base (.slice (some ⟨g, 0, none⟩) n cap) l) (j : Nat) (x : Int) :
    OwnI (w.setCell ⟨g, j, none⟩ (.int .i64 x)) base (.slice (some ⟨g, 0, none⟩) n cap) (l.set j x) ∧ w.grownBy (w.setCell ⟨g, j, none⟩ (.int .i64 x)) (some g) := by
  have hn := h.is.1
  subst hn
  obtain ⟨h1, h2⟩ := World.ownsRow.stored h j (.int .i64 x)
  refine ⟨?_, h2⟩
  rw [OwnI, List.map_set, List.length_set]
  exact h1
theorem OwnI.cellAt {w : World} {base g cap n : Nat} {l : List Int} (h : OwnI w base (.slice (some ⟨g, 0, none⟩) n cap) l) (j : Nat) (hj : j < l.length) :
    w.cell? ⟨g, j, none⟩ = some (.int .i64 (l.getD j 0)) ∧ w.frozen? ⟨g, j, none⟩ = false := by
  have hn := h.is.1
  subst hn
  refine ⟨?_, World.ownsRow.frozenAt h j⟩
  rw [World.ownsRow.cellAt h j (by simpa using hj)]
  simp [hj]

theorem growI_trans {a b c : World} {row : Option Nat} (h : a.grownBy b row) (k : b.grownBy c row) : a.grownBy c row :=
  ⟨k.os.trans h.os, k.tape.trans h.tape, k.output.trans h.output, Nat.le_trans h.size k.size, fun i hi hne => (k.block i (Nat.lt_of_lt_of_le hi h.size) hne).trans (h.block i hi hne)⟩





/-- what marking leaves -/
def MarkedI (w : World) (base : Nat) (v : Value) (l : List Int) (k : Nat) (e : Ending) (w' : World) : Prop :=
  e = .returned (.int .i64 ((k + l.length : Nat) : Int)) ∧ OwnI w' base v (marksI k l.length) ∧ w.grownBy w' v.ownBlock

theorem growI_refl (w : World) (row : Option Nat) : w.grownBy w row := ⟨rfl, rfl, rfl, Nat.le_refl _, fun _ _ _ => rfl⟩



theorem marksI_at (l : List Int) (k j : Nat) (hm : l = marksI k l.length) (h : j < l.length) : l.getD j 0 = (k : Int) + (j : Int) := by
  have e : l[j]? = some ((k + j : Nat) : Int) := by rw [hm]; exact marksI_get k _ j h
  rw [List.getD_eq_getElem?_getD, e]
  simp



end Go.Proofs.YtjopjddhgaiddaaDoor

/- The plain facts on the parts of a control sequence; the contracts of bodySize, isFinal, l2Numbers. -/
namespace Go.Proofs.YtjopjddhgaiddaaDoor
open Go.RowKit

/-- a byte that may stand ahead of the final byte -/
def bod (b : UInt8) : Bool := dgt b || b == 59
/-- how many such bytes come first -/
def bsz : List UInt8 → Nat
  | [] => 0
  | c :: r => if bod c = true then bsz r + 1 else 0

theorem bsz_stop : ∀ (l : List UInt8) (k : Nat), k ≤ l.length → (∀ i, i < k → bod (l.getD i 0) = true) → (k = l.length ∨ bod (l.getD k 0) = false) → bsz l = k
  | [], k, hk, _, _ => by simp at hk; subst hk; rfl
  | c :: r, 0, _, _, h => by
    rcases h with h | h
    · simp at h
    · simp at h; simp [bsz, h]
  | c :: r, k + 1, hk, ha, h => by
    have h0 := ha 0 (by omega)
    simp at h0
    rw [bsz, if_pos h0, bsz_stop r k (by simpa using hk) (fun i hi => by have := ha (i + 1) (by omega); simpa using this) (by rcases h with h | h; exact .inl (by simpa using h); exact .inr (by simpa using h))]
theorem bsz_le : ∀ (l : List UInt8), bsz l ≤ l.length
  | [] => Nat.le_refl _
  | c :: r => by
    rw [bsz]
    split
    · have := bsz_le r; simp; omega
    · simp
theorem bsz_all : ∀ (l : List UInt8), ∀ x ∈ l.take (bsz l), bod x = true
  | [], x, hx => by simp at hx
  | c :: r, x, hx => by
    rw [bsz] at hx
    split at hx
    · rw [List.take_succ_cons] at hx
      rcases List.mem_cons.1 hx with rfl | h
      · assumption
      · exact bsz_all r x h
    · simp at hx
theorem sp_dgts : ∀ (l : List UInt8), (∀ x ∈ l, bod x = true) → ∀ q ∈ sp l, dgts q = true
  | [], _, q, hq => by simp [sp] at hq; subst hq; rfl
  | c :: r, h, q, hq => by
    have ih := sp_dgts r (fun x hx => h x (List.mem_cons_of_mem _ hx))
    rw [sp] at hq
    split at hq
    · rcases List.mem_cons.1 hq with rfl | hq
      · rfl
      · exact ih q hq
    · rename_i hc
      have hd : dgt c = true := by
        have := h c (by simp)
        simpa [bod, hc] using this
      split at hq
      · rename_i p ps he
        rcases List.mem_cons.1 hq with rfl | hq
        · have := ih p (by rw [he]; simp)
          simp only [dgts, List.all_cons, hd, Bool.true_and]
          exact this
        · exact ih q (by rw [he]; exact List.mem_cons_of_mem _ hq)
      · simp at hq; subst hq; simp [dgts, hd]
theorem numsOf_numV (l : List UInt8) (h : ∀ x ∈ l, bod x = true) : numsOf l = (pieces l).map numV := by
  unfold numsOf
  apply List.map_congr_left
  intro q hq
  have : dgts q = true := by
    unfold pieces at hq
    split at hq
    · simp at hq
    · exact sp_dgts l h q hq
  simp [numRes, this]

/-- a final byte -/
def finl (b : UInt8) : Bool := decide (64 ≤ (b.toNat : Int)) && decide ((b.toNat : Int) ≤ 126)
theorem finl_lo {x : UInt8} (h : (x.toNat : Int) < 64) : finl x = false := by simp [finl]; omega
theorem finl_hi {x : UInt8} (h : 126 < (x.toNat : Int)) : finl x = false := by simp [finl]; omega
theorem finl_in {x : UInt8} (h : ¬ (x.toNat : Int) < 64) (h2 : ¬ 126 < (x.toNat : Int)) : finl x = true := by simp [finl]; omega

set_option maxHeartbeats 400000 in
theorem implIsFinal_any (b : UInt8) (w : World) :
    Calls Tryd.prog 81 #[.int .u8 (b.toNat : Int)] w fun e w' => e = .returned (.bool (finl b)) ∧ w = w' := by
  by_cases h1 : 64 ≤ (b.toNat : Int)
  · go_enter Tryd.func81, Tryd.ntmps81
    go_wp2
    all_goals
      go_ret
      exact ⟨ret_bool (by simp [finl, *]), rfl⟩
  · go_enter Tryd.func81, Tryd.ntmps81
    go_wp2
    go_ret
    exact ⟨ret_bool (by simp [finl]; omega), rfl⟩

theorem u8_eq59 (x : UInt8) : ((x.toNat : Int) == 59) = (x == 59) := by
  rw [Bool.eq_iff_iff]
  simp [← UInt8.toNat_inj]
  omega
theorem u8_ne59 (x : UInt8) : ((x.toNat : Int) != 59) = (x != 59) := by
  simp only [bne, u8_eq59]

def BszRel (l : List UInt8) (i : Value) : Prop := ∃ k : Nat, k ≤ l.length ∧ i = .int .i64 k ∧ ∀ j, j < k → bod (l.getD j 0) = true



end Go.Proofs.YtjopjddhgaiddaaDoor

/- The contract of the model's l2Numbers. -/
namespace Go.Proofs.YtjopjddhgaiddaaDoor
open Go.RowKit



/-- what a call leaves that hands back a new slice of numbers -/
def NewI (w : World) (l : List Int) (e : Ending) (w' : World) : Prop := ∃ v, e = .returned v ∧ OwnI w' w.heap.size v l ∧ Below w.heap.size w w'

/-- what the loop keeps -/
def NmsRel (w : World) (l : List UInt8) (v f i : Value) (wr : World) : Prop :=
  ∃ (k f' : Nat) (done : List (List UInt8)), i = .int .i64 k ∧ f = .int .i64 f' ∧ done.length ≤ k ∧ OwnI wr w.heap.size v (done.map numV) ∧ Below w.heap.size w wr ∧
    ((k ≤ l.length ∧ f' ≤ k ∧ (59 : UInt8) ∉ (l.take k).drop f' ∧ done ++ sp (l.drop f') = sp l) ∨ (k = l.length + 1 ∧ done = sp l))

theorem OwnI.form {w : World} {base : Nat} {v : Value} {l : List Int} (h : OwnI w base v l) : ∃ p c, v = .slice p l.length c := by
  rcases h.2 with ⟨rfl, hn⟩ | ⟨g, cap, cur, rfl, _⟩
  · exact ⟨_, _, by rw [hn]⟩
  · exact ⟨_, _, rfl⟩

theorem ownI_lit0 (w : World) : OwnI (w.alloc (.cells #[] 2)) w.heap.size (.slice (some ⟨w.heap.size, 0, none⟩) 0 0) [] := by
  have h := World.ownsRow_lit (base := w.heap.size) (e := 2) (size := 1) w #[] 0 (Nat.le_refl _) (by simp [maxLen]) (by simp)
  simpa [OwnI] using h

theorem getD_split (l : List UInt8) (k : Nat) (hk : k < l.length) : l.drop k = l.getD k 0 :: l.drop (k + 1) := by
  rw [List.drop_eq_getElem_cons hk, List.getD_eq_getElem?_getD, List.getElem?_eq_getElem hk]
  rfl
theorem drop_split (l : List UInt8) (f k : Nat) (hf : f ≤ k) (hk : k < l.length) (h : l.getD k 0 = 59) : l.drop f = (l.take k).drop f ++ 59 :: l.drop (k + 1) := by
  have e1 : l = l.take k ++ l.drop k := (List.take_append_drop k l).symm
  have e2 : l.drop f = (l.take k ++ l.drop k).drop f := by rw [← e1]
  rw [e2, List.drop_append_of_le_length (by simp; omega), getD_split l k hk, h]
theorem take_next (l : List UInt8) (f k : Nat) (hf : f ≤ k) (hk : k < l.length) : (l.take (k + 1)).drop f = (l.take k).drop f ++ [l.getD k 0] := by
  rw [List.take_succ_eq_append_getElem hk, List.drop_append_of_le_length (by simp; omega), List.getD_eq_getElem?_getD, List.getElem?_eq_getElem hk]
  rfl

theorem dgts_of_bod {l q : List UInt8} (h : ∀ x ∈ l, bod x = true) (hq : ∀ x ∈ q, x ∈ l) (hn : (59 : UInt8) ∉ q) : dgts q = true := by
  simp only [dgts, List.all_eq_true]
  intro x hx
  have h1 := h x (hq x hx)
  have h2 : x ≠ 59 := fun e => hn (e ▸ hx)
  simpa [bod, h2] using h1

/-- a round that appends: what follows -/
def Rounded (w : World) (done : List (List UInt8)) (q : List UInt8) (wr : World) (v : Value) : Prop :=
  ∀ (v' : Value) (w2 : World) (o : Obj), w2.ownsRow w.heap.size 2 1 v' ((done.map numV).length + 1) ((done.map numV).map (Value.int .i64) ++ [.int .i64 (numV q)]) → (wr.alloc o).grownBy w2 v.ownBlock → OwnI w2 w.heap.size v' ((done ++ [q]).map numV) ∧ Below w.heap.size w w2
theorem rounded {w wr : World} {done : List (List UInt8)} {q : List UInt8} {v : Value} (ho : OwnI wr w.heap.size v (done.map numV)) (hb : Below w.heap.size w wr) : Rounded w done q wr v := by
  intro v' w2 o h hg
  refine ⟨by simpa [OwnI] using h, (hb.alloc hb.size o).grown hg (by have := hb.size; simp; omega) fun j ej => ?_⟩
  rcases ho.2 with ⟨rfl, _⟩ | ⟨g, cap, cur, rfl, hgb, _, _⟩
  · simp [Value.ownBlock] at ej
  · obtain rfl : g = j := by simpa [Value.ownBlock] using ej
    exact hgb



end Go.Proofs.YtjopjddhgaiddaaDoor

/- The parts of a control sequence as data; the contract of the program's PartsOf. -/
namespace Go.Proofs.YtjopjddhgaiddaaDoor
open Go.RowKit

/-- a PartsResult as data -/
structure Pt where
  code : Int
  priv : Bool
  nums : List Int
  fin : Int
  size : Int
def ptV (r : Pt) (v : Value) : Value := .agg #[.int .i64 r.code, .bool r.priv, v, .int .u8 r.fin, .int .i64 r.size]
/-- what a call leaves that hands back a PartsResult -/
def NewPt (w : World) (r : Pt) (e : Ending) (w' : World) : Prop := ∃ v, e = .returned (ptV r v) ∧ OwnI w' w.heap.size v r.nums ∧ Below w.heap.size w w'

/-- the parts of l, the body beginning at place s -/
def ptAt (l : List UInt8) (s : Nat) : Pt :=
  if s + bsz (l.drop s) = l.length then ⟨6, false, [], 0, 0⟩
  else if finl (l.getD (s + bsz (l.drop s)) 0) = false then ⟨5, false, [], 0, (s + bsz (l.drop s) : Nat) + 1⟩
  else if fits ((l.take (s + bsz (l.drop s))).drop s) = false then ⟨2, false, [], 0, (s + bsz (l.drop s) : Nat) + 1⟩
  else ⟨0, decide (s = 1), numsOf ((l.take (s + bsz (l.drop s))).drop s), ((l.getD (s + bsz (l.drop s)) 0).toNat : Int), (s + bsz (l.drop s) : Nat) + 1⟩
def ptOf (l : List UInt8) : Pt := if (l.getD 0 0 == 60) = true then ptAt l 1 else ptAt l 0

theorem ptAt_full {l : List UInt8} {s : Nat} (h : s + bsz (l.drop s) = l.length) : ptAt l s = ⟨6, false, [], 0, 0⟩ := by unfold ptAt; rw [if_pos h]
theorem ptAt_text {l : List UInt8} {s : Nat} (h : ¬ s + bsz (l.drop s) = l.length) (h2 : finl (l.getD (s + bsz (l.drop s)) 0) = false) : ptAt l s = ⟨5, false, [], 0, (s + bsz (l.drop s) : Nat) + 1⟩ := by unfold ptAt; rw [if_neg h, if_pos h2]
theorem ptAt_many {l : List UInt8} {s : Nat} (h : ¬ s + bsz (l.drop s) = l.length) (h2 : finl (l.getD (s + bsz (l.drop s)) 0) = true) (h3 : fits ((l.take (s + bsz (l.drop s))).drop s) = false) : ptAt l s = ⟨2, false, [], 0, (s + bsz (l.drop s) : Nat) + 1⟩ := by
  unfold ptAt; rw [if_neg h, if_neg (by rw [h2]; simp), if_pos h3]
theorem ptAt_ok {l : List UInt8} {s : Nat} (h : ¬ s + bsz (l.drop s) = l.length) (h2 : finl (l.getD (s + bsz (l.drop s)) 0) = true) (h3 : fits ((l.take (s + bsz (l.drop s))).drop s) = true) :
    ptAt l s = ⟨0, decide (s = 1), numsOf ((l.take (s + bsz (l.drop s))).drop s), ((l.getD (s + bsz (l.drop s)) 0).toNat : Int), (s + bsz (l.drop s) : Nat) + 1⟩ := by
  unfold ptAt; rw [if_neg h, if_neg (by rw [h2]; simp), if_neg (by rw [h3]; simp)]



theorem u8_eq60 (x : UInt8) : ((x.toNat : Int) == 60) = (x == 60) := by
  rw [Bool.eq_iff_iff]
  simp [← UInt8.toNat_inj]
  omega

theorem OwnI.setBelow {w : World} {base : Nat} {v : Value} {l : List Int} (h : OwnI w base v l) {a : Addr} (ha : a.block < base) (u : Value) : OwnI (w.setCell a u) base v l := ownsRow_setCell_below h ha u
theorem OwnI.lower {w : World} {base base' : Nat} {v : Value} {l : List Int} (h : OwnI w base v l) (hb : base' ≤ base) : OwnI w base' v l := by
  refine ⟨h.1, ?_⟩
  rcases h.2 with h' | ⟨g, cap, cur, e, hg, r⟩
  · exact .inl h'
  · exact .inr ⟨g, cap, cur, e, by omega, r⟩
theorem ownI_nil (w : World) (base : Nat) : OwnI w base (.slice none 0 0) [] := World.ownsRow_nil w _ _ _

theorem fits_eq (l : List UInt8) : fits l = true ∨ fits l = false := by cases fits l <;> simp

theorem bsz_drop (l : List UInt8) (s : Nat) (hs : s ≤ l.length) : s + bsz (l.drop s) ≤ l.length := by
  have := bsz_le (l.drop s)
  simp at this
  omega

/-- the result's cells written behind the callee's own memory -/
theorem pt_end {w w1 : World} {o : Obj} {r : Pt} {v u0 u1 u2 u3 u4 : Value} (ho : OwnI w1 (w.alloc o).heap.size v r.nums) (hb : Below (w.alloc o).heap.size (w.alloc o) w1) :
    NewPt w r (.returned (ptV r v)) (((((w1.setCell ⟨w.heap.size, 0, none⟩ u0).setCell ⟨w.heap.size, 1, none⟩ u1).setCell ⟨w.heap.size, 2, none⟩ u2).setCell ⟨w.heap.size, 3, none⟩ u3).setCell ⟨w.heap.size, 4, none⟩ u4) := by
  have hz : w.heap.size < (w.alloc o).heap.size := by simp
  refine ⟨v, rfl, ?_, ?_⟩
  · exact (((((ho.setBelow (a := ⟨w.heap.size, 0, none⟩) hz u0).setBelow (a := ⟨w.heap.size, 1, none⟩) hz u1).setBelow (a := ⟨w.heap.size, 2, none⟩) hz u2).setBelow (a := ⟨w.heap.size, 3, none⟩) hz u3).setBelow (a := ⟨w.heap.size, 4, none⟩) hz u4).lower (by simp)
  · exact (((((below_on (below_mk w o) hb).setCell (Nat.le_refl _) _).setCell (Nat.le_refl _) _).setCell (Nat.le_refl _) _).setCell (Nat.le_refl _) _).setCell (Nat.le_refl _) _







theorem ptAt_small (l : List UInt8) (s : Nat) : (ptAt l s).nums.length ≤ 4 := by
  unfold ptAt
  split
  · simp
  split
  · simp
  split
  · simp
  · rename_i h
    have : (pieces ((l.take (s + bsz (l.drop s))).drop s)).length ≤ 4 := by
      simpa [fits] using h
    simpa [numsOf] using this
theorem ptOf_small (l : List UInt8) : (ptOf l).nums.length ≤ 4 := by
  unfold ptOf
  split <;> exact ptAt_small _ _

end Go.Proofs.YtjopjddhgaiddaaDoor
