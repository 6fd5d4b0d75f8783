/- The contract of the program's numbersOf: the numbers of the pieces, where there are no more than four. -/
import Derived.Test.YtcchhlcgamcceaaDoorQPiecesToPiecesIn
namespace Go.Proofs.YtcchhlcgamcceaaDoor
open Go.RowKit Go.Shelf
attribute [local go_sem] Oper.semAt_some

/-- a value that is a new slice of the numbers l, all of it the call's own -/
def OwnI (w : World) (base : Nat) (v : Value) (l : List Int) : Prop := w.ownsRow base 2 1 v l.length (l.map (Value.int .i64))

theorem Tryd.info_i64 : (Tryd.prog.info? 2).map (fun i => (i.zero, i.size, i.bytes)) = some (some (.int .i64 0), 1, 8) := by kernel_rfl

theorem Boxed.below {w w' : World} {B b : Nat} {t : TypeId} {v : Value} (h : Boxed w b t v) (hb : Below B w w') (hlt : b < B) : Boxed w' b t v := (hb.block b hlt).trans h
theorem ownsRow_below {w w' : World} {base B size n : Nat} {e : TypeId} {v : Value} {xs : List Value} (h : w.ownsRow base e size v n xs) (hb : Below B w w') (hB : w.heap.size ≤ B) : w'.ownsRow base e size v n xs := by
  refine ⟨h.1, ?_⟩
  rcases h.2 with h' | ⟨g, cap, cur, rfl, hg, hh, r⟩
  · exact .inl h'
  · refine .inr ⟨g, cap, cur, rfl, hg, (hb.block g ?_).trans hh, r⟩
    rcases Nat.lt_or_ge g w.heap.size with h1 | h1
    · omega
    · rw [Array.getElem?_eq_none h1] at hh; cases hh
theorem bcellI {W w1 : World} (hb : Below W.heap.size W w1) : (∀ b o, b < W.heap.size → w1.cell? ⟨b, o, none⟩ = W.cell? ⟨b, o, none⟩) ∧ (∀ b o, b < W.heap.size → w1.frozen? ⟨b, o, none⟩ = W.frozen? ⟨b, o, none⟩) :=
  ⟨fun b o h => hb.cell (p := ⟨b, o, none⟩) h, fun b o h => hb.frozen (p := ⟨b, o, none⟩) h⟩

def numsOf (l : List UInt8) : List Int := (pieces l).map numRes
def fits (l : List UInt8) : Bool := decide ((pieces l).length ≤ 4)

def NumbersPost (w : World) (l : List UInt8) (e : Ending) (w' : World) : Prop :=
  ∃ v, e = .returned (.tuple #[v, .bool (fits l)]) ∧ OwnI w' w.heap.size v (if fits l = true then numsOf l else []) ∧ Below w.heap.size w w'

/-- what lies between two rounds -/
def NumI (w : World) (pre : List (Pc w w.heap.size)) (W : World) : Prop :=
  (∃ v, Boxed W (w.heap.size + 2) 58 v ∧ W.ownsRow w.heap.size 2 1 v pre.length ((pre.map fun x => numRes x.bytes).map (Value.int .i64)) ∧ True) ∧
    (pre.length ≤ 4 ∧ Boxed W w.heap.size 58 (.slice none 0 0) ∧ Boxed W (w.heap.size + 1) 4 (.bool false)) ∧ Below w.heap.size w W
def NumX (w : World) (c : Code) (pre : List (Pc w w.heap.size)) (W : World) : Prop :=
  (c = .ret ∧ 5 ≤ pre.length ∧ Boxed W w.heap.size 58 (.slice none 0 0) ∧ Boxed W (w.heap.size + 1) 4 (.bool false)) ∧ Below w.heap.size w W

theorem grown_of_below' {a b : World} (h : Below a.heap.size a b) : a.grownBy b none := ⟨h.os, h.tape, h.output, h.size, fun i hi _ => h.block i hi⟩
theorem below_undrew {B : Nat} {a b : World} (h : Below B a.drew b) : Below B a b := ⟨h.os, h.tape, h.output, h.size, h.block⟩
theorem Bs.drew {w : World} {B : Nat} {p : Option Addr} {l : List UInt8} (h : Bs w B p l) : Bs w.drew B p l := h
theorem boxed_own' {b : Nat} {t : TypeId} {v : Value} {A B : World} {row : Option Nat} (h : Boxed A b t v) (hg : A.grownBy B row) (hr : ∀ r, row = some r → ∃ o : Obj, A.heap[r]? = some o ∧ o.isCells = false) : Boxed B b t v :=
  h.kept hg fun e => by
    obtain ⟨o, ho, hc⟩ := hr b e.symm
    rw [show A.heap[b]? = _ from h] at ho; cases ho; cases hc

theorem numI_own (w : World) (B : Nat) (hB : w.heap.size ≤ B) : OwnFrom B (NumI w) :=
  OwnFrom.and (Own.from (holdsRow_own w.heap.size (w.heap.size + 2) 58 2 1 (fun pre : List (Pc w w.heap.size) => pre.length) (fun pre => (pre.map fun x => numRes x.bytes).map (Value.int .i64)) (fun _ _ => True)) _)
    (OwnFrom.and (Own.from (fun _ _ _ _ hs hg hr => ⟨hs.1, boxed_own' hs.2.1 hg hr, boxed_own' hs.2.2 hg hr⟩) _) (ownFrom_below (Nat.le_refl _) hB))
theorem numX_own (w : World) (B : Nat) (hB : w.heap.size ≤ B) (c : Code) : OwnFrom B (NumX w c) :=
  OwnFrom.and (Own.from (fun _ _ _ _ hs hg hr => ⟨hs.1, hs.2.1, boxed_own' hs.2.2.1 hg hr, boxed_own' hs.2.2.2 hg hr⟩) _) (ownFrom_below (Nat.le_refl _) hB)

/-- behind the call in a round: the append's run, and what lies behind its store -/
def After (W W1 : World) (n₀ B : Nat) (v : Value) (x : Int) (k : Nat) (xs : List Value) : Prop :=
  ∃ g cap w2, (∀ ty, (Builtin.append_ #[58, 58] ty #[v, .slice (some ⟨W1.heap.size, 0, none⟩) 1 1]).run Tryd.prog (W1.alloc (.cells #[.int .i64 x] 2)) = .ok (.slice (some ⟨g, 0, none⟩) (k + 1) cap) w2) ∧
    Boxed w2 B 58 v ∧ Boxed (w2.setCell ⟨B, 0, none⟩ (.slice (some ⟨g, 0, none⟩) (k + 1) cap)) B 58 (.slice (some ⟨g, 0, none⟩) (k + 1) cap) ∧
    (w2.setCell ⟨B, 0, none⟩ (.slice (some ⟨g, 0, none⟩) (k + 1) cap)).ownsRow n₀ 2 1 (.slice (some ⟨g, 0, none⟩) (k + 1) cap) (k + 1) (xs ++ [.int .i64 x]) ∧
    KeepsOthers W (w2.setCell ⟨B, 0, none⟩ (.slice (some ⟨g, 0, none⟩) (k + 1) cap)) ∧ Below n₀ W (w2.setCell ⟨B, 0, none⟩ (.slice (some ⟨g, 0, none⟩) (k + 1) cap)) ∧
    (∀ b t u, Boxed W b t u → b ≠ B → t ≠ 2 → Boxed (w2.setCell ⟨B, 0, none⟩ (.slice (some ⟨g, 0, none⟩) (k + 1) cap)) b t u)

theorem after_call {W W1 : World} {n₀ B : Nat} {v : Value} {x : Int} {k : Nat} {xs : List Value} (hb : Below W.heap.size W W1) (hv : Boxed W B 58 v) (hrow : W.ownsRow n₀ 2 1 v k xs) (hn₀ : n₀ ≤ W.heap.size) (hB : n₀ ≤ B) (hk : k ≤ 1000) :
    After W W1 n₀ B v x k xs := by
  obtain ⟨i0, hi, hz0, hz1, hz2⟩ := info_parts Tryd.info_i64
  have hrow1 := ownsRow_below hrow hb (Nat.le_refl _)
  have hv1 : Boxed W1 B 58 v := Boxed.below hv hb hv.lt
  have hn1 : n₀ ≤ W1.heap.size := Nat.le_trans hn₀ hb.size
  obtain ⟨v', w2, hrun, hown', hgrow, _, _⟩ := run_append_own_at (P := Tryd.prog) (W1.alloc (.cells #[.int .i64 x] 2)) n₀ 58 58 2 i0 (.int .i64 0) 1 8 Tryd.underlying58 hi hz0 hz1 hz2 rfl (by decide) v k xs (hrow1.alloc _) ⟨W1.heap.size, 0, none⟩ 1 1 [.int .i64 x] rfl (cell_one_new _ _ _) (by simp [Value.oneCell']) (by unfold maxLen; omega) (by omega) (by simp; omega)
  obtain ⟨g, cap, rfl⟩ := ownsRow_succ hown'
  obtain ⟨a1, a2, a3, a4, a5⟩ := hv1.appended (by decide) hrow1 hn1 hB hown' hgrow
  refine ⟨g, cap, w2, fun ty => hrun, a1, a2, by simpa using a3, (KeepsOthers.of_grownBy (grown_of_below' hb) (fun j o ej hj => by cases ej)).trans a4, (hb.mono hn₀).trans a5, ?_⟩
  intro b t u hbx hne ht
  have h1 : Boxed W1 b t u := Boxed.below hbx hb hbx.lt
  have h2 : Boxed w2 b t u := (h1.alloc _).kept hgrow (h1.not_row ht hrow1)
  exact h2.kept (grownBy_setCell' w2 B _) (fun e => hne (by simpa using e))

theorem stepIn_append {F : Fence} {n : Nat} {P : Program} {w : World} {ops : Array Oper} {o : Oper} {a : Act} {K : Act → World → Prop} {Q : Exit → Act → World → Prop} {E : Prop} (hgd : o.guard = none) (s x : Operand) (t : TypeId)
    (hop : o.op = Op.call { callee := Callee.builtin Builtin.append, args := #[s, x], argTypes := #[t, t] }) (v u : Value) (hs : a.eval s = v) (hx : a.eval x = u) (v' : Value) (w' : World)
    (hrun : (Builtin.append_ #[t, t] o.type #[v, u]).run P w = .ok v' w') (hK : K (a.put o.dst v') w') : if Region.wanted o (yielded ops a.tmps) = true then Oper.wpIn F n P o a w K Q else E := by
  have hw : Region.wanted o (yielded ops a.tmps) = true := by simp [Region.wanted, hgd]
  rw [if_pos hw]
  unfold Oper.wpIn
  refine ⟨?_, ?_⟩
  · simp [Oper.about, hop, resolve, Target.leads, Sem.run_pure]
  · rw [Oper.semAt_plain F _ _ (by rw [hop]; intro c hc'; cases hc')]
    simp [execOp, hop, resolve, invoke, builtin, hs, hx, hrun, Result.andThen]
    exact hK

theorem fin_round {w W W' : World} (pre : List (Pc w w.heap.size)) (x : Pc w w.heap.size) (v : Value) (hp4 : pre.length ≤ 4) (h4 : ¬ pre.length = 4) (hv2 : Boxed W w.heap.size 58 (.slice none 0 0)) (hv3 : Boxed W (w.heap.size + 1) 4 (.bool false)) (hB : Below w.heap.size w W)
    (c2 : Boxed W' (w.heap.size + 2) 58 v) (c3 : W'.ownsRow w.heap.size 2 1 v (pre.length + 1) ((pre.map fun x => numRes x.bytes).map (Value.int .i64) ++ [.int .i64 (numRes x.bytes)])) (c4 : KeepsOthers W W') (c5 : Below w.heap.size W W')
    (c6 : ∀ b t u, Boxed W b t u → b ≠ w.heap.size + 2 → t ≠ 2 → Boxed W' b t u) : KeepsOthers W W' ∧ Below w.heap.size W W' ∧ NumI w (pre ++ [x]) W' :=
  ⟨c4, c5, ⟨v, c2, by simpa using c3, trivial⟩, ⟨by simp; omega, c6 _ _ _ hv2 (by omega) (by decide), c6 _ _ _ hv3 (by omega) (by decide)⟩, hB.trans c5⟩

set_option maxRecDepth 100000 in
set_option maxHeartbeats 4000000 in
theorem numbersOf_in (p : Option Addr) (c : Nat) (l : List UInt8) (w : World) (hb : Bs w w.heap.size p l) (hc : l.length ≤ c) (hl : l.length ≤ 1048576) :
    CallsIn Fence.wide 9 Tryd.prog 78 #[.slice p l.length c] w (NumbersPost w l) := by
  obtain ⟨i0, hi, hz0, hz1, hz2⟩ := info_parts Tryd.info_i64
  refine callsIn_of_wp_marks Tryd.func78 rfl trivial ?_ rfl
  simp only [Tryd.ntmps78, List.size_toArray, List.length_cons, List.length_nil, Nat.reduceAdd, Nat.reduceSub, Array.replicate_succ, Array.replicate_zero, List.push_toArray, List.append_toArray, List.nil_append, List.cons_append]
  have HB := Lib.hid hb
  clear hb
  gi_wp2_with (refine ⟨trivial, ?_⟩; gi_at_call 87; refine (pieces_in _ _ _ _ _).mono ?_; rintro e w' ⟨rfl, rfl⟩)
  have b2 := Boxed.new w 58 (.slice none 0 0)
  have b3 := Boxed.new (w.alloc (.cells #[.slice none 0 0] 58)) 4 (.bool false)
  have b4 := Boxed.new ((w.alloc (.cells #[.slice none 0 0] 58)).alloc (.cells #[.bool false] 4)) 58 (.slice none 0 0)
  have bN := Boxed.new (((w.alloc (.cells #[.slice none 0 0] 58)).alloc (.cells #[.bool false] 4)).alloc (.cells #[.slice none 0 0] 58)) 22 (.slice p l.length c)
  simp only [World.size_alloc] at b3 b4 bN
  have hB0 : Below w.heap.size w ((((w.alloc (.cells #[.slice none 0 0] 58)).alloc (.cells #[.bool false] 4)).alloc (.cells #[.slice none 0 0] 58)).alloc (.cells #[.slice p l.length c] 22)) :=
    ((((Below.refl _ w).alloc (Nat.le_refl _) _).alloc (by simp) _).alloc (by simp; omega) _).alloc (by simp; omega) _
  refine wpIn_rangeFunc_ownF rfl (by omega) (gf := 93) (lb := #[.pointer (some ⟨w.heap.size + 1 + 1 + 1, 0, none⟩)]) rfl trivial (enters_of Tryd.func93 (by kernel_rfl) rfl)
    (pieces_stops 8 (by omega) (w.heap.size + 1 + 1 + 1) w.heap.size w p c l HB.out hc hl (Nat.le_refl _) _ hB0 (by simp) bN.cell) belowK_t (belowK_b (by simp; omega)) (Below.refl _ _) (fun _ => rfl)
    (NumI w) (NumX w) (numI_own w _ (by simp; omega)) (numX_own w _ (by simp; omega))
    ⟨⟨_, b4.alloc _, World.ownsRow_nil _ _ _ _, trivial⟩, ⟨by simp, ((b2.alloc _).alloc _).alloc _, (b3.alloc _).alloc _⟩, hB0⟩
    (fun x => { tmps := #[.slice p l.length c, undef, .pointer (some ⟨w.heap.size, 0, none⟩), .pointer (some ⟨w.heap.size + 1, 0, none⟩), .pointer (some ⟨w.heap.size + 1 + 1, 0, none⟩), .slice x.1.1.1 x.1.2.length x.1.1.2, .slice p l.length c, .func (.func 93) #[] #[.pointer (some ⟨w.heap.size + 1 + 1 + 1, 0, none⟩)], .slice x.1.1.1 x.1.2.length x.1.1.2, undef, undef, undef, undef, undef, undef, undef, undef, undef, undef], defers := [] }) ?assign ?body ?done ?stop
  case assign =>
    intro ll x W K hK
    dsimp only [Pc.enc]
    gi_wp2
    exact hK
  case body =>
    rintro ll pre x W ⟨⟨v, hv, hrow, _⟩, ⟨hp4, hv2, hv3⟩, hB⟩ hlt
    have hsz := hB.size
    obtain ⟨⟨⟨q, cq⟩, xl⟩, hxb, hxl⟩ := x
    dsimp only at hxb hxl ⊢
    have hc4 := hv.cell
    obtain ⟨g, gc, hgv⟩ : ∃ g gc, v = .slice g pre.length gc := by
      rcases hrow.2 with ⟨rfl, h0⟩ | ⟨g, cap, _, rfl, _⟩
      · exact ⟨_, _, by rw [h0]⟩
      · exact ⟨_, _, rfl⟩
    subst hgv
    have HR := Lib.hid hrow
    have HBW := Lib.hid hB
    clear hrow hB
    by_cases h4 : pre.length = 4
    · have h4' : ((pre.length : Int) == 4) = true := by simp [h4]
      have hc2 := hv2.cell
      have hf2 := hv2.frozen
      have hc3 := hv3.cell
      have hf3 := hv3.frozen
      gi_wp2
      have e2 := (hv2.set (.slice none 0 0)).kept (grownBy_setCell' _ (w.heap.size + 1) (.bool false)) (by simp)
      have e3 := (hv3.kept (grownBy_setCell' W w.heap.size (.slice none 0 0)) (by simp)).set (.bool false)
      exact ⟨(KeepsOthers.setCell _ _ _).trans (KeepsOthers.setCell _ _ _), ⟨rfl, by simp; omega, e2, e3⟩, (HBW.out.setCell (p := ⟨w.heap.size, 0, none⟩) (Nat.le_refl _) _).setCell (p := ⟨w.heap.size + 1, 0, none⟩) (by simp) _⟩
    · have h4' : ((pre.length : Int) == 4) = false := by simp; omega
      have hmx : Tryd.prog.follows .mixedOrders = true := by kernel_rfl
      have HX : Hid (Bs W W.heap.size q xl) := (hxb.below HBW.out).more hsz
      have HAfter := Lib.hid (fun W1 hb => after_call (W := W) (W1 := W1) (x := numRes xl) hb hv HR.out hsz (show w.heap.size ≤ w.heap.size + 2 by omega) (by omega))
      have hblt : w.heap.size + 2 < W.heap.size := hv.lt
      have hfd : ∀ (a b : Int) (w : World), (Instr.field 99 (.agg #[.int .i64 a, .int .i64 b]) 1).run Tryd.prog w = .ok (.int .i64 b) w := fun _ _ _ => by kernel_rfl
      gi_wp2
      refine wpIn_region_any (by kernel_rfl) ?_
      change wpAnyIn _ _ _ _ _ _ _ _ _ (World.drew _)
      refine wpAnyIn_ready (rs := [0, 1]) (by kernel_rfl) (by simp) ?_
      refine AllReadyIn.cons rfl (fun K hK => ?_) (AllReadyIn.cons rfl (fun K hK => ?_) AllReadyIn.nil)
      · go_simp
        refine hK _ _ ?_
        clear hK K
        refine wpAnyIn_ready (rs := [1]) (by kernel_rfl) (by simp) ?_
        refine AllReadyIn.cons rfl (fun K hK => ?_) AllReadyIn.nil
        go_simp
        refine hK _ _ ?_
        clear hK K
        refine wpAnyIn_ready (rs := [2]) (by kernel_rfl) (by simp) ?_
        refine AllReadyIn.cons rfl (fun K hK => ?_) AllReadyIn.nil
        go_simp
        refine ⟨trivial, (CallsIn.inRound ll (callsIn_wide.2 (implNumberOf_any _ _ _ _ HX.out.drew hxl))).mono ?_⟩
        rintro e W1 ⟨rfl, hb0⟩
        have hb1 : Below W.heap.size W W1 := below_undrew hb0
        clear hb0
        unfold irV
        refine hK _ _ ?_
        clear hK K
        obtain ⟨gg, gcap, w2, hrun, c1, c2, c3, c4, c5, c6⟩ := HAfter.out _ hb1
        have HRUN := Lib.hid hrun
        have HC6 := Lib.hid c6
        have hcc : W1.cell? ⟨w.heap.size + 1 + 1, 0, none⟩ = some (.slice g pre.length gc) := (Boxed.below hv hb1 hv.lt).cell
        have hlt1 : w.heap.size + 1 + 1 < W1.heap.size := Nat.lt_of_lt_of_le hblt hb1.size
        have d1 : w2.cell? ⟨w.heap.size + 1 + 1, 0, none⟩ = some (.slice g pre.length gc) := c1.cell
        have d2 : w2.frozen? ⟨w.heap.size + 1 + 1, 0, none⟩ = false := c1.frozen
        clear hrun c6
        refine wpAnyIn_ready (rs := [3]) (by kernel_rfl) (by simp) ?_
        refine AllReadyIn.cons rfl (fun K hK => ?_) AllReadyIn.nil
        go_simp
        refine hK _ _ ?_
        clear hK K
        refine wpAnyIn_ready (rs := [4]) (by kernel_rfl) (by simp) ?_
        refine AllReadyIn.cons rfl (fun K hK => ?_) AllReadyIn.nil
        go_simp
        refine hK _ _ ?_
        clear hK K
        refine wpAnyIn_ready (rs := [5]) (by kernel_rfl) (by simp) ?_
        refine AllReadyIn.cons rfl (fun K hK => ?_) AllReadyIn.nil
        refine stepIn_append rfl (.tmp 12) (.tmp 16) 58 rfl _ _ rfl rfl _ _ (HRUN.out _) ?_
        refine hK _ _ ?_
        clear hK K
        refine wpAnyIn_ready (rs := [6]) (by kernel_rfl) (by simp) ?_
        refine AllReadyIn.cons rfl (fun K hK => ?_) AllReadyIn.nil
        go_simp
        refine hK _ _ ?_
        clear hK K
        refine wpAnyIn_done (by kernel_rfl) ?_ _
        gi_wp2
        exact fin_round pre _ _ hp4 h4 hv2 hv3 HBW.out c2 c3 c4 c5 HC6.out
      · go_simp
        refine hK _ _ ?_
        clear hK K
        refine wpAnyIn_ready (rs := [0, 2]) (by kernel_rfl) (by simp) ?_
        refine AllReadyIn.cons rfl (fun K hK => ?_) (AllReadyIn.cons rfl (fun K hK => ?_) AllReadyIn.nil)
        · go_simp
          refine hK _ _ ?_
          clear hK K
          refine wpAnyIn_ready (rs := [2]) (by kernel_rfl) (by simp) ?_
          refine AllReadyIn.cons rfl (fun K hK => ?_) AllReadyIn.nil
          go_simp
          refine ⟨trivial, (CallsIn.inRound ll (callsIn_wide.2 (implNumberOf_any _ _ _ _ HX.out.drew hxl))).mono ?_⟩
          rintro e W1 ⟨rfl, hb0⟩
          have hb1 : Below W.heap.size W W1 := below_undrew hb0
          clear hb0
          unfold irV
          refine hK _ _ ?_
          clear hK K
          obtain ⟨gg, gcap, w2, hrun, c1, c2, c3, c4, c5, c6⟩ := HAfter.out _ hb1
          have HRUN := Lib.hid hrun
          have HC6 := Lib.hid c6
          have hcc : W1.cell? ⟨w.heap.size + 1 + 1, 0, none⟩ = some (.slice g pre.length gc) := (Boxed.below hv hb1 hv.lt).cell
          have hlt1 : w.heap.size + 1 + 1 < W1.heap.size := Nat.lt_of_lt_of_le hblt hb1.size
          have d1 : w2.cell? ⟨w.heap.size + 1 + 1, 0, none⟩ = some (.slice g pre.length gc) := c1.cell
          have d2 : w2.frozen? ⟨w.heap.size + 1 + 1, 0, none⟩ = false := c1.frozen
          clear hrun c6
          refine wpAnyIn_ready (rs := [3]) (by kernel_rfl) (by simp) ?_
          refine AllReadyIn.cons rfl (fun K hK => ?_) AllReadyIn.nil
          go_simp
          refine hK _ _ ?_
          clear hK K
          refine wpAnyIn_ready (rs := [4]) (by kernel_rfl) (by simp) ?_
          refine AllReadyIn.cons rfl (fun K hK => ?_) AllReadyIn.nil
          go_simp
          refine hK _ _ ?_
          clear hK K
          refine wpAnyIn_ready (rs := [5]) (by kernel_rfl) (by simp) ?_
          refine AllReadyIn.cons rfl (fun K hK => ?_) AllReadyIn.nil
          refine stepIn_append rfl (.tmp 12) (.tmp 16) 58 rfl _ _ rfl rfl _ _ (HRUN.out _) ?_
          refine hK _ _ ?_
          clear hK K
          refine wpAnyIn_ready (rs := [6]) (by kernel_rfl) (by simp) ?_
          refine AllReadyIn.cons rfl (fun K hK => ?_) AllReadyIn.nil
          go_simp
          refine hK _ _ ?_
          clear hK K
          refine wpAnyIn_done (by kernel_rfl) ?_ _
          gi_wp2
          exact fin_round pre _ _ hp4 h4 hv2 hv3 HBW.out c2 c3 c4 c5 HC6.out
        · go_simp
          refine ⟨trivial, (CallsIn.inRound ll (callsIn_wide.2 (implNumberOf_any _ _ _ _ HX.out.drew hxl))).mono ?_⟩
          rintro e W1 ⟨rfl, hb0⟩
          have hb1 : Below W.heap.size W W1 := below_undrew hb0
          clear hb0
          unfold irV
          refine hK _ _ ?_
          clear hK K
          obtain ⟨gg, gcap, w2, hrun, c1, c2, c3, c4, c5, c6⟩ := HAfter.out _ hb1
          have HRUN := Lib.hid hrun
          have HC6 := Lib.hid c6
          have hcc : W1.cell? ⟨w.heap.size + 1 + 1, 0, none⟩ = some (.slice g pre.length gc) := (Boxed.below hv hb1 hv.lt).cell
          have hlt1 : w.heap.size + 1 + 1 < W1.heap.size := Nat.lt_of_lt_of_le hblt hb1.size
          have d1 : w2.cell? ⟨w.heap.size + 1 + 1, 0, none⟩ = some (.slice g pre.length gc) := c1.cell
          have d2 : w2.frozen? ⟨w.heap.size + 1 + 1, 0, none⟩ = false := c1.frozen
          clear hrun c6
          refine wpAnyIn_ready (rs := [0, 3]) (by kernel_rfl) (by simp) ?_
          refine AllReadyIn.cons rfl (fun K hK => ?_) (AllReadyIn.cons rfl (fun K hK => ?_) AllReadyIn.nil)
          · go_simp
            refine hK _ _ ?_
            clear hK K
            refine wpAnyIn_ready (rs := [3]) (by kernel_rfl) (by simp) ?_
            refine AllReadyIn.cons rfl (fun K hK => ?_) AllReadyIn.nil
            go_simp
            refine hK _ _ ?_
            clear hK K
            refine wpAnyIn_ready (rs := [4]) (by kernel_rfl) (by simp) ?_
            refine AllReadyIn.cons rfl (fun K hK => ?_) AllReadyIn.nil
            go_simp
            refine hK _ _ ?_
            clear hK K
            refine wpAnyIn_ready (rs := [5]) (by kernel_rfl) (by simp) ?_
            refine AllReadyIn.cons rfl (fun K hK => ?_) AllReadyIn.nil
            refine stepIn_append rfl (.tmp 12) (.tmp 16) 58 rfl _ _ rfl rfl _ _ (HRUN.out _) ?_
            refine hK _ _ ?_
            clear hK K
            refine wpAnyIn_ready (rs := [6]) (by kernel_rfl) (by simp) ?_
            refine AllReadyIn.cons rfl (fun K hK => ?_) AllReadyIn.nil
            go_simp
            refine hK _ _ ?_
            clear hK K
            refine wpAnyIn_done (by kernel_rfl) ?_ _
            gi_wp2
            exact fin_round pre _ _ hp4 h4 hv2 hv3 HBW.out c2 c3 c4 c5 HC6.out
          · go_simp
            refine hK _ _ ?_
            clear hK K
            refine wpAnyIn_ready (rs := [0, 4]) (by kernel_rfl) (by simp) ?_
            refine AllReadyIn.cons rfl (fun K hK => ?_) (AllReadyIn.cons rfl (fun K hK => ?_) AllReadyIn.nil)
            · go_simp
              refine hK _ _ ?_
              clear hK K
              refine wpAnyIn_ready (rs := [4]) (by kernel_rfl) (by simp) ?_
              refine AllReadyIn.cons rfl (fun K hK => ?_) AllReadyIn.nil
              go_simp
              refine hK _ _ ?_
              clear hK K
              refine wpAnyIn_ready (rs := [5]) (by kernel_rfl) (by simp) ?_
              refine AllReadyIn.cons rfl (fun K hK => ?_) AllReadyIn.nil
              refine stepIn_append rfl (.tmp 12) (.tmp 16) 58 rfl _ _ rfl rfl _ _ (HRUN.out _) ?_
              refine hK _ _ ?_
              clear hK K
              refine wpAnyIn_ready (rs := [6]) (by kernel_rfl) (by simp) ?_
              refine AllReadyIn.cons rfl (fun K hK => ?_) AllReadyIn.nil
              go_simp
              refine hK _ _ ?_
              clear hK K
              refine wpAnyIn_done (by kernel_rfl) ?_ _
              gi_wp2
              exact fin_round pre _ _ hp4 h4 hv2 hv3 HBW.out c2 c3 c4 c5 HC6.out
            · go_simp
              refine hK _ _ ?_
              clear hK K
              refine wpAnyIn_ready (rs := [0]) (by kernel_rfl) (by simp) ?_
              refine AllReadyIn.cons rfl (fun K hK => ?_) AllReadyIn.nil
              go_simp
              refine hK _ _ ?_
              clear hK K
              refine wpAnyIn_ready (rs := [5]) (by kernel_rfl) (by simp) ?_
              refine AllReadyIn.cons rfl (fun K hK => ?_) AllReadyIn.nil
              refine stepIn_append rfl (.tmp 12) (.tmp 16) 58 rfl _ _ rfl rfl _ _ (HRUN.out _) ?_
              refine hK _ _ ?_
              clear hK K
              refine wpAnyIn_ready (rs := [6]) (by kernel_rfl) (by simp) ?_
              refine AllReadyIn.cons rfl (fun K hK => ?_) AllReadyIn.nil
              go_simp
              refine hK _ _ ?_
              clear hK K
              refine wpAnyIn_done (by kernel_rfl) ?_ _
              gi_wp2
              exact fin_round pre _ _ hp4 h4 hv2 hv3 HBW.out c2 c3 c4 c5 HC6.out
  case done =>
    rintro D ys W hD hys ⟨⟨v, hv, hrow, _⟩, ⟨hp4, hv2, hv3⟩, hB⟩ hK
    have hc4 := hv.cell
    have hc2 := hv2.cell
    have hf2 := hv2.frozen
    have hc3 := hv3.cell
    have hf3 := hv3.frozen
    obtain ⟨g, gc, hgv⟩ : ∃ g gc, v = .slice g ys.length gc := by
      rcases hrow.2 with ⟨rfl, h0⟩ | ⟨g, cap, _, rfl, _⟩
      · exact ⟨_, _, by rw [h0]⟩
      · exact ⟨_, _, rfl⟩
    subst hgv
    gi_wp2
    have e2 := (hv2.set (.slice g ys.length gc)).kept (grownBy_setCell' _ (w.heap.size + 1) (.bool true)) (by simp)
    have e3 := (hv3.kept (grownBy_setCell' W w.heap.size (.slice g ys.length gc)) (by simp)).set (.bool true)
    have hrow1 := hrow.kept (grownBy_setCell' W w.heap.size (.slice g ys.length gc)) (.inr (hv2.not_row (by decide) hrow).symm)
    have hrow2 := hrow1.kept (grownBy_setCell' _ (w.heap.size + 1) (.bool true)) (.inr ((hv3.kept (grownBy_setCell' W w.heap.size (.slice g ys.length gc)) (by simp)).not_row (by decide) hrow1).symm)
    have hK' := (KeepsOthers.setCell (W.setCell ⟨w.heap.size, 0, none⟩ (.slice g ys.length gc)) ⟨w.heap.size + 1, 0, none⟩ (.bool true)).same D _ ((KeepsOthers.setCell W ⟨w.heap.size, 0, none⟩ (.slice g ys.length gc)).same D _ hK rfl) rfl
    refine ⟨by simp, .inl ⟨_, _, rfl, run_takeDeferred hK', ?_⟩⟩
    have f2 := (boxed_own' e2 (grownBy_putObj' _ D (.deferred none)) (fun r e => by cases e; exact ⟨_, hK', rfl⟩)).cell
    have f3 := (boxed_own' e3 (grownBy_putObj' _ D (.deferred none)) (fun r e => by cases e; exact ⟨_, hK', rfl⟩)).cell
    have hpl : (pieces l).length = ys.length := by rw [← hys, List.length_map]
    have hfit : fits l = true := by unfold fits; rw [hpl]; simpa using hp4
    have hnum : numsOf l = ys.map fun x => numRes x.bytes := by rw [numsOf, ← hys, List.map_map]; rfl
    refine ⟨.tuple #[.slice g ys.length gc, .bool true], ?_, _, by rw [hfit], ?_, ((hB.setCell (p := ⟨w.heap.size, 0, none⟩) (Nat.le_refl _) _).setCell (p := ⟨w.heap.size + 1, 0, none⟩) (by simp) _).trans (belowK_b (w := w) (Nat.le_refl _) _ D _ _ (by simp at hD; omega) hK' rfl rfl)⟩
    · simp [results, Tryd.f78, go_sem, f2, f3]
    · rw [if_pos hfit, hnum, OwnI, List.length_map]
      exact ownsRow_putObj hrow2 _ hK' rfl
  case stop =>
    rintro D cc pre W hD hpre ⟨⟨rfl, hp5, hv2, hv3⟩, hB⟩ hK
    have hc2 := hv2.cell
    have hc3 := hv3.cell
    gi_wp2
    refine ⟨by simp, .inl ⟨_, _, rfl, run_takeDeferred hK, ?_⟩⟩
    have f2 := (boxed_own' hv2 (grownBy_putObj' _ D (.deferred none)) (fun r e => by cases e; exact ⟨_, hK, rfl⟩)).cell
    have f3 := (boxed_own' hv3 (grownBy_putObj' _ D (.deferred none)) (fun r e => by cases e; exact ⟨_, hK, rfl⟩)).cell
    have hpl : pre.length ≤ (pieces l).length := by have := hpre.length_le; rwa [List.length_map] at this
    have hfit : fits l = false := by unfold fits; simp; omega
    refine ⟨.tuple #[.slice none 0 0, .bool false], ?_, _, by rw [hfit], ?_, hB.trans (belowK_b (w := w) (Nat.le_refl _) _ D _ _ (by simp at hD; omega) hK rfl rfl)⟩
    · simp [results, Tryd.f78, go_sem, f2, f3]
    · rw [hfit]
      exact World.ownsRow_nil _ _ _ _

theorem numbersOf_any (p : Option Addr) (c : Nat) (l : List UInt8) (w : World) (hb : Bs w w.heap.size p l) (hc : l.length ≤ c) (hl : l.length ≤ 1048576) :
    Calls Tryd.prog 78 #[.slice p l.length c] w (NumbersPost w l) := callsIn_wide.1 (numbersOf_in p c l w hb hc hl)

end Go.Proofs.YtcchhlcgamcceaaDoor
