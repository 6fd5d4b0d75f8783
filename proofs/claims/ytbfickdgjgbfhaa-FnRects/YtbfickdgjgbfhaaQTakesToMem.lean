/- Steps in a region that draws its order: what is taken, what its guard passes over, what comes up alone. -/
import Derived.Test.YtbfickdgjgbfhaaQNumsToLyTree3
import Derived.Test.YtbfickdgjgbfhaaQTok
import Derived.Test.YtbfickdgjgbfhaaQBytesToCells
import Derived.Deep.RegionHeld3
import Derived.Deep.QuietTactic
namespace Go.Proofs.Ytbfickdgjgbfhaa
open Go.RowKit

theorem takeR {P : Program} {ops : Array Oper} {Q : Exit → Act → World → Prop} {md : Region.Mode} {S : World → Prop} {fuel : Nat} {listed : Array Bool} {a : Act} {w : World} (i d : Nat) (v : Value)
    (hi : (ops[i]?).map (fun o => o.dst) = some (some d)) (hs : Region.noSelect ops = true) (hf : Region.free md ops listed i = true) (hr : (Region.ready md ops listed).contains i = true)
    (hQ : ∀ c (a : Act) w, Q (.panic c) (a.put (some d) v) w → Q (.panic c) a w) (hw : (ops[i]?).map (fun o => Region.wanted o (yielded ops a.tmps)) = some true)
    (hv : ∀ w o, S w → some o = ops[i]? → (execOp a.eval o).run P w = .ok (.value v) w) (hS : S w)
    (h : wpAnyH P md ops Q S fuel (listed.setIfInBounds i true) (a.put (some d) v) w) : wpAnyH P md ops Q S (fuel + 1) listed a w := by
  cases ho : ops[i]? with
  | none => rw [ho] at hi; simp at hi
  | some o =>
    rw [ho] at hi hw
    simp only [Option.map_some, Option.some.injEq] at hi hw
    exact wpAnyH_take ho hs hf hr (by rw [hi]; exact hQ) (Or.inl ⟨hw, fun w hSw => hv w o hSw ho.symm⟩) hS (by rw [hi]; exact h)

theorem skipR {P : Program} {ops : Array Oper} {Q : Exit → Act → World → Prop} {md : Region.Mode} {S : World → Prop} {fuel : Nat} {listed : Array Bool} {a : Act} {w : World} (i d : Nat)
    (hi : (ops[i]?).map (fun o => o.dst) = some (some d)) (hs : Region.noSelect ops = true) (hf : Region.free md ops listed i = true) (hr : (Region.ready md ops listed).contains i = true)
    (hQ : ∀ c (a : Act) w, Q (.panic c) (a.put (some d) undef) w → Q (.panic c) a w) (hw : (ops[i]?).map (fun o => Region.wanted o (yielded ops a.tmps)) = some false) (hS : S w)
    (h : wpAnyH P md ops Q S fuel (listed.setIfInBounds i true) (a.put (some d) undef) w) : wpAnyH P md ops Q S (fuel + 1) listed a w := by
  cases ho : ops[i]? with
  | none => rw [ho] at hi; simp at hi
  | some o =>
    rw [ho] at hi hw
    simp only [Option.map_some, Option.some.injEq] at hi hw
    exact wpAnyH_take ho hs hf hr (by rw [hi]; exact hQ) (Or.inr ⟨hw, rfl⟩) hS (by rw [hi]; exact h)

/-- the same, short: what is plain is filled in -/
theorem takeB {P : Program} {ops : Array Oper} {Q : Exit → Act → World → Prop} {md : Region.Mode} {S : World → Prop} {fuel : Nat} {listed : Array Bool} {a : Act} {w : World} (i d : Nat) (v : Value)
    (hv : ∀ w o, S w → some o = ops[i]? → (execOp a.eval o).run P w = .ok (.value v) w) (hS : S w)
    (h : wpAnyH P md ops Q S fuel (listed.setIfInBounds i true) (a.put (some d) v) w)
    (hi : (ops[i]?).map (fun o => o.dst) = some (some d) := by kernel_rfl) (hs : Region.noSelect ops = true := by kernel_rfl) (hf : Region.free md ops listed i = true := by kernel_rfl) (hr : (Region.ready md ops listed).contains i = true := by kernel_rfl)
    (hQ : ∀ c (a : Act) w, Q (.panic c) (a.put (some d) v) w → Q (.panic c) a w := by exact fun _ _ _ h => h) (hw : (ops[i]?).map (fun o => Region.wanted o (yielded ops a.tmps)) = some true := by kernel_rfl) : wpAnyH P md ops Q S (fuel + 1) listed a w :=
  takeR i d v hi hs hf hr hQ hw hv hS h
theorem takeA {P : Program} {ops : Array Oper} {Q : Exit → Act → World → Prop} {md : Region.Mode} {S : World → Prop} {fuel : Nat} {listed : Array Bool} {a : Act} {w : World} (i d : Nat) (v : Value) (hS : S w)
    (h : wpAnyH P md ops Q S fuel (listed.setIfInBounds i true) (a.put (some d) v) w)
    (hi : (ops[i]?).map (fun o => o.dst) = some (some d) := by kernel_rfl) (hs : Region.noSelect ops = true := by kernel_rfl) (hf : Region.free md ops listed i = true := by kernel_rfl) (hr : (Region.ready md ops listed).contains i = true := by kernel_rfl)
    (hQ : ∀ c (a : Act) w, Q (.panic c) (a.put (some d) v) w → Q (.panic c) a w := by exact fun _ _ _ h => h) (hw : (ops[i]?).map (fun o => Region.wanted o (yielded ops a.tmps)) = some true := by kernel_rfl)
    (hv : ∀ w o, S w → some o = ops[i]? → (execOp a.eval o).run P w = .ok (.value v) w := by intro w o hSw ho; obtain rfl := Option.some.inj ho; go_simp) : wpAnyH P md ops Q S (fuel + 1) listed a w :=
  takeR i d v hi hs hf hr hQ hw hv hS h
theorem skipA {P : Program} {ops : Array Oper} {Q : Exit → Act → World → Prop} {md : Region.Mode} {S : World → Prop} {fuel : Nat} {listed : Array Bool} {a : Act} {w : World} (i d : Nat) (hS : S w)
    (h : wpAnyH P md ops Q S fuel (listed.setIfInBounds i true) (a.put (some d) undef) w)
    (hi : (ops[i]?).map (fun o => o.dst) = some (some d) := by kernel_rfl) (hs : Region.noSelect ops = true := by kernel_rfl) (hf : Region.free md ops listed i = true := by kernel_rfl) (hr : (Region.ready md ops listed).contains i = true := by kernel_rfl)
    (hQ : ∀ c (a : Act) w, Q (.panic c) (a.put (some d) undef) w → Q (.panic c) a w := by exact fun _ _ _ h => h) (hw : (ops[i]?).map (fun o => Region.wanted o (yielded ops a.tmps)) = some false := by kernel_rfl) : wpAnyH P md ops Q S (fuel + 1) listed a w :=
  skipR i d hi hs hf hr hQ hw hS h
theorem sa {α : Type} (l : List α) (i : Nat) (a : α) : l.toArray.setIfInBounds i a = (l.set i a).toArray := List.setIfInBounds_toArray ..
theorem s0 {α : Type} (x : α) (l : List α) (a : α) : (x :: l).set 0 a = a :: l := rfl
theorem ss {α : Type} (x : α) (l : List α) (n : Nat) (a : α) : (x :: l).set (n + 1) a = x :: l.set n a := rfl

theorem oneR {P : Program} {ops : Array Oper} {Q : Exit → Act → World → Prop} {md : Region.Mode} {S : World → Prop} {fuel : Nat} {listed : Array Bool} {a : Act} {w : World} (i : Nat)
    (hr : Region.ready md ops listed = [i]) (hw : (ops[i]?).map (fun o => Region.wanted o (yielded ops a.tmps)) = some true)
    (h : ∀ o, some o = ops[i]? → ∀ K' : Act → World → Prop, Shut (∀ a w, S w → (S w → wpAnyH P md ops Q S fuel (listed.setIfInBounds i true) a w) → K' a w) → Oper.wp P o a w K' Q) : wpAnyH P md ops Q S (fuel + 1) listed a w := by
  cases ho : ops[i]? with
  | none => rw [ho] at hw; simp at hw
  | some o =>
    rw [ho] at hw
    simp only [Option.map_some, Option.some.injEq] at hw
    exact wpAnyH_ready hr (by simp) (AllReadyH.cons ho (fun K' hK => by rw [if_pos hw]; exact h o ho.symm K' hK) AllReadyH.nil)

theorem twoR {P : Program} {ops : Array Oper} {Q : Exit → Act → World → Prop} {md : Region.Mode} {S : World → Prop} {fuel : Nat} {listed : Array Bool} {a : Act} {w : World} (i j : Nat)
    (hr : Region.ready md ops listed = [i, j]) (hw : (ops[i]?).map (fun o => Region.wanted o (yielded ops a.tmps)) = some true) (kw : (ops[j]?).map (fun o => Region.wanted o (yielded ops a.tmps)) = some true)
    (h : ∀ o, some o = ops[i]? → ∀ K' : Act → World → Prop, Shut (∀ a w, S w → (S w → wpAnyH P md ops Q S fuel (listed.setIfInBounds i true) a w) → K' a w) → Oper.wp P o a w K' Q)
    (k : ∀ o, some o = ops[j]? → ∀ K' : Act → World → Prop, Shut (∀ a w, S w → (S w → wpAnyH P md ops Q S fuel (listed.setIfInBounds j true) a w) → K' a w) → Oper.wp P o a w K' Q) : wpAnyH P md ops Q S (fuel + 1) listed a w := by
  cases ho : ops[i]? with
  | none => rw [ho] at hw; simp at hw
  | some o =>
    cases ko : ops[j]? with
    | none => rw [ko] at kw; simp at kw
    | some o' =>
      rw [ho] at hw
      rw [ko] at kw
      simp only [Option.map_some, Option.some.injEq] at hw kw
      exact wpAnyH_ready hr (by simp) (AllReadyH.cons ho (fun K' hK => by rw [if_pos hw]; exact h o ho.symm K' hK) (AllReadyH.cons ko (fun K' hK => by rw [if_pos kw]; exact k o' ko.symm K' hK) AllReadyH.nil))

theorem sets_atl {b c : Nat} (hbc : c ≠ b) {us : List Value} : ∀ (vs : List Value) (i : Nat) (w : World), AtL w c us → AtL (sets w b i vs) c us
  | [], _, _, h => h
  | v :: vs, i, w, h => sets_atl hbc vs (i + 1) _ (h.keep (by simp) fun o => World.cell?_setCell_far _ _ _ _ (fun e => hbc (by simpa using e.symm)))

theorem sets_low {b : Nat} : ∀ (vs : List Value) (i k : Nat) (w : World), k < i → (sets w b i vs).cell? ⟨b, k, none⟩ = w.cell? ⟨b, k, none⟩
  | [], _, _, _, _ => rfl
  | v :: vs, i, k, w, h => (sets_low vs (i + 1) k _ (by omega)).trans (World.cell?_setCell_other _ _ _ _ (fun e => by have := congrArg Addr.off e; simp only at this; omega))
theorem sets_cells {b : Nat} : ∀ (vs us : List Value) (i : Nat) (w : World), us.length = vs.length → (∀ j v, us[j]? = some v → w.cell? ⟨b, i + j, none⟩ = some v) → ∀ j v, vs[j]? = some v → (sets w b i vs).cell? ⟨b, i + j, none⟩ = some v
  | [], _, _, _, _, _ => fun j v h => by simp at h
  | v :: vs, [], _, _, hl, _ => by simp at hl
  | v :: vs, u :: us, i, w, hl, hc => fun j x h => by
    match j with
    | 0 =>
      simp at h
      subst h
      exact (sets_low vs (i + 1) i _ (by omega)).trans (World.cell?_setCell_same _ _ _ (hc 0 u rfl))
    | j + 1 =>
      simp at h
      have := sets_cells vs us (i + 1) (w.setCell ⟨b, i, none⟩ v) (by simpa using hl) (fun k y hk => by
        rw [World.cell?_setCell_other _ _ _ _ (fun e => by have := congrArg Addr.off e; simp only at this; omega)]
        have := hc (k + 1) y (by simpa using hk)
        rw [show i + 1 + k = i + (k + 1) by omega]
        exact this) j x h
      rw [show i + (j + 1) = i + 1 + j by omega]
      exact this
theorem sets_at {b : Nat} {us : List Value} {w : World} (vs : List Value) (h : AtL w b us) (hl : us.length = vs.length) : AtL (sets w b 0 vs) b vs :=
  ⟨Nat.lt_of_lt_of_le h.1 (sets_below (B := 0) (Nat.zero_le _) vs 0 w w (Below.refl _ _)).size, fun j v hj => by
    have := sets_cells vs us 0 w hl (fun j v hj => by rw [Nat.zero_add]; exact h.2 j v hj) j v hj
    rw [Nat.zero_add] at this
    exact this⟩

theorem at_two (w : World) (o : Obj) (vs : List Value) (t : TypeId) : AtL ((w.alloc o).alloc (.cells vs.toArray t)).drew (w.heap.size + 1) vs := by
  have h := AtL.new (w.alloc o) vs t
  rw [World.size_alloc] at h
  exact ⟨h.1, h.2⟩

theorem at_one (w : World) (vs : List Value) (t : TypeId) (o : Obj) : AtL ((w.alloc (.cells vs.toArray t)).alloc o).drew w.heap.size vs := by
  have h := (AtL.new w vs t).on (below_mk _ o)
  exact ⟨h.1, h.2⟩
theorem below_two_set (w : World) (o1 o2 : Obj) (i : Nat) (u : Value) : Below w.heap.size w (((w.alloc o1).alloc o2).setCell ⟨w.heap.size + 1, i, none⟩ u).drew :=
  below_drewN ((below_on (below_mk _ _) (below_mk _ _)).setCell (by simp) _) 1
theorem at_two_set (w : World) (o : Obj) (i : Nat) (u : Value) (vs : List Value) (t : TypeId) : AtL (((w.alloc o).alloc (.cells vs.toArray t)).setCell ⟨w.heap.size + 1, i, none⟩ u).drew (w.heap.size + 1) (vs.set i u) := by
  have h := at_two w o vs t
  refine ⟨by simp, fun j v hj => ?_⟩
  by_cases hji : i = j
  · subst hji
    have hlt : i < vs.length := by
      have := (List.getElem?_eq_some_iff.1 hj).1
      simpa using this
    rw [List.getElem?_set_self hlt] at hj
    obtain rfl := Option.some.inj hj
    have hc := h.2 i (vs[i]) (by simp)
    exact World.cell?_setCell_same _ _ _ (show ((w.alloc o).alloc (.cells vs.toArray t)).cell? ⟨w.heap.size + 1, i, none⟩ = some vs[i] from hc)
  · rw [List.getElem?_set_ne hji] at hj
    exact (World.cell?_setCell_other _ _ _ _ (fun e => hji (by simpa using e.symm))).trans (h.2 j v hj)

end Go.Proofs.Ytbfickdgjgbfhaa

/- A struct in a block that may be written. -/
namespace Go.Proofs.Ytbfickdgjgbfhaa
open Go.RowKit
set_option linter.unusedVariables false

/-- block b holds the cells vs, and they may be written -/
structure AtM (w : World) (b : Nat) (vs : List Value) : Prop where
  cells : AtL w b vs
  free : ∀ o, w.frozen? ⟨b, o, none⟩ = false
theorem AtM.keep {w w' : World} {b : Nat} {vs : List Value} (h : AtM w b vs) (hs : w.heap.size ≤ w'.heap.size) (hk : w'.heap[b]? = w.heap[b]?) : AtM w' b vs :=
  ⟨h.cells.keep hs fun o => World.cell?_of_block (a := ⟨b, o, none⟩) hk, fun o => (World.frozen?_of_block (a := ⟨b, o, none⟩) hk).trans (h.free o)⟩
theorem AtM.on {w w' : World} {b : Nat} {vs : List Value} (h : AtM w b vs) (hb : Below w.heap.size w w') : AtM w' b vs := h.keep hb.size (hb.block b h.cells.1)
theorem AtM.far {w w' : World} {b : Nat} {vs : List Value} (h : AtM w b vs) {row : Option Nat} (hg : w.grownBy w' row) (hr : some b ≠ row) : AtM w' b vs := h.keep hg.size (hg.block b h.cells.1 hr)
theorem AtM.new (w : World) (vs : List Value) (t : TypeId) : AtM (w.alloc (.cells vs.toArray t)) w.heap.size vs := ⟨AtL.new w vs t, fun o => by simp⟩
theorem AtM.set {w : World} {b : Nat} {vs : List Value} (h : AtM w b vs) (i : Nat) (v : Value) : AtM (w.setCell ⟨b, i, none⟩ v) b (vs.set i v) := by
  refine ⟨⟨by simpa using h.cells.1, fun j u hj => ?_⟩, fun o => by simpa using h.free o⟩
  by_cases hij : i = j
  · subst hij
    have hlt : i < vs.length := by
      have := (List.getElem?_eq_some_iff.1 hj).1
      simpa using this
    rw [List.getElem?_set_self hlt] at hj
    obtain rfl := Option.some.inj hj
    exact World.cell?_setCell_same _ _ _ (h.cells.2 i vs[i] (by simp))
  · rw [List.getElem?_set_ne hij] at hj
    exact (World.cell?_setCell_other _ _ _ _ (fun e => hij (by simpa using e.symm))).trans (h.cells.2 j u hj)
theorem AtM.other {w : World} {b c : Nat} {vs : List Value} (h : AtM w b vs) (hne : b ≠ c) (i : Nat) (v : Value) : AtM (w.setCell ⟨c, i, none⟩ v) b vs :=
  h.keep (by simp) (Below.heap_setCell _ _ _ _ hne)
theorem sets_size (b : Nat) : ∀ (vs : List Value) (i : Nat) (w : World), (sets w b i vs).heap.size = w.heap.size
  | [], _, _ => rfl
  | _ :: vs, i, w => (sets_size b vs (i + 1) _).trans (by simp)
theorem sets_block {b c : Nat} (hne : c ≠ b) : ∀ (vs : List Value) (i : Nat) (w : World), (sets w b i vs).heap[c]? = w.heap[c]?
  | [], _, _ => rfl
  | _ :: vs, i, w => (sets_block hne vs (i + 1) _).trans (Below.heap_setCell _ _ _ _ hne)
theorem sets_frozen (b : Nat) (a : Addr) : ∀ (vs : List Value) (i : Nat) (w : World), (sets w b i vs).frozen? a = w.frozen? a
  | [], _, _ => rfl
  | _ :: vs, i, w => (sets_frozen b a vs (i + 1) _).trans (by simp)
theorem AtM.sets {w : World} {b : Nat} {us : List Value} (vs : List Value) (h : AtM w b us) (hl : us.length = vs.length) : AtM (sets w b 0 vs) b vs :=
  ⟨sets_at vs h.cells hl, fun o => (sets_frozen b _ vs 0 w).trans (h.free o)⟩
theorem AtM.beside {w : World} {b c : Nat} {us : List Value} (h : AtM w b us) (hne : b ≠ c) (vs : List Value) (i : Nat) : AtM (Go.Proofs.Ytbfickdgjgbfhaa.sets w c i vs) b us :=
  h.keep (by rw [sets_size]; exact Nat.le_refl _) (sets_block hne vs i w)
theorem sets_grown {b : Nat} : ∀ (vs : List Value) (i : Nat) (w : World), w.grownBy (sets w b i vs) (some b)
  | [], _, w => World.grownBy.refl w _
  | v :: vs, i, w =>
    have h : w.grownBy (w.setCell ⟨b, i, none⟩ v) (some b) := ⟨rfl, rfl, rfl, by simp, fun k _ hk => Below.heap_setCell _ _ _ _ (fun e => hk (by rw [e]))⟩
    have k := sets_grown vs (i + 1) (w.setCell ⟨b, i, none⟩ v)
    ⟨k.os.trans h.os, k.tape.trans h.tape, k.output.trans h.output, Nat.le_trans h.size k.size, fun j hj hne => (k.block j (Nat.lt_of_lt_of_le hj h.size) hne).trans (h.block j hj hne)⟩

end Go.Proofs.Ytbfickdgjgbfhaa
