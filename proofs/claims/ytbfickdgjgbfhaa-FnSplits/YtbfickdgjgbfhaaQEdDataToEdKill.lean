/- The answers of the layout edits as data, and the places that the program's and the model's searches find. Plain facts. -/
import Derived.Test.YtbfickdgjgbfhaaQEdWithout
import Derived.Test.YtbfickdgjgbfhaaQEdFind
import Derived.Test.YtbfickdgjgbfhaaQLyImpl5ToLyIn
namespace Go.Proofs.Ytbfickdgjgbfhaa
open Go.RowKit
set_option linter.unusedVariables false
set_option linter.unusedSimpArgs false

def ly0 : Ly := ⟨0, 0, []⟩
/-- the code for a pane of a layout -/
def paneC (x : Ly) (p : Int) : Int := if lyFault x = 0 then (if hasB x.nodes p = true then 0 else 4) else lyFault x
/-- .. that must not be the only one -/
def partC (x : Ly) (p : Int) : Int := if paneC x p = 0 then (if x.nodes.length = 1 then 7 else 0) else paneC x p
def tidyR (x : Ly) : Int × Ly := if lyFault x = 0 then (0, x.tidy) else (lyFault x, ly0)
def killR (x : Ly) (p : Int) : Int × Ly := if partC x p = 0 then (0, ⟨x.wide, x.high, num (kill p x.tr) 0⟩) else (partC x p, ly0)
def resizeR (x : Ly) (p y : Int) : Int × Ly :=
  if partC x p = 0 then
    if inR y (-200) 200 = true then (if lyFault ⟨x.wide, x.high, num (upd p y x.tr) 0⟩ = 0 then (0, ⟨x.wide, x.high, num (upd p y x.tr) 0⟩) else (6, ly0)) else (3, ly0)
  else (partC x p, ly0)
/-- the room of a pane that is there -/
def roomL (x : Ly) (p k : Int) : Int := roomQ (nth (roOf x p).2 0) k
def splitC (x : Ly) (p k fr : Int) : Int :=
  if lyFault x = 0 then
    if inR k 2 3 = true ∧ inR fr 0 5 = true then (if hasB x.nodes p = true then (if hasB x.nodes fr = true then 7 else 0) else 4) else 3
  else lyFault x
def splitT (x : Ly) (p k fr : Int) : Tr := sub p (.node (decide (k = 2)) (Int.tdiv (roomL x p k - 1) 2) (.leaf p) (.leaf fr)) x.tr
def splitR (x : Ly) (p k fr : Int) : Int × Ly :=
  if splitC x p k fr = 0 then (if roomL x p k < 3 then (6, ly0) else (0, ⟨x.wide, x.high, num (splitT x p k fr) 0⟩)) else (splitC x p k fr, ly0)

theorem paneC_ro (x : Ly) (p : Int) : (roOf x p).1 = paneC x p := by
  unfold roOf paneC
  by_cases hf : lyFault x = 0
  · rw [if_pos hf, if_pos hf]
    obtain ⟨R, hr, ht, hi⟩ := run_of_fault hf
    have h1 := has_leaf hi ht.okay ht.uses ht.n0 p
    rw [← ht.rects hr] at h1
    have h2 := findQ_any p (lyRects x)
    rw [h1] at h2
    rw [h2]
    cases hasB x.nodes p <;> simp
  · rw [if_neg hf, if_neg hf]
theorem paneC_zero {x : Ly} {p : Int} (h : paneC x p = 0) : lyFault x = 0 ∧ hasB x.nodes p = true := by
  unfold paneC at h
  split at h
  · split at h
    · exact ⟨‹_›, ‹_›⟩
    · omega
  · exact absurd h ‹_›
theorem partC_zero {x : Ly} {p : Int} (h : partC x p = 0) : lyFault x = 0 ∧ hasB x.nodes p = true ∧ x.nodes.length ≠ 1 := by
  unfold partC at h
  split at h
  · rename_i hp
    split at h
    · omega
    · exact ⟨(paneC_zero hp).1, (paneC_zero hp).2, ‹_›⟩
  · exact absurd h ‹_›
/-- the place of a pane that is there: one -/
theorem ro_one {x : Ly} {p : Int} (h : paneC x p = 0) : (roOf x p).1 = 0 ∧ (roOf x p).2.length = 1 ∧ Good (nth (roOf x p).2 0) := by
  have h0 := paneC_ro x p
  rw [h] at h0
  have hp := paneC_zero h
  refine ⟨h0, ?_⟩
  unfold roOf
  rw [if_pos hp.1]
  obtain ⟨R, hr, ht, hi⟩ := run_of_fault hp.1
  have h1 := has_leaf hi ht.okay ht.uses ht.n0 p
  rw [← ht.rects hr, hp.2] at h1
  have h2 := findQ_any p (lyRects x)
  rw [h1] at h2
  rw [h2]
  have hg : ∀ r ∈ lyRects x, Good r := by
    rw [ht.rects hr]
    intro r hr'
    unfold leaves at hr'
    obtain ⟨i, hi', rfl⟩ := List.mem_map.1 hr'
    have hlt := dfs_lt ht.okay _ 0 ht.n0 i (List.mem_filter.1 hi').1
    exact hi.good ht.okay ht.uses ht.wide ht.high i (by omega) hlt
  have hf : ∀ L : List Q, (findQ p L).isEmpty = false → (findQ p L).length = 1 ∧ ∀ r ∈ findQ p L, r ∈ L := by
    intro L
    induction L with
    | nil => simp [findQ]
    | cons r t ih =>
      unfold findQ
      split
      · intro _; exact ⟨rfl, fun q hq => by simp at hq; subst hq; exact List.mem_cons_self ..⟩
      · intro he; exact ⟨(ih he).1, fun q hq => List.mem_cons_of_mem _ ((ih he).2 q hq)⟩
  obtain ⟨h3, h4⟩ := hf _ h2
  refine ⟨h3, hg _ (h4 _ ?_)⟩
  show nth (findQ p (lyRects x)) 0 ∈ _
  rw [nth_eq (by omega)]
  exact List.getElem_mem _

/-! what the searches find -/

theorem idxQ_spec (f : Q → Bool) : ∀ (l : List Q) (k : Nat), (idxQ f k l = -1 ∧ ∀ i, i < l.length → f (nth l i) = false) ∨ ∃ i, i < l.length ∧ idxQ f k l = ((k + i : Nat) : Int) ∧ f (nth l i) = true
  | [], k => .inl ⟨rfl, fun i hi => by simp at hi⟩
  | q :: t, k => by
    rw [idxQ]
    cases hq : f q
    · rcases idxQ_spec f t (k + 1) with ⟨h1, h2⟩ | ⟨i, h1, h2, h3⟩
      · left
        refine ⟨by simpa using h1, fun i hi => ?_⟩
        cases i with
        | zero => exact hq
        | succ i => rw [nth_succ]; exact h2 i (by simpa using hi)
      · right
        refine ⟨i + 1, by simpa using h1, ?_, by rw [nth_succ]; exact h3⟩
        rw [if_neg (by simp), h2]; congr 1; omega
    · exact .inr ⟨0, by simp, by simp, hq⟩
theorem idxQ_congr {f g : Q → Bool} : ∀ (l : List Q) (k : Nat), (∀ i, i < l.length → f (nth l i) = g (nth l i)) → idxQ f k l = idxQ g k l
  | [], _, _ => rfl
  | q :: t, k, h => by
    have h0 : f q = g q := h 0 (by simp)
    have h1 : idxQ f (k + 1) t = idxQ g (k + 1) t := idxQ_congr t (k + 1) fun i hi => by
      have := h (i + 1) (by simpa using hi)
      simp only [nth_succ] at this
      exact this
    rw [idxQ, idxQ, h0, h1]
def paneM (p : Int) (q : Q) : Bool := q.x0 == 1 && q.x1 == p
def overM (a : Int) (q : Q) : Bool := q.x0 != 1 && (q.x3 == a || q.x4 == a)
theorem overM_over {ns : List Q} (ho : Okay ns) (a : Int) (i : Nat) (hi : i < ns.length) : overM a (nth ns i) = over a (nth ns i) := by
  unfold overM over
  rcases ho i hi with h | h
  · have e : isSplitB (nth ns i) = false := by simp [isSplitB, h.1]
    rw [e, h.1]; simp
  · have e : isSplitB (nth ns i) = true := by rcases h.1 with h | h <;> simp [isSplitB, h]
    have e1 : ((nth ns i).x0 != 1) = true := by rcases h.1 with h | h <;> simp [h]
    rw [e, e1]
theorem hasB_iff {ns : List Q} {p : Int} : hasB ns p = true ↔ ∃ i, i < ns.length ∧ paneM p (nth ns i) = true := by
  unfold hasB paneM
  rw [List.any_eq_true]
  constructor
  · rintro ⟨n, hn, h⟩
    obtain ⟨i, hi, rfl⟩ := List.mem_iff_getElem.1 hn
    exact ⟨i, hi, by rw [nth_eq hi]; exact h⟩
  · rintro ⟨i, hi, h⟩
    exact ⟨nth ns i, by rw [nth_eq hi]; exact List.getElem_mem _, h⟩
/-- the node of a pane -/
theorem at_of {ns : List Q} {p : Int} (h : hasB ns p = true) : ∃ i, i < ns.length ∧ idxQ (paneM p) 0 ns = (i : Int) ∧ isSplitB (nth ns i) = false ∧ (nth ns i).x1 = p := by
  obtain ⟨j, hj, hq⟩ := hasB_iff.1 h
  rcases idxQ_spec (paneM p) ns 0 with ⟨_, h2⟩ | ⟨i, h1, h2, h3⟩
  · rw [h2 j hj] at hq; cases hq
  · refine ⟨i, h1, by rw [h2, Nat.zero_add], ?_⟩
    simp only [paneM, Bool.and_eq_true, beq_iff_eq] at h3
    exact ⟨by simp [isSplitB, h3.1], h3.2⟩
/-- the split of a pane that is not the only one -/
theorem up_of {x : Ly} (ht : Tree x) {i : Nat} (hi : i < x.nodes.length) (hs : isSplitB (nth x.nodes i) = false) (hl : x.nodes.length ≠ 1) : ∃ u, u < x.nodes.length ∧ idxQ (overM i) 0 x.nodes = (u : Int) ∧ over i (nth x.nodes u) = true := by
  have h0 : 0 < i := by
    rcases Nat.eq_zero_or_pos i with rfl | h
    · exfalso
      have h1 := ht.size
      have h2 : x.tr = .leaf (nth x.nodes 0).x1 := by
        unfold Ly.tr
        obtain ⟨n, hn⟩ : ∃ n, x.nodes.length = n + 1 := ⟨x.nodes.length - 1, by have := ht.n0; omega⟩
        rw [hn, trOf_at hs]
      rw [h2] at h1
      simp only [Tr.size] at h1
      omega
    · exact h
  obtain ⟨q, hq, hsq, hk⟩ := parent_of ht.okay ht.uses h0 hi
  have hov : over i (nth x.nodes q) = true := by
    simp only [over, hsq, Bool.true_and, Bool.or_eq_true, beq_iff_eq]; exact hk
  rcases idxQ_spec (overM i) x.nodes 0 with ⟨_, h2⟩ | ⟨u, h1, h2, h3⟩
  · have := h2 q (by omega)
    rw [overM_over ht.okay _ q (by omega), hov] at this
    cases this
  · exact ⟨u, h1, by rw [h2, Nat.zero_add], by rw [← overM_over ht.okay _ u h1]; exact h3⟩
theorem up_none {x : Ly} (ht : Tree x) {i : Nat} (hl : x.nodes.length = 1) : idxQ (overM i) 0 x.nodes = -1 := by
  rcases idxQ_spec (overM i) x.nodes 0 with ⟨h, _⟩ | ⟨u, h1, h2, h3⟩
  · exact h
  · rw [overM_over ht.okay _ u h1] at h3
    obtain ⟨hs, -⟩ := over_kid h3
    have := (ht.okay u h1).split hs
    omega
theorem over_one_up {x : Ly} (ht : Tree x) {i u : Nat} {p : Int} (hi : i < x.nodes.length) (hs : isSplitB (nth x.nodes i) = false) (hp : (nth x.nodes i).x1 = p) (hu : u < x.nodes.length) (hov : over i (nth x.nodes u) = true) (y : Int) :
    (⟨x.wide, x.high, x.nodes.set u ⟨(nth x.nodes u).x0, (nth x.nodes u).x1, (nth x.nodes u).x2 + y, (nth x.nodes u).x3, (nth x.nodes u).x4⟩⟩ : Ly).tr = upd p y x.tr := by
  unfold Ly.tr
  simp only [List.length_set]
  exact trOf_upd ht.okay ht.uses ht.once hi hs hp hu hov _ 0 (by omega) ht.n0

/-! the same in the normal form -/
theorem lf_ne {p : Int} {l : List Q} (h : lfQ p ∉ l) : ∀ q ∈ l, qEq (lfQ p) q = false := fun q hq => by
  cases he : qEq (lfQ p) q
  · rfl
  · exact absurd ((qEq_iff _ _).1 he ▸ hq) h
/-- what the program's KillPane and ResizePane find -/
theorem kill_found {x : Ly} {p : Int} (h : partC x p = 0) : ∃ (u : List Q) (S : Q) (m v : List Q), x.tidy.nodes = u ++ S :: (m ++ lfQ p :: v) ∧
    idxQ (qEq (lfQ p)) 0 x.tidy.nodes = ((u.length + 1 + m.length : Nat) : Int) ∧ idxQ (over ((u.length + 1 + m.length : Nat) : Int)) 0 x.tidy.nodes = ((u.length : Nat) : Int) ∧
    keepQ ((u.length : Nat) : Int) ((u.length + 1 + m.length : Nat) : Int) 0 x.tidy.nodes = u ++ (m ++ v) ∧ (u ++ (m ++ v)).map strip = pre (kill p x.tr) ∧
    ∀ y, x.tidy.nodes.set u.length ⟨S.x0, S.x1, S.x2 + y, S.x3, S.x4⟩ = num (upd p y x.tr) 0 := by
  obtain ⟨hf, hh, hl⟩ := partC_zero h
  obtain ⟨ht, -⟩ := tree_of_fault hf
  have hm := (has_tr ht p).1 hh
  have hnl : isL p x.tr = false := by rw [isL_size hm]; simp; rw [ht.size]; exact hl
  obtain ⟨u, S, m, v, pos, e, hpos, hno, hov, hu, hk, hy⟩ := split_over hm ht.nodup hnl 0
  rw [Nat.zero_add] at hpos
  subst hpos
  have e' : x.tidy.nodes = u ++ S :: (m ++ lfQ p :: v) := e
  refine ⟨u, S, m, v, e', ?_, ?_, ?_, ?_, ?_⟩
  · have e2 : x.tidy.nodes = (u ++ S :: m) ++ lfQ p :: v := by rw [e']; simp
    rw [e2, idxQ_at _ _ _ ((qEq_iff _ _).2 rfl) (u ++ S :: m) 0 (lf_ne hno)]
    simp; omega
  · rw [e', idxQ_at _ _ _ hov u 0 hu]; simp
  · rw [e', keepQ_app, keepQ_none _ _ u 0 (by omega) (by omega), Nat.zero_add, keepQ, if_pos (.inl rfl), keepQ_app, keepQ_none _ _ m _ (by omega) (by omega), keepQ, if_pos (.inr rfl), keepQ_none _ _ v _ (by omega) (by omega)]
  · rw [List.map_append, List.map_append]; exact hk
  · intro y
    rw [← hy y, e', List.set_append_right _ _ (Nat.le_refl _), Nat.sub_self]; rfl
/-- what the program's SplitPane finds -/
theorem split_found {x : Ly} {p : Int} (h : lyFault x = 0) (hh : hasB x.nodes p = true) : ∃ (u v : List Q), x.tidy.nodes = u ++ lfQ p :: v ∧ idxQ (qEq (lfQ p)) 0 x.tidy.nodes = ((u.length : Nat) : Int) ∧
    ∀ (k first fr : Int), inR k 2 3 = true → ((u ++ ⟨k, 0, first, 0, 0⟩ :: lfQ p :: lfQ fr :: v).map strip) = pre (sub p (.node (decide (k = 2)) first (.leaf p) (.leaf fr)) x.tr) := by
  obtain ⟨ht, -⟩ := tree_of_fault h
  have hm := (has_tr ht p).1 hh
  obtain ⟨u, v, e, hu, hp⟩ := split_leaf hm ht.nodup 0
  have e' : x.tidy.nodes = u ++ lfQ p :: v := e
  refine ⟨u, v, e', ?_, fun k first fr hk => ?_⟩
  · rw [e', idxQ_at _ _ _ ((qEq_iff _ _).2 rfl) u 0 (lf_ne hu)]; simp
  · rw [← hp]
    have hk2 : kd (decide (k = 2)) = k := by
      simp only [inR, Bool.and_eq_true, decide_eq_true_eq] at hk
      have : k = 2 ∨ k = 3 := by omega
      rcases this with rfl | rfl <;> simp [kd]
    have hs : strip ⟨k, 0, first, 0, 0⟩ = ⟨kd (decide (k = 2)), 0, first, 0, 0⟩ := by
      rw [hk2]; unfold strip; split <;> rfl
    simp only [List.map_append, List.map_cons, pre, hs]
    have hl : ∀ q, strip (lfQ q) = lfQ q := fun q => by simp [strip, lf_split]
    simp [hl]
end Go.Proofs.Ytbfickdgjgbfhaa

/- The model's l7Tidy: the nodes in normal form. -/
namespace Go.Proofs.Ytbfickdgjgbfhaa
open Go.RowKit
set_option linter.unusedVariables false
set_option linter.unusedSimpArgs false

/-- ahead of the last line of l7Tidy -/
structure TdMid (w : World) (q : Q) (va vb : Value) (la lb : List Q) (W : World) : Prop where
  x : AtL W w.heap.size (qC q)
  a : OwnQ 76 W (w.heap.size + 1) va la
  b : OwnQ 76 W (w.heap.size + 1) vb lb
  below : Below w.heap.size w W
theorem OwnQ.cellsOf {T : TypeId} {w : World} {base g n c : Nat} {l : List Q} (h : OwnQ T w base (.slice (some ⟨g, 0, none⟩) n c) l) : ∀ j u, (l.flatMap qC)[j]? = some u → w.cell? ((⟨g, 0, none⟩ : Addr).add j) = some u := qs_cells h.bs.2

theorem trOf_small (ns : List Q) : ∀ (f i : Nat), (trOf ns f i).size + 1 ≤ 2 ^ (f + 1)
  | 0, i => by simp [trOf, Tr.size]
  | f + 1, i => by
    unfold trOf
    have h1 := trOf_small ns f (nth ns i).x3.toNat
    have h2 := trOf_small ns f (nth ns i).x4.toNat
    have h3 : 2 ^ (f + 1 + 1) = 2 ^ (f + 1) + 2 ^ (f + 1) := by rw [Nat.pow_succ]; omega
    have h4 : 1 ≤ 2 ^ (f + 1) := Nat.one_le_two_pow
    split <;> simp only [Tr.size] <;> omega

set_option maxRecDepth 100000 in
set_option maxHeartbeats 4000000 in
theorem l7Tidy_any (ns : List Q) (p : Option Addr) (c : Nat) (hm : ns.length ≤ 13) (ho : Okay ns) :
    ∀ (f i s : Nat) (w : World), f ≤ 13 → s + 2 ^ (f + 1) ≤ 100000 → ns.length ≤ i + f → i < ns.length → Qs w w.heap.size p ns →
    Calls Try.prog 97 #[.slice p ns.length c, .int .i64 i, .int .i64 s] w (NewL w (num (trOf ns f i) s)) := by
  intro f
  induction f with
  | zero => intro i s w _ _ h1 h2; omega
  | succ f ih =>
    intro i s w hf hs2 hfi hi hX
    have IH := Lib.hid ih
    clear ih
    obtain ⟨bn, off, rfl, _, hbn, hc⟩ := hX (by intro e; simp [e] at hi)
    have hq := hc i hi
    have i1 : (i : Int) < (ns.length : Int) := by omega
    have i0 : (0 : Int) ≤ (i : Int) := by omega
    have HX := Lib.hid hX
    obtain ⟨c0, c1, c2, c3, c4⟩ := hq
    have hok := ho i hi
    have hsm := trOf_small ns f
    clear hX hc
    cases hs : isSplitB (nth ns i)
    · have hlf := leaf_is ho hi hs
      have h1 := (hok.leaf hs).1
      have HT : Hid (num (trOf ns (f + 1) i) s = [nth ns i]) := Lib.hid (by rw [trOf_at hs, num, ← hlf])
      rw [HT.out]
      clear IH hok hsm HT hlf hs
      generalize nth ns i = q at *
      have h1b : (q.x0 == 1) = true := by simpa using h1
      clear h1
      have HO := Lib.hid (ownQ_one 76 (w.alloc (.cells #[.int .i64 q.x0, .int .i64 q.x1, .int .i64 q.x2, .int .i64 q.x3, .int .i64 q.x4] 76)) q (base := w.heap.size) (g := w.heap.size + 1) (by simp) (by simp))
      go_enter Try.func97, Try.ntmps97
      go_wp2
      go_ret
      exact ⟨_, rfl, HO.out, below_on (below_mk _ _) (below_mk _ _)⟩
    · obtain ⟨g1, g2, g3, g4, g5, g6⟩ := hok.split hs
      have hsp := split_is ho hi hs
      obtain ⟨ia, ha⟩ := Int.eq_ofNat_of_zero_le (show 0 ≤ (nth ns i).x3 by omega)
      obtain ⟨ib, hb⟩ := Int.eq_ofNat_of_zero_le (show 0 ≤ (nth ns i).x4 by omega)
      have hT : trOf ns (f + 1) i = .node (decide ((nth ns i).x0 = 2)) (nth ns i).x2 (trOf ns f ia) (trOf ns f ib) := by
        conv => lhs; unfold trOf
        rw [if_pos hs, ha, hb, Int.toNat_natCast, Int.toNat_natCast]
      rw [hT]
      have hia := hsm ia
      have hib := hsm ib
      have hp2 : 2 ^ (f + 1 + 1) = 2 ^ (f + 1) + 2 ^ (f + 1) := by rw [Nat.pow_succ]; omega
      have HA := Lib.hid (fun W => IH.out ia (s + 1) W (by omega) (by omega) (by omega) (by omega))
      have HB := Lib.hid (fun W => IH.out ib (s + 1 + (trOf ns f ia).size) W (by omega) (by omega) (by omega) (by omega))
      have hla := num_len (trOf ns f ia) (s + 1)
      have hlb := num_len (trOf ns f ib) (s + 1 + (trOf ns f ia).size)
      have hpa := (trOf ns f ia).size_pos
      have hpb := (trOf ns f ib).size_pos
      have hx0 : ((nth ns i).x0 == 1) = false := by simp; omega
      have hs2' : s ≤ 100000 := by omega
      have hsa : (trOf ns f ia).size ≤ 100000 := by omega
      have hsb : (trOf ns f ib).size ≤ 100000 := by omega
      have HK := Lib.hid (kd_of g1)
      have HNUM : Hid (num (.node (decide ((nth ns i).x0 = 2)) (nth ns i).x2 (trOf ns f ia) (trOf ns f ib)) s = ⟨(nth ns i).x0, (nth ns i).x1, (nth ns i).x2, ((s + 1 : Nat) : Int), ((s + 1 + (trOf ns f ia).size : Nat) : Int)⟩ :: (num (trOf ns f ia) (s + 1) ++ num (trOf ns f ib) (s + 1 + (trOf ns f ia).size))) := Lib.hid (by rw [num, HK.out, g2])
      rw [HNUM.out]
      clear IH hok g1 g3 g4 g5 g6 hT hsm hsp hia hib hp2 hs2 hs HNUM HK hm hi hfi hf g2
      generalize num (trOf ns f ia) (s + 1) = la at *
      generalize num (trOf ns f ib) (s + 1 + (trOf ns f ia).size) = lb at *
      generalize (trOf ns f ia).size = sa at *
      generalize (trOf ns f ib).size = sb at *
      generalize nth ns i = q at *
      obtain ⟨y0, y1, y2, y3, y4⟩ := q
      dsimp only at *
      subst ha
      subst hb
      obtain ⟨i0r, hi0r, hz0, hz1, hz2⟩ := info_parts Try.info_nodeD
      have HI := Lib.hid (And.intro hi0r (And.intro hz0 (And.intro hz1 hz2)))
      clear hi0r hz0 hz1 hz2
      subst hla
      subst hlb
      have HM0 := Lib.hid (AtM.new w [.int .i64 y0, .int .i64 y1, .int .i64 y2, .int .i64 (ia : Int), .int .i64 (ib : Int)] 76)
      have HB0 := Lib.hid (below_mk w (.cells #[.int .i64 y0, .int .i64 y1, .int .i64 y2, .int .i64 (ia : Int), .int .i64 (ib : Int)] 76))
      go_enter Try.func97, Try.ntmps97
      go_wp2_with fail
      have e1 : (s : Int) + 1 = ((s + 1 : Nat) : Int) := by omega
      rw [e1]
      clear e1
      refine (HA.out _ (HX.out.on HB0.out)).mono ?_
      rintro e w1 ⟨va, rfl, oa, b1⟩
      have HM1 := Lib.hid (HM0.out.on b1)
      have HB1 := Lib.hid (below_on HB0.out b1)
      obtain ⟨pa, ca, rfl⟩ := oa.slice
      have HOA := Lib.hid (oa.lower (base' := w.heap.size + 1) (by simp))
      obtain ⟨d0, d1, d2, d3, d4⟩ := HM1.out.cells.five
      have df := HM1.out.free
      clear oa b1 c0 c1 c2 c3 c4 HM0 HA
      have hdl := HM1.out.cells.1
      go_wp2_with fail
      have e2 : (s : Int) + 1 + (la.length : Int) = ((s + 1 + la.length : Nat) : Int) := by omega
      rw [e2]
      clear e2
      refine (HB.out _ (HX.out.on HB1.out)).mono ?_
      rintro e w2 ⟨vb, rfl, ob, b2⟩
      have HM2 := Lib.hid (HM1.out.on b2)
      have HB2 := Lib.hid (below_on HB1.out b2)
      obtain ⟨pb, cb, rfl⟩ := ob.slice
      have HOB := Lib.hid (ob.lower (base' := w.heap.size + 1) (by omega))
      have HOA2 := Lib.hid (HOA.out.on b2)
      obtain ⟨d0, d1, d2, d3, d4⟩ := HM2.out.cells.five
      have df := HM2.out.free
      have hdl2 := HM2.out.cells.1
      clear ob b2 HM1 HOA HB hdl HB1
      go_upto_region 8 with (fail)
      have hx := ((HM2.out.set 3 (.int .i64 ((s : Int) + 1))).set 4 (.int .i64 ((s : Int) + 1 + (la.length : Int)))).cells
      simp only [List.set_cons_succ, List.set_cons_zero] at hx
      have hmid : TdMid w ⟨y0, y1, y2, (s : Int) + 1, (s : Int) + 1 + (la.length : Int)⟩ (.slice pa la.length ca) (.slice pb lb.length cb) la lb _ :=
        ⟨hx, (HOA2.out.setBelow (a := ⟨w.heap.size, 3, none⟩) (by show w.heap.size < _; omega) _).setBelow (a := ⟨w.heap.size, 4, none⟩) (by show w.heap.size < _; omega) _, (HOB.out.setBelow (a := ⟨w.heap.size, 3, none⟩) (by show w.heap.size < _; omega) _).setBelow (a := ⟨w.heap.size, 4, none⟩) (by show w.heap.size < _; omega) _, (HB2.out.setCell (by exact Nat.le_refl _) _).setCell (by exact Nat.le_refl _) _⟩
      refine wp_genQ (TdMid w ⟨y0, y1, y2, (s : Int) + 1, (s : Int) + 1 + (la.length : Int)⟩ (.slice pa la.length ca) (.slice pb lb.length cb) la lb) hmid (fun W hW => ?_)
      clear hmid hx df d0 d1 d2 d3 d4 HM2 HOB HOA2 HB2
      have HW := Lib.hid hW
      obtain ⟨d0, d1, d2, d3, d4⟩ := hW.x.five
      have hqe : (⟨y0, y1, y2, ((s + 1 : Nat) : Int), ((s + 1 + la.length : Nat) : Int)⟩ : Q) = ⟨y0, y1, y2, (s : Int) + 1, (s : Int) + 1 + (la.length : Int)⟩ := by congr 1
      rw [hqe]
      clear hqe hW
      generalize hk4 : (s : Int) + 1 + (la.length : Int) = k4 at *
      generalize hk3 : (s : Int) + 1 = k3 at *
      have HK := Lib.hid (And.intro hk3 hk4)
      clear hk3 hk4
      have HO1 := Lib.hid (ownQ_one 76 W ⟨y0, y1, y2, k3, k4⟩ (base := W.heap.size) (g := W.heap.size) (Nat.le_refl _) rfl)
      have HW1 := Lib.hid (fun W' (h : Below W.heap.size W W') => And.intro (HW.out.a.on h) (HW.out.b.on h))
      have hbw := HW.out.below.size
      rcases (HW.out.a).form with ⟨-, hx⟩ | ⟨ga, ca', ea, hga, hgal, -⟩
      · rw [hx] at hpa; simp at hpa
      simp only [Value.slice.injEq] at ea
      obtain ⟨rfl, -, rfl⟩ := ea
      rcases (HW.out.b).form with ⟨-, hx⟩ | ⟨gb, cb', eb, hgb, hgbl, -⟩
      · rw [hx] at hpb; simp at hpb
      simp only [Value.slice.injEq] at eb
      obtain ⟨rfl, -, rfl⟩ := eb
      have hca := (HW1.out _ (below_mk W (.cells #[.int .i64 y0, .int .i64 y1, .int .i64 y2, .int .i64 k3, .int .i64 k4] 76))).1.cellsOf
      have HCA := Lib.hid hca
      have hcb := (HW1.out _ (below_mk W (.cells #[.int .i64 y0, .int .i64 y1, .int .i64 y2, .int .i64 k3, .int .i64 k4] 76))).2
      have HOBB := Lib.hid hcb
      have HBW := Lib.hid (below_on HW.out.below (below_mk W (.cells #[.int .i64 y0, .int .i64 y1, .int .i64 y2, .int .i64 k3, .int .i64 k4] 76)))
      clear hca hcb HW1 HW
      have PREP := Lib.hid (fun w3 (hgrow1 : (W.alloc (.cells #[.int .i64 y0, .int .i64 y1, .int .i64 y2, .int .i64 k3, .int .i64 k4] 76)).grownBy w3 (Value.slice (some ⟨W.heap.size, 0, none⟩) 1 1).ownBlock) => And.intro
        ((HOBB.out.far hgrow1 (fun g' hg e => by simp [Value.ownBlock] at hg e; omega)).cellsOf)
        (And.intro (HBW.out.trans (below_of_grown hgrow1 HBW.out.size (fun g' hg => by simp [Value.ownBlock] at hg; omega))) (show W.heap.size ≤ w3.heap.size by have := hgrow1.size; simp at this; omega)))
      go_wp2_with (at_builtin; first | (have hown2 := hown1; refine wpList_append_own _ rfl _ _ 26 rfl W.heap.size 76 i0r _ 5 40 Try.underlying26 HI.out.1 HI.out.2.1 HI.out.2.2.1 HI.out.2.2.2 rfl (by decide) _ _ _ rfl hown2 ⟨gb, 0, none⟩ lb.length cb (lb.flatMap qC) rfl (flatQ_len _) PR.out.1 (flatQ_one _) (by unfold maxLen; simp; omega) (by simp; omega) PR.out.2.2 ?_; intro v2 w4 hown3 hgrow2 _) | (refine wpList_append_own _ rfl _ _ 26 rfl W.heap.size 76 i0r _ 5 40 Try.underlying26 HI.out.1 HI.out.2.1 HI.out.2.2.1 HI.out.2.2.2 rfl (by decide) _ _ _ rfl HO1.out ⟨ga, 0, none⟩ la.length ca (la.flatMap qC) rfl (flatQ_len _) HCA.out (flatQ_one _) (by unfold maxLen; simp; omega) (by simp; omega) (by simp) ?_; intro v1 w3 hown1 hgrow1 _; have PR := Lib.hid (PREP.out w3 hgrow1)))
      go_ret
      have hO : OwnQ 76 w4 W.heap.size v2 (⟨y0, y1, y2, k3, k4⟩ :: (la ++ lb)) := by
        unfold OwnQ
        have e : (⟨y0, y1, y2, k3, k4⟩ :: (la ++ lb) : List Q).flatMap qC = ([⟨y0, y1, y2, k3, k4⟩] : List Q).flatMap qC ++ la.flatMap qC ++ lb.flatMap qC := by simp
        rw [e, show (⟨y0, y1, y2, k3, k4⟩ :: (la ++ lb) : List Q).length = 1 + la.length + lb.length by simp; omega]
        exact hown3
      have hB : Below w.heap.size w w4 := PR.out.2.1.trans (below_of_grown hgrow2 PR.out.2.1.size (fun g' hg => by have := (World.ownsRow.lt hown1 g' hg).1; omega))
      rw [HK.out.1, HK.out.2]
      exact ⟨_, rfl, hO.lower hbw, hB⟩
end Go.Proofs.Ytbfickdgjgbfhaa

/- The program's TidyLayout, paneFault, partFault, splitFault. -/
namespace Go.Proofs.Ytbfickdgjgbfhaa
open Go.RowKit
set_option linter.unusedVariables false
set_option linter.unusedSimpArgs false

/-- the layout boxed, and the cell of the answer -/
structure LrAt (w : World) (x : Ly) (p : Option Addr) (c : Nat) (W : World) : Prop where
  ly : LyAt W w.heap.size x p c
  res : AtM W (w.heap.size + 1) [.int .i64 0, .int .i64 0, .int .i64 0, .slice none 0 0]
  below : Below w.heap.size w W
theorem LrAt.on {w W W' : World} {x : Ly} {p : Option Addr} {c : Nat} (h : LrAt w x p c W) (hb : Below W.heap.size W W') : LrAt w x p c W' := ⟨h.ly.on hb, h.res.on hb, below_on h.below hb⟩
theorem LrAt.start (w : World) (x : Ly) (p : Option Addr) (c : Nat) (t t' : TypeId) (h : Qs w w.heap.size p x.nodes) : LrAt w x p c ((w.alloc (.cells #[.int .i64 x.wide, .int .i64 x.high, .slice p x.nodes.length c] t)).alloc (.cells #[.int .i64 0, .int .i64 0, .int .i64 0, .slice none 0 0] t')) := by
  have hX := (LyAt.new w x p c t h).on (below_mk _ (.cells #[.int .i64 0, .int .i64 0, .int .i64 0, .slice none 0 0] t'))
  have hR := AtM.new (w.alloc (.cells (lyL x p c).toArray t)) [.int .i64 0, .int .i64 0, .int .i64 0, .slice none 0 0] t'
  rw [World.size_alloc] at hR
  exact ⟨hX, hR, below_on (below_mk _ _) (below_mk _ _)⟩
theorem AtL.four {w : World} {b : Nat} {v0 v1 v2 v3 : Value} (h : AtL w b [v0, v1, v2, v3]) : w.cell? ⟨b, 0, none⟩ = some v0 ∧ w.cell? ⟨b, 1, none⟩ = some v1 ∧ w.cell? ⟨b, 2, none⟩ = some v2 ∧ w.cell? ⟨b, 3, none⟩ = some v3 := ⟨h.get 0 rfl, h.get 1 rfl, h.get 2 rfl, h.get 3 rfl⟩
theorem AtL.other {w : World} {b c : Nat} {vs : List Value} (h : AtL w b vs) (hne : b ≠ c) (i : Nat) (v : Value) : AtL (w.setCell ⟨c, i, none⟩ v) b vs :=
  h.keep (by simp) fun o => World.cell?_setCell_other _ _ _ _ (fun e => hne (congrArg Addr.block e).symm)
theorem lr_ly {w W : World} {L : List Value} (h : AtL W w.heap.size L) (u0 u1 u2 u3 : Value) : AtL ((((W.setCell ⟨w.heap.size + 1, 0, none⟩ u0).setCell ⟨w.heap.size + 1, 1, none⟩ u1).setCell ⟨w.heap.size + 1, 2, none⟩ u2).setCell ⟨w.heap.size + 1, 3, none⟩ u3) w.heap.size L :=
  (((h.other (by omega) _ _).other (by omega) _ _).other (by omega) _ _).other (by omega) _ _
theorem lr_low {w W : World} (hb : Below w.heap.size w W) (u0 u1 u2 u3 : Value) : Below w.heap.size w ((((W.setCell ⟨w.heap.size + 1, 0, none⟩ u0).setCell ⟨w.heap.size + 1, 1, none⟩ u1).setCell ⟨w.heap.size + 1, 2, none⟩ u2).setCell ⟨w.heap.size + 1, 3, none⟩ u3) :=
  (((hb.setCell (by show w.heap.size ≤ w.heap.size + 1; omega) u0).setCell (by show w.heap.size ≤ w.heap.size + 1; omega) u1).setCell (by show w.heap.size ≤ w.heap.size + 1; omega) u2).setCell (by show w.heap.size ≤ w.heap.size + 1; omega) u3
theorem lr_own {w W : World} {v : Value} {l : List Q} {B : Nat} (ho : OwnQ 76 W B v l) (hB : w.heap.size + 1 < B) (u0 u1 u2 u3 : Value) :
    OwnQ 76 ((((W.setCell ⟨w.heap.size + 1, 0, none⟩ u0).setCell ⟨w.heap.size + 1, 1, none⟩ u1).setCell ⟨w.heap.size + 1, 2, none⟩ u2).setCell ⟨w.heap.size + 1, 3, none⟩ u3) w.heap.size v l :=
  ((((ho.setBelow (by exact hB) u0).setBelow (by exact hB) u1).setBelow (by exact hB) u2).setBelow (by exact hB) u3).lower (by omega)

set_option maxRecDepth 100000 in
set_option maxHeartbeats 1000000 in
theorem paneFault_any (x : Ly) (pn : Int) (p : Option Addr) (c : Nat) (w : World) (h : Qs w w.heap.size p x.nodes) (hl : x.nodes.length ≤ 1048576) :
    Calls Try.prog 76 #[.agg #[.int .i64 x.wide, .int .i64 x.high, .slice p x.nodes.length c], .int .i64 pn] w fun e w' => e = .returned (.int .i64 (paneC x pn)) ∧ Below w.heap.size w w' := by
  have HC := Lib.hid (implRectOf_any x pn p c _ (h.on (below_mk w (.cells #[.int .i64 x.wide, .int .i64 x.high, .slice p x.nodes.length c] 28))) hl)
  have HE := Lib.hid (paneC_ro x pn)
  clear h
  generalize roOf x pn = ro at *
  have hfd : ∀ v w, (Instr.field 60 (.agg #[.int .i64 ro.1, v]) 0).run Try.prog w = .ok (.int .i64 ro.1) w := fun v w => fld_rr ro.1 v w
  go_enter Try.func76, Try.ntmps76
  go_wp2_with fail
  refine HC.out.mono ?_
  rintro e w1 ⟨v, rfl, ov, b1⟩
  have HB := Lib.hid (below_on (below_mk w _) b1)
  unfold rrV
  clear ov b1
  go_wp2
  go_ret
  exact ⟨ret_int HE.out, HB.out⟩

set_option maxRecDepth 100000 in
set_option maxHeartbeats 1000000 in
theorem partFault_any (x : Ly) (pn : Int) (p : Option Addr) (c : Nat) (w : World) (h : Qs w w.heap.size p x.nodes) (hl : x.nodes.length ≤ 1048576) :
    Calls Try.prog 70 #[.agg #[.int .i64 x.wide, .int .i64 x.high, .slice p x.nodes.length c], .int .i64 pn] w fun e w' => e = .returned (.int .i64 (partC x pn)) ∧ Below w.heap.size w w' := by
  have HX := Lib.hid (LyAt.new w x p c 28 h)
  unfold lyL at HX
  have HC := Lib.hid (fun W h => paneFault_any x pn p c W h hl)
  have HB0 := Lib.hid (below_mk w (.cells #[.int .i64 x.wide, .int .i64 x.high, .slice p x.nodes.length c] 28))
  clear h
  by_cases h0 : paneC x pn = 0
  · have e : partC x pn = if x.nodes.length = 1 then 7 else 0 := by unfold partC; rw [if_pos h0]
    rw [e]
    rw [h0] at HC
    clear h0 e
    by_cases h1 : x.nodes.length = 1
    · have h1b : ((x.nodes.length : Int) == 1) = true := by simp; omega
      rw [if_pos h1]
      clear h1
      go_enter Try.func70, Try.ntmps70
      go_wp2_with fail
      refine (HC.out _ HX.out.nodes).mono ?_
      rintro e w1 ⟨rfl, b1⟩
      have HX1 := Lib.hid (HX.out.on b1)
      obtain ⟨x0, x1, x2⟩ := HX1.out.cells.tri
      have HB := Lib.hid (below_on HB0.out b1)
      clear b1
      go_wp2
      go_ret
      exact ⟨rfl, HB.out⟩
    · have h1b : ((x.nodes.length : Int) == 1) = false := by simp; omega
      rw [if_neg h1]
      clear h1
      go_enter Try.func70, Try.ntmps70
      go_wp2_with fail
      refine (HC.out _ HX.out.nodes).mono ?_
      rintro e w1 ⟨rfl, b1⟩
      have HX1 := Lib.hid (HX.out.on b1)
      obtain ⟨x0, x1, x2⟩ := HX1.out.cells.tri
      have HB := Lib.hid (below_on HB0.out b1)
      clear b1
      go_wp2
      go_ret
      exact ⟨rfl, HB.out⟩
  · have e : partC x pn = paneC x pn := by unfold partC; rw [if_neg h0]
    rw [e]
    have h2 : (paneC x pn == 0) = false := by simpa using h0
    clear h0 e
    generalize paneC x pn = k at *
    go_enter Try.func70, Try.ntmps70
    go_wp2_with fail
    refine (HC.out _ HX.out.nodes).mono ?_
    rintro e w1 ⟨rfl, b1⟩
    have HB := Lib.hid (below_on HB0.out b1)
    clear b1
    go_wp2
    go_ret
    exact ⟨rfl, HB.out⟩

set_option maxRecDepth 100000 in
set_option maxHeartbeats 2000000 in
theorem implTidy_any (x : Ly) (p : Option Addr) (c : Nat) (w : World) (h : Qs w w.heap.size p x.nodes) (hl : x.nodes.length ≤ 1048576) :
    Calls Try.prog 27 #[.agg #[.int .i64 x.wide, .int .i64 x.high, .slice p x.nodes.length c]] w (NewLr w (tidyR x).1 (tidyR x).2) := by
  have HX := Lib.hid (LrAt.start w x p c 28 30 h)
  have HF := Lib.hid (fun W h => implLayoutFault_any x p c W h hl)
  clear h
  by_cases hf : lyFault x = 0
  · have e : tidyR x = (0, x.tidy) := by unfold tidyR; rw [if_pos hf]
    rw [e]
    rw [hf] at HF
    obtain ⟨ht, -⟩ := tree_of_fault hf
    have HT := Lib.hid (fun W h => tidyNodes_any x p c W h ht)
    have HTW : Hid (x.tidy = ⟨x.wide, x.high, x.tidy.nodes⟩) := Lib.hid rfl
    have HTL := Lib.hid (show x.tidy.nodes.length ≤ 11 from ht.tidy.n1)
    dsimp only
    rw [HTW.out]
    clear hf e ht HTW
    generalize x.tidy.nodes = tn at *
    go_enter Try.func27, Try.ntmps27
    go_wp2_with fail
    refine (HF.out _ HX.out.ly.nodes).mono ?_
    rintro e w1 ⟨rfl, b1⟩
    have HX1 := Lib.hid (HX.out.on b1)
    clear b1 HX HF
    go_upto_region 4 with (fail)
    have HXd := Lib.hid (HX1.out.on (below_drewN (Below.refl w1.heap.size w1) 1))
    have hS0 := HXd.out.ly.cells
    unfold lyL at hS0
    refine wp_region_noPanic ?_
    refine wp_region_held_drew (S := fun W' => AtL W' w.heap.size [.int .i64 x.wide, .int .i64 x.high, .slice p x.nodes.length c]) (by kernel_rfl) hS0 (fun hHeld => ?_)
    refine takeB 0 10 (.agg #[.int .i64 x.wide, .int .i64 x.high, .slice p x.nodes.length c]) (fun w o hSw ho => ?_) hHeld ?_
    · obtain rfl := Option.some.inj ho; (obtain ⟨z0, z1, z2⟩ := AtL.tri hSw; go_simp)
    simp only [Act.put, sa, s0, ss]
    refine takeA 1 11 (.pointer (some ⟨w.heap.size, 2, none⟩)) hHeld ?_
    simp only [Act.put, sa, s0, ss]
    refine takeB 2 12 (.slice p x.nodes.length c) (fun w o hSw ho => ?_) hHeld ?_
    · obtain rfl := Option.some.inj ho; (obtain ⟨z0, z1, z2⟩ := AtL.tri hSw; go_simp)
    simp only [Act.put, sa, s0, ss]
    refine oneR 3 (by kernel_rfl) (by kernel_rfl) (fun o ho K' hK => ?_)
    obtain rfl := Option.some.inj ho
    clear ho
    go_simp
    refine (HT.out _ HXd.out.ly.nodes).mono ?_
    rintro e w2 ⟨v, rfl, ov, b2⟩
    have HX2 := Lib.hid (HXd.out.on b2)
    have hS2 := HX2.out.ly.cells
    unfold lyL at hS2
    have hz := HX1.out.res.cells.1
    have hz2 := b2.size
    clear hHeld hS0 b2
    obtain ⟨pv, cv, rfl⟩ := ov.slice
    have HV := Lib.hid ov
    clear ov
    go_wp2_with fail
    refine hK.out _ _ (hS2) (fun hHeld => ?_)
    clear hK K'
    try simp only [Act.put, sa, s0, ss]
    refine oneR 4 (by kernel_rfl) (by kernel_rfl) (fun o ho K' hK => ?_)
    obtain rfl := Option.some.inj ho
    clear ho
    go_simp
    refine (layoutResult_any x tn p pv c cv _ HV.out).mono ?_
    rintro e w3 ⟨rfl, o3, b3⟩
    have HX3 := Lib.hid (HX2.out.on b3)
    have HV3 := Lib.hid o3
    have hS3 := HX3.out.ly.cells
    unfold lyL at hS3
    clear hHeld hS2 o3 b3
    unfold lrV
    go_wp2_with fail
    refine hK.out _ _ (hS3) (fun hHeld => ?_)
    clear hK K'
    try simp only [Act.put, sa, s0, ss]
    obtain ⟨z0, z1, z2, z3⟩ := HX3.out.res.cells.four
    have zf := HX3.out.res.free
    clear hHeld
    refine oneR 5 (by kernel_rfl) (by kernel_rfl) (fun o ho K' hK => ?_)
    obtain rfl := Option.some.inj ho
    clear ho
    go_simp
    refine hK.out _ _ ((lr_ly hS3 _ _ _ _)) (fun hHeld => ?_)
    clear hK K'
    try simp only [Act.put, sa, s0, ss]
    refine wpAnyH_done (by kernel_rfl) ?_ _
    refine NoPanic.normal ?_
    have HB3 := Lib.hid HX3.out.below
    have hbs : w.heap.size + 1 < w1.drew.heap.size := by simp; omega
    clear hHeld HX3 HX2 HXd hS3
    go_wp2
    exact bodyPost_ret (v := lrV 0 ⟨x.wide, x.high, tn⟩ (.slice pv tn.length cv)) (by simp [results, Try.results27, lrV, go_sem, z0, z1, z2, z3]) rfl ⟨_, rfl, lr_own HV3.out hbs _ _ _ _, lr_low HB3.out _ _ _ _⟩
  · have e : tidyR x = (lyFault x, ly0) := by unfold tidyR; rw [if_neg hf]
    rw [e]
    have hf2 : (lyFault x == 0) = false := by simpa using hf
    clear hf e
    generalize lyFault x = k at *
    go_enter Try.func27, Try.ntmps27
    go_wp2_with fail
    refine (HF.out _ HX.out.ly.nodes).mono ?_
    rintro e w1 ⟨rfl, b1⟩
    have HX1 := Lib.hid (HX.out.on b1)
    obtain ⟨z0, z1, z2, z3⟩ := HX1.out.res.cells.four
    have zf := HX1.out.res.free
    clear b1 HX
    go_wp2
    exact bodyPost_ret (v := lrV k ly0 (.slice none 0 0)) (by simp [results, Try.results27, lrV, ly0, go_sem, z0, z1, z2, z3]) rfl ⟨_, rfl, ownQ_nil _ _ _, lr_low HX1.out.below _ _ _ _⟩
end Go.Proofs.Ytbfickdgjgbfhaa

/- The program's KillPane. -/
namespace Go.Proofs.Ytbfickdgjgbfhaa
open Go.RowKit
set_option linter.unusedVariables false
set_option linter.unusedSimpArgs false

theorem killR_small (x : Ly) (pn : Int) : (killR x pn).2.nodes.length ≤ 2048 := by
  unfold killR
  split
  · rename_i h
    obtain ⟨hf, hh, hl⟩ := partC_zero h
    obtain ⟨ht, -⟩ := tree_of_fault hf
    have hm := (has_tr ht pn).1 hh
    have hnl : isL pn x.tr = false := by rw [isL_size hm]; simp; rw [ht.size]; exact hl
    have h1 := (kill_panes hm ht.nodup hnl).2
    have h2 := ht.size
    have h3 := ht.n1
    simp only [num_len]; omega
  · simp [ly0]

set_option maxRecDepth 100000 in
set_option maxHeartbeats 4000000 in
theorem implKill_any (x : Ly) (pn : Int) (p : Option Addr) (c : Nat) (w : World) (h : Qs w w.heap.size p x.nodes) (hl : x.nodes.length ≤ 1048576) :
    Calls Try.prog 20 #[.agg #[.int .i64 x.wide, .int .i64 x.high, .slice p x.nodes.length c], .int .i64 pn] w (NewLr w (killR x pn).1 (killR x pn).2) := by
  have HX := Lib.hid (LrAt.start w x p c 28 30 h)
  have HF := Lib.hid (fun W h => partFault_any x pn p c W h hl)
  clear h
  by_cases hf : partC x pn = 0
  · have e : killR x pn = (0, ⟨x.wide, x.high, num (kill pn x.tr) 0⟩) := by unfold killR; rw [if_pos hf]
    rw [e]
    rw [hf] at HF
    obtain ⟨ht, -⟩ := tree_of_fault (partC_zero hf).1
    obtain ⟨u, S, m, v, en, h1, h2, h3, h4, -⟩ := kill_found hf
    have HT := Lib.hid (fun W h => tidyNodes_any x p c W h ht)
    have hn11 : x.tidy.nodes.length ≤ 11 := ht.tidy.n1
    have hkm : (u ++ (m ++ v)).length ≤ 100 := by have := congrArg List.length en; simp only [List.length_append, List.length_cons] at this ⊢; omega
    have hk0 : 0 < (u ++ (m ++ v)).length := by
      have e1 := congrArg List.length h4
      rw [List.length_map, pre_len] at e1
      rw [e1]; exact Tr.size_pos _
    dsimp only
    clear hf e ht en
    generalize x.tidy.nodes = tn at *
    generalize kill pn x.tr = T at *
    generalize u ++ (m ++ v) = km at *
    generalize u.length + 1 + m.length = ka at *
    generalize u.length = ku at *
    have HAT := Lib.hid (fun q d W h => nodeOfPane_any q d tn pn W h (by omega))
    rw [h1] at HAT
    have HOV := Lib.hid (fun q d W h => splitOver_any q d tn ((ka : Nat) : Int) W h (by omega))
    rw [h2] at HOV
    have HWO := Lib.hid (fun q d g W h h0 h1 => without_any tn ((ku : Nat) : Int) ((ka : Nat) : Int) q d g W h (by omega) h0 h1)
    rw [h3] at HWO
    have HLK := Lib.hid (fun ad d W h => linked_any km T ad d W h hkm hk0 h4)
    clear h1 h2 h3 h4
    go_enter Try.func20, Try.ntmps20
    go_wp2_with fail
    refine (HF.out _ HX.out.ly.nodes).mono ?_
    rintro e w1 ⟨rfl, b1⟩
    have HX1 := Lib.hid (HX.out.on b1)
    obtain ⟨x0, x1, x2⟩ := HX1.out.ly.cells.tri
    clear b1 HX HF
    go_wp2_with fail
    refine (HT.out _ HX1.out.ly.nodes).mono ?_
    rintro e w2 ⟨vt, rfl, ot, b2⟩
    have HX2 := Lib.hid (HX1.out.on b2)
    obtain ⟨pt, ct, rfl⟩ := ot.slice
    have HV2 := Lib.hid ot.bs.2
    have hz := HX1.out.res.cells.1
    have hz2 := b2.size
    clear x0 x1 x2 b2 ot HX1 HT
    go_wp2_with fail
    refine (HAT.out _ _ _ HV2.out).mono ?_
    rintro e w3 ⟨rfl, b3⟩
    have HX3 := Lib.hid (HX2.out.on b3)
    have HV3 := Lib.hid (HV2.out.on b3)
    have hz3 := b3.size
    clear b3 HX2 HV2 HAT
    go_upto_region 6 with (fail)
    have HXd := Lib.hid (HX3.out.on (below_drewN (Below.refl w3.heap.size w3) 1))
    have HVd := Lib.hid (HV3.out.on (below_drewN (Below.refl w3.heap.size w3) 1))
    have hS0 := HXd.out.ly.cells
    unfold lyL at hS0
    clear HX3 HV3
    refine wp_region_noPanic ?_
    refine wp_region_held_drew (S := fun W' => AtL W' w.heap.size [.int .i64 x.wide, .int .i64 x.high, .slice p x.nodes.length c]) (by kernel_rfl) hS0 (fun hHeld => ?_)
    refine takeB 0 21 (.agg #[.int .i64 x.wide, .int .i64 x.high, .slice p x.nodes.length c]) (fun w o hSw ho => ?_) hHeld ?_
    · obtain rfl := Option.some.inj ho; (obtain ⟨z0, z1, z2⟩ := AtL.tri hSw; go_simp)
    simp only [Act.put, sa, s0, ss]
    refine takeA 1 22 (.slice pt tn.length ct) hHeld ?_
    simp only [Act.put, sa, s0, ss]
    refine takeA 2 23 (.slice pt tn.length ct) hHeld ?_
    simp only [Act.put, sa, s0, ss]
    refine takeA 3 24 (.int .i64 ((ka : Nat) : Int)) hHeld ?_
    simp only [Act.put, sa, s0, ss]
    refine takeA 5 26 (.int .i64 ((ka : Nat) : Int)) hHeld ?_
    simp only [Act.put, sa, s0, ss]
    refine oneR 4 (by kernel_rfl) (by kernel_rfl) (fun o ho K' hK => ?_)
    obtain rfl := Option.some.inj ho
    clear ho
    go_simp
    refine (HOV.out _ _ _ HVd.out).mono ?_
    rintro e w4 ⟨rfl, b4⟩
    have HX4 := Lib.hid (HXd.out.on b4)
    have HV4 := Lib.hid (HVd.out.on b4)
    have hS4 := HX4.out.ly.cells
    unfold lyL at hS4
    have hz4 := b4.size
    clear hHeld b4 HXd HVd hS0 HOV
    go_wp2_with fail
    refine hK.out _ _ (hS4) (fun hHeld => ?_)
    clear hK K'
    try simp only [Act.put, sa, s0, ss]
    refine oneR 6 (by kernel_rfl) (by kernel_rfl) (fun o ho K' hK => ?_)
    obtain rfl := Option.some.inj ho
    clear ho
    go_simp
    have b5 := below_mk w4 (.cells #[.int .i64 (ku : Int), .int .i64 (ka : Int)] 2)
    have HX5 := Lib.hid (HX4.out.on b5)
    have HV5 := Lib.hid (HV4.out.on b5)
    have HC5 := Lib.hid (AtL.new w4 [.int .i64 (ku : Int), .int .i64 (ka : Int)] 2)
    have hS5 := HX5.out.ly.cells
    unfold lyL at hS5
    clear hHeld b5 HX4 HV4 hS4
    refine hK.out _ _ (hS5) (fun hHeld => ?_)
    clear hK K'
    try simp only [Act.put, sa, s0, ss]
    refine oneR 7 (by kernel_rfl) (by kernel_rfl) (fun o ho K' hK => ?_)
    obtain rfl := Option.some.inj ho
    clear ho
    go_simp
    refine (HWO.out _ _ _ _ HV5.out (HC5.out.get 0 rfl) (HC5.out.get 1 rfl)).mono ?_
    rintro e w6 ⟨v6, rfl, o6, b6⟩
    have HX6 := Lib.hid (HX5.out.on b6)
    have hS6 := HX6.out.ly.cells
    unfold lyL at hS6
    have hz6 := b6.size
    rcases o6.form with ⟨-, hx⟩ | ⟨g6, c6, rfl, _, _, -⟩
    · rw [hx] at hk0; simp at hk0
    have HV6 := Lib.hid o6.bs.2
    clear hHeld b6 o6 HX5 HV5 HC5 hS5 HWO
    go_wp2_with fail
    refine hK.out _ _ (hS6) (fun hHeld => ?_)
    clear hK K'
    try simp only [Act.put, sa, s0, ss]
    refine oneR 8 (by kernel_rfl) (by kernel_rfl) (fun o ho K' hK => ?_)
    obtain rfl := Option.some.inj ho
    clear ho
    go_simp
    refine (HLK.out _ _ _ HV6.out).mono ?_
    rintro e w7 ⟨v7, rfl, o7, b7⟩
    have HX7 := Lib.hid (HX6.out.on b7)
    have hS7 := HX7.out.ly.cells
    unfold lyL at hS7
    obtain ⟨p7, c7, rfl⟩ := o7.slice
    have HV7 := Lib.hid o7
    clear hHeld b7 o7 HX6 HV6 hS6 HLK
    go_wp2_with fail
    refine hK.out _ _ (hS7) (fun hHeld => ?_)
    clear hK K'
    try simp only [Act.put, sa, s0, ss]
    refine oneR 9 (by kernel_rfl) (by kernel_rfl) (fun o ho K' hK => ?_)
    obtain rfl := Option.some.inj ho
    clear ho
    go_simp
    refine (layoutResult_any x (num T 0) p p7 c c7 _ HV7.out).mono ?_
    rintro e w8 ⟨rfl, o8, b8⟩
    have HX8 := Lib.hid (HX7.out.on b8)
    have HV8 := Lib.hid o8
    have hS8 := HX8.out.ly.cells
    unfold lyL at hS8
    clear hHeld o8 b8 HX7 HV7 hS7
    unfold lrV
    go_wp2_with fail
    refine hK.out _ _ (hS8) (fun hHeld => ?_)
    clear hK K'
    try simp only [Act.put, sa, s0, ss]
    obtain ⟨z0, z1, z2, z3⟩ := HX8.out.res.cells.four
    have zf := HX8.out.res.free
    clear hHeld
    refine oneR 10 (by kernel_rfl) (by kernel_rfl) (fun o ho K' hK => ?_)
    obtain rfl := Option.some.inj ho
    clear ho
    go_simp
    refine hK.out _ _ ((lr_ly hS8 _ _ _ _)) (fun hHeld => ?_)
    clear hK K'
    try simp only [Act.put, sa, s0, ss]
    refine wpAnyH_done (by kernel_rfl) ?_ _
    refine NoPanic.normal ?_
    have HB8 := Lib.hid HX8.out.below
    have hbs : w.heap.size + 1 < w6.heap.size := by simp at hz4 hz6; omega
    clear hHeld HX8 hS8
    go_wp2
    exact bodyPost_ret (v := lrV 0 ⟨x.wide, x.high, num T 0⟩ (.slice p7 (num T 0).length c7)) (by simp [results, Try.results20, lrV, go_sem, z0, z1, z2, z3]) rfl ⟨_, rfl, lr_own HV8.out hbs _ _ _ _, lr_low HB8.out _ _ _ _⟩
  · have e : killR x pn = (partC x pn, ly0) := by unfold killR; rw [if_neg hf]
    rw [e]
    have hf2 : (partC x pn == 0) = false := by simpa using hf
    clear hf e
    generalize partC x pn = k at *
    go_enter Try.func20, Try.ntmps20
    go_wp2_with fail
    refine (HF.out _ HX.out.ly.nodes).mono ?_
    rintro e w1 ⟨rfl, b1⟩
    have HX1 := Lib.hid (HX.out.on b1)
    obtain ⟨z0, z1, z2, z3⟩ := HX1.out.res.cells.four
    have zf := HX1.out.res.free
    clear b1 HX
    go_wp2
    exact bodyPost_ret (v := lrV k ly0 (.slice none 0 0)) (by simp [results, Try.results20, lrV, ly0, go_sem, z0, z1, z2, z3]) rfl ⟨_, rfl, ownQ_nil _ _ _, lr_low HX1.out.below _ _ _ _⟩
end Go.Proofs.Ytbfickdgjgbfhaa
