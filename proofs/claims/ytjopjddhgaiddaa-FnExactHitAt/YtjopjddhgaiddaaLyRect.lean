/- The program's depthFirst and paneRects. -/
import Derived.Test.YtjopjddhgaiddaaLyImpl5
namespace Go.Proofs.Ytjopjddhgaiddaa
open Go.RowKit
set_option linter.unusedVariables false

def intsOf (l : List Nat) : List Int := l.map fun i : Nat => (i : Int)
theorem dfs_len (ns : List Q) : ∀ (f i : Nat), (dfs ns f i).length + 1 ≤ 2 ^ f
  | 0, _ => by simp [dfs]
  | f + 1, i => by
    unfold dfs
    have h1 := dfs_len ns f (nth ns i).x3.toNat
    have h2 := dfs_len ns f (nth ns i).x4.toNat
    have h3 : 2 ^ (f + 1) = 2 ^ f + 2 ^ f := by rw [Nat.pow_succ]; omega
    split
    · simp only [List.length_cons, List.length_append]; omega
    · simp only [List.length_cons, List.length_nil]; omega

/-- numbers in memory of the call's own -/
def NewN (W : World) (l : List Int) (e : Ending) (W' : World) : Prop := ∃ v, e = .returned v ∧ OwnN W' W.heap.size v l ∧ Below W.heap.size W W'

theorem OwnN.form {w : World} {base : Nat} {v : Value} {l : List Int} (h : OwnN w base v l) : (v = .slice none 0 0 ∧ l = []) ∨ ∃ g cap, v = .slice (some ⟨g, 0, none⟩) l.length cap ∧ base ≤ g ∧ g < w.heap.size ∧ v.ownBlock = some g := by
  rcases h.2 with ⟨rfl, hn⟩ | ⟨g, cap, cur, rfl, hb, hh, _⟩
  · exact .inl ⟨rfl, List.eq_nil_of_length_eq_zero hn⟩
  · exact .inr ⟨g, cap, rfl, hb, (Array.getElem?_eq_some_iff.1 hh).1, rfl⟩
theorem OwnN.lower {w : World} {base base' : Nat} {v : Value} {l : List Int} (h : OwnN w base v l) (hb : base' ≤ base) : OwnN w base' v l := by
  refine ⟨h.1, ?_⟩
  rcases h.2 with h' | ⟨g, cap, cur, e, hg, r⟩
  · exact .inl h'
  · exact .inr ⟨g, cap, cur, e, by omega, r⟩
theorem ownN_one (W : World) (x : Int) {base g : Nat} (hb : base ≤ W.heap.size) (hg : g = W.heap.size) : OwnN (W.alloc (.cells #[.int .i64 x] 2)) base (.slice (some ⟨g, 0, none⟩) 1 1) [x] := by
  subst hg
  exact World.ownsRow_lit (e := 2) (size := 1) W #[.int .i64 x] 1 hb (by unfold maxLen; omega) (by simp)
theorem ints_one (l : List Int) : ∀ u ∈ l.map (Value.int .i64), u.oneCell' = true := by
  intro u hu
  rw [List.mem_map] at hu
  obtain ⟨x, _, rfl⟩ := hu
  rfl

theorem dfs_ne {ns : List Q} {f i : Nat} (h : 0 < f) : intsOf (dfs ns f i) ≠ [] := by
  cases f with
  | zero => omega
  | succ f => simp [dfs, intsOf]
theorem dfs_leaf {ns : List Q} {f i : Nat} (h : isSplitB (nth ns i) = false) : intsOf (dfs ns (f + 1) i) = [(i : Int)] := by simp [dfs, h, intsOf]
theorem dfs_split {ns : List Q} {f i : Nat} (h : isSplitB (nth ns i) = true) : intsOf (dfs ns (f + 1) i) = ([(i : Int)] ++ intsOf (dfs ns f (nth ns i).x3.toNat)) ++ intsOf (dfs ns f (nth ns i).x4.toNat) := by simp [dfs, h, intsOf]

set_option maxRecDepth 100000 in
set_option maxHeartbeats 4000000 in
theorem depthFirst_any (ns : List Q) (p : Option Addr) (c : Nat) (hm : ns.length ≤ 11) (ho : Okay ns) :
    ∀ (f i : Nat) (w : World), f ≤ 11 → ns.length ≤ i + f → i < ns.length → Qs w w.heap.size p ns →
    Calls Try.prog 73 #[.slice p ns.length c, .int .i64 i] w (NewN w (intsOf (dfs ns f i))) := by
  intro f
  induction f with
  | zero => intro i w _ h1 h2; omega
  | succ f ih =>
    intro i w hf hfi hi hX
    have IH := Lib.hid ih
    clear ih
    obtain ⟨bn, off, rfl, _, hbn, hc⟩ := hX (by intro e; simp [e] at hi)
    have hq := hc i hi
    have i1 : (i : Int) < (ns.length : Int) := by omega
    have i0 : (0 : Int) ≤ (i : Int) := by omega
    have HX := Lib.hid hX
    have HO1 := Lib.hid (ownN_one w (i : Int) (Nat.le_refl _) rfl)
    obtain ⟨c0, c1, c2, c3, c4⟩ := hq
    clear hX hc
    have hok := ho i hi
    have HIS := Lib.hid (fun W => isSplit_any (nth ns i) W)
    cases hs : isSplitB (nth ns i)
    · rw [dfs_leaf hs]
      rw [hs] at HIS
      clear IH hok
      go_enter Try.func73, Try.ntmps73
      go_wp2_with fail
      refine (HIS.out _).mono ?_
      rintro e w1 ⟨rfl, b1⟩
      have HB := Lib.hid (below_on (below_on (below_mk w _) (below_mk _ _)) b1)
      have HO2 := Lib.hid ((HO1.out.on (below_mk _ _)).on b1)
      clear b1 HO1 c0 c1 c2 c3 c4
      go_wp2
      go_ret
      exact ⟨_, rfl, HO2.out, HB.out⟩
    · rw [hs] at HIS
      obtain ⟨-, -, g3, g4, g5, g6⟩ := hok.split hs
      obtain ⟨ia, ha⟩ := Int.eq_ofNat_of_zero_le (show 0 ≤ (nth ns i).x3 by omega)
      obtain ⟨ib, hb⟩ := Int.eq_ofNat_of_zero_le (show 0 ≤ (nth ns i).x4 by omega)
      rw [dfs_split hs, ha, hb, Int.toNat_natCast, Int.toNat_natCast]
      have HA := Lib.hid (fun W => IH.out ia W (by omega) (by omega) (by omega))
      have HB := Lib.hid (fun W => IH.out ib W (by omega) (by omega) (by omega))
      have hla := dfs_len ns f ia
      have hlb := dfs_len ns f ib
      have hpow : 2 ^ f ≤ 2 ^ 11 := Nat.pow_le_pow_right (by omega) (by omega)
      have hpow2 : (2 : Nat) ^ 11 = 2048 := by decide
      have la : (intsOf (dfs ns f ia)).length ≤ 2048 := by simp [intsOf]; omega
      have lb : (intsOf (dfs ns f ib)).length ≤ 2048 := by simp [intsOf]; omega
      have na := Lib.hid (dfs_ne (ns := ns) (f := f) (i := ia) (by omega))
      have nb := Lib.hid (dfs_ne (ns := ns) (f := f) (i := ib) (by omega))
      have HHA := Lib.hid ha
      have HHB := Lib.hid hb
      obtain ⟨i0r, hi0r, hz0, hz1, hz2⟩ := info_parts Try.info_i64n
      have HI := Lib.hid (And.intro hi0r (And.intro hz0 (And.intro hz1 hz2)))
      clear IH hok g3 g4 g5 g6 ha hb hla hlb hpow hpow2 hi0r hz0 hz1 hz2
      generalize intsOf (dfs ns f ia) = xa at *
      generalize intsOf (dfs ns f ib) = xb at *
      go_enter Try.func73, Try.ntmps73
      go_wp2_with fail
      refine (HIS.out _).mono ?_
      rintro e w1 ⟨rfl, b1⟩
      have hb1 := below_on (below_on (below_mk w (.cells #[.int .i64 (i : Int)] 2)) (below_mk _ (.cells #[.int .i64 (nth ns i).x0, .int .i64 (nth ns i).x1, .int .i64 (nth ns i).x2, .int .i64 (nth ns i).x3, .int .i64 (nth ns i).x4] 62))) b1
      have HBB := Lib.hid hb1
      have HO2 := Lib.hid ((HO1.out.on (below_mk _ (.cells #[.int .i64 (nth ns i).x0, .int .i64 (nth ns i).x1, .int .i64 (nth ns i).x2, .int .i64 (nth ns i).x3, .int .i64 (nth ns i).x4] 62))).on b1)
      have X := ((AtL.new (w.alloc (.cells #[.int .i64 (i : Int)] 2)) [.int .i64 (nth ns i).x0, .int .i64 (nth ns i).x1, .int .i64 (nth ns i).x2, .int .i64 (nth ns i).x3, .int .i64 (nth ns i).x4] 62)).on b1
      rw [World.size_alloc] at X
      rw [HHA.out, HHB.out] at X
      have HX1 := Lib.hid X
      obtain ⟨d0, d1, d2, d3, d4⟩ := X.five
      clear b1 hb1 HO1 c0 c1 c2 c3 c4 X
      go_wp2_with fail
      refine (HA.out _ (HX.out.on HBB.out)).mono ?_
      rintro e w2 ⟨va, rfl, oa, b2⟩
      have HO3 := Lib.hid (HO2.out.on b2)
      have HB2 := Lib.hid (below_on HBB.out b2)
      have HXa := Lib.hid (HX1.out.on b2)
      have HOA := Lib.hid oa
      have hsz := HB2.out.size
      rcases oa.form with ⟨-, hx0⟩ | ⟨ga, ca, rfl, hga, hgal, hgo⟩
      · exact absurd hx0 na.out
      have hca := World.ownsRow.cells oa hgo
      obtain ⟨d0, d1, d2, d3, d4⟩ := HXa.out.five
      clear oa b2 HX1 HO2 HBB na
      go_wp2_with (at_builtin; refine wpList_append_own _ rfl _ _ 92 rfl w.heap.size 2 i0r _ 1 8 Try.underlying92 HI.out.1 HI.out.2.1 HI.out.2.2.1 HI.out.2.2.2 rfl (by decide) _ _ _ rfl HO3.out ⟨ga, 0, none⟩ xa.length ca (xa.map (Value.int .i64)) rfl (by simp) hca (ints_one xa) (by unfold maxLen; simp; omega) (by simp; omega) (by omega) ?_; intro v' w3 hown hgrow _; have hg2 : w2.grownBy w3 (some w.heap.size) := hgrow; have X3 := HXa.out.far hg2 (by simp); have hlt3 := X3.1; obtain ⟨e0, e1, e2, e3, e4⟩ := X3.five; have hB3 := HB2.out.trans (below_of_grown hgrow HB2.out.size (fun g hg => (HO3.out.lt g hg).1)); have HB3 := Lib.hid hB3; have HO4 : Hid (OwnN w3 w.heap.size v' ([(i : Int)] ++ xa)) := Lib.hid (by unfold OwnN; rw [List.length_append, List.map_append]; exact hown); clear d0 d1 d2 d3 d4 hca hown hgrow hg2 X3 hB3)
      refine (HB.out w3 (HX.out.on HB3.out)).mono ?_
      rintro e w4 ⟨vb, rfl, ob, b4⟩
      have HO5 := Lib.hid (HO4.out.on b4)
      have HB4 := Lib.hid (below_on HB3.out b4)
      have hsz4 := HB4.out.size
      rcases ob.form with ⟨-, hx0⟩ | ⟨gb, cb, rfl, hgb, hgbl, hgob⟩
      · exact absurd hx0 nb.out
      have hcb := World.ownsRow.cells ob hgob
      clear ob b4 nb e0 e1 e2 e3 e4
      go_wp2_with (at_builtin; refine wpList_append_own _ rfl _ _ 92 rfl w.heap.size 2 i0r _ 1 8 Try.underlying92 HI.out.1 HI.out.2.1 HI.out.2.2.1 HI.out.2.2.2 rfl (by decide) _ _ _ rfl HO5.out ⟨gb, 0, none⟩ xb.length cb (xb.map (Value.int .i64)) rfl (by simp) hcb (ints_one xb) (by unfold maxLen; simp; omega) (by simp; omega) (by omega) ?_; intro v5 w5 hown hgrow _)
      go_ret
      have hh : OwnN w5 w.heap.size v5 (([(i : Int)] ++ xa) ++ xb) := by unfold OwnN; rw [List.length_append, List.map_append]; exact hown
      exact ⟨_, rfl, by simpa using hh, HB4.out.trans (below_of_grown hgrow HB4.out.size (fun g hg => (HO5.out.lt g hg).1))⟩

/-- places in memory of the call's own -/
def NewR (W : World) (l : List Q) (e : Ending) (W' : World) : Prop := ∃ v, e = .returned v ∧ OwnQ 59 W' W.heap.size v l ∧ Below W.heap.size W W'

theorem qat_new (w : World) (q : Q) (t : TypeId) : ∀ j u, (qC q)[j]? = some u → (w.alloc (.cells #[.int .i64 q.x0, .int .i64 q.x1, .int .i64 q.x2, .int .i64 q.x3, .int .i64 q.x4] t)).cell? ((⟨w.heap.size, 0, none⟩ : Addr).add j) = some u := by
  intro j u hj
  have ea : (⟨w.heap.size, 0, none⟩ : Addr).add j = ⟨w.heap.size, j, none⟩ := by simp [Addr.add]; omega
  rw [ea]
  exact (AtL.new w (qC q) t).get j hj
theorem leaves_succ (ns R : List Q) (D : List Nat) (j : Nat) (h : j < D.length) : ((D.take (j + 1)).filter (leafB ns)).map (nth R) = ((D.take j).filter (leafB ns)).map (nth R) ++ if isSplitB (nth ns D[j]) = true then [] else [nth R D[j]] := by
  rw [List.take_succ_eq_append_getElem h, List.filter_append, List.map_append]
  by_cases hs : isSplitB (nth ns D[j]) = true
  · simp [leafB, hs]
  · simp [leafB, hs]

set_option maxRecDepth 100000 in
set_option maxHeartbeats 4000000 in
theorem paneRects_any (x : Ly) (p : Option Addr) (c : Nat) (w : World) (h : Qs w w.heap.size p x.nodes) (ht : Tree x) (R : List Q) (hr : lyRun x = some R) :
    Calls Try.prog 49 #[.agg #[.int .i64 x.wide, .int .i64 x.high, .slice p x.nodes.length c]] w (NewR w (lyRects x)) := by
  rw [ht.rects hr]
  have hX := LyAt.new w x p c 29 h
  unfold lyL at hX
  have HX := Lib.hid hX
  have hinv := ht.some hr
  have HRL := Lib.hid hinv.len
  have HT := Lib.hid ht
  have n0 := ht.n0
  have n1 := ht.n1
  have HR := Lib.hid (fun W h => nodeRects_any x p c W h ht)
  rw [hr] at HR
  have HD := Lib.hid (fun W h => depthFirst_any x.nodes p c ht.n1 ht.okay x.nodes.length 0 W (by omega) (by omega) ht.n0 h)
  have hdl := dfs_len x.nodes x.nodes.length 0
  have hpow : 2 ^ x.nodes.length ≤ 2 ^ 11 := Nat.pow_le_pow_right (by omega) (by omega)
  have hpow2 : (2 : Nat) ^ 11 = 2048 := by decide
  have hDne := Lib.hid (dfs_ne (ns := x.nodes) (f := x.nodes.length) (i := 0) (by omega))
  have hDlt := Lib.hid (dfs_lt ht.okay x.nodes.length 0 ht.n0)
  have dl : (dfs x.nodes x.nodes.length 0).length ≤ 2048 := by omega
  unfold leaves
  clear h ht hX hr hinv hdl hpow hpow2
  generalize dfs x.nodes x.nodes.length 0 = D at *
  obtain ⟨i0r, hi0r, hz0, hz1, hz2⟩ := info_parts Try.info_rect
  have HI := Lib.hid (And.intro hi0r (And.intro hz0 (And.intro hz1 hz2)))
  clear hi0r hz0 hz1 hz2
  go_enter Try.func49, Try.ntmps49
  go_wp2_with fail
  refine (HR.out _ HX.out.nodes).mono ?_
  rintro e w1 ⟨hsome, -, b1⟩
  obtain ⟨g, rfl, og⟩ := hsome R rfl
  have HX1 := Lib.hid (HX.out.on b1)
  have HB1 := Lib.hid (below_on (below_mk w _) b1)
  have HG1 := Lib.hid og
  obtain ⟨x0, x1, x2⟩ := HX1.out.cells.tri
  have hxl := HX1.out.cells.1
  clear hsome b1 og HR HX
  go_wp2_with fail
  refine (HD.out w1 HX1.out.nodes).mono ?_
  rintro e w2 ⟨vd, rfl, od, b2⟩
  have HX2 := Lib.hid (HX1.out.on b2)
  have HB2 := Lib.hid (below_on HB1.out b2)
  have HG2 := Lib.hid (HG1.out.on b2)
  have HDD := Lib.hid od
  rcases od.form with ⟨-, hx0⟩ | ⟨gd, cd, rfl, hgd, hgdl, hgod⟩
  · exact absurd hx0 hDne.out
  clear od b2 HX1 HB1 HG1 x0 x1 x2 hxl HD
  have hgl := (HG2.out.lt g rfl).2
  have hlen : (intsOf D).length = D.length := by simp [intsOf]
  have HLEN := Lib.hid hlen
  rw [hlen]
  rw [hlen] at HDD
  clear hlen
  go_wp2
  go_loopw [5, 7, 17] (fun v _ i wr => ∃ j : Nat, j ≤ D.length ∧ i = .int .i64 j ∧ OwnQ 59 wr w2.heap.size v (((D.take j).filter (leafB x.nodes)).map (nth R)) ∧ Below w2.heap.size w2 wr) (fun _ _ i _ => D.length - (intOf i).toNat)
  case atStart => exact ⟨0, by omega, rfl, by simpa using ownQ_nil _ _ _, Below.refl _ _⟩
  case round =>
    obtain ⟨j, hj, rfl, ho, hb⟩ := hrel
    have HO := Lib.hid ho
    have HB := Lib.hid hb
    clear ho hb
    by_cases hlt : j < D.length
    · have hjn : D[j] < x.nodes.length := hDlt.out _ (List.getElem_mem hlt)
      obtain ⟨bn, off, rfl, hbn, hq⟩ := (HX2.out.on HB.out).node D[j] hjn
      obtain ⟨-, -, x2⟩ := (HX2.out.on HB.out).cells.tri
      have hd0 := ((HDD.out.on HB.out).at j (by rw [HLEN.out]; exact hlt)).1
      have hd1 : (intsOf D).getD j 0 = (D[j] : Int) := by simp [intsOf, List.getD_eq_getElem?_getD, hlt]
      rw [hd1] at hd0
      obtain ⟨-, hrow, -⟩ := (HG2.out.on HB.out).row
      have hrj := hrow D[j] (by rw [HRL.out]; exact hjn)
      have HRJ := Lib.hid hrj
      obtain ⟨c0, c1, c2, c3, c4⟩ := hq
      have HS := Lib.hid (leaves_succ x.nodes R D j hlt)
      have HIS := Lib.hid (fun W => isSplit_any (nth x.nodes D[j]) W)
      have hol : (((D.take j).filter (leafB x.nodes)).map (nth R)).length ≤ j := by
        rw [List.length_map]; exact Nat.le_trans (List.length_filter_le _ _) (List.length_take_le _ _)
      clear hrow hrj hd1
      generalize D[j] = d at *
      have i1 : (d : Int) < (x.nodes.length : Int) := by omega
      have i0 : (0 : Int) ≤ (d : Int) := by omega
      have i3 : (j : Int) < (D.length : Int) := by omega
      go_wp2_with fail
      refine (HIS.out _).mono ?_
      rintro e w3 ⟨rfl, b3⟩
      have HB3 := Lib.hid (below_on HB.out b3)
      have HO3 := Lib.hid (HO.out.on b3)
      have hr3 := HRJ.out.below b3 HRJ.out.lt
      obtain ⟨d0, d1, d2, d3, d4⟩ := hr3
      clear b3 HO HB c0 c1 c2 c3 c4 x2 hd0
      cases hs : isSplitB (nth x.nodes d)
      · rw [hs] at HS
        have hsz2 := HB3.out.size
        have HNW := Lib.hid (fun j u hj => qat_new w3 (nth R d) 59 j u hj)
        have HO4 := Lib.hid (HO3.out.on (below_mk w3 (.cells #[.int .i64 (nth R d).x0, .int .i64 (nth R d).x1, .int .i64 (nth R d).x2, .int .i64 (nth R d).x3, .int .i64 (nth R d).x4] 59)))
        go_wp2_with (at_builtin; refine wpList_append_own _ rfl _ _ 34 rfl w2.heap.size 59 i0r _ 5 40 Try.underlying34 HI.out.1 HI.out.2.1 HI.out.2.2.1 HI.out.2.2.2 rfl (by decide) _ _ _ rfl HO4.out ⟨w3.heap.size, 0, none⟩ 1 1 (qC (nth R d)) rfl rfl HNW.out (qC_one _) (by unfold maxLen; omega) (by omega) (by simp; omega) ?_; intro v' w4 hown hgrow _)
        have hb4 : Below w2.heap.size w2 w4 := (below_on HB3.out (below_mk w3 _)).trans (below_of_grown hgrow (by simp; omega) (fun g hg => (HO3.out.lt g hg).1))
        exact ⟨⟨j + 1, by omega, by go_num, by rw [HS.out]; exact OwnQ.snoc hown, hb4⟩, by simp [intOf]; omega⟩
      · rw [hs] at HS
        have HE : Hid (OwnQ 59 w3 w2.heap.size u5 (((D.take (j + 1)).filter (leafB x.nodes)).map (nth R))) := Lib.hid (by rw [HS.out]; simpa using HO3.out)
        go_wp2
        exact ⟨⟨j + 1, by omega, by go_num, HE.out, HB3.out⟩, by simp [intOf]; omega⟩
    · obtain rfl : j = D.length := by omega
      rw [List.take_length] at HO
      have HE := Lib.hid (HO.out.lower (base' := w.heap.size) HB2.out.size)
      go_wp2
      go_ret
      exact ⟨_, rfl, HE.out, below_on HB2.out HB.out⟩

end Go.Proofs.Ytjopjddhgaiddaa
