/- The program's LayoutFault. -/
import Derived.Test.YtbfickdgjgbfhaaQLyImpl4
import Derived.Test.YtbfickdgjgbfhaaQLyImpl2
import Derived.Test.YtbfickdgjgbfhaaQLySpec5
import Derived.Test.YtbfickdgjgbfhaaQTakesToMem
namespace Go.Proofs.Ytbfickdgjgbfhaa
open Go.RowKit
set_option linter.unusedVariables false

set_option maxRecDepth 100000 in
set_option maxHeartbeats 4000000 in
theorem implLayoutFault_any (x : Ly) (p : Option Addr) (c : Nat) (w : World) (h : Qs w w.heap.size p x.nodes) (hl : x.nodes.length ≤ 1048576) :
    Calls Try.prog 37 #[.agg #[.int .i64 x.wide, .int .i64 x.high, .slice p x.nodes.length c]] w fun e w' => e = .returned (.int .i64 (lyFault x)) ∧ Below w.heap.size w w' := by
  have hX := LyAt.new w x p c 28 h
  unfold lyL at hX
  have HX := Lib.hid hX
  have B1 := Lib.hid (fun o => below_mk w o)
  have B2 := Lib.hid (fun o1 o2 => below_on (below_mk w o1) (below_mk (w.alloc o1) o2))
  have B3 := Lib.hid (fun o1 o2 o3 => below_on (below_on (below_mk w o1) (below_mk (w.alloc o1) o2)) (below_mk ((w.alloc o1).alloc o2) o3))
  have B4 := Lib.hid (fun o1 o2 o3 o4 => below_on (below_on (below_on (below_mk w o1) (below_mk (w.alloc o1) o2)) (below_mk ((w.alloc o1).alloc o2) o3)) (below_mk (((w.alloc o1).alloc o2).alloc o3) o4))
  clear h hX
  cases hm : inR x.nodes.length 1 11
  · rw [lyFault_many hm]
    go_enter Try.func37, Try.ntmps37
    go_wp2_with (go_at_call 74; refine (isWithin_two _ _ _ _ _ _ (by simp)).mono ?_; rw [hm]; rintro e w' ⟨rfl, rfl⟩)
    go_ret
    exact ⟨rfl, B2.out _ _⟩
  obtain ⟨m0, m1⟩ := inR_iff.1 hm
  have n2 : 0 < x.nodes.length := by omega
  cases hw : inR x.wide 1 200
  · rw [lyFault_size hm (by rw [hw]; simp)]
    go_enter Try.func37, Try.ntmps37
    go_wp2_with (go_at_call 74; refine (isWithin_two _ _ _ _ _ _ (by simp)).mono ?_; (first | rw [hm] | rw [hw]); rintro e w' ⟨rfl, rfl⟩)
    go_ret
    exact ⟨rfl, B3.out _ _ _⟩
  cases hh : inR x.high 1 200
  · rw [lyFault_size hm (by rw [hh]; simp)]
    go_enter Try.func37, Try.ntmps37
    go_wp2_with (go_at_call 74; refine (isWithin_two _ _ _ _ _ _ (by simp)).mono ?_; (first | rw [hm] | rw [hw] | rw [hh]); rintro e w' ⟨rfl, rfl⟩)
    go_ret
    exact ⟨rfl, B4.out _ _ _ _⟩
  have HBX := Lib.hid (fun o2 o3 o4 => And.intro (HX.out.on (below_on (below_on (below_mk _ o2) (below_mk _ o3)) (below_mk _ o4))) (B4.out (.cells #[.int .i64 x.wide, .int .i64 x.high, .slice p x.nodes.length c] 28) o2 o3 o4))
  go_enter Try.func37, Try.ntmps37
  go_wp2_with (go_at_call 74; refine (isWithin_two _ _ _ _ _ _ (by simp)).mono ?_; (first | rw [hm] | rw [hw] | rw [hh]); rintro e w' ⟨rfl, rfl⟩)
  refine wp_genQ (fun W => LyAt W w.heap.size x p c ∧ Below w.heap.size w W) (HBX.out _ _ _) (fun W0 hW0 => ?_)
  have HW0 := Lib.hid hW0
  clear hW0 HX B1 B2 B3 B4 HBX
  go_loopw [4, 5, 6, 31] (fun _ _ _ i wr => ∃ k : Nat, k ≤ x.nodes.length ∧ i = .int .i64 k ∧ ndsFault x.nodes.length 0 x.nodes = ndsFault x.nodes.length k (x.nodes.drop k) ∧ LyAt wr w.heap.size x p c ∧ Below w.heap.size w wr) (fun _ _ _ i _ => x.nodes.length - (intOf i).toNat)
  case atStart => exact ⟨0, by omega, rfl, by simp, HW0.out.1, HW0.out.2⟩
  case round =>
    obtain ⟨k, hk, rfl, hn, hX, hB⟩ := hrel
    have HN := Lib.hid hn
    have HX := Lib.hid hX
    have HB := Lib.hid hB
    clear hn hX hB HW0
    by_cases hlt : k < x.nodes.length
    · obtain ⟨bn, off, rfl, hbn, hq⟩ := HX.out.node k hlt
      obtain ⟨c0, c1, c2, c3, c4⟩ := hq
      have HS := Lib.hid (ndsFault_drop x.nodes.length x.nodes k hlt)
      have i1 : (k : Int) < (x.nodes.length : Int) := by omega
      have i0 : (0 : Int) ≤ (k : Int) := by omega
      have HC := Lib.hid (fun W => nodeFault_any (nth x.nodes k) k x.nodes.length W (by omega) (by omega))
      go_wp2_with fail
      refine (HC.out _).mono ?_
      rintro e w1 ⟨rfl, b1⟩
      have hb1 := below_on (below_mk wr _) b1
      have HX1 := Lib.hid (HX.out.on hb1)
      have HB1 := Lib.hid (below_on HB.out hb1)
      clear b1 hb1 c0 c1 c2 c3 c4 HX HB HC
      by_cases hf : ndFault (nth x.nodes k) k x.nodes.length = 0
      · rw [hf]
        go_wp2
        exact ⟨⟨k + 1, by omega, by go_num, by rw [HN.out, HS.out, if_pos hf], HX1.out, HB1.out⟩, by simp [intOf]; omega⟩
      · have HR : Hid (lyFault x = ndFault (nth x.nodes k) k x.nodes.length) := Lib.hid (by
          have e : ndsFault x.nodes.length 0 x.nodes = ndFault (nth x.nodes k) k x.nodes.length := by rw [HN.out, HS.out, if_neg hf]
          rw [lyFault_node hm ⟨hw, hh⟩ (by rw [e]; exact hf), e])
        have hf2 : (ndFault (nth x.nodes k) k x.nodes.length != 0) = true := by simpa using hf
        clear hf HS
        generalize ndFault (nth x.nodes k) k x.nodes.length = q at *
        go_wp2
        go_ret
        exact ⟨ret_int HR.out.symm, HB1.out⟩
    · obtain rfl : k = x.nodes.length := by omega
      have hz : ndsFault x.nodes.length 0 x.nodes = 0 := by rw [HN.out, List.drop_length]; rfl
      have hok := okay_of hz
      have HT := Lib.hid (fun h => lyFault_tree hm ⟨hw, hh⟩ hz h)
      have HF := Lib.hid (fun h => lyFault_fits hm ⟨hw, hh⟩ hz h)
      have HTR := Lib.hid (fun h => tree_of hm ⟨hw, hh⟩ hz h)
      have HO := Lib.hid hok
      clear HN hz hok hlt
      obtain ⟨x0, x1, x2⟩ := HX.out.cells.tri
      have hlt := HX.out.cells.1
      go_wp2_with fail
      refine (isTree_any x.nodes p c wr HX.out.nodes n2 (by omega) HO.out).mono ?_
      rintro e w1 ⟨rfl, b1⟩
      have HX1 := Lib.hid (HX.out.on b1)
      have HB1 := Lib.hid (below_on HB.out b1)
      clear b1 HX HB x0 x1 x2
      obtain ⟨x0, x1, x2⟩ := HX1.out.cells.tri
      cases hu : usesB x.nodes
      · have HRS := Lib.hid (HT.out (by unfold treeB; rw [hu]; rfl))
        go_wp2
        go_ret
        exact ⟨ret_int HRS.out.symm, HB1.out⟩
      · go_wp2_with fail
        refine (hasPaneTwice_any x.nodes p c w1 HX1.out.nodes n2 (by omega) HO.out).mono ?_
        rintro e w2 ⟨rfl, b2⟩
        have HX2 := Lib.hid (HX1.out.on b2)
        have HB2 := Lib.hid (below_on HB1.out b2)
        clear b2 HX1 HB1 x0 x1 x2
        obtain ⟨x0, x1, x2⟩ := HX2.out.cells.tri
        cases hd : decide (panes x.nodes).Nodup
        · have HRS := Lib.hid (HT.out (by unfold treeB; rw [hu, hd]; rfl))
          go_wp2
          go_ret
          exact ⟨ret_int HRS.out.symm, HB2.out⟩
        · have htb : treeB x.nodes = true := by unfold treeB; rw [hu, hd]; rfl
          have htr := HTR.out htb
          have HRS := Lib.hid (HF.out htb)
          have HRUN := Lib.hid htr.run
          have HTT := Lib.hid htr
          clear htr htb HTR HF HT
          go_wp2_with fail
          refine (nodeRects_any x p c w2 HX2.out.nodes HTT.out).mono ?_
          rintro e w3 ⟨hsome, hnone, b3⟩
          have HB3 := Lib.hid (below_on HB2.out b3)
          have HRUN2 := HRUN.out
          cases hr : lyRun x with
          | none =>
            obtain rfl := hnone hr
            rw [hr] at HRUN2
            have HE := Lib.hid (show lyFault x = 3 by rw [HRS.out, ← HRUN2]; simp)
            clear hsome hnone hr HRUN2 b3 x0 x1 x2
            go_wp2
            go_ret
            exact ⟨ret_int HE.out.symm, HB3.out⟩
          | some R =>
            obtain ⟨g, rfl, _⟩ := hsome R hr
            rw [hr] at HRUN2
            have HE := Lib.hid (show lyFault x = 0 by rw [HRS.out, ← HRUN2]; simp)
            clear hsome hnone hr HRUN2 b3 x0 x1 x2
            go_wp2
            go_ret
            exact ⟨ret_int HE.out.symm, HB3.out⟩

end Go.Proofs.Ytbfickdgjgbfhaa

/- The program's depthFirst and paneRects. -/
namespace Go.Proofs.Ytbfickdgjgbfhaa
open Go.RowKit
set_option linter.unusedVariables false

def intsOf (l : List Nat) : List Int := l.map fun i : Nat => (i : Int)
theorem dfs_len (ns : List Q) : ∀ (f i : Nat), (dfs ns f i).length + 1 ≤ 2 ^ f
  | 0, _ => by simp [dfs]
  | f + 1, i => by
    unfold dfs
    have h1 := dfs_len ns f (nth ns i).x3.toNat
    have h2 := dfs_len ns f (nth ns i).x4.toNat
    have h3 : 2 ^ (f + 1) = 2 ^ f + 2 ^ f := by rw [Nat.pow_succ]; omega
    split
    · simp only [List.length_cons, List.length_append]; omega
    · simp only [List.length_cons, List.length_nil]; omega

/-- numbers in memory of the call's own -/
def NewN (W : World) (l : List Int) (e : Ending) (W' : World) : Prop := ∃ v, e = .returned v ∧ OwnN W' W.heap.size v l ∧ Below W.heap.size W W'

theorem OwnN.form {w : World} {base : Nat} {v : Value} {l : List Int} (h : OwnN w base v l) : (v = .slice none 0 0 ∧ l = []) ∨ ∃ g cap, v = .slice (some ⟨g, 0, none⟩) l.length cap ∧ base ≤ g ∧ g < w.heap.size ∧ v.ownBlock = some g := by
  rcases h.2 with ⟨rfl, hn⟩ | ⟨g, cap, cur, rfl, hb, hh, _⟩
  · exact .inl ⟨rfl, List.eq_nil_of_length_eq_zero hn⟩
  · exact .inr ⟨g, cap, rfl, hb, (Array.getElem?_eq_some_iff.1 hh).1, rfl⟩
theorem OwnN.lower {w : World} {base base' : Nat} {v : Value} {l : List Int} (h : OwnN w base v l) (hb : base' ≤ base) : OwnN w base' v l := by
  refine ⟨h.1, ?_⟩
  rcases h.2 with h' | ⟨g, cap, cur, e, hg, r⟩
  · exact .inl h'
  · exact .inr ⟨g, cap, cur, e, by omega, r⟩
theorem ownN_one (W : World) (x : Int) {base g : Nat} (hb : base ≤ W.heap.size) (hg : g = W.heap.size) : OwnN (W.alloc (.cells #[.int .i64 x] 2)) base (.slice (some ⟨g, 0, none⟩) 1 1) [x] := by
  subst hg
  exact World.ownsRow_lit (e := 2) (size := 1) W #[.int .i64 x] 1 hb (by unfold maxLen; omega) (by simp)
theorem ints_one (l : List Int) : ∀ u ∈ l.map (Value.int .i64), u.oneCell' = true := by
  intro u hu
  rw [List.mem_map] at hu
  obtain ⟨x, _, rfl⟩ := hu
  rfl

theorem dfs_ne {ns : List Q} {f i : Nat} (h : 0 < f) : intsOf (dfs ns f i) ≠ [] := by
  cases f with
  | zero => omega
  | succ f => simp [dfs, intsOf]
theorem dfs_leaf {ns : List Q} {f i : Nat} (h : isSplitB (nth ns i) = false) : intsOf (dfs ns (f + 1) i) = [(i : Int)] := by simp [dfs, h, intsOf]
theorem dfs_split {ns : List Q} {f i : Nat} (h : isSplitB (nth ns i) = true) : intsOf (dfs ns (f + 1) i) = ([(i : Int)] ++ intsOf (dfs ns f (nth ns i).x3.toNat)) ++ intsOf (dfs ns f (nth ns i).x4.toNat) := by simp [dfs, h, intsOf]

set_option maxRecDepth 100000 in
set_option maxHeartbeats 4000000 in
theorem depthFirst_any (ns : List Q) (p : Option Addr) (c : Nat) (hm : ns.length ≤ 11) (ho : Okay ns) :
    ∀ (f i : Nat) (w : World), f ≤ 11 → ns.length ≤ i + f → i < ns.length → Qs w w.heap.size p ns →
    Calls Try.prog 99 #[.slice p ns.length c, .int .i64 i] w (NewN w (intsOf (dfs ns f i))) := by
  intro f
  induction f with
  | zero => intro i w _ h1 h2; omega
  | succ f ih =>
    intro i w hf hfi hi hX
    have IH := Lib.hid ih
    clear ih
    obtain ⟨bn, off, rfl, _, hbn, hc⟩ := hX (by intro e; simp [e] at hi)
    have hq := hc i hi
    have i1 : (i : Int) < (ns.length : Int) := by omega
    have i0 : (0 : Int) ≤ (i : Int) := by omega
    have HX := Lib.hid hX
    have HO1 := Lib.hid (ownN_one w (i : Int) (Nat.le_refl _) rfl)
    obtain ⟨c0, c1, c2, c3, c4⟩ := hq
    clear hX hc
    have hok := ho i hi
    have HIS := Lib.hid (fun W => isSplit_any (nth ns i) W)
    cases hs : isSplitB (nth ns i)
    · rw [dfs_leaf hs]
      rw [hs] at HIS
      clear IH hok
      go_enter Try.func99, Try.ntmps99
      go_wp2_with fail
      refine (HIS.out _).mono ?_
      rintro e w1 ⟨rfl, b1⟩
      have HB := Lib.hid (below_on (below_on (below_mk w _) (below_mk _ _)) b1)
      have HO2 := Lib.hid ((HO1.out.on (below_mk _ _)).on b1)
      clear b1 HO1 c0 c1 c2 c3 c4
      go_wp2
      go_ret
      exact ⟨_, rfl, HO2.out, HB.out⟩
    · rw [hs] at HIS
      obtain ⟨-, -, g3, g4, g5, g6⟩ := hok.split hs
      obtain ⟨ia, ha⟩ := Int.eq_ofNat_of_zero_le (show 0 ≤ (nth ns i).x3 by omega)
      obtain ⟨ib, hb⟩ := Int.eq_ofNat_of_zero_le (show 0 ≤ (nth ns i).x4 by omega)
      rw [dfs_split hs, ha, hb, Int.toNat_natCast, Int.toNat_natCast]
      have HA := Lib.hid (fun W => IH.out ia W (by omega) (by omega) (by omega))
      have HB := Lib.hid (fun W => IH.out ib W (by omega) (by omega) (by omega))
      have hla := dfs_len ns f ia
      have hlb := dfs_len ns f ib
      have hpow : 2 ^ f ≤ 2 ^ 11 := Nat.pow_le_pow_right (by omega) (by omega)
      have hpow2 : (2 : Nat) ^ 11 = 2048 := by decide
      have la : (intsOf (dfs ns f ia)).length ≤ 2048 := by simp [intsOf]; omega
      have lb : (intsOf (dfs ns f ib)).length ≤ 2048 := by simp [intsOf]; omega
      have na := Lib.hid (dfs_ne (ns := ns) (f := f) (i := ia) (by omega))
      have nb := Lib.hid (dfs_ne (ns := ns) (f := f) (i := ib) (by omega))
      have HHA := Lib.hid ha
      have HHB := Lib.hid hb
      obtain ⟨i0r, hi0r, hz0, hz1, hz2⟩ := info_parts Try.info_i64n
      have HI := Lib.hid (And.intro hi0r (And.intro hz0 (And.intro hz1 hz2)))
      clear IH hok g3 g4 g5 g6 ha hb hla hlb hpow hpow2 hi0r hz0 hz1 hz2
      generalize intsOf (dfs ns f ia) = xa at *
      generalize intsOf (dfs ns f ib) = xb at *
      go_enter Try.func99, Try.ntmps99
      go_wp2_with fail
      refine (HIS.out _).mono ?_
      rintro e w1 ⟨rfl, b1⟩
      have hb1 := below_on (below_on (below_mk w (.cells #[.int .i64 (i : Int)] 2)) (below_mk _ (.cells #[.int .i64 (nth ns i).x0, .int .i64 (nth ns i).x1, .int .i64 (nth ns i).x2, .int .i64 (nth ns i).x3, .int .i64 (nth ns i).x4] 76))) b1
      have HBB := Lib.hid hb1
      have HO2 := Lib.hid ((HO1.out.on (below_mk _ (.cells #[.int .i64 (nth ns i).x0, .int .i64 (nth ns i).x1, .int .i64 (nth ns i).x2, .int .i64 (nth ns i).x3, .int .i64 (nth ns i).x4] 76))).on b1)
      have X := ((AtL.new (w.alloc (.cells #[.int .i64 (i : Int)] 2)) [.int .i64 (nth ns i).x0, .int .i64 (nth ns i).x1, .int .i64 (nth ns i).x2, .int .i64 (nth ns i).x3, .int .i64 (nth ns i).x4] 76)).on b1
      rw [World.size_alloc] at X
      rw [HHA.out, HHB.out] at X
      have HX1 := Lib.hid X
      obtain ⟨d0, d1, d2, d3, d4⟩ := X.five
      clear b1 hb1 HO1 c0 c1 c2 c3 c4 X
      go_wp2_with fail
      refine (HA.out _ (HX.out.on HBB.out)).mono ?_
      rintro e w2 ⟨va, rfl, oa, b2⟩
      have HO3 := Lib.hid (HO2.out.on b2)
      have HB2 := Lib.hid (below_on HBB.out b2)
      have HXa := Lib.hid (HX1.out.on b2)
      have HOA := Lib.hid oa
      have hsz := HB2.out.size
      rcases oa.form with ⟨-, hx0⟩ | ⟨ga, ca, rfl, hga, hgal, hgo⟩
      · exact absurd hx0 na.out
      have hca := World.ownsRow.cells oa hgo
      obtain ⟨d0, d1, d2, d3, d4⟩ := HXa.out.five
      clear oa b2 HX1 HO2 HBB na
      go_wp2_with (at_builtin; refine wpList_append_own _ rfl _ _ 114 rfl w.heap.size 2 i0r _ 1 8 Try.underlying114 HI.out.1 HI.out.2.1 HI.out.2.2.1 HI.out.2.2.2 rfl (by decide) _ _ _ rfl HO3.out ⟨ga, 0, none⟩ xa.length ca (xa.map (Value.int .i64)) rfl (by simp) hca (ints_one xa) (by unfold maxLen; simp; omega) (by simp; omega) (by omega) ?_; intro v' w3 hown hgrow _; have hg2 : w2.grownBy w3 (some w.heap.size) := hgrow; have X3 := HXa.out.far hg2 (by simp); have hlt3 := X3.1; obtain ⟨e0, e1, e2, e3, e4⟩ := X3.five; have hB3 := HB2.out.trans (below_of_grown hgrow HB2.out.size (fun g hg => (HO3.out.lt g hg).1)); have HB3 := Lib.hid hB3; have HO4 : Hid (OwnN w3 w.heap.size v' ([(i : Int)] ++ xa)) := Lib.hid (by unfold OwnN; rw [List.length_append, List.map_append]; exact hown); clear d0 d1 d2 d3 d4 hca hown hgrow hg2 X3 hB3)
      refine (HB.out w3 (HX.out.on HB3.out)).mono ?_
      rintro e w4 ⟨vb, rfl, ob, b4⟩
      have HO5 := Lib.hid (HO4.out.on b4)
      have HB4 := Lib.hid (below_on HB3.out b4)
      have hsz4 := HB4.out.size
      rcases ob.form with ⟨-, hx0⟩ | ⟨gb, cb, rfl, hgb, hgbl, hgob⟩
      · exact absurd hx0 nb.out
      have hcb := World.ownsRow.cells ob hgob
      clear ob b4 nb e0 e1 e2 e3 e4
      go_wp2_with (at_builtin; refine wpList_append_own _ rfl _ _ 114 rfl w.heap.size 2 i0r _ 1 8 Try.underlying114 HI.out.1 HI.out.2.1 HI.out.2.2.1 HI.out.2.2.2 rfl (by decide) _ _ _ rfl HO5.out ⟨gb, 0, none⟩ xb.length cb (xb.map (Value.int .i64)) rfl (by simp) hcb (ints_one xb) (by unfold maxLen; simp; omega) (by simp; omega) (by omega) ?_; intro v5 w5 hown hgrow _)
      go_ret
      have hh : OwnN w5 w.heap.size v5 (([(i : Int)] ++ xa) ++ xb) := by unfold OwnN; rw [List.length_append, List.map_append]; exact hown
      exact ⟨_, rfl, by simpa using hh, HB4.out.trans (below_of_grown hgrow HB4.out.size (fun g hg => (HO5.out.lt g hg).1))⟩

/-- places in memory of the call's own -/
def NewR (W : World) (l : List Q) (e : Ending) (W' : World) : Prop := ∃ v, e = .returned v ∧ OwnQ 69 W' W.heap.size v l ∧ Below W.heap.size W W'

theorem qat_new (w : World) (q : Q) (t : TypeId) : ∀ j u, (qC q)[j]? = some u → (w.alloc (.cells #[.int .i64 q.x0, .int .i64 q.x1, .int .i64 q.x2, .int .i64 q.x3, .int .i64 q.x4] t)).cell? ((⟨w.heap.size, 0, none⟩ : Addr).add j) = some u := by
  intro j u hj
  have ea : (⟨w.heap.size, 0, none⟩ : Addr).add j = ⟨w.heap.size, j, none⟩ := by simp [Addr.add]; omega
  rw [ea]
  exact (AtL.new w (qC q) t).get j hj
theorem leaves_succ (ns R : List Q) (D : List Nat) (j : Nat) (h : j < D.length) : ((D.take (j + 1)).filter (leafB ns)).map (nth R) = ((D.take j).filter (leafB ns)).map (nth R) ++ if isSplitB (nth ns D[j]) = true then [] else [nth R D[j]] := by
  rw [List.take_succ_eq_append_getElem h, List.filter_append, List.map_append]
  by_cases hs : isSplitB (nth ns D[j]) = true
  · simp [leafB, hs]
  · simp [leafB, hs]

set_option maxRecDepth 100000 in
set_option maxHeartbeats 4000000 in
theorem paneRects_any (x : Ly) (p : Option Addr) (c : Nat) (w : World) (h : Qs w w.heap.size p x.nodes) (ht : Tree x) (R : List Q) (hr : lyRun x = some R) :
    Calls Try.prog 77 #[.agg #[.int .i64 x.wide, .int .i64 x.high, .slice p x.nodes.length c]] w (NewR w (lyRects x)) := by
  rw [ht.rects hr]
  have hX := LyAt.new w x p c 28 h
  unfold lyL at hX
  have HX := Lib.hid hX
  have hinv := ht.some hr
  have HRL := Lib.hid hinv.len
  have HT := Lib.hid ht
  have n0 := ht.n0
  have n1 := ht.n1
  have HR := Lib.hid (fun W h => nodeRects_any x p c W h ht)
  rw [hr] at HR
  have HD := Lib.hid (fun W h => depthFirst_any x.nodes p c ht.n1 ht.okay x.nodes.length 0 W (by omega) (by omega) ht.n0 h)
  have hdl := dfs_len x.nodes x.nodes.length 0
  have hpow : 2 ^ x.nodes.length ≤ 2 ^ 11 := Nat.pow_le_pow_right (by omega) (by omega)
  have hpow2 : (2 : Nat) ^ 11 = 2048 := by decide
  have hDne := Lib.hid (dfs_ne (ns := x.nodes) (f := x.nodes.length) (i := 0) (by omega))
  have hDlt := Lib.hid (dfs_lt ht.okay x.nodes.length 0 ht.n0)
  have dl : (dfs x.nodes x.nodes.length 0).length ≤ 2048 := by omega
  unfold leaves
  clear h ht hX hr hinv hdl hpow hpow2
  generalize dfs x.nodes x.nodes.length 0 = D at *
  obtain ⟨i0r, hi0r, hz0, hz1, hz2⟩ := info_parts Try.info_rect
  have HI := Lib.hid (And.intro hi0r (And.intro hz0 (And.intro hz1 hz2)))
  clear hi0r hz0 hz1 hz2
  go_enter Try.func77, Try.ntmps77
  go_wp2_with fail
  refine (HR.out _ HX.out.nodes).mono ?_
  rintro e w1 ⟨hsome, -, b1⟩
  obtain ⟨g, rfl, og⟩ := hsome R rfl
  have HX1 := Lib.hid (HX.out.on b1)
  have HB1 := Lib.hid (below_on (below_mk w _) b1)
  have HG1 := Lib.hid og
  obtain ⟨x0, x1, x2⟩ := HX1.out.cells.tri
  have hxl := HX1.out.cells.1
  clear hsome b1 og HR HX
  go_wp2_with fail
  refine (HD.out w1 HX1.out.nodes).mono ?_
  rintro e w2 ⟨vd, rfl, od, b2⟩
  have HX2 := Lib.hid (HX1.out.on b2)
  have HB2 := Lib.hid (below_on HB1.out b2)
  have HG2 := Lib.hid (HG1.out.on b2)
  have HDD := Lib.hid od
  rcases od.form with ⟨-, hx0⟩ | ⟨gd, cd, rfl, hgd, hgdl, hgod⟩
  · exact absurd hx0 hDne.out
  clear od b2 HX1 HB1 HG1 x0 x1 x2 hxl HD
  have hgl := (HG2.out.lt g rfl).2
  have hlen : (intsOf D).length = D.length := by simp [intsOf]
  have HLEN := Lib.hid hlen
  rw [hlen]
  rw [hlen] at HDD
  clear hlen
  go_wp2
  go_loopw [5, 7, 17] (fun v _ i wr => ∃ j : Nat, j ≤ D.length ∧ i = .int .i64 j ∧ OwnQ 69 wr w2.heap.size v (((D.take j).filter (leafB x.nodes)).map (nth R)) ∧ Below w2.heap.size w2 wr) (fun _ _ i _ => D.length - (intOf i).toNat)
  case atStart => exact ⟨0, by omega, rfl, by simpa using ownQ_nil _ _ _, Below.refl _ _⟩
  case round =>
    obtain ⟨j, hj, rfl, ho, hb⟩ := hrel
    have HO := Lib.hid ho
    have HB := Lib.hid hb
    clear ho hb
    by_cases hlt : j < D.length
    · have hjn : D[j] < x.nodes.length := hDlt.out _ (List.getElem_mem hlt)
      obtain ⟨bn, off, rfl, hbn, hq⟩ := (HX2.out.on HB.out).node D[j] hjn
      obtain ⟨-, -, x2⟩ := (HX2.out.on HB.out).cells.tri
      have hd0 := ((HDD.out.on HB.out).at j (by rw [HLEN.out]; exact hlt)).1
      have hd1 : (intsOf D).getD j 0 = (D[j] : Int) := by simp [intsOf, List.getD_eq_getElem?_getD, hlt]
      rw [hd1] at hd0
      obtain ⟨-, hrow, -⟩ := (HG2.out.on HB.out).row
      have hrj := hrow D[j] (by rw [HRL.out]; exact hjn)
      have HRJ := Lib.hid hrj
      obtain ⟨c0, c1, c2, c3, c4⟩ := hq
      have HS := Lib.hid (leaves_succ x.nodes R D j hlt)
      have HIS := Lib.hid (fun W => isSplit_any (nth x.nodes D[j]) W)
      have hol : (((D.take j).filter (leafB x.nodes)).map (nth R)).length ≤ j := by
        rw [List.length_map]; exact Nat.le_trans (List.length_filter_le _ _) (List.length_take_le _ _)
      clear hrow hrj hd1
      generalize D[j] = d at *
      have i1 : (d : Int) < (x.nodes.length : Int) := by omega
      have i0 : (0 : Int) ≤ (d : Int) := by omega
      have i3 : (j : Int) < (D.length : Int) := by omega
      go_wp2_with fail
      refine (HIS.out _).mono ?_
      rintro e w3 ⟨rfl, b3⟩
      have HB3 := Lib.hid (below_on HB.out b3)
      have HO3 := Lib.hid (HO.out.on b3)
      have hr3 := HRJ.out.below b3 HRJ.out.lt
      obtain ⟨d0, d1, d2, d3, d4⟩ := hr3
      clear b3 HO HB c0 c1 c2 c3 c4 x2 hd0
      cases hs : isSplitB (nth x.nodes d)
      · rw [hs] at HS
        have hsz2 := HB3.out.size
        have HNW := Lib.hid (fun j u hj => qat_new w3 (nth R d) 69 j u hj)
        have HO4 := Lib.hid (HO3.out.on (below_mk w3 (.cells #[.int .i64 (nth R d).x0, .int .i64 (nth R d).x1, .int .i64 (nth R d).x2, .int .i64 (nth R d).x3, .int .i64 (nth R d).x4] 69)))
        go_wp2_with (at_builtin; refine wpList_append_own _ rfl _ _ 58 rfl w2.heap.size 69 i0r _ 5 40 Try.underlying58 HI.out.1 HI.out.2.1 HI.out.2.2.1 HI.out.2.2.2 rfl (by decide) _ _ _ rfl HO4.out ⟨w3.heap.size, 0, none⟩ 1 1 (qC (nth R d)) rfl rfl HNW.out (qC_one _) (by unfold maxLen; omega) (by omega) (by simp; omega) ?_; intro v' w4 hown hgrow _)
        have hb4 : Below w2.heap.size w2 w4 := (below_on HB3.out (below_mk w3 _)).trans (below_of_grown hgrow (by simp; omega) (fun g hg => (HO3.out.lt g hg).1))
        exact ⟨⟨j + 1, by omega, by go_num, by rw [HS.out]; exact OwnQ.snoc hown, hb4⟩, by simp [intOf]; omega⟩
      · rw [hs] at HS
        have HE : Hid (OwnQ 69 w3 w2.heap.size u5 (((D.take (j + 1)).filter (leafB x.nodes)).map (nth R))) := Lib.hid (by rw [HS.out]; simpa using HO3.out)
        go_wp2
        exact ⟨⟨j + 1, by omega, by go_num, HE.out, HB3.out⟩, by simp [intOf]; omega⟩
    · obtain rfl : j = D.length := by omega
      rw [List.take_length] at HO
      have HE := Lib.hid (HO.out.lower (base' := w.heap.size) HB2.out.size)
      go_wp2
      go_ret
      exact ⟨_, rfl, HE.out, below_on HB2.out HB.out⟩

end Go.Proofs.Ytbfickdgjgbfhaa

/- RectsOf, RectOf, HasPane of the program and of the model. -/
namespace Go.Proofs.Ytbfickdgjgbfhaa
open Go.RowKit
set_option linter.unusedVariables false

def rrV (c : Int) (v : Value) : Value := .agg #[.int .i64 c, v]
def rrOf (x : Ly) : Int × List Q := if lyFault x = 0 then (0, lyRects x) else (lyFault x, [])
def findQ (pn : Int) : List Q → List Q
  | [] => []
  | r :: t => if r.x0 == pn then [r] else findQ pn t
def roOf (x : Ly) (pn : Int) : Int × List Q := if lyFault x = 0 then (if (findQ pn (lyRects x)).isEmpty then (4, []) else (0, findQ pn (lyRects x))) else (lyFault x, [])
def lyHas (x : Ly) (pn : Int) : Bool := decide (lyFault x = 0) && hasB x.nodes pn

/-- what a call leaves that hands back a RectsResult in memory of its own -/
def NewRr (w : World) (r : Int × List Q) (e : Ending) (w' : World) : Prop := ∃ v, e = .returned (rrV r.1 v) ∧ OwnQ 69 w' w.heap.size v r.2 ∧ Below w.heap.size w w'
/-- .. in memory that nobody else had -/
def NewRx (w : World) (r : Int × List Q) (e : Ending) (w' : World) : Prop := ∃ p c, e = .returned (rrV r.1 (.slice p r.2.length c)) ∧ Qx w' w.heap.size w'.heap.size p r.2 ∧ Below w.heap.size w w'

theorem AtL.two {w : World} {b : Nat} {v0 v1 : Value} (h : AtL w b [v0, v1]) : w.cell? ⟨b, 0, none⟩ = some v0 ∧ w.cell? ⟨b, 1, none⟩ = some v1 := ⟨h.get 0 rfl, h.get 1 rfl⟩
theorem rr_own {w W : World} {v : Value} {l : List Q} {B : Nat} (ho : OwnQ 69 W B v l) (hB : w.heap.size + 1 < B) (hb : Below w.heap.size w W) (u0 u1 : Value) :
    OwnQ 69 ((W.setCell ⟨w.heap.size + 1, 0, none⟩ u0).setCell ⟨w.heap.size + 1, 1, none⟩ u1) w.heap.size v l ∧ Below w.heap.size w ((W.setCell ⟨w.heap.size + 1, 0, none⟩ u0).setCell ⟨w.heap.size + 1, 1, none⟩ u1) :=
  ⟨((ho.setBelow (by exact hB) u0).setBelow (by exact hB) u1).lower (by omega), (hb.setCell (by show w.heap.size ≤ w.heap.size + 1; omega) u0).setCell (by show w.heap.size ≤ w.heap.size + 1; omega) u1⟩
theorem rr_low {w W : World} (hb : Below w.heap.size w W) (u0 u1 : Value) : Below w.heap.size w ((W.setCell ⟨w.heap.size + 1, 0, none⟩ u0).setCell ⟨w.heap.size + 1, 1, none⟩ u1) :=
  (hb.setCell (by show w.heap.size ≤ w.heap.size + 1; omega) u0).setCell (by show w.heap.size ≤ w.heap.size + 1; omega) u1

/-- the layout boxed, and the cell of the answer -/
structure TwoAt (w : World) (x : Ly) (p : Option Addr) (c : Nat) (W : World) : Prop where
  ly : LyAt W w.heap.size x p c
  res : AtM W (w.heap.size + 1) [.int .i64 0, .slice none 0 0]
  below : Below w.heap.size w W
theorem TwoAt.on {w W W' : World} {x : Ly} {p : Option Addr} {c : Nat} (h : TwoAt w x p c W) (hb : Below W.heap.size W W') : TwoAt w x p c W' := ⟨h.ly.on hb, h.res.on hb, below_on h.below hb⟩
theorem TwoAt.start (w : World) (x : Ly) (p : Option Addr) (c : Nat) (t t' : TypeId) (h : Qs w w.heap.size p x.nodes) : TwoAt w x p c ((w.alloc (.cells #[.int .i64 x.wide, .int .i64 x.high, .slice p x.nodes.length c] t)).alloc (.cells #[.int .i64 0, .slice none 0 0] t')) := by
  have hX := (LyAt.new w x p c t h).on (below_mk _ (.cells #[.int .i64 0, .slice none 0 0] t'))
  have hR := AtM.new (w.alloc (.cells (lyL x p c).toArray t)) [.int .i64 0, .slice none 0 0] t'
  rw [World.size_alloc] at hR
  exact ⟨hX, hR, below_on (below_mk _ _) (below_mk _ _)⟩

set_option maxRecDepth 100000 in
set_option maxHeartbeats 2000000 in
theorem implRectsOf_any (x : Ly) (p : Option Addr) (c : Nat) (w : World) (h : Qs w w.heap.size p x.nodes) (hl : x.nodes.length ≤ 1048576) :
    Calls Try.prog 36 #[.agg #[.int .i64 x.wide, .int .i64 x.high, .slice p x.nodes.length c]] w (NewRr w (rrOf x)) := by
  have HX := Lib.hid (TwoAt.start w x p c 28 60 h)
  have HF := Lib.hid (fun W h => implLayoutFault_any x p c W h hl)
  clear h
  by_cases hf : lyFault x = 0
  · have e : rrOf x = (0, lyRects x) := by unfold rrOf; rw [if_pos hf]
    rw [e]
    rw [hf] at HF
    obtain ⟨R, hr, ht, -⟩ := run_of_fault hf
    have HP := Lib.hid (fun W h => paneRects_any x p c W h ht R hr)
    clear hf e hr ht
    go_enter Try.func36, Try.ntmps36
    go_wp2_with fail
    refine (HF.out _ HX.out.ly.nodes).mono ?_
    rintro e w1 ⟨rfl, b1⟩
    have HX1 := Lib.hid (HX.out.on b1)
    obtain ⟨x0, x1, x2⟩ := HX1.out.ly.cells.tri
    clear b1 HX
    go_wp2_with fail
    refine (HP.out w1 HX1.out.ly.nodes).mono ?_
    rintro e w2 ⟨v, rfl, ov, b2⟩
    have HX2 := Lib.hid (HX1.out.on b2)
    obtain ⟨z0, z1⟩ := HX2.out.res.cells.two
    have zf := HX2.out.res.free
    have hsz := HX1.out.res.cells.1
    obtain ⟨pv, cv, rfl⟩ := ov.slice
    have HV := Lib.hid ov
    clear b2 ov x0 x1 x2
    go_wp2
    obtain ⟨q1, q2⟩ := rr_own (w := w) HV.out (by omega) HX2.out.below (.int .i64 0) (.slice pv (lyRects x).length cv)
    exact bodyPost_ret (v := rrV 0 (.slice pv (lyRects x).length cv)) (by simp [results, Try.results36, rrV, go_sem, z0, z1]) rfl ⟨_, rfl, q1, q2⟩
  · have e : rrOf x = (lyFault x, []) := by unfold rrOf; rw [if_neg hf]
    rw [e]
    have hf2 : (lyFault x != 0) = true := by simpa using hf
    clear hf e
    generalize lyFault x = k at *
    go_enter Try.func36, Try.ntmps36
    go_wp2_with fail
    refine (HF.out _ HX.out.ly.nodes).mono ?_
    rintro e w1 ⟨rfl, b1⟩
    have HX1 := Lib.hid (HX.out.on b1)
    obtain ⟨z0, z1⟩ := HX1.out.res.cells.two
    have zf := HX1.out.res.free
    clear b1 HX
    go_wp2
    exact bodyPost_ret (v := rrV k (.slice none 0 0)) (by simp [results, Try.results36, rrV, go_sem, z0, z1]) rfl ⟨_, rfl, ownQ_nil _ _ _, rr_low HX1.out.below _ _⟩

set_option maxRecDepth 100000 in
set_option maxHeartbeats 2000000 in
theorem specRectsOf_any (x : Ly) (p : Option Addr) (c : Nat) (w : World) (h : Qs w w.heap.size p x.nodes) (hl : x.nodes.length ≤ 1048576) :
    Calls Try.prog 45 #[.agg #[.int .i64 x.wide, .int .i64 x.high, .slice p x.nodes.length c]] w (NewRr w (rrOf x)) := by
  have HX := Lib.hid (TwoAt.start w x p c 28 60 h)
  have HF := Lib.hid (fun W h => specLayoutFault_any x p c W h hl)
  clear h
  by_cases hf : lyFault x = 0
  · have e : rrOf x = (0, lyRects x) := by unfold rrOf; rw [if_pos hf]
    rw [e]
    rw [hf] at HF
    obtain ⟨R, hr, ht, -⟩ := run_of_fault hf
    have HP := Lib.hid (fun b W h => l6All_any x p c b W h ht.n0 ht.n1 ht.okay ht.wide ht.high)
    clear hf e hr ht
    go_enter Try.func45, Try.ntmps45
    go_wp2_with fail
    refine (HF.out _ HX.out.ly.nodes).mono ?_
    rintro e w1 ⟨rfl, b1⟩
    have HX1 := Lib.hid (HX.out.on b1)
    obtain ⟨x0, x1, x2⟩ := HX1.out.ly.cells.tri
    clear b1 HX
    go_wp2_with fail
    refine (HP.out _ w1 HX1.out.ly).mono ?_
    rintro e w2 ⟨v, rfl, ov, b2⟩
    have HX2 := Lib.hid (HX1.out.on b2)
    obtain ⟨z0, z1⟩ := HX2.out.res.cells.two
    have zf := HX2.out.res.free
    have hsz := HX1.out.res.cells.1
    obtain ⟨pv, cv, rfl⟩ := ov.slice
    have HV := Lib.hid ov
    clear b2 ov x0 x1 x2
    go_wp2
    obtain ⟨q1, q2⟩ := rr_own (w := w) HV.out (by omega) HX2.out.below (.int .i64 0) (.slice pv (lyRects x).length cv)
    exact bodyPost_ret (v := rrV 0 (.slice pv (lyRects x).length cv)) (by simp [results, Try.results45, rrV, go_sem, z0, z1]) rfl ⟨_, rfl, q1, q2⟩
  · have e : rrOf x = (lyFault x, []) := by unfold rrOf; rw [if_neg hf]
    rw [e]
    have hf2 : (lyFault x != 0) = true := by simpa using hf
    clear hf e
    generalize lyFault x = k at *
    go_enter Try.func45, Try.ntmps45
    go_wp2_with fail
    refine (HF.out _ HX.out.ly.nodes).mono ?_
    rintro e w1 ⟨rfl, b1⟩
    have HX1 := Lib.hid (HX.out.on b1)
    obtain ⟨z0, z1⟩ := HX1.out.res.cells.two
    have zf := HX1.out.res.free
    clear b1 HX
    go_wp2
    exact bodyPost_ret (v := rrV k (.slice none 0 0)) (by simp [results, Try.results45, rrV, go_sem, z0, z1]) rfl ⟨_, rfl, ownQ_nil _ _ _, rr_low HX1.out.below _ _⟩

end Go.Proofs.Ytbfickdgjgbfhaa

/- RectOf of the program and of the model. -/
namespace Go.Proofs.Ytbfickdgjgbfhaa
open Go.RowKit
set_option linter.unusedVariables false

theorem OwnQ.cap {T : TypeId} {w : World} {base : Nat} {p : Option Addr} {n c : Nat} {l : List Q} (h : OwnQ T w base (.slice p n c) l) : l.length ≤ c := by
  rcases h.2 with ⟨e, hn⟩ | ⟨g, cap, cur, e, hb, hh, hc, _⟩
  · simp at e; omega
  · simp at e; omega
theorem qx_row {w wr : World} {lo : Nat} {bn off : Nat} {L : List Q} {j : Nat} {u0 u1 : Value} (h : Qx wr lo wr.heap.size (some ⟨bn, off, none⟩) L) (hj : j < L.length) (h1 : w.heap.size + 1 < lo) (h2 : w.heap.size ≤ lo) :
    Qx ((wr.setCell ⟨w.heap.size + 1, 0, none⟩ u0).setCell ⟨w.heap.size + 1, 1, none⟩ u1) w.heap.size ((wr.setCell ⟨w.heap.size + 1, 0, none⟩ u0).setCell ⟨w.heap.size + 1, 1, none⟩ u1).heap.size (some ⟨bn, off + j * 5, none⟩) [nth L j] := by
  intro _
  obtain ⟨b, o, e, hlo, hhi, hc⟩ := h (by intro e; simp [e] at hj)
  simp at e
  obtain ⟨rfl, rfl⟩ := e
  refine ⟨bn, off + j * 5, rfl, by omega, by simpa using hhi, fun i hi => ?_⟩
  obtain rfl : i = 0 := by simpa using hi
  have hq := hc j hj
  refine QAt.keep (w := wr) (by simpa [nth] using hq) fun o => ?_
  exact (World.cell?_setCell_far _ _ _ _ (by simp; omega)).trans (World.cell?_setCell_far _ _ _ _ (by simp; omega))
theorem findQ_drop (pn : Int) (L : List Q) (j : Nat) (h : j < L.length) : findQ pn (L.drop j) = if (nth L j).x0 == pn then [nth L j] else findQ pn (L.drop (j + 1)) := by
  rw [List.drop_eq_getElem_cons h, findQ, nth_eq h]
theorem ro_found {x : Ly} {pn : Int} {r : Q} (hf : lyFault x = 0) (h : findQ pn (lyRects x) = [r]) : roOf x pn = (0, [r]) := by unfold roOf; rw [if_pos hf, h]; rfl
theorem ro_none {x : Ly} {pn : Int} (hf : lyFault x = 0) (h : findQ pn (lyRects x) = []) : roOf x pn = (4, []) := by unfold roOf; rw [if_pos hf, h]; rfl
theorem ro_fault {x : Ly} {pn : Int} (hf : lyFault x ≠ 0) : roOf x pn = (lyFault x, []) := by unfold roOf; rw [if_neg hf]

set_option maxRecDepth 100000 in
set_option maxHeartbeats 4000000 in
theorem implRectOf_any (x : Ly) (pn : Int) (p : Option Addr) (c : Nat) (w : World) (h : Qs w w.heap.size p x.nodes) (hl : x.nodes.length ≤ 1048576) :
    Calls Try.prog 40 #[.agg #[.int .i64 x.wide, .int .i64 x.high, .slice p x.nodes.length c], .int .i64 pn] w (NewRr w (roOf x pn)) := by
  have HX := Lib.hid (TwoAt.start w x p c 28 60 h)
  have HF := Lib.hid (fun W h => implLayoutFault_any x p c W h hl)
  clear h
  by_cases hf : lyFault x = 0
  · have HRF := Lib.hid (fun r => ro_found (x := x) (pn := pn) (r := r) hf)
    have HRN := Lib.hid (ro_none (x := x) (pn := pn) hf)
    rw [hf] at HF
    obtain ⟨R, hr, ht, -⟩ := run_of_fault hf
    have HP := Lib.hid (fun W h => paneRects_any x p c W h ht R hr)
    have hrl := rcOf_len x.nodes x.nodes.length 0 (whole x.wide x.high)
    have hpow : 2 ^ x.nodes.length ≤ 2 ^ 11 := Nat.pow_le_pow_right (by omega) ht.n1
    have hpow2 : (2 : Nat) ^ 11 = 2048 := by decide
    have hll : (lyRects x).length ≤ 2048 := by unfold lyRects; omega
    clear hf hr ht hrl hpow hpow2
    generalize lyRects x = L at *
    generalize roOf x pn = ro at *
    go_enter Try.func40, Try.ntmps40
    go_wp2_with fail
    refine (HF.out _ HX.out.ly.nodes).mono ?_
    rintro e w1 ⟨rfl, b1⟩
    have HX1 := Lib.hid (HX.out.on b1)
    obtain ⟨x0, x1, x2⟩ := HX1.out.ly.cells.tri
    clear b1 HX
    go_wp2_with fail
    refine (HP.out w1 HX1.out.ly.nodes).mono ?_
    rintro e w2 ⟨v, rfl, ov, b2⟩
    have HX2 := Lib.hid (HX1.out.on b2)
    have hsz := HX1.out.res.cells.1
    have hsz2 := b2.size
    obtain ⟨pv, cv, rfl⟩ := ov.slice
    have HV := Lib.hid ov.bs.2
    clear b2 ov x0 x1 x2 HX1 HP
    go_wp2
    go_loopw [7, 17] (fun _ i wr => ∃ j : Nat, j ≤ L.length ∧ i = .int .i64 j ∧ findQ pn L = findQ pn (L.drop j) ∧ Below w2.heap.size w2 wr) (fun _ i _ => L.length - (intOf i).toNat)
    case atStart => exact ⟨0, by omega, rfl, rfl, Below.refl _ _⟩
    case round =>
      obtain ⟨j, hj, rfl, hs, hb⟩ := hrel
      have HS := Lib.hid hs
      have HB := Lib.hid hb
      clear hs hb
      by_cases hlt : j < L.length
      · obtain ⟨bn, off, rfl, _, hbn, hc⟩ := (HV.out.on HB.out) (by intro e; simp [e] at hlt)
        obtain ⟨c0, c1, c2, c3, c4⟩ := hc j hlt
        have i3 : (j : Int) < (L.length : Int) := by omega
        have i0 : (0 : Int) ≤ (j : Int) := by omega
        have HD := Lib.hid (findQ_drop pn L j hlt)
        clear hc
        cases hq : ((nth L j).x0 == pn)
        · go_wp2
          exact ⟨⟨j + 1, by omega, by go_num, by rw [HS.out, HD.out, hq]; rfl, below_on HB.out (below_mk _ _)⟩, by simp [intOf]; omega⟩
        · have HE := Lib.hid (HRF.out (nth L j) (by rw [HS.out, HD.out, hq]; rfl))
          have hX3 := (HX2.out.on HB.out).on (below_on (below_mk wr (.cells #[.int .i64 (nth L j).x0, .int .i64 (nth L j).x1, .int .i64 (nth L j).x2, .int .i64 (nth L j).x3, .int .i64 (nth L j).x4] 69)) (below_mk _ (.cells #[.int .i64 (nth L j).x0, .int .i64 (nth L j).x1, .int .i64 (nth L j).x2, .int .i64 (nth L j).x3, .int .i64 (nth L j).x4] 69)))
          have hO := ownQ_one 69 (wr.alloc (.cells #[.int .i64 (nth L j).x0, .int .i64 (nth L j).x1, .int .i64 (nth L j).x2, .int .i64 (nth L j).x3, .int .i64 (nth L j).x4] 69)) (nth L j) (Nat.le_refl _) rfl
          rw [World.size_alloc] at hO
          have HX3 := Lib.hid hX3
          have HO := Lib.hid hO
          obtain ⟨z0, z1⟩ := hX3.res.cells.two
          have zf := hX3.res.free
          have hsz3 := HB.out.size
          clear hX3 hO
          go_wp2
          rw [HE.out]
          obtain ⟨q1, q2⟩ := rr_own (w := w) HO.out (by omega) HX3.out.below (.int .i64 0) (.slice (some ⟨wr.heap.size + 1, 0, none⟩) 1 1)
          exact bodyPost_ret (v := rrV 0 (.slice (some ⟨wr.heap.size + 1, 0, none⟩) 1 1)) (by simp [results, Try.results40, rrV, go_sem, z0, z1]) rfl ⟨_, rfl, q1, q2⟩
      · obtain rfl : j = L.length := by omega
        have HE := Lib.hid (HRN.out (by rw [HS.out, List.drop_length]; rfl))
        have HX3 := Lib.hid (HX2.out.on HB.out)
        obtain ⟨z0, z1⟩ := HX3.out.res.cells.two
        have zf := HX3.out.res.free
        go_wp2
        rw [HE.out]
        exact bodyPost_ret (v := rrV 4 (.slice none 0 0)) (by simp [results, Try.results40, rrV, go_sem, z0, z1]) rfl ⟨_, rfl, ownQ_nil _ _ _, rr_low HX3.out.below _ _⟩
  · rw [ro_fault hf]
    have hf2 : (lyFault x != 0) = true := by simpa using hf
    clear hf
    generalize lyFault x = k at *
    go_enter Try.func40, Try.ntmps40
    go_wp2_with fail
    refine (HF.out _ HX.out.ly.nodes).mono ?_
    rintro e w1 ⟨rfl, b1⟩
    have HX1 := Lib.hid (HX.out.on b1)
    obtain ⟨z0, z1⟩ := HX1.out.res.cells.two
    have zf := HX1.out.res.free
    clear b1 HX
    go_wp2
    exact bodyPost_ret (v := rrV k (.slice none 0 0)) (by simp [results, Try.results40, rrV, go_sem, z0, z1]) rfl ⟨_, rfl, ownQ_nil _ _ _, rr_low HX1.out.below _ _⟩

set_option maxRecDepth 100000 in
set_option maxHeartbeats 4000000 in
theorem specRectOf_any (x : Ly) (pn : Int) (p : Option Addr) (c : Nat) (w : World) (h : Qs w w.heap.size p x.nodes) (hl : x.nodes.length ≤ 1048576) :
    Calls Try.prog 46 #[.agg #[.int .i64 x.wide, .int .i64 x.high, .slice p x.nodes.length c], .int .i64 pn] w (NewRx w (roOf x pn)) := by
  have HX := Lib.hid (TwoAt.start w x p c 28 60 h)
  have HF := Lib.hid (fun W h => specLayoutFault_any x p c W h hl)
  clear h
  by_cases hf : lyFault x = 0
  · have HRF := Lib.hid (fun r => ro_found (x := x) (pn := pn) (r := r) hf)
    have HRN := Lib.hid (ro_none (x := x) (pn := pn) hf)
    rw [hf] at HF
    obtain ⟨R, hr, ht, -⟩ := run_of_fault hf
    have HP := Lib.hid (fun b W h => l6All_any x p c b W h ht.n0 ht.n1 ht.okay ht.wide ht.high)
    have hrl := rcOf_len x.nodes x.nodes.length 0 (whole x.wide x.high)
    have hpow : 2 ^ x.nodes.length ≤ 2 ^ 11 := Nat.pow_le_pow_right (by omega) ht.n1
    have hpow2 : (2 : Nat) ^ 11 = 2048 := by decide
    have hll : (lyRects x).length ≤ 2048 := by unfold lyRects; omega
    clear hf hr ht hrl hpow hpow2
    generalize lyRects x = L at *
    generalize roOf x pn = ro at *
    go_enter Try.func46, Try.ntmps46
    go_wp2_with fail
    refine (HF.out _ HX.out.ly.nodes).mono ?_
    rintro e w1 ⟨rfl, b1⟩
    have HX1 := Lib.hid (HX.out.on b1)
    obtain ⟨x0, x1, x2⟩ := HX1.out.ly.cells.tri
    clear b1 HX
    go_wp2_with fail
    refine (HP.out _ w1 HX1.out.ly).mono ?_
    rintro e w2 ⟨v, rfl, ov, b2⟩
    have HX2 := Lib.hid (HX1.out.on b2)
    have hsz := HX1.out.res.cells.1
    have hsz2 := b2.size
    obtain ⟨pv, cv, rfl⟩ := ov.slice
    have HV := Lib.hid ov.qx.2
    have hcv := ov.cap
    clear b2 ov x0 x1 x2 HX1 HP
    go_wp2
    go_loopw [8, 21] (fun _ i wr => ∃ j : Nat, j ≤ L.length ∧ i = .int .i64 j ∧ findQ pn L = findQ pn (L.drop j) ∧ Below w2.heap.size w2 wr) (fun _ i _ => L.length - (intOf i).toNat)
    case atStart => exact ⟨0, by omega, rfl, rfl, Below.refl _ _⟩
    case round =>
      obtain ⟨j, hj, rfl, hs, hb⟩ := hrel
      have HS := Lib.hid hs
      have HB := Lib.hid hb
      clear hs hb
      by_cases hlt : j < L.length
      · obtain ⟨bn, off, rfl, _, hbn, hc⟩ := (HV.out.on HB.out) (by intro e; simp [e] at hlt)
        obtain ⟨c0, c1, c2, c3, c4⟩ := hc j hlt
        have i3 : (j : Int) < (L.length : Int) := by omega
        have i0 : (0 : Int) ≤ (j : Int) := by omega
        have HD := Lib.hid (findQ_drop pn L j hlt)
        clear hc
        cases hq : ((nth L j).x0 == pn)
        · go_wp2
          exact ⟨⟨j + 1, by omega, by go_num, by rw [HS.out, HD.out, hq]; rfl, HB.out⟩, by simp [intOf]; omega⟩
        · have HE := Lib.hid (HRF.out (nth L j) (by rw [HS.out, HD.out, hq]; rfl))
          have HX3 := Lib.hid (HX2.out.on HB.out)
          obtain ⟨z0, z1⟩ := HX3.out.res.cells.two
          have zf := HX3.out.res.free
          have hsz3 := HB.out.size
          have i5 : (j : Int) + 1 ≤ (cv : Int) := by omega
          have i6 : ¬ cv = j := by omega
          have i7 : j + 1 ≤ cv := by omega
          have hcell := HV.out.on HB.out
          have HCC := Lib.hid hcell
          clear hcell
          go_wp2
          rw [HE.out]
          refine bodyPost_ret (v := rrV 0 (.slice (some ⟨bn, off + j * 5, none⟩) 1 (cv - j))) (by simp [results, Try.results46, rrV, go_sem, z0, z1]) rfl ⟨_, _, rfl, ?_, rr_low HX3.out.below _ _⟩
          exact qx_row HCC.out hlt (by omega) (by omega)
      · obtain rfl : j = L.length := by omega
        have HE := Lib.hid (HRN.out (by rw [HS.out, List.drop_length]; rfl))
        have HX3 := Lib.hid (HX2.out.on HB.out)
        obtain ⟨z0, z1⟩ := HX3.out.res.cells.two
        have zf := HX3.out.res.free
        go_wp2
        rw [HE.out]
        exact bodyPost_ret (v := rrV 4 (.slice none 0 0)) (by simp [results, Try.results46, rrV, go_sem, z0, z1]) rfl ⟨_, _, rfl, qx_nil _ _ _ _, rr_low HX3.out.below _ _⟩
  · rw [ro_fault hf]
    have hf2 : (lyFault x != 0) = true := by simpa using hf
    clear hf
    generalize lyFault x = k at *
    go_enter Try.func46, Try.ntmps46
    go_wp2_with fail
    refine (HF.out _ HX.out.ly.nodes).mono ?_
    rintro e w1 ⟨rfl, b1⟩
    have HX1 := Lib.hid (HX.out.on b1)
    obtain ⟨z0, z1⟩ := HX1.out.res.cells.two
    have zf := HX1.out.res.free
    clear b1 HX
    go_wp2
    exact bodyPost_ret (v := rrV k (.slice none 0 0)) (by simp [results, Try.results46, rrV, go_sem, z0, z1]) rfl ⟨_, _, rfl, qx_nil _ _ _ _, rr_low HX1.out.below _ _⟩

end Go.Proofs.Ytbfickdgjgbfhaa

/- HasPane of the program and of the model. -/
namespace Go.Proofs.Ytbfickdgjgbfhaa
open Go.RowKit
set_option linter.unusedVariables false

theorem fld_rr (x : Int) (v : Value) (w : World) : (Instr.field 60 (.agg #[.int .i64 x, v]) 0).run Try.prog w = .ok (.int .i64 x) w := by kernel_rfl
theorem findQ_any (pn : Int) : ∀ L : List Q, (findQ pn L).isEmpty = !(L.any fun r => r.x0 == pn)
  | [] => rfl
  | r :: t => by
    unfold findQ
    by_cases h : (r.x0 == pn) = true
    · simp [h]
    · rw [if_neg h, findQ_any pn t]; simp [h]
theorem has_ro (x : Ly) (pn : Int) : ((roOf x pn).1 == 0) = lyHas x pn := by
  unfold roOf lyHas
  by_cases hf : lyFault x = 0
  · rw [if_pos hf]
    obtain ⟨R, hr, ht, hi⟩ := run_of_fault hf
    have h1 := has_leaf hi ht.okay ht.uses ht.n0 pn
    rw [← ht.rects hr] at h1
    have h2 := findQ_any pn (lyRects x)
    rw [h1] at h2
    rw [h2]
    cases hasB x.nodes pn <;> simp [hf]
  · rw [if_neg hf]; simp [hf]

set_option maxRecDepth 100000 in
set_option maxHeartbeats 1000000 in
theorem implHasPane_any (x : Ly) (pn : Int) (p : Option Addr) (c : Nat) (w : World) (h : Qs w w.heap.size p x.nodes) (hl : x.nodes.length ≤ 1048576) :
    Calls Try.prog 38 #[.agg #[.int .i64 x.wide, .int .i64 x.high, .slice p x.nodes.length c], .int .i64 pn] w fun e w' => e = .returned (.bool (lyHas x pn)) ∧ Below w.heap.size w w' := by
  have HC := Lib.hid (implRectOf_any x pn p c _ (h.on (below_mk w (.cells #[.int .i64 x.wide, .int .i64 x.high, .slice p x.nodes.length c] 28))) hl)
  have HE := Lib.hid (has_ro x pn)
  clear h
  generalize roOf x pn = ro at *
  have hfd : ∀ v w, (Instr.field 60 (.agg #[.int .i64 ro.1, v]) 0).run Try.prog w = .ok (.int .i64 ro.1) w := fun v w => fld_rr ro.1 v w
  go_enter Try.func38, Try.ntmps38
  go_wp2_with fail
  refine HC.out.mono ?_
  rintro e w1 ⟨v, rfl, ov, b1⟩
  have HB := Lib.hid (below_on (below_mk w _) b1)
  unfold rrV
  clear ov b1
  go_wp2
  go_ret
  exact ⟨ret_bool HE.out, HB.out⟩

theorem hasB_drop (ns : List Q) (pn : Int) (j : Nat) (h : j < ns.length) : hasB (ns.drop j) pn = (((nth ns j).x0 == 1 && (nth ns j).x1 == pn) || hasB (ns.drop (j + 1)) pn) := by
  unfold hasB
  rw [List.drop_eq_getElem_cons h, List.any_cons, nth_eq h]

set_option maxRecDepth 100000 in
set_option maxHeartbeats 2000000 in
theorem l6Has_any (x : Ly) (pn : Int) (p : Option Addr) (c b : Nat) (w : World) (h : LyAt w b x p c) (hl : x.nodes.length ≤ 1048576) :
    Calls Try.prog 53 #[.pointer (some ⟨b, 0, none⟩), .int .i64 pn] w fun e w' => e = .returned (.bool (hasB x.nodes pn)) ∧ w = w' := by
  obtain ⟨x0, x1, x2⟩ := h.cells.tri
  have hbl := h.cells.1
  have H := Lib.hid h.nodes
  clear h
  obtain ⟨wide, high, ns⟩ := x
  dsimp only at *
  go_enter Try.func53, Try.ntmps53
  go_wp2
  go_loop [5, 11] (fun _ i => ∃ j : Nat, j ≤ ns.length ∧ i = .int .i64 j ∧ hasB ns pn = hasB (ns.drop j) pn) (fun _ i => ns.length - (intOf i).toNat)
  case atStart => exact ⟨0, by omega, rfl, rfl⟩
  case round =>
    obtain ⟨j, hj, rfl, hs⟩ := hrel
    have HS := Lib.hid hs
    clear hs
    by_cases hlt : j < ns.length
    · obtain ⟨bn, off, rfl, _, hbn, hc⟩ := H.out (by intro e; simp [e] at hlt)
      obtain ⟨c0, c1, c2, c3, c4⟩ := hc j hlt
      have HD := Lib.hid (hasB_drop ns pn j hlt)
      have i3 : (j : Int) < (ns.length : Int) := by omega
      have i0 : (0 : Int) ≤ (j : Int) := by omega
      clear hc
      cases h1 : ((nth ns j).x0 == 1)
      · go_wp2
        exact ⟨⟨j + 1, by omega, by go_num, by rw [HS.out, HD.out, h1]; rfl⟩, by simp [intOf]; omega⟩
      · cases h2 : ((nth ns j).x1 == pn)
        · go_wp2
          exact ⟨⟨j + 1, by omega, by go_num, by rw [HS.out, HD.out, h1, h2]; rfl⟩, by simp [intOf]; omega⟩
        · go_wp2
          go_ret
          exact ⟨ret_bool (by rw [HS.out, HD.out, h1, h2]; rfl), rfl⟩
    · obtain rfl : j = ns.length := by omega
      go_wp2
      go_ret
      exact ⟨ret_bool (by rw [HS.out, List.drop_length]; rfl), rfl⟩

set_option maxRecDepth 100000 in
set_option maxHeartbeats 1000000 in
theorem specHasPane_any (x : Ly) (pn : Int) (p : Option Addr) (c : Nat) (w : World) (h : Qs w w.heap.size p x.nodes) (hl : x.nodes.length ≤ 1048576) :
    Calls Try.prog 48 #[.agg #[.int .i64 x.wide, .int .i64 x.high, .slice p x.nodes.length c], .int .i64 pn] w fun e w' => e = .returned (.bool (lyHas x pn)) ∧ Below w.heap.size w w' := by
  have HX := Lib.hid (LyAt.new w x p c 28 h)
  unfold lyL at HX
  have HC := Lib.hid (specLayoutFault_any x p c _ HX.out.nodes hl)
  have HB0 := Lib.hid (below_mk w (.cells #[.int .i64 x.wide, .int .i64 x.high, .slice p x.nodes.length c] 28))
  have HE : Hid (lyHas x pn = (decide (lyFault x = 0) && hasB x.nodes pn)) := Lib.hid rfl
  clear h
  by_cases hf : lyFault x = 0
  · have HE2 := Lib.hid (show lyHas x pn = hasB x.nodes pn by rw [HE.out]; simp [hf])
    rw [hf] at HC
    clear hf HE
    go_enter Try.func48, Try.ntmps48
    go_wp2_with fail
    refine HC.out.mono ?_
    rintro e w1 ⟨rfl, b1⟩
    have HX1 := Lib.hid (HX.out.on b1)
    have HB := Lib.hid (below_on HB0.out b1)
    clear b1
    go_wp2_with fail
    refine (l6Has_any x pn p c w.heap.size w1 HX1.out hl).mono ?_
    rintro e w2 ⟨rfl, rfl⟩
    go_wp2
    go_ret
    exact ⟨ret_bool HE2.out.symm, HB.out⟩
  · have HE2 := Lib.hid (show lyHas x pn = false by rw [HE.out]; simp [hf])
    have hf2 : (lyFault x == 0) = false := by simpa using hf
    clear hf HE
    generalize lyFault x = k at *
    go_enter Try.func48, Try.ntmps48
    go_wp2_with fail
    refine HC.out.mono ?_
    rintro e w1 ⟨rfl, b1⟩
    have HB := Lib.hid (below_on HB0.out b1)
    clear b1
    go_wp2
    go_ret
    exact ⟨ret_bool HE2.out.symm, HB.out⟩

end Go.Proofs.Ytbfickdgjgbfhaa

/- The model's l6In. -/
namespace Go.Proofs.Ytbfickdgjgbfhaa
open Go.RowKit
set_option linter.unusedVariables false

def lyHit (x : Ly) (c d : Int) : Int × Int :=
  if lyFault x = 0 then (if inR c 0 (x.wide - 1) = true ∧ inR d 0 (x.high - 1) = true then (0, hitOf (lyRects x) c d) else (3, 0)) else (lyFault x, 0)

set_option maxRecDepth 100000 in
set_option maxHeartbeats 4000000 in
theorem l6In_any (r : Q) (c d : Int) (b o : Nat) (w : World) (h : QAt w b o r) (hg : Good r) :
    Calls Try.prog 113 #[.pointer (some ⟨b, o, none⟩), .int .i64 c, .int .i64 d] w fun e w' => e = .returned (.bool (inQ r c d)) ∧ Below w.heap.size w w' := by
  have HM := Lib.hid (fun W' (hb' : Below w.heap.size w W') => h.below hb' h.lt)
  have hbl := h.lt
  clear h
  obtain ⟨x0, x1, x2, x3, x4⟩ := r
  unfold Good at hg
  dsimp only at *
  have w1 : IntKind.i64.wrap (x1 + x3) = x1 + x3 := IntWalk.i64_in _ (by omega)
  have w2 : IntKind.i64.wrap (x1 + x3 - 1) = x1 + x3 - 1 := IntWalk.i64_in _ (by omega)
  have w3 : IntKind.i64.wrap (x2 + x4) = x2 + x4 := IntWalk.i64_in _ (by omega)
  have w4 : IntKind.i64.wrap (x2 + x4 - 1) = x2 + x4 - 1 := IntWalk.i64_in _ (by omega)
  clear hg
  cases h1 : inR c x1 (x1 + x3 - 1)
  · have HE := Lib.hid (show inQ ⟨x0, x1, x2, x3, x4⟩ c d = false by simp [inQ, h1])
    go_enter Try.func113, Try.ntmps113
    go_wp2
    refine wp_region_noPanic ?_
    refine wp_region_held_drew (S := fun W' => Below (w).heap.size (w) W') (by kernel_rfl) (below_drewN (Below.refl _ _) 1) (fun hHeld => ?_)
    refine takeA 0 7 (.int .i64 c) hHeld ?_
    simp only [Act.put, sa, s0, ss]
    refine takeA 1 8 (.pointer (some ⟨b, o, none⟩)) hHeld ?_
    simp only [Act.put, sa, s0, ss]
    refine takeB 2 9 (.pointer (some ⟨b, o, none⟩)) (fun w o hSw ho => ?_) hHeld ?_
    · obtain rfl := Option.some.inj ho; (have hb2 := (HM.out _ hSw).lt; go_simp)
    simp only [Act.put, sa, s0, ss]
    refine takeA 3 10 (.pointer (some ⟨b, o + 1, none⟩)) hHeld ?_
    simp only [Act.put, sa, s0, ss]
    refine takeB 4 11 (.int .i64 x1) (fun w o hSw ho => ?_) hHeld ?_
    · obtain rfl := Option.some.inj ho; (obtain ⟨c0, c1, c2, c3, c4⟩ := HM.out _ hSw; go_simp)
    simp only [Act.put, sa, s0, ss]
    refine takeA 5 12 (.pointer (some ⟨b, o, none⟩)) hHeld ?_
    simp only [Act.put, sa, s0, ss]
    refine takeB 6 13 (.pointer (some ⟨b, o, none⟩)) (fun w o hSw ho => ?_) hHeld ?_
    · obtain rfl := Option.some.inj ho; (have hb2 := (HM.out _ hSw).lt; go_simp)
    simp only [Act.put, sa, s0, ss]
    refine takeA 7 14 (.pointer (some ⟨b, o + 1, none⟩)) hHeld ?_
    simp only [Act.put, sa, s0, ss]
    refine takeB 8 15 (.int .i64 x1) (fun w o hSw ho => ?_) hHeld ?_
    · obtain rfl := Option.some.inj ho; (obtain ⟨c0, c1, c2, c3, c4⟩ := HM.out _ hSw; go_simp)
    simp only [Act.put, sa, s0, ss]
    refine takeA 9 16 (.pointer (some ⟨b, o, none⟩)) hHeld ?_
    simp only [Act.put, sa, s0, ss]
    refine takeB 10 17 (.pointer (some ⟨b, o, none⟩)) (fun w o hSw ho => ?_) hHeld ?_
    · obtain rfl := Option.some.inj ho; (have hb2 := (HM.out _ hSw).lt; go_simp)
    simp only [Act.put, sa, s0, ss]
    refine takeA 11 18 (.pointer (some ⟨b, o + 3, none⟩)) hHeld ?_
    simp only [Act.put, sa, s0, ss]
    refine takeB 12 19 (.int .i64 x3) (fun w o hSw ho => ?_) hHeld ?_
    · obtain rfl := Option.some.inj ho; (obtain ⟨c0, c1, c2, c3, c4⟩ := HM.out _ hSw; go_simp)
    simp only [Act.put, sa, s0, ss]
    refine takeA 13 20 (.int .i64 (x1 + x3)) hHeld ?_
    simp only [Act.put, sa, s0, ss]
    refine takeA 14 21 (.int .i64 (x1 + x3 - 1)) hHeld ?_
    simp only [Act.put, sa, s0, ss]
    refine oneR 15 (by kernel_rfl) (by kernel_rfl) (fun o ho K' hK => ?_)
    obtain rfl := Option.some.inj ho
    clear ho
    go_simp
    refine (l1In_any _ _ _ _).mono ?_
    rw [h1]
    rintro e w1 ⟨rfl, rfl⟩
    go_wp2_with fail
    refine hK.out _ _ (hHeld) (fun hHeld => ?_)
    clear hK K'
    try simp only [Act.put, sa, s0, ss]
    refine takeA 16 23 (.bool false) hHeld ?_
    simp only [Act.put, sa, s0, ss]
    refine skipA 17 24 hHeld ?_
    simp only [Act.put, sa, s0, ss]
    refine skipA 18 25 hHeld ?_
    simp only [Act.put, sa, s0, ss]
    refine skipA 19 26 hHeld ?_
    simp only [Act.put, sa, s0, ss]
    refine skipA 20 27 hHeld ?_
    simp only [Act.put, sa, s0, ss]
    refine skipA 21 28 hHeld ?_
    simp only [Act.put, sa, s0, ss]
    refine skipA 22 29 hHeld ?_
    simp only [Act.put, sa, s0, ss]
    refine skipA 23 30 hHeld ?_
    simp only [Act.put, sa, s0, ss]
    refine skipA 24 31 hHeld ?_
    simp only [Act.put, sa, s0, ss]
    refine skipA 25 32 hHeld ?_
    simp only [Act.put, sa, s0, ss]
    refine skipA 26 33 hHeld ?_
    simp only [Act.put, sa, s0, ss]
    refine skipA 27 34 hHeld ?_
    simp only [Act.put, sa, s0, ss]
    refine skipA 28 35 hHeld ?_
    simp only [Act.put, sa, s0, ss]
    refine skipA 29 36 hHeld ?_
    simp only [Act.put, sa, s0, ss]
    refine skipA 30 37 hHeld ?_
    simp only [Act.put, sa, s0, ss]
    refine skipA 31 38 hHeld ?_
    simp only [Act.put, sa, s0, ss]
    refine skipA 32 39 hHeld ?_
    simp only [Act.put, sa, s0, ss]
    refine takeA 33 40 (.bool false) hHeld ?_
    simp only [Act.put, sa, s0, ss]
    refine takeA 34 6 (.bool false) hHeld ?_
    simp only [Act.put, sa, s0, ss]
    refine wpAnyH_done (by kernel_rfl) ?_ _
    refine NoPanic.normal ?_
    go_wp2
    go_ret
    exact ⟨ret_bool HE.out.symm, hHeld⟩
  · cases h2 : inR d x2 (x2 + x4 - 1)
    · have HE := Lib.hid (show inQ ⟨x0, x1, x2, x3, x4⟩ c d = false by simp [inQ, h1, h2])
      go_enter Try.func113, Try.ntmps113
      go_wp2
      refine wp_region_noPanic ?_
      refine wp_region_held_drew (S := fun W' => Below (w).heap.size (w) W') (by kernel_rfl) (below_drewN (Below.refl _ _) 1) (fun hHeld => ?_)
      refine takeA 0 7 (.int .i64 c) hHeld ?_
      simp only [Act.put, sa, s0, ss]
      refine takeA 1 8 (.pointer (some ⟨b, o, none⟩)) hHeld ?_
      simp only [Act.put, sa, s0, ss]
      refine takeB 2 9 (.pointer (some ⟨b, o, none⟩)) (fun w o hSw ho => ?_) hHeld ?_
      · obtain rfl := Option.some.inj ho; (have hb2 := (HM.out _ hSw).lt; go_simp)
      simp only [Act.put, sa, s0, ss]
      refine takeA 3 10 (.pointer (some ⟨b, o + 1, none⟩)) hHeld ?_
      simp only [Act.put, sa, s0, ss]
      refine takeB 4 11 (.int .i64 x1) (fun w o hSw ho => ?_) hHeld ?_
      · obtain rfl := Option.some.inj ho; (obtain ⟨c0, c1, c2, c3, c4⟩ := HM.out _ hSw; go_simp)
      simp only [Act.put, sa, s0, ss]
      refine takeA 5 12 (.pointer (some ⟨b, o, none⟩)) hHeld ?_
      simp only [Act.put, sa, s0, ss]
      refine takeB 6 13 (.pointer (some ⟨b, o, none⟩)) (fun w o hSw ho => ?_) hHeld ?_
      · obtain rfl := Option.some.inj ho; (have hb2 := (HM.out _ hSw).lt; go_simp)
      simp only [Act.put, sa, s0, ss]
      refine takeA 7 14 (.pointer (some ⟨b, o + 1, none⟩)) hHeld ?_
      simp only [Act.put, sa, s0, ss]
      refine takeB 8 15 (.int .i64 x1) (fun w o hSw ho => ?_) hHeld ?_
      · obtain rfl := Option.some.inj ho; (obtain ⟨c0, c1, c2, c3, c4⟩ := HM.out _ hSw; go_simp)
      simp only [Act.put, sa, s0, ss]
      refine takeA 9 16 (.pointer (some ⟨b, o, none⟩)) hHeld ?_
      simp only [Act.put, sa, s0, ss]
      refine takeB 10 17 (.pointer (some ⟨b, o, none⟩)) (fun w o hSw ho => ?_) hHeld ?_
      · obtain rfl := Option.some.inj ho; (have hb2 := (HM.out _ hSw).lt; go_simp)
      simp only [Act.put, sa, s0, ss]
      refine takeA 11 18 (.pointer (some ⟨b, o + 3, none⟩)) hHeld ?_
      simp only [Act.put, sa, s0, ss]
      refine takeB 12 19 (.int .i64 x3) (fun w o hSw ho => ?_) hHeld ?_
      · obtain rfl := Option.some.inj ho; (obtain ⟨c0, c1, c2, c3, c4⟩ := HM.out _ hSw; go_simp)
      simp only [Act.put, sa, s0, ss]
      refine takeA 13 20 (.int .i64 (x1 + x3)) hHeld ?_
      simp only [Act.put, sa, s0, ss]
      refine takeA 14 21 (.int .i64 (x1 + x3 - 1)) hHeld ?_
      simp only [Act.put, sa, s0, ss]
      refine oneR 15 (by kernel_rfl) (by kernel_rfl) (fun o ho K' hK => ?_)
      obtain rfl := Option.some.inj ho
      clear ho
      go_simp
      refine (l1In_any _ _ _ _).mono ?_
      rw [h1]
      rintro e w1 ⟨rfl, rfl⟩
      go_wp2_with fail
      refine hK.out _ _ (hHeld) (fun hHeld => ?_)
      clear hK K'
      try simp only [Act.put, sa, s0, ss]
      refine takeA 16 23 (.bool true) hHeld ?_
      simp only [Act.put, sa, s0, ss]
      refine takeA 17 24 (.int .i64 d) hHeld ?_
      simp only [Act.put, sa, s0, ss]
      refine takeA 18 25 (.pointer (some ⟨b, o, none⟩)) hHeld ?_
      simp only [Act.put, sa, s0, ss]
      refine takeB 19 26 (.pointer (some ⟨b, o, none⟩)) (fun w o hSw ho => ?_) hHeld ?_
      · obtain rfl := Option.some.inj ho; (have hb2 := (HM.out _ hSw).lt; go_simp)
      simp only [Act.put, sa, s0, ss]
      refine takeA 20 27 (.pointer (some ⟨b, o + 2, none⟩)) hHeld ?_
      simp only [Act.put, sa, s0, ss]
      refine takeB 21 28 (.int .i64 x2) (fun w o hSw ho => ?_) hHeld ?_
      · obtain rfl := Option.some.inj ho; (obtain ⟨c0, c1, c2, c3, c4⟩ := HM.out _ hSw; go_simp)
      simp only [Act.put, sa, s0, ss]
      refine takeA 22 29 (.pointer (some ⟨b, o, none⟩)) hHeld ?_
      simp only [Act.put, sa, s0, ss]
      refine takeB 23 30 (.pointer (some ⟨b, o, none⟩)) (fun w o hSw ho => ?_) hHeld ?_
      · obtain rfl := Option.some.inj ho; (have hb2 := (HM.out _ hSw).lt; go_simp)
      simp only [Act.put, sa, s0, ss]
      refine takeA 24 31 (.pointer (some ⟨b, o + 2, none⟩)) hHeld ?_
      simp only [Act.put, sa, s0, ss]
      refine takeB 25 32 (.int .i64 x2) (fun w o hSw ho => ?_) hHeld ?_
      · obtain rfl := Option.some.inj ho; (obtain ⟨c0, c1, c2, c3, c4⟩ := HM.out _ hSw; go_simp)
      simp only [Act.put, sa, s0, ss]
      refine takeA 26 33 (.pointer (some ⟨b, o, none⟩)) hHeld ?_
      simp only [Act.put, sa, s0, ss]
      refine takeB 27 34 (.pointer (some ⟨b, o, none⟩)) (fun w o hSw ho => ?_) hHeld ?_
      · obtain rfl := Option.some.inj ho; (have hb2 := (HM.out _ hSw).lt; go_simp)
      simp only [Act.put, sa, s0, ss]
      refine takeA 28 35 (.pointer (some ⟨b, o + 4, none⟩)) hHeld ?_
      simp only [Act.put, sa, s0, ss]
      refine takeB 29 36 (.int .i64 x4) (fun w o hSw ho => ?_) hHeld ?_
      · obtain rfl := Option.some.inj ho; (obtain ⟨c0, c1, c2, c3, c4⟩ := HM.out _ hSw; go_simp)
      simp only [Act.put, sa, s0, ss]
      refine takeA 30 37 (.int .i64 (x2 + x4)) hHeld ?_
      simp only [Act.put, sa, s0, ss]
      refine takeA 31 38 (.int .i64 (x2 + x4 - 1)) hHeld ?_
      simp only [Act.put, sa, s0, ss]
      refine oneR 32 (by kernel_rfl) (by kernel_rfl) (fun o ho K' hK => ?_)
      obtain rfl := Option.some.inj ho
      clear ho
      go_simp
      refine (l1In_any _ _ _ _).mono ?_
      rw [h2]
      rintro e w2 ⟨rfl, rfl⟩
      go_wp2_with fail
      refine hK.out _ _ (hHeld) (fun hHeld => ?_)
      clear hK K'
      try simp only [Act.put, sa, s0, ss]
      refine takeA 33 40 (.bool false) hHeld ?_
      simp only [Act.put, sa, s0, ss]
      refine takeA 34 6 (.bool false) hHeld ?_
      simp only [Act.put, sa, s0, ss]
      refine wpAnyH_done (by kernel_rfl) ?_ _
      refine NoPanic.normal ?_
      go_wp2
      go_ret
      exact ⟨ret_bool HE.out.symm, hHeld⟩
    · have HE := Lib.hid (show inQ ⟨x0, x1, x2, x3, x4⟩ c d = true by simp [inQ, h1, h2])
      go_enter Try.func113, Try.ntmps113
      go_wp2
      refine wp_region_noPanic ?_
      refine wp_region_held_drew (S := fun W' => Below (w).heap.size (w) W') (by kernel_rfl) (below_drewN (Below.refl _ _) 1) (fun hHeld => ?_)
      refine takeA 0 7 (.int .i64 c) hHeld ?_
      simp only [Act.put, sa, s0, ss]
      refine takeA 1 8 (.pointer (some ⟨b, o, none⟩)) hHeld ?_
      simp only [Act.put, sa, s0, ss]
      refine takeB 2 9 (.pointer (some ⟨b, o, none⟩)) (fun w o hSw ho => ?_) hHeld ?_
      · obtain rfl := Option.some.inj ho; (have hb2 := (HM.out _ hSw).lt; go_simp)
      simp only [Act.put, sa, s0, ss]
      refine takeA 3 10 (.pointer (some ⟨b, o + 1, none⟩)) hHeld ?_
      simp only [Act.put, sa, s0, ss]
      refine takeB 4 11 (.int .i64 x1) (fun w o hSw ho => ?_) hHeld ?_
      · obtain rfl := Option.some.inj ho; (obtain ⟨c0, c1, c2, c3, c4⟩ := HM.out _ hSw; go_simp)
      simp only [Act.put, sa, s0, ss]
      refine takeA 5 12 (.pointer (some ⟨b, o, none⟩)) hHeld ?_
      simp only [Act.put, sa, s0, ss]
      refine takeB 6 13 (.pointer (some ⟨b, o, none⟩)) (fun w o hSw ho => ?_) hHeld ?_
      · obtain rfl := Option.some.inj ho; (have hb2 := (HM.out _ hSw).lt; go_simp)
      simp only [Act.put, sa, s0, ss]
      refine takeA 7 14 (.pointer (some ⟨b, o + 1, none⟩)) hHeld ?_
      simp only [Act.put, sa, s0, ss]
      refine takeB 8 15 (.int .i64 x1) (fun w o hSw ho => ?_) hHeld ?_
      · obtain rfl := Option.some.inj ho; (obtain ⟨c0, c1, c2, c3, c4⟩ := HM.out _ hSw; go_simp)
      simp only [Act.put, sa, s0, ss]
      refine takeA 9 16 (.pointer (some ⟨b, o, none⟩)) hHeld ?_
      simp only [Act.put, sa, s0, ss]
      refine takeB 10 17 (.pointer (some ⟨b, o, none⟩)) (fun w o hSw ho => ?_) hHeld ?_
      · obtain rfl := Option.some.inj ho; (have hb2 := (HM.out _ hSw).lt; go_simp)
      simp only [Act.put, sa, s0, ss]
      refine takeA 11 18 (.pointer (some ⟨b, o + 3, none⟩)) hHeld ?_
      simp only [Act.put, sa, s0, ss]
      refine takeB 12 19 (.int .i64 x3) (fun w o hSw ho => ?_) hHeld ?_
      · obtain rfl := Option.some.inj ho; (obtain ⟨c0, c1, c2, c3, c4⟩ := HM.out _ hSw; go_simp)
      simp only [Act.put, sa, s0, ss]
      refine takeA 13 20 (.int .i64 (x1 + x3)) hHeld ?_
      simp only [Act.put, sa, s0, ss]
      refine takeA 14 21 (.int .i64 (x1 + x3 - 1)) hHeld ?_
      simp only [Act.put, sa, s0, ss]
      refine oneR 15 (by kernel_rfl) (by kernel_rfl) (fun o ho K' hK => ?_)
      obtain rfl := Option.some.inj ho
      clear ho
      go_simp
      refine (l1In_any _ _ _ _).mono ?_
      rw [h1]
      rintro e w1 ⟨rfl, rfl⟩
      go_wp2_with fail
      refine hK.out _ _ (hHeld) (fun hHeld => ?_)
      clear hK K'
      try simp only [Act.put, sa, s0, ss]
      refine takeA 16 23 (.bool true) hHeld ?_
      simp only [Act.put, sa, s0, ss]
      refine takeA 17 24 (.int .i64 d) hHeld ?_
      simp only [Act.put, sa, s0, ss]
      refine takeA 18 25 (.pointer (some ⟨b, o, none⟩)) hHeld ?_
      simp only [Act.put, sa, s0, ss]
      refine takeB 19 26 (.pointer (some ⟨b, o, none⟩)) (fun w o hSw ho => ?_) hHeld ?_
      · obtain rfl := Option.some.inj ho; (have hb2 := (HM.out _ hSw).lt; go_simp)
      simp only [Act.put, sa, s0, ss]
      refine takeA 20 27 (.pointer (some ⟨b, o + 2, none⟩)) hHeld ?_
      simp only [Act.put, sa, s0, ss]
      refine takeB 21 28 (.int .i64 x2) (fun w o hSw ho => ?_) hHeld ?_
      · obtain rfl := Option.some.inj ho; (obtain ⟨c0, c1, c2, c3, c4⟩ := HM.out _ hSw; go_simp)
      simp only [Act.put, sa, s0, ss]
      refine takeA 22 29 (.pointer (some ⟨b, o, none⟩)) hHeld ?_
      simp only [Act.put, sa, s0, ss]
      refine takeB 23 30 (.pointer (some ⟨b, o, none⟩)) (fun w o hSw ho => ?_) hHeld ?_
      · obtain rfl := Option.some.inj ho; (have hb2 := (HM.out _ hSw).lt; go_simp)
      simp only [Act.put, sa, s0, ss]
      refine takeA 24 31 (.pointer (some ⟨b, o + 2, none⟩)) hHeld ?_
      simp only [Act.put, sa, s0, ss]
      refine takeB 25 32 (.int .i64 x2) (fun w o hSw ho => ?_) hHeld ?_
      · obtain rfl := Option.some.inj ho; (obtain ⟨c0, c1, c2, c3, c4⟩ := HM.out _ hSw; go_simp)
      simp only [Act.put, sa, s0, ss]
      refine takeA 26 33 (.pointer (some ⟨b, o, none⟩)) hHeld ?_
      simp only [Act.put, sa, s0, ss]
      refine takeB 27 34 (.pointer (some ⟨b, o, none⟩)) (fun w o hSw ho => ?_) hHeld ?_
      · obtain rfl := Option.some.inj ho; (have hb2 := (HM.out _ hSw).lt; go_simp)
      simp only [Act.put, sa, s0, ss]
      refine takeA 28 35 (.pointer (some ⟨b, o + 4, none⟩)) hHeld ?_
      simp only [Act.put, sa, s0, ss]
      refine takeB 29 36 (.int .i64 x4) (fun w o hSw ho => ?_) hHeld ?_
      · obtain rfl := Option.some.inj ho; (obtain ⟨c0, c1, c2, c3, c4⟩ := HM.out _ hSw; go_simp)
      simp only [Act.put, sa, s0, ss]
      refine takeA 30 37 (.int .i64 (x2 + x4)) hHeld ?_
      simp only [Act.put, sa, s0, ss]
      refine takeA 31 38 (.int .i64 (x2 + x4 - 1)) hHeld ?_
      simp only [Act.put, sa, s0, ss]
      refine oneR 32 (by kernel_rfl) (by kernel_rfl) (fun o ho K' hK => ?_)
      obtain rfl := Option.some.inj ho
      clear ho
      go_simp
      refine (l1In_any _ _ _ _).mono ?_
      rw [h2]
      rintro e w2 ⟨rfl, rfl⟩
      go_wp2_with fail
      refine hK.out _ _ (hHeld) (fun hHeld => ?_)
      clear hK K'
      try simp only [Act.put, sa, s0, ss]
      refine takeA 33 40 (.bool true) hHeld ?_
      simp only [Act.put, sa, s0, ss]
      refine takeA 34 6 (.bool true) hHeld ?_
      simp only [Act.put, sa, s0, ss]
      refine wpAnyH_done (by kernel_rfl) ?_ _
      refine NoPanic.normal ?_
      go_wp2
      go_ret
      exact ⟨ret_bool HE.out.symm, hHeld⟩

end Go.Proofs.Ytbfickdgjgbfhaa
