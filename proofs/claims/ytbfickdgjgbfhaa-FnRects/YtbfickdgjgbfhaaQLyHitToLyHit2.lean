/- HitAt of the program and of the model. -/
import Derived.Test.YtbfickdgjgbfhaaQLyImpl5ToLyIn
import Derived.WalkMore
namespace Go.Proofs.Ytbfickdgjgbfhaa
open Go.RowKit
set_option linter.unusedVariables false

theorem hit_fault {x : Ly} {c d : Int} (hf : lyFault x ≠ 0) : lyHit x c d = (lyFault x, 0) := by unfold lyHit; rw [if_neg hf]
theorem hit_out {x : Ly} {c d : Int} (hf : lyFault x = 0) (h : ¬ (inR c 0 (x.wide - 1) = true ∧ inR d 0 (x.high - 1) = true)) : lyHit x c d = (3, 0) := by unfold lyHit; rw [if_pos hf, if_neg h]
theorem hit_in {x : Ly} {c d : Int} (hf : lyFault x = 0) (h1 : inR c 0 (x.wide - 1) = true) (h2 : inR d 0 (x.high - 1) = true) : lyHit x c d = (0, hitOf (lyRects x) c d) := by unfold lyHit; rw [if_pos hf, if_pos ⟨h1, h2⟩]
theorem hitOf_drop (L : List Q) (c d : Int) (j : Nat) (h : j < L.length) : hitOf (L.drop j) c d = if inQ (nth L j) c d = true then (nth L j).x0 else hitOf (L.drop (j + 1)) c d := by
  rw [List.drop_eq_getElem_cons h, hitOf, nth_eq h]
theorem leaves_good {ns : List Q} {wide high : Int} {R : List Q} (h : Inv ns wide high ns.length R) (ho : Okay ns) (hu : usesB ns = true) (hw : inR wide 1 200 = true) (hh : inR high 1 200 = true) (f i : Nat) (hi : i < ns.length) :
    ∀ r ∈ leaves ns R f i, Good r := by
  intro r hr
  unfold leaves at hr
  obtain ⟨j, hj, rfl⟩ := List.mem_map.1 hr
  obtain ⟨hj, _⟩ := List.mem_filter.1 hj
  have hlt := dfs_lt ho f i hi j hj
  exact h.good ho hu hw hh j (by omega) hlt

set_option maxRecDepth 100000 in
set_option maxHeartbeats 4000000 in
theorem l6Hit_any (x : Ly) (cc d : Int) (p : Option Addr) (c b : Nat) (w : World) (h : LyAt w b x p c) (ht : Tree x) (R : List Q) (hr : lyRun x = some R) :
    Calls Try.prog 94 #[.pointer (some ⟨b, 0, none⟩), .int .i64 cc, .int .i64 d] w fun e w' => e = .returned (.int .i64 (hitOf (lyRects x) cc d)) ∧ Below w.heap.size w w' := by
  have HP := Lib.hid (l6All_any x p c b w h ht.n0 ht.n1 ht.okay ht.wide ht.high)
  have hg := leaves_good (ht.some hr) ht.okay ht.uses ht.wide ht.high x.nodes.length 0 ht.n0
  rw [← ht.rects hr] at hg
  have hrl := rcOf_len x.nodes x.nodes.length 0 (whole x.wide x.high)
  have hpow : 2 ^ x.nodes.length ≤ 2 ^ 11 := Nat.pow_le_pow_right (by omega) ht.n1
  have hpow2 : (2 : Nat) ^ 11 = 2048 := by decide
  have hll : (lyRects x).length ≤ 2048 := by unfold lyRects; omega
  have HG := Lib.hid hg
  clear h ht hr hg hrl hpow hpow2
  generalize lyRects x = L at *
  go_enter Try.func94, Try.ntmps94
  go_wp2_with fail
  refine HP.out.mono ?_
  rintro e w2 ⟨v, rfl, ov, b2⟩
  obtain ⟨pv, cv, rfl⟩ := ov.slice
  have HV := Lib.hid ov.bs.2
  have HB2 := Lib.hid b2
  clear ov b2 HP
  go_wp2
  go_loopw [9, 17] (fun _ i wr => ∃ j : Nat, j ≤ L.length ∧ i = .int .i64 j ∧ hitOf L cc d = hitOf (L.drop j) cc d ∧ Below w2.heap.size w2 wr) (fun _ i _ => L.length - (intOf i).toNat)
  case atStart => exact ⟨0, by omega, rfl, rfl, Below.refl _ _⟩
  case round =>
    obtain ⟨j, hj, rfl, hs, hb⟩ := hrel
    have HS := Lib.hid hs
    have HB := Lib.hid hb
    clear hs hb
    by_cases hlt : j < L.length
    · obtain ⟨bn, off, rfl, _, hbn, hc⟩ := (HV.out.on HB.out) (by intro e; simp [e] at hlt)
      have hq := hc j hlt
      have HC := Lib.hid (l6In_any (nth L j) cc d bn (off + j * 5) wr hq (HG.out _ (by rw [nth_eq hlt]; exact List.getElem_mem _)))
      have HQ := Lib.hid hq
      have i3 : (j : Int) < (L.length : Int) := by omega
      have i0 : (0 : Int) ≤ (j : Int) := by omega
      have HD := Lib.hid (hitOf_drop L cc d j hlt)
      clear hc hq
      cases hi : inQ (nth L j) cc d
      all_goals rw [hi] at HC
      · go_wp2_with fail
        refine HC.out.mono ?_
        rintro e w3 ⟨rfl, b3⟩
        have HB3 := Lib.hid (below_on HB.out b3)
        clear b3
        go_wp2
        exact ⟨⟨j + 1, by omega, by go_num, by rw [HS.out, HD.out, hi]; rfl, HB3.out⟩, by simp [intOf]; omega⟩
      · go_wp2_with fail
        refine HC.out.mono ?_
        rintro e w3 ⟨rfl, b3⟩
        have HB3 := Lib.hid (below_on HB.out b3)
        obtain ⟨c0, c1, c2, c3, c4⟩ := HQ.out.below b3 HQ.out.lt
        clear b3
        go_wp2
        go_ret
        exact ⟨ret_int (by rw [HS.out, HD.out, hi]; rfl), below_on HB2.out HB3.out⟩
    · obtain rfl : j = L.length := by omega
      go_wp2
      go_ret
      exact ⟨ret_int (by rw [HS.out, List.drop_length]; rfl), below_on HB2.out HB.out⟩

set_option maxRecDepth 100000 in
set_option maxHeartbeats 4000000 in
theorem paneUnder_any (x : Ly) (cc d : Int) (p : Option Addr) (c : Nat) (w : World) (h : Qs w w.heap.size p x.nodes) (ht : Tree x) (R : List Q) (hr : lyRun x = some R) (hin : inQ (nth R 0) cc d = true) :
    Calls Try.prog 91 #[.agg #[.int .i64 x.wide, .int .i64 x.high, .slice p x.nodes.length c], .int .i64 cc, .int .i64 d] w fun e w' => e = .returned (.int .i64 (hitOf (lyRects x) cc d)) ∧ Below w.heap.size w w' := by
  have hX := LyAt.new w x p c 28 h
  unfold lyL at hX
  have HX := Lib.hid hX
  have hinv := ht.some hr
  have hgood := hinv.good ht.okay ht.uses ht.wide ht.high
  have hdh := down_hit hinv ht.okay ht.uses ht.wide ht.high cc d x.nodes.length 0 (by omega) ht.n0 hin
  rw [← ht.rects hr] at hdh
  have HRL := Lib.hid hinv.len
  have HT := Lib.hid ht
  have n0 := ht.n0
  have n1 := ht.n1
  have HG := Lib.hid hgood
  have HR := Lib.hid (fun W h => nodeRects_any x p c W h ht)
  rw [hr] at HR
  have HV := Lib.hid hdh
  clear h hX hinv hgood hdh ht hr hin
  generalize hitOf (lyRects x) cc d = V at *
  go_enter Try.func91, Try.ntmps91
  go_wp2
  go_step3
  go_wp2_with fail
  refine (HR.out _ HX.out.nodes).mono ?_
  rintro e w1 ⟨hsome, -, b1⟩
  obtain ⟨g, rfl, og⟩ := hsome R rfl
  have HX1 := Lib.hid (HX.out.on b1)
  have HB1 := Lib.hid (below_on (below_mk w _) b1)
  have HG1 := Lib.hid og
  have hgl := (og.lt g rfl).2
  clear hsome b1 og HR HX
  go_wp2
  go_step3
  go_wp2
  go_loopw [9, 10, 11, 22, 28, 39] (fun fo at_ _ _ _ _ wr => ∃ i f : Nat, i < x.nodes.length ∧ x.nodes.length ≤ i + f ∧ fo = .int .i64 (-1) ∧ at_ = .int .i64 i ∧ down x.nodes R cc d f i = V ∧ Below w1.heap.size w1 wr) (fun _ at_ _ _ _ _ _ => x.nodes.length - (intOf at_).toNat)
  case atStart => exact ⟨0, x.nodes.length, by omega, by omega, rfl, rfl, HV.out, Below.refl _ _⟩
  case round =>
    obtain ⟨i, f, hi, hf, rfl, rfl, hd, hb⟩ := hrel
    obtain ⟨f, rfl⟩ : ∃ f', f = f' + 1 := ⟨f - 1, by omega⟩
    have HB := Lib.hid hb
    have hd2 := hd
    unfold down at hd2
    have HD := Lib.hid hd2
    clear hd hd2 hb
    obtain ⟨bn, off, rfl, hbn, hq⟩ := (HX1.out.on HB.out).node i hi
    obtain ⟨-, -, x2⟩ := (HX1.out.on HB.out).cells.tri
    obtain ⟨c0, c1, c2, c3, c4⟩ := hq
    have hok := HT.out.okay i hi
    have i1 : (i : Int) < (x.nodes.length : Int) := by omega
    have i0 : (0 : Int) ≤ (i : Int) := by omega
    have HIS := Lib.hid (fun W => isSplit_any (nth x.nodes i) W)
    cases hs : isSplitB (nth x.nodes i)
    · rw [hs] at HIS HD
      go_wp2_with fail
      refine (HIS.out _).mono ?_
      rintro e w3 ⟨rfl, b3⟩
      have X := (AtL.new wr (qC (nth x.nodes i)) 76).on b3
      unfold qC at X
      have HB3 := Lib.hid (below_on (below_on HB.out (below_mk wr _)) b3)
      obtain ⟨d0, d1, d2, d3, d4⟩ := X.five
      have HE := Lib.hid (show (nth x.nodes i).x1 = V by have := HD.out; simpa using this)
      clear b3 X c0 c1 c2 c3 c4 x2 HD
      go_wp2
      rw [Exit.noGoto_ret]
      go_ret
      exact ⟨ret_int HE.out, below_on HB1.out HB3.out⟩
    · rw [hs, if_pos rfl] at HD
      rw [hs] at HIS
      obtain ⟨-, -, g3, g4, g5, g6⟩ := hok.split hs
      obtain ⟨ia, ha⟩ := Int.eq_ofNat_of_zero_le (show 0 ≤ (nth x.nodes i).x3 by omega)
      obtain ⟨ib, hb⟩ := Int.eq_ofNat_of_zero_le (show 0 ≤ (nth x.nodes i).x4 by omega)
      rw [ha, hb, Int.toNat_natCast, Int.toNat_natCast] at HD
      have hia : i < ia := by omega
      have hib : i < ib := by omega
      have hial : ia < x.nodes.length := by omega
      have hibl : ib < x.nodes.length := by omega
      have HCA := Lib.hid (fun W => hasCell_any (nth R ia) cc d W (HG.out ia (by omega) hial))
      have HCB := Lib.hid (fun W => hasCell_any (nth R ib) cc d W (HG.out ib (by omega) hibl))
      have HHA := Lib.hid ha
      have HHB := Lib.hid hb
      clear g3 g4 g5 g6 ha hb hok
      go_wp2_with fail
      refine (HIS.out _).mono ?_
      rintro e w3 ⟨rfl, b3⟩
      have X := (AtL.new wr (qC (nth x.nodes i)) 76).on b3
      unfold qC at X
      rw [HHA.out, HHB.out] at X
      have hB3 := below_on (below_on HB.out (below_mk wr (.cells #[.int .i64 (nth x.nodes i).x0, .int .i64 (nth x.nodes i).x1, .int .i64 (nth x.nodes i).x2, .int .i64 (nth x.nodes i).x3, .int .i64 (nth x.nodes i).x4] 76))) b3
      have HB3 := Lib.hid hB3
      have HX3 := Lib.hid X
      obtain ⟨d0, d1, d2, d3, d4⟩ := X.five
      obtain ⟨-, hrow, -⟩ := (HG1.out.on hB3).row
      obtain ⟨r0, r1, r2, r3, r4⟩ := hrow ia (by rw [HRL.out]; exact hial)
      have i5 : (ia : Int) < (x.nodes.length : Int) := by omega
      have i6 : (ib : Int) < (x.nodes.length : Int) := by omega
      clear b3 X c0 c1 c2 c3 c4 x2 hB3 hrow
      go_wp2_with fail
      refine (HCA.out _).mono ?_
      rintro e w4 ⟨rfl, b4⟩
      have HB4 := Lib.hid (below_on HB3.out b4)
      have HX4 := Lib.hid (HX3.out.on b4)
      obtain ⟨e0, e1, e2, e3, e4⟩ := HX4.out.five
      clear b4 d0 d1 d2 d3 d4 r0 r1 r2 r3 r4 HB3 HX3
      cases hqa : inQ (nth R ia) cc d
      · rw [hqa, if_neg (by simp)] at HD
        obtain ⟨-, hrow, -⟩ := (HG1.out.on HB4.out).row
        obtain ⟨r0, r1, r2, r3, r4⟩ := hrow ib (by rw [HRL.out]; exact hibl)
        clear hrow
        go_wp2_with fail
        refine (HCB.out _).mono ?_
        rintro e w5 ⟨rfl, b5⟩
        have HB5 := Lib.hid (below_on HB4.out b5)
        have HX5 := Lib.hid (HX4.out.on b5)
        obtain ⟨f0, f1, f2, f3, f4⟩ := HX5.out.five
        clear b5 e0 e1 e2 e3 e4 r0 r1 r2 r3 r4 HB4 HX4
        cases hqb : inQ (nth R ib) cc d
        · rw [hqb, if_neg (by simp)] at HD
          go_wp2
          rw [Exit.noGoto_ret]
          go_ret
          exact ⟨ret_int HD.out, below_on HB1.out HB5.out⟩
        · rw [hqb, if_pos rfl] at HD
          go_wp2
          exact ⟨⟨ib, f, hibl, by omega, rfl, rfl, HD.out, HB5.out⟩, by simp [intOf]; omega⟩
      · rw [hqa, if_pos rfl] at HD
        go_wp2
        exact ⟨⟨ia, f, hial, by omega, rfl, rfl, HD.out, HB4.out⟩, by simp [intOf]; omega⟩

end Go.Proofs.Ytbfickdgjgbfhaa

/- What the laws over layouts ask of a layout's places. Plain facts. -/
namespace Go.Proofs.Ytbfickdgjgbfhaa
open Go.RowKit
set_option linter.unusedVariables false

def Apart (c d : Int) (L : List Q) : Prop := L.Pairwise fun r s => ¬ (inQ r c d = true ∧ inQ s c d = true)
theorem rects_apart {x : Ly} (h : lyFault x = 0) (c d : Int) : Apart c d (lyRects x) := by
  obtain ⟨R, hr, ht, hi⟩ := run_of_fault h
  rw [ht.rects hr]
  exact leaves_apart hi ht.okay ht.uses ht.wide ht.high c d _ 0 ht.n0
theorem rects_good {x : Ly} (h : lyFault x = 0) : ∀ r ∈ lyRects x, Good r := by
  obtain ⟨R, hr, ht, hi⟩ := run_of_fault h
  rw [ht.rects hr]
  exact leaves_good hi ht.okay ht.uses ht.wide ht.high _ 0 ht.n0
theorem rect_in {x : Ly} (h : lyFault x = 0) {r : Q} (hr : r ∈ lyRects x) {c d : Int} (hc : inQ r c d = true) : inR c 0 (x.wide - 1) = true ∧ inR d 0 (x.high - 1) = true := by
  obtain ⟨R, hrun, ht, hi⟩ := run_of_fault h
  rw [ht.rects hrun] at hr
  have := leaf_in hi ht.okay ht.uses ht.wide ht.high c d _ 0 ht.n0 r hr hc
  rw [inQ_geo hi.root] at this
  unfold inQ whole at this
  simp only [Int.zero_add, Bool.and_eq_true] at this
  exact this
/-- a place that has the cell is the one hit -/
theorem hit_one (c d : Int) : ∀ (L : List Q), Apart c d L → ∀ r ∈ L, inQ r c d = true → hitOf L c d = r.x0
  | [], _, r, hr, _ => by simp at hr
  | q :: t, hp, r, hr, hc => by
    obtain ⟨h1, h2⟩ := List.pairwise_cons.1 hp
    unfold hitOf
    rcases List.mem_cons.1 hr with rfl | hr
    · rw [if_pos hc]
    · rw [if_neg (fun hq => h1 r hr ⟨hq, hc⟩)]
      exact hit_one c d t h2 r hr hc
/-- how many places have the cell -/
def hitN (L : List Q) (c d : Int) : Nat := (L.filter fun r => inQ r c d).length
theorem hitN_le (c d : Int) : ∀ (L : List Q), Apart c d L → hitN L c d ≤ 1
  | [], _ => by simp [hitN]
  | q :: t, hp => by
    obtain ⟨h1, h2⟩ := List.pairwise_cons.1 hp
    have ih := hitN_le c d t h2
    unfold hitN at *
    rw [List.filter_cons]
    split
    · rename_i hq
      have e : t.filter (fun r => inQ r c d) = [] := List.filter_eq_nil_iff.2 fun r hr hc => h1 r hr ⟨hq, hc⟩
      rw [e]; simp
    · exact ih
theorem hitN_zero (c d : Int) (L : List Q) (h : hitN L c d = 0) : hitOf L c d = -1 := hitOf_none L c d (by
  unfold hitN at h
  have e := List.filter_eq_nil_iff.1 (List.eq_nil_of_length_eq_zero h)
  rw [List.any_eq_false]
  exact e)
theorem hitN_nil (c d : Int) (L : List Q) : hitN (L.take 0) c d = 0 := by simp [hitN]
theorem hitN_take (c d : Int) (L : List Q) (j : Nat) (h : j < L.length) : hitN (L.take (j + 1)) c d = hitN (L.take j) c d + if inQ (nth L j) c d = true then 1 else 0 := by
  rw [List.take_succ_eq_append_getElem h, ← nth_eq h]
  unfold hitN
  rw [List.filter_append, List.length_append, List.filter_cons]
  split <;> simp
theorem findQ_mem (p : Int) : ∀ (L : List Q), ∀ r ∈ findQ p L, r ∈ L ∧ r.x0 = p
  | [], r, hr => by simp [findQ] at hr
  | q :: t, r, hr => by
    unfold findQ at hr
    split at hr
    · rename_i hq
      simp at hr hq
      subst hr
      exact ⟨List.mem_cons_self .., hq⟩
    · obtain ⟨h1, h2⟩ := findQ_mem p t r hr
      exact ⟨List.mem_cons_of_mem _ h1, h2⟩
theorem findQ_len (p : Int) : ∀ (L : List Q), findQ p L = [] ∨ ∃ r, findQ p L = [r]
  | [] => .inl rfl
  | q :: t => by
    unfold findQ
    split
    · exact .inr ⟨q, rfl⟩
    · exact findQ_len p t
/-- the place of a pane is hit at its first cell -/
theorem ro_hit {x : Ly} {p : Int} (h : (roOf x p).1 = 0) : ∃ r, (roOf x p).2 = [r] ∧ r.x0 = p ∧ lyHit x r.x1 r.x2 = (0, p) := by
  by_cases hf : lyFault x = 0
  · unfold roOf at h ⊢
    rw [if_pos hf] at h ⊢
    rcases findQ_len p (lyRects x) with e | ⟨r, e⟩
    · rw [e] at h; simp at h
    · rw [e]
      obtain ⟨hm, hp⟩ := findQ_mem p (lyRects x) r (by rw [e]; simp)
      have hg := rects_good hf r hm
      unfold Good at hg
      have hc : inQ r r.x1 r.x2 = true := (inQ_iff _ _ _).2 (by omega)
      obtain ⟨h1, h2⟩ := rect_in hf hm hc
      refine ⟨r, rfl, hp, ?_⟩
      rw [hit_in hf h1 h2, hit_one _ _ _ (rects_apart hf _ _) r hm hc, hp]
  · rw [ro_fault hf] at h
    exact absurd h hf

end Go.Proofs.Ytbfickdgjgbfhaa

/- HitAt of the program and of the model. -/
namespace Go.Proofs.Ytbfickdgjgbfhaa
open Go.RowKit
set_option linter.unusedVariables false

/-- the layout boxed, and the cells of the answer -/
structure HitSt (w : World) (x : Ly) (p : Option Addr) (c : Nat) (W : World) : Prop where
  ly : LyAt W w.heap.size x p c
  res : AtM W (w.heap.size + 1) [.int .i64 0, .int .i64 0]
  below : Below w.heap.size w W
theorem HitSt.on {w W W' : World} {x : Ly} {p : Option Addr} {c : Nat} (h : HitSt w x p c W) (hb : Below W.heap.size W W') : HitSt w x p c W' := ⟨h.ly.on hb, h.res.on hb, below_on h.below hb⟩
theorem HitSt.start (w : World) (x : Ly) (p : Option Addr) (c : Nat) (t t' : TypeId) (h : Qs w w.heap.size p x.nodes) : HitSt w x p c ((w.alloc (.cells #[.int .i64 x.wide, .int .i64 x.high, .slice p x.nodes.length c] t)).alloc (.cells #[.int .i64 0, .int .i64 0] t')) := by
  have hX := (LyAt.new w x p c t h).on (below_mk _ (.cells #[.int .i64 0, .int .i64 0] t'))
  have hR := AtM.new (w.alloc (.cells (lyL x p c).toArray t)) [.int .i64 0, .int .i64 0] t'
  rw [World.size_alloc] at hR
  exact ⟨hX, hR, below_on (below_mk _ _) (below_mk _ _)⟩
theorem root_in {x : Ly} {R : List Q} {k : Nat} {c d : Int} (h : Inv x.nodes x.wide x.high k R) (h1 : inR c 0 (x.wide - 1) = true) (h2 : inR d 0 (x.high - 1) = true) : inQ (nth R 0) c d = true := by
  rw [inQ_geo h.root]
  unfold inQ whole
  simp only [Int.zero_add]
  rw [h1, h2]
  rfl

set_option maxRecDepth 100000 in
set_option maxHeartbeats 4000000 in
theorem implHitAt_any (x : Ly) (cc d : Int) (p : Option Addr) (c : Nat) (w : World) (h : Qs w w.heap.size p x.nodes) (hl : x.nodes.length ≤ 1048576) :
    Calls Try.prog 42 #[.agg #[.int .i64 x.wide, .int .i64 x.high, .slice p x.nodes.length c], .int .i64 cc, .int .i64 d] w fun e w' => e = .returned (.agg #[.int .i64 (lyHit x cc d).1, .int .i64 (lyHit x cc d).2]) ∧ Below w.heap.size w w' := by
  have HX := Lib.hid (HitSt.start w x p c 28 43 h)
  have HF := Lib.hid (fun W h => implLayoutFault_any x p c W h hl)
  clear h
  by_cases hf : lyFault x = 0
  · obtain ⟨R, hr, ht, hi⟩ := run_of_fault hf
    obtain ⟨wd0, wd1⟩ := inR_iff.1 ht.wide
    obtain ⟨hg0, hg1⟩ := inR_iff.1 ht.high
    have HO := Lib.hid (fun hh => hit_out (x := x) (c := cc) (d := d) hf hh)
    have HI := Lib.hid (fun h1 h2 => hit_in (x := x) (c := cc) (d := d) hf h1 h2)
    rw [hf] at HF
    have HRT := Lib.hid (fun h1 h2 => root_in (c := cc) (d := d) hi h1 h2)
    have HT := Lib.hid ht
    have HRR := Lib.hid hr
    clear hf hr ht hi
    cases h1 : inR cc 0 (x.wide - 1)
    · have HE := Lib.hid (HO.out (by rw [h1]; simp))
      go_enter Try.func42, Try.ntmps42
      go_wp2_with fail
      refine (HF.out _ HX.out.ly.nodes).mono ?_
      rintro e w1 ⟨rfl, b1⟩
      have HX1 := Lib.hid (HX.out.on b1)
      obtain ⟨x0, x1, x2⟩ := HX1.out.ly.cells.tri
      obtain ⟨z0, z1⟩ := HX1.out.res.cells.two
      have zf := HX1.out.res.free
      have hlt1 := HX1.out.res.cells.1
      have hlt0 := HX1.out.ly.cells.1
      have hlt2 : w.heap.size + 1 < w1.heap.size + 1 := by omega
      clear b1 HX
      go_wp2_with (go_at_call 74; refine (isWithin_two _ _ _ _ _ _ (by simp)).mono ?_; rw [h1]; rintro e w' ⟨rfl, rfl⟩)
      rw [HE.out]
      exact bodyPost_ret (v := .agg #[.int .i64 3, .int .i64 0]) (by simp [results, Try.results42, go_sem, z0, z1, hlt1]) rfl ⟨rfl, below_on (rr_low HX1.out.below _ _) (below_mk _ _)⟩
    cases h2 : inR d 0 (x.high - 1)
    · have HE := Lib.hid (HO.out (by rw [h2]; simp))
      go_enter Try.func42, Try.ntmps42
      go_wp2_with fail
      refine (HF.out _ HX.out.ly.nodes).mono ?_
      rintro e w1 ⟨rfl, b1⟩
      have HX1 := Lib.hid (HX.out.on b1)
      obtain ⟨x0, x1, x2⟩ := HX1.out.ly.cells.tri
      obtain ⟨z0, z1⟩ := HX1.out.res.cells.two
      have zf := HX1.out.res.free
      have hlt1 := HX1.out.res.cells.1
      have hlt0 := HX1.out.ly.cells.1
      have hlt2 : w.heap.size + 1 < w1.heap.size + 1 := by omega
      clear b1 HX
      go_wp2_with (go_at_call 74; refine (isWithin_two _ _ _ _ _ _ (by simp)).mono ?_; (first | rw [h1] | rw [h2]); rintro e w' ⟨rfl, rfl⟩)
      rw [HE.out]
      exact bodyPost_ret (v := .agg #[.int .i64 3, .int .i64 0]) (by simp [results, Try.results42, go_sem, z0, z1, hlt1, hlt2]) rfl ⟨rfl, below_on (below_on (rr_low HX1.out.below _ _) (below_mk _ _)) (below_mk _ _)⟩
    · have HE := Lib.hid (HI.out h1 h2)
      go_enter Try.func42, Try.ntmps42
      go_wp2_with fail
      refine (HF.out _ HX.out.ly.nodes).mono ?_
      rintro e w1 ⟨rfl, b1⟩
      have HX1 := Lib.hid (HX.out.on b1)
      obtain ⟨x0, x1, x2⟩ := HX1.out.ly.cells.tri
      have hlt1 := HX1.out.res.cells.1
      have hlt0 := HX1.out.ly.cells.1
      clear b1 HX
      have HX2 := Lib.hid (HX1.out.on (below_on (below_mk w1 (.cells #[.int .i64 0, .int .i64 (x.wide - 1)] 2)) (below_mk _ (.cells #[.int .i64 0, .int .i64 (x.high - 1)] 2))))
      have HC := Lib.hid (paneUnder_any x cc d p c _ HX2.out.ly.nodes HT.out R HRR.out (HRT.out h1 h2))
      go_wp2_with (first
        | (go_at_call 74; refine (isWithin_two _ _ _ _ _ _ (by simp)).mono ?_; (first | rw [h1] | rw [h2]); rintro e w' ⟨rfl, rfl⟩)
        | (go_at_call 91; refine HC.out.mono ?_; rintro e w2 ⟨rfl, b2⟩; have hX3 := HX2.out.on b2; have HX3 := Lib.hid hX3; obtain ⟨t0, t1⟩ := hX3.res.cells.two; have tf := hX3.res.free; clear b2 hX3))
      rw [HE.out]
      exact bodyPost_ret (v := .agg #[.int .i64 0, .int .i64 (hitOf (lyRects x) cc d)]) (by simp [results, Try.results42, go_sem, t0, t1]) rfl ⟨rfl, rr_low HX3.out.below _ _⟩
  · rw [hit_fault hf]
    have hf2 : (lyFault x != 0) = true := by simpa using hf
    clear hf
    generalize lyFault x = k at *
    go_enter Try.func42, Try.ntmps42
    go_wp2_with fail
    refine (HF.out _ HX.out.ly.nodes).mono ?_
    rintro e w1 ⟨rfl, b1⟩
    have HX1 := Lib.hid (HX.out.on b1)
    obtain ⟨z0, z1⟩ := HX1.out.res.cells.two
    have zf := HX1.out.res.free
    clear b1 HX
    go_wp2
    exact bodyPost_ret (v := .agg #[.int .i64 k, .int .i64 0]) (by simp [results, Try.results42, go_sem, z0, z1]) rfl ⟨rfl, rr_low HX1.out.below _ _⟩

set_option maxRecDepth 100000 in
set_option maxHeartbeats 4000000 in
theorem specHitAt_any (x : Ly) (cc d : Int) (p : Option Addr) (c : Nat) (w : World) (h : Qs w w.heap.size p x.nodes) (hl : x.nodes.length ≤ 1048576) :
    Calls Try.prog 47 #[.agg #[.int .i64 x.wide, .int .i64 x.high, .slice p x.nodes.length c], .int .i64 cc, .int .i64 d] w fun e w' => e = .returned (.agg #[.int .i64 (lyHit x cc d).1, .int .i64 (lyHit x cc d).2]) ∧ Below w.heap.size w w' := by
  have HX := Lib.hid (HitSt.start w x p c 28 43 h)
  have HF := Lib.hid (fun W h => specLayoutFault_any x p c W h hl)
  clear h
  by_cases hf : lyFault x = 0
  · obtain ⟨R, hr, ht, hi⟩ := run_of_fault hf
    obtain ⟨wd0, wd1⟩ := inR_iff.1 ht.wide
    obtain ⟨hg0, hg1⟩ := inR_iff.1 ht.high
    have HO := Lib.hid (fun hh => hit_out (x := x) (c := cc) (d := d) hf hh)
    have HI := Lib.hid (fun h1 h2 => hit_in (x := x) (c := cc) (d := d) hf h1 h2)
    rw [hf] at HF
    have HRT := Lib.hid (fun h1 h2 => root_in (c := cc) (d := d) hi h1 h2)
    have HT := Lib.hid ht
    have HRR := Lib.hid hr
    clear hf hr ht hi
    cases h1 : inR cc 0 (x.wide - 1)
    · have HE := Lib.hid (HO.out (by rw [h1]; simp))
      go_enter Try.func47, Try.ntmps47
      go_wp2_with fail
      refine (HF.out _ HX.out.ly.nodes).mono ?_
      rintro e w1 ⟨rfl, b1⟩
      have HX1 := Lib.hid (HX.out.on b1)
      obtain ⟨x0, x1, x2⟩ := HX1.out.ly.cells.tri
      obtain ⟨z0, z1⟩ := HX1.out.res.cells.two
      have zf := HX1.out.res.free
      have hlt1 := HX1.out.res.cells.1
      have hlt0 := HX1.out.ly.cells.1
      clear b1 HX
      go_wp2_with (go_at_call 52; refine (l1In_any _ _ _ _).mono ?_; rw [h1]; rintro e w' ⟨rfl, rfl⟩)
      rw [HE.out]
      exact bodyPost_ret (v := .agg #[.int .i64 3, .int .i64 0]) (by simp [results, Try.results47, go_sem, z0, z1]) rfl ⟨rfl, rr_low HX1.out.below _ _⟩
    cases h2 : inR d 0 (x.high - 1)
    · have HE := Lib.hid (HO.out (by rw [h2]; simp))
      go_enter Try.func47, Try.ntmps47
      go_wp2_with fail
      refine (HF.out _ HX.out.ly.nodes).mono ?_
      rintro e w1 ⟨rfl, b1⟩
      have HX1 := Lib.hid (HX.out.on b1)
      obtain ⟨x0, x1, x2⟩ := HX1.out.ly.cells.tri
      obtain ⟨z0, z1⟩ := HX1.out.res.cells.two
      have zf := HX1.out.res.free
      have hlt1 := HX1.out.res.cells.1
      have hlt0 := HX1.out.ly.cells.1
      clear b1 HX
      go_wp2_with (go_at_call 52; refine (l1In_any _ _ _ _).mono ?_; (first | rw [h1] | rw [h2]); rintro e w' ⟨rfl, rfl⟩)
      rw [HE.out]
      exact bodyPost_ret (v := .agg #[.int .i64 3, .int .i64 0]) (by simp [results, Try.results47, go_sem, z0, z1]) rfl ⟨rfl, rr_low HX1.out.below _ _⟩
    · have HE := Lib.hid (HI.out h1 h2)
      go_enter Try.func47, Try.ntmps47
      go_wp2_with fail
      refine (HF.out _ HX.out.ly.nodes).mono ?_
      rintro e w1 ⟨rfl, b1⟩
      have HX1 := Lib.hid (HX.out.on b1)
      obtain ⟨x0, x1, x2⟩ := HX1.out.ly.cells.tri
      have hlt1 := HX1.out.res.cells.1
      have hlt0 := HX1.out.ly.cells.1
      clear b1 HX
      have HC := Lib.hid (l6Hit_any x cc d p c w.heap.size w1 HX1.out.ly HT.out R HRR.out)
      go_wp2_with (first
        | (go_at_call 52; refine (l1In_any _ _ _ _).mono ?_; (first | rw [h1] | rw [h2]); rintro e w' ⟨rfl, rfl⟩)
        | (go_at_call 94; refine HC.out.mono ?_; rintro e w2 ⟨rfl, b2⟩; have hX3 := HX1.out.on b2; have HX3 := Lib.hid hX3; obtain ⟨t0, t1⟩ := hX3.res.cells.two; have tf := hX3.res.free; clear b2 hX3))
      rw [HE.out]
      exact bodyPost_ret (v := .agg #[.int .i64 0, .int .i64 (hitOf (lyRects x) cc d)]) (by simp [results, Try.results47, go_sem, t0, t1]) rfl ⟨rfl, rr_low HX3.out.below _ _⟩
  · rw [hit_fault hf]
    have hf2 : (lyFault x != 0) = true := by simpa using hf
    clear hf
    generalize lyFault x = k at *
    go_enter Try.func47, Try.ntmps47
    go_wp2_with fail
    refine (HF.out _ HX.out.ly.nodes).mono ?_
    rintro e w1 ⟨rfl, b1⟩
    have HX1 := Lib.hid (HX.out.on b1)
    obtain ⟨z0, z1⟩ := HX1.out.res.cells.two
    have zf := HX1.out.res.free
    clear b1 HX
    go_wp2
    exact bodyPost_ret (v := .agg #[.int .i64 k, .int .i64 0]) (by simp [results, Try.results47, go_sem, z0, z1]) rfl ⟨rfl, rr_low HX1.out.below _ _⟩

end Go.Proofs.Ytbfickdgjgbfhaa
