/- The program's linked: the numbers of the splits laid anew. -/
import Derived.Test.YtbfickdgjgbfhaaQEdList
import Derived.Test.YtbfickdgjgbfhaaQLyTree4
import Derived.Test.YtbfickdgjgbfhaaQLyImpl4
import Derived.Test.YtbfickdgjgbfhaaQLyImpl5ToLyIn
import Derived.Test.YtbfickdgjgbfhaaQTakesToMem
namespace Go.Proofs.Ytbfickdgjgbfhaa
open Go.RowKit
set_option linter.unusedVariables false
set_option linter.unusedSimpArgs false

theorem OwnN.setBelow {w : World} {base : Nat} {v : Value} {l : List Int} (h : OwnN w base v l) {a : Addr} (ha : a.block < base) (u : Value) : OwnN (w.setCell a u) base v l := ownsRow_setCell_below h ha u
theorem OwnN.cut {w : World} {base g n c : Nat} {l : List Int} (h : OwnN w base (.slice (some ⟨g, 0, none⟩) n c) l) (k : Nat) (hk : k ≤ l.length) : OwnN w base (.slice (some ⟨g, 0, none⟩) k c) (l.take k) := by
  have hn := h.len
  subst hn
  rcases h.2 with ⟨e, _⟩ | ⟨g', cap, cur, e, hb, hh, h1, h2, h3, h4⟩
  · simp at e
  simp at e
  obtain ⟨rfl, rfl⟩ := e
  have hk2 : (l.take k).length = k := by rw [List.length_take]; omega
  refine ⟨by simp, .inr ⟨g, c, cur, by rw [hk2], hb, hh, by omega, h2, h3, ?_⟩⟩
  rw [hk2, Nat.mul_one]
  rw [Nat.mul_one] at h4
  rw [List.map_take, ← h4, List.take_take, Nat.min_eq_left hk]
theorem OwnN.none {w : World} {base : Nat} {c n : Nat} {l : List Int} (h : OwnN w base (.slice none n c) l) : l = [] ∧ n = 0 ∧ c = 0 := by
  rcases h.2 with ⟨e, hl⟩ | ⟨g', cap, cur, e, _⟩
  · simp at e; exact ⟨List.eq_nil_of_length_eq_zero hl, e.1, e.2⟩
  · simp at e
theorem ownN_nil (w : World) (base : Nat) : OwnN w base (.slice none 0 0) [] := World.ownsRow_nil w _ _ _
theorem OwnN.snoc {w : World} {base : Nat} {v : Value} {l : List Int} {x : Int} (h : w.ownsRow base 2 1 v (l.length + 1) (l.map (Value.int .i64) ++ [.int .i64 x])) : OwnN w base v (l ++ [x]) := by
  unfold OwnN; simpa using h

theorem one_new (w : World) (x : Int) : ∀ j u, [Value.int .i64 x][j]? = some u → (w.alloc (.cells #[.int .i64 x] 2)).cell? ((⟨w.heap.size, 0, none⟩ : Addr).add j) = some u := by
  intro j u hj
  have ea : (⟨w.heap.size, 0, none⟩ : Addr).add j = ⟨w.heap.size, j, none⟩ := by simp [Addr.add]; omega
  rw [ea]
  exact (AtL.new w [.int .i64 x] 2).get j hj

/-- in the midst of linked: the nodes from k on have their numbers -/
structure LkRel (w : World) (b1 g c : Nat) (l : List Q) (k : Nat) (v : Value) (W : World) : Prop where
  out : OwnQ 76 W w.heap.size (.slice (some ⟨g, 0, none⟩) l.length c) (dn l k)
  own : OwnN W b1 v (stk l k).reverse
  lo : w.heap.size ≤ g ∧ g < b1
  below : Below w.heap.size w W
  hi : b1 ≤ W.heap.size
theorem LkRel.on {w : World} {b1 g c : Nat} {l : List Q} {k : Nat} {v : Value} {W W' : World} (h : LkRel w b1 g c l k v W) (hb : Below W.heap.size W W') : LkRel w b1 g c l k v W' :=
  ⟨h.out.on hb, h.own.on hb, h.lo, below_on h.below hb, Nat.le_trans h.hi hb.size⟩
/-- behind the first store -/
structure LkMid (w : World) (b1 g c : Nat) (l : List Q) (k : Nat) (a : Int) (v : Value) (W : World) : Prop where
  out : OwnQ 76 W w.heap.size (.slice (some ⟨g, 0, none⟩) l.length c) ((dn l (k + 1)).set k (qPut (nth l k) 3 a))
  own : OwnN W b1 v (stk l (k + 1)).reverse
  lo : w.heap.size ≤ g ∧ g < b1
  below : Below w.heap.size w W
  hi : b1 ≤ W.heap.size
theorem LkMid.on {w : World} {b1 g c : Nat} {l : List Q} {k : Nat} {a : Int} {v : Value} {W W' : World} (h : LkMid w b1 g c l k a v W) (hb : Below W.heap.size W W') : LkMid w b1 g c l k a v W' :=
  ⟨h.out.on hb, h.own.on hb, h.lo, below_on h.below hb, Nat.le_trans h.hi hb.size⟩
theorem LkRel.mid {w : World} {b1 g c : Nat} {l : List Q} {k : Nat} {v : Value} {W : World} (h : LkRel w b1 g c l (k + 1) v W) (hk : k < l.length) (a : Int) : LkMid w b1 g c l k a v (W.setCell ⟨g, k * 5 + 3, none⟩ (.int .i64 a)) := by
  have hlen := dn_len l (k + 1)
  have s1 := (h.out.stored k 3 a (by omega) (by omega)).1
  rw [dn_at l k hk] at s1
  exact ⟨s1, h.own.setBelow (by exact h.lo.2) _, h.lo, h.below.setCell (by exact h.lo.1) _, by simpa using h.hi⟩
/-- behind both -/
structure LkEnd (w : World) (b1 g c : Nat) (l : List Q) (k : Nat) (v : Value) (W : World) : Prop where
  out : OwnQ 76 W w.heap.size (.slice (some ⟨g, 0, none⟩) l.length c) (dn l k)
  own : OwnN W b1 v (stk l (k + 1)).reverse
  lo : w.heap.size ≤ g ∧ g < b1
  below : Below w.heap.size w W
  hi : b1 ≤ W.heap.size
theorem LkEnd.on {w : World} {b1 g c : Nat} {l : List Q} {k : Nat} {v : Value} {W W' : World} (h : LkEnd w b1 g c l k v W) (hb : Below W.heap.size W W') : LkEnd w b1 g c l k v W' :=
  ⟨h.out.on hb, h.own.on hb, h.lo, below_on h.below hb, Nat.le_trans h.hi hb.size⟩
theorem LkMid.last {w : World} {b1 g c : Nat} {l : List Q} {k : Nat} {a : Int} {v : Value} {W : World} (h : LkMid w b1 g c l k a v W) (hk : k < l.length) (hs : isSplitB (nth l k) = true) (b : Int) (r : List Int) (hst : stk l (k + 1) = a :: b :: r) :
    LkEnd w b1 g c l k v (W.setCell ⟨g, k * 5 + 4, none⟩ (.int .i64 b)) := by
  have hlen := dn_len l (k + 1)
  have s2 := (h.out.stored k 4 b (by simp; omega) (by omega)).1
  refine ⟨?_, h.own.setBelow (by exact h.lo.2) _, h.lo, h.below.setCell (by exact h.lo.1) _, by simpa using h.hi⟩
  rw [nth_set (by omega), if_pos rfl, List.set_set] at s2
  rw [(dn_split l k hk hs a b r hst).1]
  simpa [qPut] using s2

set_option maxRecDepth 100000 in
set_option maxHeartbeats 4000000 in
theorem linked_any (l : List Q) (t : Tr) (ad : Addr) (c : Nat) (w : World) (hq : Qs w w.heap.size (some ad) l) (hl : l.length ≤ 100) (h0 : 0 < l.length) (ht : l.map strip = pre t) :
    Calls Try.prog 64 #[.slice (some ad) l.length c] w (NewL w (num t 0)) := by
  obtain ⟨i0, hi, hz0, hz1, hz2⟩ := info_parts Try.info_i64n
  have HI := Lib.hid (And.intro hi (And.intro hz0 (And.intro hz1 hz2)))
  have HC := Lib.hid (cloneNodes_any l ad c w hq (by omega))
  have HT := Lib.hid (fun k hk hs => stk_two ht k hk hs)
  have HN := Lib.hid (dn_all ht)
  have HST := Lib.hid (fun k => stk_le (l.drop k) k)
  clear hi hz0 hz1 hz2 hq ht
  go_enter Try.func64, Try.ntmps64
  go_wp2_with fail
  refine HC.out.mono ?_
  rintro e w1 ⟨v, rfl, ov, b1⟩
  rcases ov.form with ⟨rfl, hx⟩ | ⟨g, cg, rfl, hg0, hg1, -⟩
  · exact absurd hx (by intro e; simp [e] at h0)
  have HR0 : Hid (LkRel w w1.heap.size g cg l l.length (.slice none 0 0) w1) := Lib.hid ⟨by rw [dn_end]; exact ov, by rw [stk_end]; exact ownN_nil _ _, ⟨hg0, hg1⟩, b1, Nat.le_refl _⟩
  have hz1 := b1.size
  clear ov b1 HC
  generalize hB : w1.heap.size = B at *
  clear hB
  go_wp2
  go_loopw [4, 5, 6] (fun v i _ wr => ∃ k : Nat, k ≤ l.length ∧ i = .int .i64 ((k : Int) - 1) ∧ LkRel w B g cg l k v wr) (fun _ i _ _ => (intOf i + 1).toNat)
  case atStart => exact ⟨l.length, by omega, by go_num, HR0.out⟩
  case round =>
    obtain ⟨k, hk, rfl, hr⟩ := hrel
    have HR := Lib.hid hr
    clear hr HR0
    by_cases hk0 : k = 0
    · subst hk0
      have hO := HR.out.out
      rw [HN.out] at hO
      have HO := Lib.hid hO
      have HB := Lib.hid HR.out.below
      clear hO HR
      have hneg : ¬ ((0 : Int) - 1 ≥ 0) := by omega
      go_wp2
      go_ret
      exact ⟨_, rfl, HO.out, HB.out⟩
    · obtain ⟨j, rfl⟩ : ∃ j, k = j + 1 := ⟨k - 1, by omega⟩
      have hjl : j < l.length := by omega
      have hej : (((j + 1 : Nat) : Int) - 1) = (j : Int) := by omega
      rw [hej]
      clear hej
      have hge : (j : Int) ≥ 0 := by omega
      have i1 : (j : Int) < (l.length : Int) := by omega
      have i0 : (0 : Int) ≤ (j : Int) := by omega
      obtain ⟨-, hrow, hfz⟩ := HR.out.out.row
      have hrj := hrow j (by rw [dn_len]; exact hjl)
      rw [dn_at l j hjl] at hrj
      obtain ⟨c0, c1, c2, c3, c4⟩ := hrj
      have HIS := Lib.hid (isSplit_any (nth l j) wr)
      have hsl := HST.out (j + 1)
      have hsl2 : (l.drop (j + 1)).length ≤ 100 := by simp; omega
      have HSL : Hid ((stk l (j + 1)).length ≤ 100) := Lib.hid (Nat.le_trans hsl hsl2)
      clear hrow hsl hsl2
      cases hs : isSplitB (nth l j)
      · rw [hs] at HIS
        obtain ⟨e1, e2⟩ := dn_leaf l j hjl hs
        have HE1 := Lib.hid e1
        have HE2 := Lib.hid e2
        clear e1 e2
        go_wp2_with fail
        refine HIS.out.mono ?_
        rintro e w2 ⟨rfl, b2⟩
        have HR2 := Lib.hid (HR.out.on b2)
        clear b2 HR HIS c0 c1 c2 c3 c4 hfz
        have HR3 := Lib.hid (HR2.out.on (below_mk w2 (.cells #[.int .i64 (j : Int)] 2)))
        have HNW := Lib.hid (one_new w2 (j : Int))
        have hhi := HR3.out.hi
        go_wp2_with (at_builtin; refine wpList_append_own _ rfl _ _ 114 rfl B 2 _ _ 1 8 Try.underlying114 HI.out.1 HI.out.2.1 HI.out.2.2.1 HI.out.2.2.2 rfl (by decide) _ _ _ rfl HR3.out.own ⟨w2.heap.size, 0, none⟩ 1 1 [.int .i64 (j : Int)] rfl rfl HNW.out (ints_one [(j : Int)]) (by unfold maxLen; have := HSL.out; simp; omega) (by have := HSL.out; simp; omega) hhi ?_; intro v' w4 hown hgrow _)
        have hb4 : Below w.heap.size w w4 := HR3.out.below.trans (below_of_grown hgrow HR3.out.below.size (fun g' hg => by have := (HR3.out.own.lt g' hg).1; have := HR3.out.lo; omega))
        have hgr : OwnQ 76 w4 w.heap.size (.slice (some ⟨g, 0, none⟩) l.length cg) (dn l j) := by
          rw [HE1.out]
          exact HR3.out.out.far hgrow (fun g' hg e => by
            have := (HR3.out.own.lt g' e.symm).1
            have h2 := HR3.out.lo
            simp [Value.ownBlock] at hg
            omega)
        have hown2 : OwnN w4 B v' (stk l j).reverse := by
          rw [HE2.out, List.reverse_cons]
          exact OwnN.snoc hown
        exact ⟨⟨j, by omega, by go_num, ⟨hgr, hown2, HR3.out.lo, hb4, Nat.le_trans hhi hgrow.size⟩⟩, by simp [intOf] <;> omega⟩
      · rw [hs] at HIS
        obtain ⟨a, b, r, hst⟩ := HT.out j hjl hs
        have hown := HR.out.own
        rw [hst] at hown
        rcases hown.form with ⟨-, hx⟩ | ⟨gn, cn, rfl, hgn0, hgn1, -⟩
        · simp at hx
        have hlen : (a :: b :: r).reverse.length = r.length + 2 := by simp
        rw [hlen] at hown HR
        have hcap : r.length + 2 ≤ cn := by
          rcases hown.2 with ⟨e, _⟩ | ⟨g', cap, cur, e, _, _, hc, _⟩
          · simp at e
          · simp at e; rw [hlen] at hc; omega
        have HRV : Hid ((a :: b :: r).reverse = r.reverse ++ [b, a]) := Lib.hid (by simp)
        have HLK := Lib.hid (fun v W (h : LkMid w B g cg l j a v W) => h.last hjl hs b r hst)
        have HDN := Lib.hid (dn_split l j hjl hs a b r hst)
        have hsl3 := HSL.out
        rw [hst] at hsl3
        simp only [List.length_cons] at hsl3
        have HSTK := Lib.hid hst
        clear hst hown hlen
        go_wp2_with fail
        refine HIS.out.mono ?_
        rintro e w2 ⟨rfl, b2⟩
        have HR2 := Lib.hid (HR.out.on b2)
        clear b2 HR HIS c0 c1 c2 c3 c4 hfz
        go_upto_region 8 with (fail)
        refine wp_genQ (LkRel w B g cg l (j + 1) (.slice (some ⟨gn, 0, none⟩) (r.length + 2) cn)) HR2.out (fun W hM => ?_)
        clear HR2 w2
        have hm : ((r.length : Int) + 2 - 1) = ((r.length + 1 : Nat) : Int) := by omega
        rw [hm]
        clear hm
        have hMd := hM.on (below_drewN (Below.refl W.heap.size W) 1)
        have HMd := Lib.hid hMd
        have hS0 := hMd.own
        rw [HSTK.out, HRV.out] at hS0
        have HS0 := Lib.hid hS0
        have HM0 := Lib.hid hM
        clear hM hMd hS0 HMd
        have g1 : r.length + 1 < (r.reverse ++ [b, a]).length := by simp
        have g2 : r.length < (r.reverse ++ [b, a]).length := by simp
        have e1 : (r.reverse ++ [b, a]).getD (r.length + 1) 0 = a := by simp [List.getD_eq_getElem?_getD, List.getElem?_append_right]
        have e2 : (r.reverse ++ [b, a]).getD r.length 0 = b := by simp [List.getD_eq_getElem?_getD, List.getElem?_append_right]
        have E1 := Lib.hid (fun W' (h : OwnN W' B (.slice (some ⟨gn, 0, none⟩) (r.length + 2) cn) (r.reverse ++ [b, a])) => And.intro ((h.at _ g1).1.trans (by rw [e1])) ((h.at _ g2).1.trans (by rw [e2])))
        clear g1 g2 e1 e2
        have HLEN : Hid (r.reverse.length = r.length) := Lib.hid (by simp)
        generalize hn2 : r.length + 2 = n2 at *
        generalize hn1 : r.length + 1 = n1 at *
        generalize hn0 : r.length = n0 at *
        have i5 : (n1 : Int) < (n2 : Int) := by omega
        have i6 : (n0 : Int) < (n2 : Int) := by omega
        have i7 : (0 : Int) ≤ (n1 : Int) := by omega
        have i8 : (0 : Int) ≤ (n0 : Int) := by omega
        have Z1 : Hid ((n1 : Int) - 1 = (n0 : Int)) := Lib.hid (by omega)
        have Z0 : Hid (n0 ≤ 100) := Lib.hid (by omega)
        have HN2 := Lib.hid hn2
        have HN0 := Lib.hid hn0
        clear hn2 hn1 hn0 hsl3
        refine wp_region_noPanic ?_
        refine wp_region_held_drew (S := fun W' => OwnN W' B (.slice (some ⟨gn, 0, none⟩) n2 cn) (r.reverse ++ [b, a])) (by kernel_rfl) HS0.out (fun hHeld => ?_)
        refine takeA 0 24 (.slice (some ⟨g, 0, none⟩) l.length cg) hHeld ?_
        simp only [Act.put, sa, s0, ss]
        refine takeA 1 25 (.int .i64 (j : Int)) hHeld ?_
        simp only [Act.put, sa, s0, ss]
        refine takeA 2 26 (.slice (some ⟨g, 0, none⟩) l.length cg) hHeld ?_
        simp only [Act.put, sa, s0, ss]
        refine takeA 3 27 (.int .i64 (j : Int)) hHeld ?_
        simp only [Act.put, sa, s0, ss]
        refine takeA 4 28 (.slice (some ⟨gn, 0, none⟩) n2 cn) hHeld ?_
        simp only [Act.put, sa, s0, ss]
        refine takeA 5 29 (.int .i64 (n1 : Int)) hHeld ?_
        simp only [Act.put, sa, s0, ss]
        refine takeA 6 30 (.pointer (some ⟨gn, n1, none⟩)) hHeld ?_
        simp only [Act.put, sa, s0, ss]
        refine takeB 7 31 (.int .i64 a) (fun w o hSw ho => ?_) hHeld ?_
        · obtain rfl := Option.some.inj ho; (have z1 := (E1.out _ hSw).1; go_simp)
        simp only [Act.put, sa, s0, ss]
        refine takeA 8 32 (.slice (some ⟨gn, 0, none⟩) n2 cn) hHeld ?_
        simp only [Act.put, sa, s0, ss]
        refine takeA 9 33 (.int .i64 (n1 : Int)) hHeld ?_
        simp only [Act.put, sa, s0, ss]
        refine takeB 10 34 (.int .i64 (n0 : Int)) (fun w o hSw ho => ?_) hHeld ?_
        · obtain rfl := Option.some.inj ho; (have z1 := Z1.out; have z0 := Z0.out; go_simp; exact IntWalk.i64_in _ ⟨by omega, by omega⟩)
        simp only [Act.put, sa, s0, ss]
        refine takeA 11 35 (.pointer (some ⟨gn, n0, none⟩)) hHeld ?_
        simp only [Act.put, sa, s0, ss]
        refine takeB 12 36 (.int .i64 b) (fun w o hSw ho => ?_) hHeld ?_
        · obtain rfl := Option.some.inj ho; (have z1 := (E1.out _ hSw).2; go_simp)
        simp only [Act.put, sa, s0, ss]
        refine takeA 13 37 (.pointer (some ⟨g, j * 5, none⟩)) hHeld ?_
        simp only [Act.put, sa, s0, ss]
        refine takeA 14 38 (.pointer (some ⟨g, j * 5 + 3, none⟩)) hHeld ?_
        simp only [Act.put, sa, s0, ss]
        obtain ⟨-, hrow3, hfz3⟩ := HM0.out.out.row
        obtain ⟨u0, u1, u2, u3, u4⟩ := hrow3 j (by rw [dn_len]; exact hjl)
        clear hrow3
        refine oneR 15 (by kernel_rfl) (by kernel_rfl) (fun o ho K' hK => ?_)
        obtain rfl := Option.some.inj ho
        clear ho
        go_simp
        have hMM := (HM0.out.mid hjl a).on (below_drewN (Below.refl _ _) 1)
        have HMM := Lib.hid hMM
        have hS4 := hMM.own
        rw [HSTK.out, HRV.out] at hS4
        clear u0 u1 u2 u3 u4 hfz3 hHeld hMM HM0 HS0
        refine hK.out _ _ (hS4) (fun hHeld => ?_)
        clear hK K'
        try simp only [Act.put, sa, s0, ss]
        refine takeA 16 39 (.pointer (some ⟨g, j * 5, none⟩)) hHeld ?_
        simp only [Act.put, sa, s0, ss]
        refine takeA 17 40 (.pointer (some ⟨g, j * 5 + 4, none⟩)) hHeld ?_
        simp only [Act.put, sa, s0, ss]
        clear hHeld hS4
        refine wpAny_gen (LkMid w B g cg l j a (.slice (some ⟨gn, 0, none⟩) n2 cn)) HMM.out (fun W2 hM2 => ?_)
        clear HMM
        obtain ⟨-, hrow3, hfz3⟩ := hM2.out.row
        obtain ⟨u0, u1, u2, u3, u4⟩ := hrow3 j (by rw [List.length_set, dn_len]; exact hjl)
        have HM2 := Lib.hid hM2
        clear hrow3 hM2
        refine oneR 18 (by kernel_rfl) (by kernel_rfl) (fun o ho K' hK => ?_)
        obtain rfl := Option.some.inj ho
        clear ho
        go_simp
        have hE := HLK.out _ _ HM2.out
        have HEE := Lib.hid hE
        have hS6 := hE.own
        rw [HSTK.out, HRV.out] at hS6
        clear u0 u1 u2 u3 u4 hfz3 hE HM2
        refine hK.out _ _ (hS6) (fun hHeld => ?_)
        clear hK K'
        try simp only [Act.put, sa, s0, ss]
        refine wpAnyH_done (by kernel_rfl) ?_ _
        refine NoPanic.normal ?_
        clear hHeld hS6
        refine wp_then (LkEnd w B g cg l j (.slice (some ⟨gn, 0, none⟩) n2 cn)) HEE.out (fun W6 hW6 => ?_)
        have HE6 := Lib.hid hW6
        have hcut := hW6.own
        rw [HSTK.out, HRV.out] at hcut
        have hcut2 := hcut.cut n0 (by rw [List.length_append, HLEN.out]; omega)
        have e5 : (r.reverse ++ [b, a]).take n0 = r.reverse := by rw [List.take_append_of_le_length (by rw [HLEN.out]; exact Nat.le_refl _), List.take_of_length_le (by rw [HLEN.out]; exact Nat.le_refl _)]
        rw [e5] at hcut2
        have HCUT := Lib.hid (hcut2.on (below_mk W6 (.cells #[.int .i64 (j : Int)] 2)))
        have HE7 := Lib.hid (hW6.on (below_mk W6 (.cells #[.int .i64 (j : Int)] 2)))
        clear HEE hW6 hcut hcut2 e5
        have z1 := Z1.out
        have z0 := Z0.out
        have hcn : ¬ cn = 0 := by have := HN2.out; omega
        have hcn2 : (n0 : Int) ≤ (cn : Int) := by have := HN2.out; omega
        have HNW := Lib.hid (one_new W6 (j : Int))
        have hhi := HE7.out.hi
        go_wp2_with (at_builtin; refine wpList_append_own _ rfl _ _ 114 rfl B 2 _ _ 1 8 Try.underlying114 HI.out.1 HI.out.2.1 HI.out.2.2.1 HI.out.2.2.2 rfl (by decide) _ _ _ rfl HCUT.out ⟨W6.heap.size, 0, none⟩ 1 1 [.int .i64 (j : Int)] rfl rfl HNW.out (ints_one [(j : Int)]) (by unfold maxLen; rw [HLEN.out]; omega) (by rw [HLEN.out]; omega) hhi ?_; intro v' w4 hown hgrow _)
        have hgn : gn = gn := rfl
        have hb4 : Below w.heap.size w w4 := HE7.out.below.trans (below_of_grown hgrow HE7.out.below.size (fun g' hg => by have := (HCUT.out.lt g' hg).1; have := HE7.out.lo; omega))
        have hgr : OwnQ 76 w4 w.heap.size (.slice (some ⟨g, 0, none⟩) l.length cg) (dn l j) :=
          HE7.out.out.far hgrow (fun g' hg e => by
            have := (HCUT.out.lt g' e.symm).1
            have h2 := HE7.out.lo
            simp [Value.ownBlock] at hg
            omega)
        have hown2 : OwnN w4 B v' (stk l j).reverse := by
          rw [HDN.out.2, List.reverse_cons]
          exact OwnN.snoc hown
        exact ⟨⟨j, by omega, by go_num, ⟨hgr, hown2, HE7.out.lo, hb4, Nat.le_trans hhi hgrow.size⟩⟩, by simp [intOf] <;> omega⟩
end Go.Proofs.Ytbfickdgjgbfhaa

/- The program's inserted, without, tidyNodes, layoutResult. -/
namespace Go.Proofs.Ytbfickdgjgbfhaa
open Go.RowKit
set_option linter.unusedVariables false
set_option linter.unusedSimpArgs false

/-- a layout and its code, the nodes in memory of the call's own -/
def NewLr (w : World) (k : Int) (x : Ly) (e : Ending) (w' : World) : Prop := ∃ v, e = .returned (lrV k x v) ∧ OwnQ 76 w' w.heap.size v x.nodes ∧ Below w.heap.size w w'

set_option maxRecDepth 100000 in
set_option maxHeartbeats 4000000 in
theorem tidyNodes_any (x : Ly) (p : Option Addr) (c : Nat) (w : World) (h : Qs w w.heap.size p x.nodes) (ht : Tree x) :
    Calls Try.prog 60 #[.slice p x.nodes.length c] w (NewL w x.tidy.nodes) := by
  have n0 := ht.n0
  have n1 := ht.n1
  have HX := Lib.hid h
  have HT := Lib.hid ht
  have HD := Lib.hid (fun W h => depthFirst_any x.nodes p c ht.n1 ht.okay x.nodes.length 0 W (by omega) (by omega) ht.n0 h)
  have hdl : (dfs x.nodes x.nodes.length 0).length = x.nodes.length := by rw [← trOf_size ht.okay _ 0 (by omega) ht.n0]; exact ht.size
  have hDne := Lib.hid (dfs_ne (ns := x.nodes) (f := x.nodes.length) (i := 0) (by omega))
  have hDlt := Lib.hid (dfs_lt ht.okay x.nodes.length 0 ht.n0)
  have HP := Lib.hid (dfs_pre ht.okay x.nodes.length 0 (by omega) ht.n0)
  have HTR : Hid (x.tidy.nodes = num (trOf x.nodes x.nodes.length 0) 0) := Lib.hid rfl
  rw [HTR.out]
  clear HTR h ht
  generalize dfs x.nodes x.nodes.length 0 = D at *
  generalize trOf x.nodes x.nodes.length 0 = T at *
  have HLK := Lib.hid (fun ad c W (hq : Qs W W.heap.size (some ad) (D.map (nth x.nodes))) => linked_any (D.map (nth x.nodes)) T ad c W hq (by simp; omega) (by simp; omega) HP.out)
  have HDL := Lib.hid hdl
  have dl : D.length ≤ 11 := by omega
  have dl0 : 0 < D.length := by omega
  clear hdl
  obtain ⟨i0r, hi0r, hz0, hz1, hz2⟩ := info_parts Try.info_nodeD
  have HI := Lib.hid (And.intro hi0r (And.intro hz0 (And.intro hz1 hz2)))
  clear hi0r hz0 hz1 hz2
  go_enter Try.func60, Try.ntmps60
  go_wp2_with fail
  refine (HD.out w HX.out).mono ?_
  rintro e w2 ⟨vd, rfl, od, b2⟩
  have HX2 := Lib.hid (HX.out.on b2)
  have HB2 := Lib.hid b2
  have HDD := Lib.hid od
  rcases od.form with ⟨-, hx0⟩ | ⟨gd, cd, rfl, hgd, hgdl, hgod⟩
  · exact absurd hx0 hDne.out
  clear od b2 HX HD
  have hlen : (intsOf D).length = D.length := by simp [intsOf]
  have HLEN := Lib.hid hlen
  rw [hlen]
  rw [hlen] at HDD
  clear hlen
  go_wp2
  go_loopw [3, 5, 9] (fun v _ i wr => ∃ j : Nat, j ≤ D.length ∧ i = .int .i64 j ∧ OwnQ 76 wr w2.heap.size v ((D.take j).map (nth x.nodes)) ∧ Below w2.heap.size w2 wr) (fun _ _ i _ => D.length - (intOf i).toNat)
  case atStart => exact ⟨0, by omega, rfl, by simpa using ownQ_nil _ _ _, Below.refl _ _⟩
  case round =>
    obtain ⟨j, hj, rfl, ho, hb⟩ := hrel
    have HO := Lib.hid ho
    have HB := Lib.hid hb
    clear ho hb
    by_cases hlt : j < D.length
    · clear HLK
      have hjn : D[j] < x.nodes.length := hDlt.out _ (List.getElem_mem hlt)
      obtain ⟨bn, off, rfl, _, _, hq⟩ := (HX2.out.on HB.out) (by intro e; simp [e] at n0)
      have hq := hq D[j] hjn
      have hd0 := ((HDD.out.on HB.out).at j (by rw [HLEN.out]; exact hlt)).1
      have hd1 : (intsOf D).getD j 0 = (D[j] : Int) := by simp [intsOf, List.getD_eq_getElem?_getD, hlt]
      rw [hd1] at hd0
      obtain ⟨c0, c1, c2, c3, c4⟩ := hq
      have HS : Hid ((D.take (j + 1)).map (nth x.nodes) = (D.take j).map (nth x.nodes) ++ [nth x.nodes D[j]]) := Lib.hid (by rw [List.take_succ_eq_append_getElem hlt, List.map_append]; rfl)
      have hol : ((D.take j).map (nth x.nodes)).length ≤ j := by rw [List.length_map]; exact List.length_take_le _ _
      clear hd1
      generalize D[j] = d at *
      have i1 : (d : Int) < (x.nodes.length : Int) := by omega
      have i0 : (0 : Int) ≤ (d : Int) := by omega
      have i3 : (j : Int) < (D.length : Int) := by omega
      have HNW := Lib.hid (fun j u hj => qat_new wr (nth x.nodes d) 76 j u hj)
      have HO4 := Lib.hid (HO.out.on (below_mk wr (.cells #[.int .i64 (nth x.nodes d).x0, .int .i64 (nth x.nodes d).x1, .int .i64 (nth x.nodes d).x2, .int .i64 (nth x.nodes d).x3, .int .i64 (nth x.nodes d).x4] 76)))
      have hsz := HB.out.size
      go_wp2_with (at_builtin; refine wpList_append_own _ rfl _ _ 26 rfl w2.heap.size 76 i0r _ 5 40 Try.underlying26 HI.out.1 HI.out.2.1 HI.out.2.2.1 HI.out.2.2.2 rfl (by decide) _ _ _ rfl HO4.out ⟨wr.heap.size, 0, none⟩ 1 1 (qC (nth x.nodes d)) rfl rfl HNW.out (qC_one _) (by unfold maxLen; omega) (by omega) (by simp; omega) ?_; intro v' w4 hown hgrow _)
      have hb4 : Below w2.heap.size w2 w4 := (below_on HB.out (below_mk wr _)).trans (below_of_grown hgrow (by simp; omega) (fun g hg => (HO.out.lt g hg).1))
      exact ⟨⟨j + 1, by omega, by go_num, by rw [HS.out]; exact OwnQ.snoc hown, hb4⟩, by simp [intOf]; omega⟩
    · obtain rfl : j = D.length := by omega
      rw [List.take_length] at HO
      have hO := HO.out
      rcases hO.form with ⟨-, hx⟩ | ⟨g, cg, rfl, hg0, hg1, -⟩
      · exact absurd hx (by intro e; have h9 := congrArg List.length e; rw [List.length_map] at h9; simp only [List.length_nil] at h9; omega)
      have HQ := Lib.hid hO.bs.2
      have HBB := Lib.hid (below_on HB2.out HB.out)
      clear hO HO
      generalize D.map (nth x.nodes) = M at *
      go_wp2_with fail
      refine (HLK.out _ cg _ HQ.out).mono ?_
      rintro e w5 ⟨v5, rfl, o5, b5⟩
      have HV := Lib.hid (o5.lower (base' := w.heap.size) HBB.out.size)
      have HB5 := Lib.hid (below_on HBB.out b5)
      clear o5 b5
      go_wp2
      go_ret
      exact ⟨_, rfl, HV.out, HB5.out⟩

set_option maxRecDepth 100000 in
set_option maxHeartbeats 4000000 in
theorem layoutResult_any (x : Ly) (l : List Q) (p q : Option Addr) (c d : Nat) (w : World) {base : Nat} (h : OwnQ 76 w base (.slice q l.length d) l) :
    Calls Try.prog 63 #[.agg #[.int .i64 x.wide, .int .i64 x.high, .slice p x.nodes.length c], .slice q l.length d] w fun e w' => e = .returned (lrV 0 ⟨x.wide, x.high, l⟩ (.slice q l.length d)) ∧ OwnQ 76 w' base (.slice q l.length d) l ∧ Below w.heap.size w w' := by
  have HX := Lib.hid (AtL.new w (lyL x p c) 28)
  unfold lyL at HX
  have HO := Lib.hid h
  clear h
  go_enter Try.func63, Try.ntmps63
  go_wp2
  exact bodyPost_ret (v := lrV 0 ⟨x.wide, x.high, l⟩ (.slice q l.length d)) (by simp [results, Try.results63, lrV, go_sem]) rfl ⟨rfl, (HO.out.on (below_mk _ _)).on (below_mk _ _), below_on (below_mk _ _) (below_mk _ _)⟩

set_option maxRecDepth 100000 in
set_option maxHeartbeats 4000000 in
theorem inserted_any (l : List Q) (k : Nat) (z : Q) (b off c : Nat) (w : World) (h : Qs w w.heap.size (some ⟨b, off, none⟩) l) (hk : k ≤ l.length) (hc : l.length ≤ c) (hl : l.length ≤ 50) (hc0 : 0 < c) (hcc : c ≤ 9223372036854775807) :
    Calls Try.prog 62 #[.slice (some ⟨b, off, none⟩) l.length c, .int .i64 k, .agg #[.int .i64 z.x0, .int .i64 z.x1, .int .i64 z.x2, .int .i64 z.x3, .int .i64 z.x4]] w (NewL w (l.take k ++ z :: l.drop k)) := by
  have HZ := Lib.hid (AtL.new w [.int .i64 z.x0, .int .i64 z.x1, .int .i64 z.x2, .int .i64 z.x3, .int .i64 z.x4] 76)
  have HB0 := Lib.hid (below_mk w (.cells #[.int .i64 z.x0, .int .i64 z.x1, .int .i64 z.x2, .int .i64 z.x3, .int .i64 z.x4] 76))
  have HH := Lib.hid h
  clear h
  have i1 : (k : Int) ≤ (l.length : Int) := by omega
  have i2 : (k : Int) ≤ (c : Int) := by omega
  have i0 : (0 : Int) ≤ (k : Int) := by omega
  have h3 : ∃ ad3, (if c = k then some (⟨b, off, none⟩ : Addr) else some ⟨b, off + k * 5, none⟩) = some ad3 ∧ ∀ W B, Qs W B (some ⟨b, off, none⟩) l → Qs W B (some ad3) (l.drop k) := by
    by_cases e : c = k
    · refine ⟨_, if_pos e, fun W B _ => ?_⟩
      rw [List.drop_eq_nil_of_le (by omega)]
      exact qx_nil _ _ _ _
    · exact ⟨_, if_neg e, fun W B hq => hq.drop k⟩
  obtain ⟨ad3, h3, hq3⟩ := h3
  have H3 := Lib.hid h3
  have HQ3 := Lib.hid hq3
  clear h3 hq3
  have b1 := below_mk w (.cells #[.int .i64 z.x0, .int .i64 z.x1, .int .i64 z.x2, .int .i64 z.x3, .int .i64 z.x4] 76)
  have b2 := below_mk (w.alloc (.cells #[.int .i64 z.x0, .int .i64 z.x1, .int .i64 z.x2, .int .i64 z.x3, .int .i64 z.x4] 76)) (.cells #[.int .i64 z.x0, .int .i64 z.x1, .int .i64 z.x2, .int .i64 z.x3, .int .i64 z.x4] 76)
  have b3 := below_drewN (below_mk ((w.alloc (.cells #[.int .i64 z.x0, .int .i64 z.x1, .int .i64 z.x2, .int .i64 z.x3, .int .i64 z.x4] 76)).alloc (.cells #[.int .i64 z.x0, .int .i64 z.x1, .int .i64 z.x2, .int .i64 z.x3, .int .i64 z.x4] 76)) (.cells #[.slice (some ⟨b, off, none⟩) k c, .slice (some ⟨w.heap.size + 1, 0, none⟩) 1 1, .slice (some ad3) (l.length - k) (c - k)] 26)) 1
  have HV := Lib.hid (below_on b2 b3)
  have HV0 := Lib.hid (below_on b1 (below_on b2 b3))
  have hz1 : Qs ((w.alloc (.cells #[.int .i64 z.x0, .int .i64 z.x1, .int .i64 z.x2, .int .i64 z.x3, .int .i64 z.x4] 76)).alloc (.cells #[.int .i64 z.x0, .int .i64 z.x1, .int .i64 z.x2, .int .i64 z.x3, .int .i64 z.x4] 76)) ((w.alloc (.cells #[.int .i64 z.x0, .int .i64 z.x1, .int .i64 z.x2, .int .i64 z.x3, .int .i64 z.x4] 76)).alloc (.cells #[.int .i64 z.x0, .int .i64 z.x1, .int .i64 z.x2, .int .i64 z.x3, .int .i64 z.x4] 76)).heap.size (some ⟨w.heap.size + 1, 0, none⟩) [z] :=
    (ownQ_one 76 (w.alloc (.cells #[.int .i64 z.x0, .int .i64 z.x1, .int .i64 z.x2, .int .i64 z.x3, .int .i64 z.x4] 76)) z (Nat.zero_le _) (by simp)).bs.2
  have hcells := (AtL.new ((w.alloc (.cells #[.int .i64 z.x0, .int .i64 z.x1, .int .i64 z.x2, .int .i64 z.x3, .int .i64 z.x4] 76)).alloc (.cells #[.int .i64 z.x0, .int .i64 z.x1, .int .i64 z.x2, .int .i64 z.x3, .int .i64 z.x4] 76)) [.slice (some ⟨b, off, none⟩) k c, .slice (some ⟨w.heap.size + 1, 0, none⟩) 1 1, .slice (some ad3) (l.length - k) (c - k)] 26).on (below_drewN (Below.refl _ _) 1)
  rw [World.size_alloc, World.size_alloc] at hcells
  have hrows : rowsOf [⟨⟨b, off, none⟩, c, l.take k⟩, ⟨⟨w.heap.size + 1, 0, none⟩, 1, [z]⟩, ⟨ad3, c - k, l.drop k⟩] = l.take k ++ z :: l.drop k := by simp [rowsOf]
  have HC := Lib.hid (concatNodes_any (w.heap.size + 1 + 1) 3 [⟨⟨b, off, none⟩, c, l.take k⟩, ⟨⟨w.heap.size + 1, 0, none⟩, 1, [z]⟩, ⟨ad3, c - k, l.drop k⟩] _ hcells.1 (by simp) (fun j hj => by
      have e1 : (l.take k).length = k := by rw [List.length_take]; omega
      have e2 : (l.drop k).length = l.length - k := List.length_drop ..
      match j, hj with
      | 0, _ => have := hcells.get 0 rfl; simpa [e1] using this
      | 1, _ => have := hcells.get 1 rfl; simpa using this
      | 2, _ => have := hcells.get 2 rfl; simpa [e2] using this)
    (fun j hj => by
      match j, hj with
      | 0, _ => exact (HH.out.on HV0.out).take k
      | 1, _ => exact hz1.on b3
      | 2, _ => exact HQ3.out _ _ (HH.out.on HV0.out)) (by rw [hrows]; simp; omega) (by rw [hrows]; simp; omega))
  rw [hrows] at HC
  clear b1 b2 b3 hz1 hcells hrows HH
  go_enter Try.func62, Try.ntmps62
  go_upto_region 1 with (fail)
  have HZ2 := Lib.hid (fun W' (hb : Below (w.alloc (.cells #[.int .i64 z.x0, .int .i64 z.x1, .int .i64 z.x2, .int .i64 z.x3, .int .i64 z.x4] 76)).heap.size (w.alloc (.cells #[.int .i64 z.x0, .int .i64 z.x1, .int .i64 z.x2, .int .i64 z.x3, .int .i64 z.x4] 76)) W') => (HZ.out.on hb).five)
  refine wp_region_noPanic ?_
  refine wp_region_held_drew (S := fun W' => Below ((w.alloc (.cells #[.int .i64 z.x0, .int .i64 z.x1, .int .i64 z.x2, .int .i64 z.x3, .int .i64 z.x4] 76))).heap.size ((w.alloc (.cells #[.int .i64 z.x0, .int .i64 z.x1, .int .i64 z.x2, .int .i64 z.x3, .int .i64 z.x4] 76))) W') (by kernel_rfl) (below_drewN (Below.refl _ _) 1) (fun hHeld => ?_)
  refine takeA 0 7 (.slice (some ⟨b, off, none⟩) l.length c) hHeld ?_
  simp only [Act.put, sa, s0, ss]
  refine takeA 1 8 (.int .i64 (k : Int)) hHeld ?_
  simp only [Act.put, sa, s0, ss]
  refine takeA 2 9 (.slice (some ⟨b, off, none⟩) k c) hHeld ?_
  simp only [Act.put, sa, s0, ss]
  refine takeB 3 10 (.agg #[.int .i64 z.x0, .int .i64 z.x1, .int .i64 z.x2, .int .i64 z.x3, .int .i64 z.x4]) (fun w o hSw ho => ?_) hHeld ?_
  · obtain rfl := Option.some.inj ho; (obtain ⟨e0, e1, e2, e3, e4⟩ := HZ2.out _ hSw; go_simp)
  simp only [Act.put, sa, s0, ss]
  refine takeA 5 12 (.slice (some ⟨b, off, none⟩) l.length c) hHeld ?_
  simp only [Act.put, sa, s0, ss]
  refine takeA 6 13 (.int .i64 (k : Int)) hHeld ?_
  simp only [Act.put, sa, s0, ss]
  refine takeB 7 14 (.slice (some ad3) (l.length - k) (c - k)) (fun w o hSw ho => ?_) hHeld ?_
  · obtain rfl := Option.some.inj ho; (rw [← H3.out]; go_simp)
  simp only [Act.put, sa, s0, ss]
  refine oneR 4 (by kernel_rfl) (by kernel_rfl) (fun o ho K' hK => ?_)
  obtain rfl := Option.some.inj ho
  clear ho
  go_simp
  refine hK.out _ _ ((below_on hHeld (below_mk _ _))) (fun hHeld => ?_)
  clear hK K'
  try simp only [Act.put, sa, s0, ss]
  clear hHeld
  refine oneR 8 (by kernel_rfl) (by kernel_rfl) (fun o ho K' hK => ?_)
  obtain rfl := Option.some.inj ho
  clear ho
  go_simp
  refine hK.out _ _ (HV.out) (fun hHeld => ?_)
  clear hK K'
  try simp only [Act.put, sa, s0, ss]
  clear hHeld
  refine oneR 9 (by kernel_rfl) (by kernel_rfl) (fun o ho K' hK => ?_)
  obtain rfl := Option.some.inj ho
  clear ho
  go_simp
  refine HC.out.mono ?_
  rintro e w6 ⟨v, rfl, ov, b6⟩
  have HO := Lib.hid (ov.lower (base' := w.heap.size) HV0.out.size)
  have HB6 := Lib.hid (below_on HV0.out b6)
  have hB7 := below_on HV.out b6
  clear ov b6
  go_wp2_with fail
  refine hK.out _ _ (hB7) (fun hHeld => ?_)
  clear hK K'
  try simp only [Act.put, sa, s0, ss]
  refine takeA 10 6 (v) hHeld ?_
  simp only [Act.put, sa, s0, ss]
  refine wpAnyH_done (by kernel_rfl) ?_ _
  refine NoPanic.normal ?_
  go_wp2
  go_ret
  exact ⟨_, rfl, HO.out, HB6.out⟩
end Go.Proofs.Ytbfickdgjgbfhaa
