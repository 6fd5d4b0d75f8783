/- The program's isTree and hasPaneTwice. -/
import Derived.Test.YtbfickdgjgbfhaaQLyImpl1
import Derived.Test.YtbfickdgjgbfhaaQQMemToLyTal
namespace Go.Proofs.Ytbfickdgjgbfhaa
open Go.RowKit
set_option linter.unusedVariables false

/-- isTree behind k nodes -/
structure UseRel (w : World) (ns : List Q) (k : Nat) (wr : World) : Prop where
  used : OwnN wr w.heap.size (.slice (some ⟨w.heap.size, 0, none⟩) ns.length ns.length) (tal ns.length (fun _ => 0) (kids (ns.take k)))
  below : Below w.heap.size w wr
theorem UseRel.on {w wr W : World} {ns : List Q} {k : Nat} (h : UseRel w ns k wr) (hb : Below wr.heap.size wr W) : UseRel w ns k W := ⟨h.used.on hb, below_on h.below hb⟩
theorem UseRel.leaf {w wr : World} {ns : List Q} {k : Nat} (h : UseRel w ns k wr) (hk : k < ns.length) (hs : isSplitB (nth ns k) = false) : UseRel w ns (k + 1) wr :=
  ⟨by rw [kids_succ ns k hk, kid_leaf hs, List.append_nil]; exact h.used, h.below⟩
theorem UseRel.split {w wr : World} {ns : List Q} {k : Nat} (h : UseRel w ns k wr) (hk : k < ns.length) (hs : isSplitB (nth ns k) = true) (a b : Nat) (ha : (nth ns k).x3 = a) (hb : (nth ns k).x4 = b) (hal : a < ns.length) (hbl : b < ns.length) :
    UseRel w ns (k + 1) ((wr.setCell ⟨w.heap.size, a, none⟩ (.int .i64 (((kids (ns.take k)).count (a : Int) : Nat) + 1))).setCell ⟨w.heap.size, b, none⟩ (.int .i64 (((kids (ns.take k) ++ [(a : Int)]).count (b : Int) : Nat) + 1))) := by
  have s1 := h.used.stored a (((kids (ns.take k)).count (a : Int) : Nat) + 1)
  have t1 := tal_set ns.length (fun _ => 0) (kids (ns.take k)) a hal
  have t2 := tal_set ns.length (fun _ => 0) (kids (ns.take k) ++ [(a : Int)]) b hbl
  simp only [Int.zero_add] at t1 t2
  rw [t1] at s1
  have s2 := s1.1.stored b (((kids (ns.take k) ++ [(a : Int)]).count (b : Int) : Nat) + 1)
  rw [t2] at s2
  have hg := grown_trans s1.2 s2.2
  have e : kids (ns.take (k + 1)) = kids (ns.take k) ++ [(a : Int)] ++ [(b : Int)] := by rw [kids_succ ns k hk, kid_split hs, ha, hb, List.append_assoc]
  exact ⟨by rw [e]; exact s2.1, h.below.trans (below_of_grown hg h.below.size (fun g hg => by cases hg; exact Nat.le_refl _))⟩

theorem uses_not {ns : List Q} {j : Nat} (h0 : 0 < j) (hj : j < ns.length) (h : (((kids ns).count (j : Int) : Nat) : Int) ≠ 1) : usesB ns = false := by
  rw [Bool.eq_false_iff]
  intro ht
  rw [usesB_iff] at ht
  apply h
  have := ht j h0 hj
  unfold usesOf at this
  omega
theorem uses_end {ns : List Q} (h : ∀ j, 0 < j → j < ns.length → (((kids ns).count (j : Int) : Nat) : Int) = 1) : usesB ns = true := by
  rw [usesB_iff]
  intro j h0 hj
  have := h j h0 hj
  unfold usesOf
  omega

set_option maxRecDepth 100000 in
set_option maxHeartbeats 4000000 in
theorem isTree_any (ns : List Q) (p : Option Addr) (c : Nat) (w : World) (h : Qs w w.heap.size p ns) (h0 : 0 < ns.length) (h1 : ns.length ≤ 11) (ho : Okay ns) :
    Calls Try.prog 86 #[.slice p ns.length c] w fun e w' => e = .returned (.bool (usesB ns)) ∧ Below w.heap.size w w' := by
  have H := Lib.hid h
  have HO := Lib.hid ho
  have hm1 := run_make_nums ns.length (by omega) w
  have HST : Hid (∀ W', W' = w.alloc (.cells (madeCells #[.int .i64 0] ns.length) 2) → UseRel w ns 0 W') := Lib.hid (by
    rintro W' rfl
    have v := ownN_made w ns.length (by omega) (Nat.le_refl _)
    exact ⟨by simpa [kids, tal_zero] using v, below_mk _ _⟩)
  clear h ho
  go_enter Try.func86, Try.ntmps86
  go_wp2
  refine wp_genQ (UseRel w ns 0) (HST.out _ rfl) (fun W hW => ?_)
  have HW := Lib.hid hW
  clear hm1 HST hW
  go_loopw [5, 13] (fun _ i wr => ∃ k : Nat, k ≤ ns.length ∧ i = .int .i64 k ∧ UseRel w ns k wr) (fun _ i _ => ns.length - (intOf i).toNat)
  case atStart => exact ⟨0, by omega, rfl, HW.out⟩
  case round =>
    obtain ⟨k, hk, rfl, hr⟩ := hrel
    have HR := Lib.hid hr
    have hrb := hr.below
    have HRB := Lib.hid hrb
    clear HW hr
    by_cases hlt : k < ns.length
    · obtain ⟨bn, off, rfl, _, hbn, hc⟩ := H.out (by intro e; simp [e] at hlt)
      have hqk := hc k hlt
      have HQ := Lib.hid hqk
      obtain ⟨c0, c1, c2, c3, c4⟩ := hqk.below hrb hbn
      have i1 : (k : Int) < (ns.length : Int) := by omega
      have i0 : (0 : Int) ≤ (k : Int) := by omega
      have hok := HO.out k hlt
      clear hc hqk hrb
      cases hs : isSplitB (nth ns k)
      · have HL := Lib.hid (HR.out.leaf hlt hs)
        go_wp2_with fail
        refine (isSplit_any (nth ns k) _).mono ?_
        rw [hs]
        rintro e w1 ⟨rfl, b1⟩
        have HB := Lib.hid (below_on (below_mk wr _) b1)
        clear b1 c0 c1 c2 c3 c4
        go_wp2
        exact ⟨⟨k + 1, by omega, by go_num, HL.out.on HB.out⟩, by simp [intOf]; omega⟩
      · obtain ⟨g0, -, g3, g4, g5, g6⟩ := hok.split hs
        obtain ⟨an, ha⟩ := Int.eq_ofNat_of_zero_le (show 0 ≤ (nth ns k).x3 by omega)
        obtain ⟨bb, hb⟩ := Int.eq_ofNat_of_zero_le (show 0 ≤ (nth ns k).x4 by omega)
        have hal : an < ns.length := by omega
        have hbl2 : bb < ns.length := by omega
        have HA := Lib.hid ha
        have HBB := Lib.hid hb
        clear ha hb
        go_wp2_with fail
        refine (isSplit_any (nth ns k) _).mono ?_
        rw [hs]
        rintro e w1 ⟨rfl, b1⟩
        have X := (AtL.new wr [.int .i64 (nth ns k).x0, .int .i64 (nth ns k).x1, .int .i64 (nth ns k).x2, .int .i64 (nth ns k).x3, .int .i64 (nth ns k).x4] 76).on b1
        have HX := Lib.hid X
        have hU := HR.out.on (below_on (below_mk wr _) b1)
        have HU := Lib.hid hU
        obtain ⟨d0, d1, d2, d3, d4⟩ := X.five
        obtain ⟨hsc, hsf⟩ := hU.used.at an (by rw [tal_len]; omega)
        rw [tal_at _ _ _ an hal] at hsc
        have hbd := count_bd (kids (ns.take k)) an
        have hbd2 := kids_len (ns.take k)
        have hbd3 : (ns.take k).length ≤ k := List.length_take_le _ _
        have HL := Lib.hid (hU.split hlt hs an bb HA.out HBB.out hal hbl2)
        have s1 := hU.used.stored an (((kids (ns.take k)).count (an : Int) : Nat) + 1)
        have t1 := tal_set ns.length (fun _ => 0) (kids (ns.take k)) an hal
        simp only [Int.zero_add] at t1 hsc
        rw [t1] at s1
        have s2 := s1.1.at bb (by rw [tal_len]; exact hbl2)
        rw [tal_at _ _ _ bb hbl2] at s2
        simp only [Int.zero_add] at s2
        have HS2 := Lib.hid s2
        have HS1 := Lib.hid s1.2
        have hsl := hU.used.lt _ rfl
        have hbe := count_bd (kids (ns.take k) ++ [(an : Int)]) bb
        rw [List.length_append, List.length_singleton] at hbe
        have i5 : (an : Int) < (ns.length : Int) := by omega
        have i6 : (bb : Int) < (ns.length : Int) := by omega
        rw [HA.out] at d3
        generalize hu : (((kids (ns.take k)).count (an : Int) : Nat) : Int) = u at *
        generalize hv : (((kids (ns.take k) ++ [(an : Int)]).count (bb : Int) : Nat) : Int) = v at *
        have u0 : 0 ≤ u := by omega
        have u1 : u ≤ 100 := by omega
        have v0 : 0 ≤ v := by omega
        have v1 : v ≤ 100 := by omega
        have hwr := HR.out.used.lt _ rfl
        clear hok hs g0 g3 g4 g5 g6 hbd hbd2 hbd3 hbe hu hv s1 s2 t1 hU X c0 c1 c2 c3 c4 b1
        go_upto_region 7 with (fail)
        refine wp_genQ (fun W => W = w1.setCell ⟨w.heap.size, an, none⟩ (.int .i64 (u + 1))) rfl (fun W hWe => ?_)
        have hX2 := HX.out.far HS1.out (by simp; omega)
        rw [← hWe] at hX2
        obtain ⟨e0, e1, e2, e3, e4⟩ := hX2.five
        have hs2 := HS2.out
        rw [← hWe] at hs2
        obtain ⟨hsc2, hsf2⟩ := hs2
        have HL2 := Lib.hid HL.out
        rw [← hWe] at HL2
        rw [HBB.out] at e4
        clear HL HS2 hWe hsc hsf d0 d1 d2 d3 d4 hX2 HA HBB
        go_wp2
        exact ⟨⟨k + 1, by omega, by go_num, HL2.out⟩, by simp [intOf]; omega⟩
    · obtain rfl : k = ns.length := by omega
      have HB := Lib.hid HR.out.below
      have hu := HR.out.used
      rw [List.take_length] at hu
      have HU := Lib.hid hu
      have n1 : 1 ≤ ns.length := by omega
      clear hu HR HRB
      by_cases hone : ns.length = 1
      · have HE : Hid (usesB ns = true) := Lib.hid (uses_end fun j h0 hj => by omega)
        clear HU hlt n1 h0 h1 hk
        go_wp2
        go_loop [7, 37] (fun _ i => i = .int .i64 0) (fun _ _ => 0)
        case atStart => rfl
        case round =>
          obtain rfl := hrel
          go_wp2
          go_ret
          exact ⟨ret_bool HE.out.symm, HB.out⟩
      · have n2 : 2 ≤ ns.length := by omega
        have n3 : (1 : Int) ≤ (ns.length : Int) := by omega
        have n4 : ¬ (ns.length : Int) = 1 := by omega
        go_wp2
        go_loop [7, 37] (fun _ i => ∃ j : Nat, j ≤ ns.length - 1 ∧ i = .int .i64 j ∧ ∀ t, 0 < t → t < 1 + j → (((kids ns).count (t : Int) : Nat) : Int) = 1) (fun _ i => ns.length - (intOf i).toNat)
        case atStart => exact ⟨0, by omega, rfl, fun t h0 ht => by omega⟩
        case round =>
          obtain ⟨j, hj, rfl, ht⟩ := hrel
          have HT := Lib.hid ht
          clear ht
          by_cases hlt2 : j < ns.length - 1
          · have hcell := (HU.out.at (1 + j) (by rw [tal_len]; omega)).1
            rw [tal_at _ _ _ _ (by omega)] at hcell
            simp only [Int.zero_add] at hcell
            have HE := Lib.hid (fun h => uses_not (ns := ns) (j := 1 + j) (by omega) (by omega) h)
            have i1 : (j : Int) < ((ns.length - 1 : Nat) : Int) := by omega
            have i0 : (0 : Int) ≤ (j : Int) := by omega
            generalize hv : (((kids ns).count ((1 + j : Nat) : Int) : Nat) : Int) = v at *
            have HV := Lib.hid hv
            clear hv
            cases hv1 : (v != 1)
            · go_wp2
              exact ⟨⟨j + 1, by omega, by go_num, fun t h0 ht => by
                by_cases e : t = 1 + j
                · subst e; rw [HV.out]; simpa using hv1
                · exact HT.out t h0 (by omega)⟩, by simp [intOf]; omega⟩
            · go_wp2
              go_ret
              exact ⟨ret_bool (HE.out (by simpa using hv1)).symm, HB.out⟩
          · have hj' : j = ns.length - 1 := by omega
            have HJ := Lib.hid hj'
            have i2 : ¬ (j : Int) < ((ns.length - 1 : Nat) : Int) := by omega
            clear hj' 
            go_wp2
            go_ret
            exact ⟨ret_bool (uses_end fun t h0 ht => HT.out t h0 (by have := HJ.out; omega)).symm, HB.out⟩

/-- hasPaneTwice behind k nodes -/
structure SeenRel (w : World) (ns : List Q) (k : Nat) (wr : World) : Prop where
  at_ : ∀ i, i < 6 → wr.cell? ⟨w.heap.size, i, none⟩ = some (.bool (decide ((panes (ns.take k)).count (i : Int) ≠ 0)))
  free : ∀ o, wr.frozen? ⟨w.heap.size, o, none⟩ = false
  lt : w.heap.size < wr.heap.size
  once : (panes (ns.take k)).Nodup
  below : Below w.heap.size w wr
theorem SeenRel.on {w wr W : World} {ns : List Q} {k : Nat} (h : SeenRel w ns k wr) (hb : Below wr.heap.size wr W) : SeenRel w ns k W :=
  ⟨fun i hi => (hb.cell (p := ⟨w.heap.size, i, none⟩) h.lt).trans (h.at_ i hi), fun o => (hb.frozen (p := ⟨w.heap.size, o, none⟩) h.lt).trans (h.free o), Nat.lt_of_lt_of_le h.lt hb.size, h.once, below_on h.below hb⟩
theorem SeenRel.split {w wr : World} {ns : List Q} {k : Nat} (h : SeenRel w ns k wr) (hk : k < ns.length) (hs : isSplitB (nth ns k) = true) : SeenRel w ns (k + 1) wr := by
  have e : panes (ns.take (k + 1)) = panes (ns.take k) := by rw [panes_succ ns k hk, if_pos hs, List.append_nil]
  exact ⟨by rw [e]; exact h.at_, h.free, h.lt, by rw [e]; exact h.once, h.below⟩
theorem SeenRel.leaf {w wr : World} {ns : List Q} {k : Nat} (h : SeenRel w ns k wr) (hk : k < ns.length) (hs : isSplitB (nth ns k) = false) (p : Nat) (hp : (nth ns k).x1 = p) (hp5 : p ≤ 5) (hc : (panes (ns.take k)).count (p : Int) = 0) :
    SeenRel w ns (k + 1) (wr.setCell ⟨w.heap.size, p, none⟩ (.bool true)) := by
  have e : panes (ns.take (k + 1)) = panes (ns.take k) ++ [(p : Int)] := by rw [panes_succ ns k hk, hs, hp]; simp
  refine ⟨fun i hi => ?_, fun o => by simpa using h.free o, by simpa using h.lt, by rw [e]; exact nodup_more h.once hc, h.below.setCell (Nat.le_refl _) _⟩
  rw [e]
  by_cases hip : i = p
  · subst hip
    rw [World.cell?_setCell_same _ _ _ (h.at_ i hi)]
    simp
  · rw [World.cell?_setCell_other _ _ _ _ (fun e => hip (by simp at e)), h.at_ i hi]
    have : ([(p : Int)].count (i : Int)) = 0 := by simp [List.count_cons]; omega
    rw [List.count_append, this, Nat.add_zero]

set_option maxRecDepth 100000 in
set_option maxHeartbeats 4000000 in
theorem hasPaneTwice_any (ns : List Q) (p : Option Addr) (c : Nat) (w : World) (h : Qs w w.heap.size p ns) (h0 : 0 < ns.length) (h1 : ns.length ≤ 11) (ho : Okay ns) :
    Calls Try.prog 87 #[.slice p ns.length c] w fun e w' => e = .returned (.bool (!decide (panes ns).Nodup)) ∧ Below w.heap.size w w' := by
  have H := Lib.hid h
  have HO := Lib.hid ho
  clear h ho
  go_enter Try.func87, Try.ntmps87
  go_wp2
  have HST : Hid (SeenRel w ns 0 (w.alloc (.cells #[.bool false, .bool false, .bool false, .bool false, .bool false, .bool false] 126))) := Lib.hid (by
    refine ⟨fun i hi => ?_, fun o => by simp, by simp, by simp [panes], below_mk _ _⟩
    have : i = 0 ∨ i = 1 ∨ i = 2 ∨ i = 3 ∨ i = 4 ∨ i = 5 := by omega
    rcases this with rfl | rfl | rfl | rfl | rfl | rfl <;> simp [panes])
  refine wp_genQ (SeenRel w ns 0) HST.out (fun W hW => ?_)
  have HW := Lib.hid hW
  clear HST hW
  go_loopw [5, 8] (fun _ i wr => ∃ k : Nat, k ≤ ns.length ∧ i = .int .i64 k ∧ SeenRel w ns k wr) (fun _ i _ => ns.length - (intOf i).toNat)
  case atStart => exact ⟨0, by omega, rfl, HW.out⟩
  case round =>
    obtain ⟨k, hk, rfl, hr⟩ := hrel
    have HR := Lib.hid hr
    have hrb := hr.below
    clear HW hr
    by_cases hlt : k < ns.length
    · obtain ⟨bn, off, rfl, _, hbn, hc⟩ := H.out (by intro e; simp [e] at hlt)
      obtain ⟨c0, c1, c2, c3, c4⟩ := (hc k hlt).below hrb hbn
      have i1 : (k : Int) < (ns.length : Int) := by omega
      have i0 : (0 : Int) ≤ (k : Int) := by omega
      have hok := HO.out k hlt
      clear hc hrb
      cases hs : isSplitB (nth ns k)
      · obtain ⟨g0, -, -, -, g5, g6⟩ := hok.leaf hs
        obtain ⟨pn, hp⟩ := Int.eq_ofNat_of_zero_le g5
        have hp5 : pn ≤ 5 := by omega
        have HP := Lib.hid hp
        have HL := Lib.hid (fun wr' (h : SeenRel w ns k wr') => h.leaf hlt hs pn hp hp5)
        have HD : Hid (¬ (panes (ns.take k)).count (pn : Int) = 0 → (!decide (panes ns).Nodup) = true) := Lib.hid (fun hn => by
          have := nodup_take (ns := ns) (k := k + 1) (by rw [panes_succ ns k hlt, hs, hp]; exact nodup_less hn)
          simp [this])
        clear hp g0 g5 g6 hok
        go_wp2_with fail
        refine (isSplit_any (nth ns k) _).mono ?_
        rw [hs]
        rintro e w1 ⟨rfl, b1⟩
        have X := (AtL.new wr [.int .i64 (nth ns k).x0, .int .i64 (nth ns k).x1, .int .i64 (nth ns k).x2, .int .i64 (nth ns k).x3, .int .i64 (nth ns k).x4] 76).on b1
        have hU := HR.out.on (below_on (below_mk wr _) b1)
        have HU := Lib.hid hU
        obtain ⟨d0, d1, d2, d3, d4⟩ := X.five
        have hsc := hU.at_ pn (by omega)
        have hsf := hU.free
        rw [HP.out] at d1
        have p1 : (pn : Int) < 6 := by omega
        have p0 : (0 : Int) ≤ (pn : Int) := by omega
        clear b1 X hU c0 c1 c2 c3 c4
        by_cases hn : (panes (ns.take k)).count (pn : Int) = 0
        · have HL2 := Lib.hid (HL.out w1 HU.out hn)
          rw [show decide ((panes (ns.take k)).count (pn : Int) ≠ 0) = false by simp [hn]] at hsc
          clear hn HL HD HU HR
          go_wp2
          exact ⟨⟨k + 1, by omega, by go_num, HL2.out⟩, by simp [intOf]; omega⟩
        · have HF := Lib.hid (HD.out hn)
          rw [show decide ((panes (ns.take k)).count (pn : Int) ≠ 0) = true by simp [hn]] at hsc
          clear hn HL HD HR
          go_wp2
          go_ret
          exact ⟨ret_bool HF.out.symm, HU.out.below⟩
      · have HL := Lib.hid (HR.out.split hlt hs)
        go_wp2_with fail
        refine (isSplit_any (nth ns k) _).mono ?_
        rw [hs]
        rintro e w1 ⟨rfl, b1⟩
        have HB := Lib.hid (below_on (below_mk wr _) b1)
        clear b1 c0 c1 c2 c3 c4
        go_wp2
        exact ⟨⟨k + 1, by omega, by go_num, HL.out.on HB.out⟩, by simp [intOf]; omega⟩
    · obtain rfl : k = ns.length := by omega
      have ho := HR.out.once
      rw [List.take_length] at ho
      have HN := Lib.hid ho
      clear ho
      go_wp2
      go_ret
      exact ⟨ret_bool (by simp [HN.out]), HR.out.below⟩

end Go.Proofs.Ytbfickdgjgbfhaa
