/- The program's nodeRects. -/
import Derived.Test.YtbfickdgjgbfhaaQLyImpl3
import Derived.Test.YtbfickdgjgbfhaaQLySpec4ToLyDr1
namespace Go.Proofs.Ytbfickdgjgbfhaa
open Go.RowKit
set_option linter.unusedVariables false

/-- what nodeRects leaves -/
def RunPost (w : World) (n : Nat) (o : Option (List Q)) (e : Ending) (w' : World) : Prop :=
  (∀ R, o = some R → ∃ g, e = .returned (.tuple #[.slice (some ⟨g, 0, none⟩) n n, .bool true]) ∧ OwnQ 69 w' w.heap.size (.slice (some ⟨g, 0, none⟩) n n) R) ∧
  (o = none → e = .returned (.tuple #[.slice none 0 0, .bool false])) ∧ Below w.heap.size w w'

/-- nodeRects behind k nodes -/
structure RectsRel (w : World) (x : Ly) (p : Option Addr) (c k : Nat) (R : List Q) (wr : World) : Prop where
  own : OwnQ 69 wr w.heap.size (.slice (some ⟨w.heap.size + 1, 0, none⟩) x.nodes.length x.nodes.length) R
  ly : LyAt wr w.heap.size x p c
  below : Below w.heap.size w wr
  inv : Inv x.nodes x.wide x.high k R
  run : lyRun x = runR k (x.nodes.drop k) R
theorem RectsRel.on {w wr W : World} {x : Ly} {p : Option Addr} {c k : Nat} {R : List Q} (h : RectsRel w x p c k R wr) (hb : Below wr.heap.size wr W) : RectsRel w x p c k R W :=
  ⟨h.own.on hb, h.ly.on hb, below_on h.below hb, h.inv, h.run⟩

/-- a node's step, with its place at hand -/
def stepOf (n : Q) (i : Nat) (R : List Q) (r : Q) : Option (List Q) :=
  if isSplitB n = true then
    if inR n.x2 1 (roomQ r n.x0 - 2) = true then some (((R.set i r).set n.x3.toNat (partA n r)).set n.x4.toNat (partB n r)) else none
  else some (R.set i r)
theorem stepR_of (n : Q) (i : Nat) (R : List Q) : stepR n i R = stepOf n i R { nth R i with x0 := n.x1 } := rfl

theorem runR_drop (ns : List Q) (k : Nat) (R : List Q) (h : k < ns.length) : runR k (ns.drop k) R = match stepR (nth ns k) k R with | none => none | some R' => runR (k + 1) (ns.drop (k + 1)) R' := by
  rw [List.drop_eq_getElem_cons h, runR, nth_eq h]
  cases stepR ns[k] k R <;> rfl

theorem run_make_rects (n : Nat) (hn : n ≤ 1048576) (w : World) :
    (Instr.makeSlice 58 (.int .i64 (n : Int)) (.int .i64 (n : Int))).run Try.prog w = .ok (.slice (some ⟨w.heap.size, 0, none⟩) n n)
      (w.alloc (.cells (madeCells #[.int .i64 0, .int .i64 0, .int .i64 0, .int .i64 0, .int .i64 0] (n * 5)) 69)) := by
  obtain ⟨i, hi, hz, hs, hby⟩ := info_parts Try.info_rect
  have hb : (i.bytes : Int) * (n : Int) ≤ 281474976710656 := by rw [hby]; omega
  have hr := run_make (P := Try.prog) w 58 69 i _ Try.underlying58 hi hz .i64 .i64 n n (by omega) (Int.le_refl _) hb (by omega)
  simp only [Int.toNat_natCast, hs] at hr
  exact hr

/-- the world behind the making -/
structure MadeRel (w : World) (x : Ly) (p : Option Addr) (c : Nat) (R : List Q) (W : World) : Prop where
  own : OwnQ 69 W w.heap.size (.slice (some ⟨w.heap.size + 1, 0, none⟩) x.nodes.length x.nodes.length) R
  ly : LyAt W w.heap.size x p c
  below : Below w.heap.size w W

theorem ly_far {w W W' : World} {x : Ly} {p : Option Addr} {c : Nat} (hn : Qs w w.heap.size p x.nodes) (h : LyAt W w.heap.size x p c) (hg : W.grownBy W' (some (w.heap.size + 1))) (hb : Below w.heap.size w W') : LyAt W' w.heap.size x p c :=
  ⟨h.cells.far hg (by simp), hn.on hb⟩
theorem made_start {w W W' : World} {x : Ly} {p : Option Addr} {c : Nat} (h : MadeRel w x p c (List.replicate x.nodes.length q0) W) (hn : Qs w w.heap.size p x.nodes) (n0 : 0 < x.nodes.length)
    (hp : OwnQ 69 W' w.heap.size (.slice (some ⟨w.heap.size + 1, 0, none⟩) x.nodes.length x.nodes.length) ((List.replicate x.nodes.length q0).set 0 ⟨0, 0, 0, x.wide, x.high⟩) ∧ W.grownBy W' (some (w.heap.size + 1))) : RectsRel w x p c 0 (startR x.nodes.length x.wide x.high) W' := by
  have hb : Below w.heap.size w W' := h.below.trans (below_of_grown hp.2 h.below.size (fun g hg => by cases hg; omega))
  exact ⟨hp.1, ly_far hn h.ly hp.2 hb, hb, Inv.start _ _ _ n0, by unfold lyRun; rw [List.drop_zero]⟩

/-- behind the pane's store, the node in a block of its own -/
structure MidRel (w : World) (x : Ly) (p : Option Addr) (c : Nat) (R : List Q) (gb : Nat) (n : Q) (W : World) : Prop where
  own : OwnQ 69 W w.heap.size (.slice (some ⟨w.heap.size + 1, 0, none⟩) x.nodes.length x.nodes.length) R
  ly : LyAt W w.heap.size x p c
  below : Below w.heap.size w W
  box : AtL W gb (qC n)
  lo : w.heap.size + 1 < gb
theorem MidRel.on {w W W' : World} {x : Ly} {p : Option Addr} {c : Nat} {R : List Q} {gb : Nat} {n : Q} (h : MidRel w x p c R gb n W) (hb : Below W.heap.size W W') : MidRel w x p c R gb n W' := ⟨h.own.on hb, h.ly.on hb, below_on h.below hb, h.box.on hb, h.lo⟩
theorem MidRel.put {w W : World} {x : Ly} {p : Option Addr} {c : Nat} {R : List Q} {gb : Nat} {n : Q} (h : MidRel w x p c R gb n W) (hn : Qs w w.heap.size p x.nodes) (i : Nat) (q : Q) (hi : i < R.length) (W' : World)
    (hW : W' = ((((W.setCell ⟨w.heap.size + 1, i * 5, none⟩ (.int .i64 q.x0)).setCell ⟨w.heap.size + 1, i * 5 + 1, none⟩ (.int .i64 q.x1)).setCell ⟨w.heap.size + 1, i * 5 + 2, none⟩ (.int .i64 q.x2)).setCell ⟨w.heap.size + 1, i * 5 + 3, none⟩ (.int .i64 q.x3)).setCell ⟨w.heap.size + 1, i * 5 + 4, none⟩ (.int .i64 q.x4)) : MidRel w x p c (R.set i q) gb n W' := by
  have ho := h.own.put i q hi
  rw [← hW] at ho
  have hb := h.below.trans (below_of_grown ho.2 h.below.size (fun g hg => by cases hg; omega))
  have hlo := h.lo
  exact ⟨ho.1, ly_far hn h.ly ho.2 hb, hb, h.box.far ho.2 (by intro e; injection e; omega), hlo⟩
theorem wpAny_gen {P : Program} {md : Region.Mode} {ops : Array Oper} {Qq : Exit → Act → World → Prop} {S : World → Prop} {fuel : Nat} {listed : Array Bool} {a : Act} {W : World} (C : World → Prop) (h : C W) (k : ∀ W', C W' → wpAnyH P md ops Qq S fuel listed a W') : wpAnyH P md ops Qq S fuel listed a W := k W h
theorem wp_then {E : Exit → Act → World → Prop} {e : Exit} {a : Act} {W : World} (C : World → Prop) (h : C W) (k : ∀ W', C W' → E e a W') : E e a W := k W h
theorem RectsRel.mid {w wr W : World} {x : Ly} {p : Option Addr} {c k : Nat} {R : List Q} (h : RectsRel w x p c k R wr) (hn : Qs w w.heap.size p x.nodes) (hk : k < x.nodes.length) (n : Q) (t : TypeId)
    (hW : W = (wr.setCell ⟨w.heap.size + 1, k * 5, none⟩ (.int .i64 n.x1)).alloc (.cells (qC n).toArray t)) : MidRel w x p c (R.set k { nth R k with x0 := n.x1 }) wr.heap.size n W := by
  have hlt : w.heap.size ≤ w.heap.size + 1 ∧ w.heap.size + 1 < wr.heap.size := h.own.lt _ rfl
  have ho := h.own.stored k 0 n.x1 (by rw [h.inv.len]; exact hk) (by omega)
  rw [Nat.add_zero] at ho
  have hb2 := h.below.trans (below_of_grown ho.2 h.below.size (fun g hg => by cases hg; omega))
  have hl := ly_far hn h.ly ho.2 hb2
  have hx := AtL.new (wr.setCell ⟨w.heap.size + 1, k * 5, none⟩ (.int .i64 n.x1)) (qC n) t
  have e : (wr.setCell ⟨w.heap.size + 1, k * 5, none⟩ (.int .i64 n.x1)).heap.size = wr.heap.size := by simp
  rw [e] at hx
  subst hW
  have ha := below_mk (wr.setCell ⟨w.heap.size + 1, k * 5, none⟩ (.int .i64 n.x1)) (.cells (qC n).toArray t)
  exact ⟨ho.1.on ha, hl.on ha, below_on hb2 ha, hx, by omega⟩

set_option maxRecDepth 100000 in
set_option maxHeartbeats 4000000 in
theorem nodeRects_any (x : Ly) (p : Option Addr) (c : Nat) (w : World) (h : Qs w w.heap.size p x.nodes) (ht : Tree x) :
    Calls Try.prog 88 #[.agg #[.int .i64 x.wide, .int .i64 x.high, .slice p x.nodes.length c]] w (RunPost w x.nodes.length (lyRun x)) := by
  have n0 := ht.n0
  have n1 := ht.n1
  have hmk := fun W => run_make_rects x.nodes.length (by omega) W
  have hX := (LyAt.new w x p c 28 h).on (below_mk _ (.cells (madeCells #[.int .i64 0, .int .i64 0, .int .i64 0, .int .i64 0, .int .i64 0] (x.nodes.length * 5)) 69))
  have hO := ownQ_made 69 (w.alloc (.cells (lyL x p c).toArray 28)) x.nodes.length (by omega) (base := w.heap.size) (by simp)
  rw [World.size_alloc] at hO
  have hM : MadeRel w x p c (List.replicate x.nodes.length q0) _ := ⟨hO, hX, below_on (below_mk w (.cells (lyL x p c).toArray 28)) (below_mk _ _)⟩
  unfold lyL at hM
  have HM := Lib.hid hM
  have HN := Lib.hid h
  have HT := Lib.hid ht
  clear hX hO hM h ht
  go_enter Try.func88, Try.ntmps88
  go_upto_region 2 with (fail)
  refine wp_genQ (MadeRel w x p c (List.replicate x.nodes.length q0)) HM.out (fun W hW => ?_)
  have HW := Lib.hid hW
  obtain ⟨l0, l1, l2⟩ := hW.ly.cells.tri
  obtain ⟨-, hrow, hfz⟩ := hW.own.row
  obtain ⟨f0, f1, f2, f3, f4⟩ := hrow 0 (by simpa using n0)
  have hP := hW.own.put 0 (whole x.wide x.high) (by simpa using n0)
  have HP := Lib.hid hP
  have hsz := hW.ly.cells.1
  clear hrow hmk HM hW hP
  unfold whole at HP
  simp only [Nat.zero_mul, Nat.zero_add] at f0 f1 f2 f3 f4 HP
  go_upto_region 3 with (fail)
  refine wp_genQ (RectsRel w x p c 0 (startR x.nodes.length x.wide x.high)) (made_start HW.out HN.out n0 HP.out) (fun W2 hW2 => ?_)
  clear l0 l1 l2 hfz f0 f1 f2 f3 f4 HP HW hsz W
  obtain ⟨l0, l1, l2⟩ := hW2.ly.cells.tri
  have HW := Lib.hid hW2
  clear hW2
  go_wp2
  clear l0 l1 l2
  go_loopw [5, 6, 21] (fun _ _ i wr => ∃ (k : Nat) (R : List Q), k ≤ x.nodes.length ∧ i = .int .i64 k ∧ RectsRel w x p c k R wr) (fun _ _ i _ => x.nodes.length - (intOf i).toNat)
  case atStart => exact ⟨0, _, by omega, rfl, HW.out⟩
  case round =>
    obtain ⟨k, R, hk, rfl, hr⟩ := hrel
    have HR := Lib.hid hr
    clear HW hr
    by_cases hlt : k < x.nodes.length
    · obtain ⟨bn, off, rfl, _, hbn, hc⟩ := HN.out (by intro e; simp [e] at hlt)
      obtain ⟨c0, c1, c2, c3, c4⟩ := (hc k hlt).below HR.out.below hbn
      obtain ⟨-, hrow, hfz⟩ := HR.out.own.row
      obtain ⟨r0, r1, r2, r3, r4⟩ := hrow k (by rw [HR.out.inv.len]; exact hlt)
      have i1 : (k : Int) < (x.nodes.length : Int) := by omega
      have i0 : (0 : Int) ≤ (k : Int) := by omega
      have hglt := HR.out.own.lt _ rfl
      have HM := Lib.hid (fun W => HR.out.mid (W := W) HN.out hlt (nth x.nodes k) 76)
      unfold qC at HM
      clear hc hrow
      go_upto_region 7 with (fail)
      refine wp_genQ (MidRel w x _ c (R.set k { nth R k with x0 := (nth x.nodes k).x1 }) wr.heap.size (nth x.nodes k)) (HM.out _ rfl) (fun W hM => ?_)
      have hg : Good (nth R k) := HR.out.inv.good HT.out.okay HT.out.uses HT.out.wide HT.out.high k (Nat.le_refl _) hlt
      have hru := HR.out.run
      rw [runR_drop _ _ _ hlt] at hru
      have HRU := Lib.hid hru
      have HST := Lib.hid (fun R' => HR.out.inv.step (R' := R') HT.out.okay HT.out.uses hlt)
      have hok := HT.out.okay k hlt
      have HMM := Lib.hid hM
      obtain ⟨b0, b1, b2, b3, b4⟩ := QAt.atl hM.box
      have hrl := HR.out.inv.len
      clear c0 c1 c2 c3 c4 r0 r1 r2 r3 r4 hfz HM hM hru HR
      generalize wr.heap.size = gb at *
      clear wr
      have hr1 : nth (R.set k { nth R k with x0 := (nth x.nodes k).x1 }) k = { nth R k with x0 := (nth x.nodes k).x1 } := by rw [nth_set (by rw [hrl]; exact hlt), if_pos rfl]
      rw [stepR_of] at HRU
      simp only [stepR_of] at HST
      generalize hrk : ({ nth R k with x0 := (nth x.nodes k).x1 } : Q) = r1 at *
      have hg1 : Good r1 := hg.geo (by subst hrk; exact ⟨rfl, rfl, rfl, rfl⟩)
      clear hg hrk
      generalize hnk : nth x.nodes k = n at *
      clear hnk
      go_wp2_with fail
      refine (isSplit_any n _).mono ?_
      rintro e w2 ⟨rfl, hb2⟩
      have HMX := Lib.hid (HMM.out.on hb2)
      clear HMM hb2 b0 b1 b2 b3 b4
      cases hs : isSplitB n
      · have e1 : stepOf n k R r1 = some (R.set k r1) := by unfold stepOf; rw [hs]; rfl
        have hrun := HRU.out
        rw [e1] at hrun
        have HE : Hid (RectsRel w x _ c (k + 1) (R.set k r1) w2) := Lib.hid ⟨HMX.out.own, HMX.out.ly, HMX.out.below, HST.out _ e1, hrun⟩
        clear hrun e1 HRU HST
        go_wp2
        exact ⟨⟨k + 1, _, by omega, by go_num, HE.out⟩, by simp [intOf]; omega⟩
      · obtain ⟨g0, -, g3, g4, g5, g6⟩ := hok.split hs
        obtain ⟨an, ha⟩ := Int.eq_ofNat_of_zero_le (show 0 ≤ n.x3 by omega)
        obtain ⟨bb, hb⟩ := Int.eq_ofNat_of_zero_le (show 0 ≤ n.x4 by omega)
        have hal : an < x.nodes.length := by omega
        have hbl2 : bb < x.nodes.length := by omega
        have hka : k < an := by omega
        have hkb : k < bb := by omega
        have HA := Lib.hid ha
        have HBB := Lib.hid hb
        have hst : stepOf n k R r1 = if inR n.x2 1 (roomQ r1 n.x0 - 2) = true then some (((R.set k r1).set an (partA n r1)).set bb (partB n r1)) else none := by
          unfold stepOf; rw [if_pos hs, ha, hb, Int.toNat_natCast, Int.toNat_natCast]
        have HS := Lib.hid hst
        have hrm : 1 ≤ roomQ r1 n.x0 ∧ roomQ r1 n.x0 ≤ 200 := by
          obtain ⟨q1, q2, q3, q4, _⟩ := hg1
          unfold roomQ; split <;> omega
        have HRM := Lib.hid (fun W => roomOf_any r1 n.x0 W)
        generalize hrme : roomQ r1 n.x0 = rm at *
        obtain ⟨rm0, rm1⟩ := hrm
        have hw : IntKind.i64.wrap (rm - 2) = rm - 2 := IntWalk.i64_in _ (by omega)
        clear g0 g3 g4 g5 g6 ha hb hst hok
        have HMW := Lib.hid (fun W' (hb' : Below w2.heap.size w2 W') => HMX.out.on hb')
        have hrk : nth (R.set k r1) k = r1 := hr1
        clear hr1
        go_wp2
        refine wp_region_noPanic ?_
        refine wp_region_held_drew (S := fun W' => Below (w2).heap.size (w2) W') (by kernel_rfl) (below_drewN (Below.refl _ _) 1) (fun hHeld => ?_)
        refine takeA 0 35 (.pointer (some ⟨gb, 2, none⟩)) hHeld ?_
        simp only [Act.put, sa, s0, ss]
        refine takeB 1 36 (.int .i64 n.x2) (fun w o hSw ho => ?_) hHeld ?_
        · obtain rfl := Option.some.inj ho; (obtain ⟨d0, d1, d2, d3, d4⟩ := QAt.atl (HMW.out _ hSw).box; go_simp)
        simp only [Act.put, sa, s0, ss]
        refine takeA 2 37 (.slice (some ⟨w.heap.size + 1, 0, none⟩) x.nodes.length x.nodes.length) hHeld ?_
        simp only [Act.put, sa, s0, ss]
        refine takeA 3 38 (.int .i64 (k : Int)) hHeld ?_
        simp only [Act.put, sa, s0, ss]
        refine takeA 4 39 (.pointer (some ⟨w.heap.size + 1, k * 5, none⟩)) hHeld ?_
        simp only [Act.put, sa, s0, ss]
        refine takeB 5 40 (.agg #[.int .i64 r1.x0, .int .i64 r1.x1, .int .i64 r1.x2, .int .i64 r1.x3, .int .i64 r1.x4]) (fun w o hSw ho => ?_) hHeld ?_
        · obtain rfl := Option.some.inj ho; (obtain ⟨d0, d1, d2, d3, d4⟩ := (HMW.out _ hSw).own.row.2.1 k (by simpa [hrl] using hlt); rw [hrk] at d0 d1 d2 d3 d4; go_simp)
        simp only [Act.put, sa, s0, ss]
        refine takeA 6 41 (.pointer (some ⟨gb, 0, none⟩)) hHeld ?_
        simp only [Act.put, sa, s0, ss]
        refine takeB 7 42 (.int .i64 n.x0) (fun w o hSw ho => ?_) hHeld ?_
        · obtain rfl := Option.some.inj ho; (obtain ⟨d0, d1, d2, d3, d4⟩ := QAt.atl (HMW.out _ hSw).box; go_simp)
        simp only [Act.put, sa, s0, ss]
        refine oneR 8 (by kernel_rfl) (by kernel_rfl) (fun o ho K' hK => ?_)
        obtain rfl := Option.some.inj ho
        clear ho
        go_simp
        refine (HRM.out _).mono ?_
        rintro e w3 ⟨rfl, b3⟩
        have hc3 := below_on hHeld b3
        clear hHeld b3
        go_wp2_with fail
        refine hK.out _ _ (hc3) (fun hHeld => ?_)
        clear hK K'
        try simp only [Act.put, sa, s0, ss]
        refine takeA 9 44 (.int .i64 (rm - 2)) hHeld ?_
        simp only [Act.put, sa, s0, ss]
        refine oneR 10 (by kernel_rfl) (by kernel_rfl) (fun o ho K' hK => ?_)
        obtain rfl := Option.some.inj ho
        clear ho
        go_simp
        refine hK.out _ _ ((below_on hHeld (below_mk _ _))) (fun hHeld => ?_)
        clear hK K'
        try simp only [Act.put, sa, s0, ss]
        refine oneR 11 (by kernel_rfl) (by kernel_rfl) (fun o ho K' hK => ?_)
        obtain rfl := Option.some.inj ho
        clear ho
        go_simp
        refine (isWithin_two n.x2 1 (rm - 2) w3 _ _ rfl).mono ?_
        rintro e w4 ⟨rfl, rfl⟩
        go_wp2_with fail
        refine hK.out _ _ (hHeld) (fun hHeld => ?_)
        clear hK K'
        try simp only [Act.put, sa, s0, ss]
        refine takeA 12 47 (.bool (!inR n.x2 1 (rm - 2))) hHeld ?_
        simp only [Act.put, sa, s0, ss]
        refine wpAnyH_done (by kernel_rfl) ?_ _
        refine NoPanic.normal ?_
        have HM5 := Lib.hid (HMX.out.on hHeld)
        clear hHeld HMW HRM HMX hc3
        have hrun := HRU.out
        rw [HS.out] at hrun
        cases hin : inR n.x2 1 (rm - 2)
        · rw [hin] at hrun
          have HN2 := Lib.hid (show lyRun x = none by simpa using hrun)
          clear hrun HRU HST HS
          go_wp2
          go_ret2
          exact ⟨fun R' hR' => by (rw [HN2.out] at hR'; cases hR'), fun _ => rfl, HM5.out.below⟩
        · rw [hin, if_pos rfl] at hrun
          have HRN := Lib.hid (show lyRun x = runR (k + 1) (x.nodes.drop (k + 1)) (((R.set k r1).set an (partA n r1)).set bb (partB n r1)) by simpa using hrun)
          have HST2 := Lib.hid (HST.out (((R.set k r1).set an (partA n r1)).set bb (partB n r1)) (by rw [HS.out, hin]; rfl))
          obtain ⟨q2a, q2b⟩ := inR_iff.1 hin
          have n2b : n.x2 ≤ 200 := by omega
          have HPR := Lib.hid (fun W => partsOfRect_any n r1 W (by omega) n2b (by unfold Good at hg1; omega) (by unfold Good at hg1; omega) (by unfold Good at hg1; omega) (by unfold Good at hg1; omega))
          clear hrun HRU HST HS hw
          go_upto_region 10 with (fail)
          refine wp_genQ (MidRel w x _ c (R.set k r1) gb n) HM5.out (fun W hM => ?_)
          clear HM5
          generalize partA n r1 = ra at *
          generalize partB n r1 = rb at *
          have hMd := hM.on (below_drewN (Below.refl W.heap.size W) 1)
          have HMd := Lib.hid hMd
          have hS0 : QAt W.drew (w.heap.size + 1) (k * 5) r1 ∧ AtL W.drew gb (qC n) := ⟨by have := hMd.own.row.2.1 k (by simpa [hrl] using hlt); rwa [hrk] at this, hMd.box⟩
          have HS0 := Lib.hid hS0
          clear hM hMd hS0
          refine wp_region_noPanic ?_
          refine wp_region_held_drew (S := fun W' => QAt W' (w.heap.size + 1) (k * 5) r1 ∧ AtL W' gb (qC n)) (by kernel_rfl) HS0.out (fun hHeld => ?_)
          refine takeA 0 49 (.slice (some ⟨w.heap.size + 1, 0, none⟩) x.nodes.length x.nodes.length) hHeld ?_
          simp only [Act.put, sa, s0, ss]
          refine takeA 1 50 (.pointer (some ⟨gb, 3, none⟩)) hHeld ?_
          simp only [Act.put, sa, s0, ss]
          refine takeB 2 51 (.int .i64 (an : Int)) (fun w o hSw ho => ?_) hHeld ?_
          · obtain rfl := Option.some.inj ho; (obtain ⟨d0, d1, d2, d3, d4⟩ := QAt.atl hSw.2; rw [HA.out] at d3; go_simp)
          simp only [Act.put, sa, s0, ss]
          refine takeA 3 52 (.slice (some ⟨w.heap.size + 1, 0, none⟩) x.nodes.length x.nodes.length) hHeld ?_
          simp only [Act.put, sa, s0, ss]
          refine takeA 4 53 (.pointer (some ⟨gb, 4, none⟩)) hHeld ?_
          simp only [Act.put, sa, s0, ss]
          refine takeB 5 54 (.int .i64 (bb : Int)) (fun w o hSw ho => ?_) hHeld ?_
          · obtain rfl := Option.some.inj ho; (obtain ⟨d0, d1, d2, d3, d4⟩ := QAt.atl hSw.2; rw [HBB.out] at d4; go_simp)
          simp only [Act.put, sa, s0, ss]
          refine takeB 6 55 (.agg #[.int .i64 n.x0, .int .i64 n.x1, .int .i64 n.x2, .int .i64 n.x3, .int .i64 n.x4]) (fun w o hSw ho => ?_) hHeld ?_
          · obtain rfl := Option.some.inj ho; (obtain ⟨d0, d1, d2, d3, d4⟩ := QAt.atl hSw.2; go_simp)
          simp only [Act.put, sa, s0, ss]
          refine takeA 7 56 (.slice (some ⟨w.heap.size + 1, 0, none⟩) x.nodes.length x.nodes.length) hHeld ?_
          simp only [Act.put, sa, s0, ss]
          refine takeA 8 57 (.int .i64 (k : Int)) hHeld ?_
          simp only [Act.put, sa, s0, ss]
          refine takeA 9 58 (.pointer (some ⟨w.heap.size + 1, k * 5, none⟩)) hHeld ?_
          simp only [Act.put, sa, s0, ss]
          refine takeB 10 59 (.agg #[.int .i64 r1.x0, .int .i64 r1.x1, .int .i64 r1.x2, .int .i64 r1.x3, .int .i64 r1.x4]) (fun w o hSw ho => ?_) hHeld ?_
          · obtain rfl := Option.some.inj ho; (obtain ⟨d0, d1, d2, d3, d4⟩ := hSw.1; go_simp)
          simp only [Act.put, sa, s0, ss]
          refine oneR 11 (by kernel_rfl) (by kernel_rfl) (fun o ho K' hK => ?_)
          obtain rfl := Option.some.inj ho
          clear ho
          go_simp
          refine (HPR.out _).mono ?_
          rintro e w3 ⟨rfl, b3⟩
          have hM3 := HMd.out.on b3
          have hS3 : QAt w3 (w.heap.size + 1) (k * 5) r1 ∧ AtL w3 gb (qC n) := ⟨by have := hM3.own.row.2.1 k (by simpa [hrl] using hlt); rwa [hrk] at this, hM3.box⟩
          have HM3 := Lib.hid hM3
          clear hM3 HMd hHeld b3 HPR
          unfold qV
          go_wp2_with fail
          refine hK.out _ _ (hS3) (fun hHeld => ?_)
          clear hK K'
          try simp only [Act.put, sa, s0, ss]
          refine takeA 12 48 (.tuple #[.agg #[.int .i64 ra.x0, .int .i64 ra.x1, .int .i64 ra.x2, .int .i64 ra.x3, .int .i64 ra.x4], .agg #[.int .i64 rb.x0, .int .i64 rb.x1, .int .i64 rb.x2, .int .i64 rb.x3, .int .i64 rb.x4]]) hHeld ?_
          simp only [Act.put, sa, s0, ss]
          refine takeA 13 61 (.agg #[.int .i64 ra.x0, .int .i64 ra.x1, .int .i64 ra.x2, .int .i64 ra.x3, .int .i64 ra.x4]) hHeld ?_
          simp only [Act.put, sa, s0, ss]
          refine takeA 14 62 (.agg #[.int .i64 rb.x0, .int .i64 rb.x1, .int .i64 rb.x2, .int .i64 rb.x3, .int .i64 rb.x4]) hHeld ?_
          simp only [Act.put, sa, s0, ss]
          have i5 : (an : Int) < (x.nodes.length : Int) := by omega
          have i6 : (bb : Int) < (x.nodes.length : Int) := by omega
          refine takeA 15 63 (.pointer (some ⟨w.heap.size + 1, an * 5, none⟩)) hHeld ?_
          simp only [Act.put, sa, s0, ss]
          obtain ⟨-, hrow3, hfz3⟩ := HM3.out.own.row
          obtain ⟨u0, u1, u2, u3, u4⟩ := hrow3 an (by simpa [hrl] using hal)
          clear hrow3
          refine oneR 16 (by kernel_rfl) (by kernel_rfl) (fun o ho K' hK => ?_)
          obtain rfl := Option.some.inj ho
          clear ho
          go_simp
          have hM4 := HM3.out.put HN.out an ra (by simpa [hrl] using hal) _ rfl
          have hk4 : nth ((R.set k r1).set an ra) k = r1 := by rw [nth_set (by simpa [hrl] using hlt), if_neg (by omega)]; exact hrk
          have hS4 := And.intro (hM4.own.row.2.1 k (by simpa [hrl] using hlt)) hM4.box
          rw [hk4] at hS4
          have HM4 := Lib.hid hM4
          clear hM4 HM3 u0 u1 u2 u3 u4 hfz3 hHeld
          refine hK.out _ _ (hS4) (fun hHeld => ?_)
          clear hK K'
          try simp only [Act.put, sa, s0, ss]
          refine takeA 17 64 (.pointer (some ⟨w.heap.size + 1, bb * 5, none⟩)) hHeld ?_
          simp only [Act.put, sa, s0, ss]
          clear hHeld hS4
          refine wpAny_gen (MidRel w x _ c ((R.set k r1).set an ra) gb n) HM4.out (fun W4 hM4 => ?_)
          obtain ⟨-, hrow3, hfz3⟩ := hM4.own.row
          obtain ⟨u0, u1, u2, u3, u4⟩ := hrow3 bb (by simpa [hrl] using hbl2)
          have HM5 := Lib.hid hM4
          clear HM4 hrow3 hM4
          refine oneR 18 (by kernel_rfl) (by kernel_rfl) (fun o ho K' hK => ?_)
          obtain rfl := Option.some.inj ho
          clear ho
          go_simp
          have hM6 := HM5.out.put HN.out bb rb (by simpa [hrl] using hbl2) _ rfl
          have hk6 : nth (((R.set k r1).set an ra).set bb rb) k = r1 := by rw [nth_set (by simpa [hrl] using hlt), if_neg (by omega)]; exact hk4
          have hS6 := And.intro (hM6.own.row.2.1 k (by simpa [hrl] using hlt)) hM6.box
          rw [hk6] at hS6
          have HE : Hid (RectsRel w x _ c (k + 1) (((R.set k r1).set an ra).set bb rb) _) := Lib.hid ⟨hM6.own, hM6.ly, hM6.below, HST2.out, HRN.out⟩
          clear hM6 HM5 u0 u1 u2 u3 u4 hfz3
          refine hK.out _ _ (hS6) (fun hHeld => ?_)
          clear hK K'
          try simp only [Act.put, sa, s0, ss]
          refine wpAnyH_done (by kernel_rfl) ?_ _
          refine NoPanic.normal ?_
          clear hHeld hS6 hk4 hk6 HS0 HRN HST2
          refine wp_then (fun W' => RectsRel w x _ c (k + 1) (((R.set k r1).set an ra).set bb rb) W') HE.out (fun W6 hW6 => ?_)
          have HE6 := Lib.hid hW6
          clear HE hW6
          go_wp2
          exact ⟨⟨k + 1, _, by omega, by go_num, HE6.out⟩, by simp [intOf]; omega⟩
    · obtain rfl : k = x.nodes.length := by omega
      have hru := HR.out.run
      rw [List.drop_length] at hru
      unfold runR at hru
      go_wp2
      go_ret2
      exact ⟨fun R' hR' => by rw [hru] at hR'; cases hR'; exact ⟨_, rfl, HR.out.own⟩, (fun hn => by rw [hru] at hn; cases hn), HR.out.below⟩

end Go.Proofs.Ytbfickdgjgbfhaa
