/- The model's l6Rects. -/
import Derived.Test.YtbfickdgjgbfhaaQLySpec3
import Derived.Laws.AppendOwnNone
import Derived.Test.YtbfickdgjgbfhaaQTakesToMem
namespace Go.Proofs.Ytbfickdgjgbfhaa
open Go.RowKit
set_option linter.unusedVariables false

theorem Try.info_rect : (Try.prog.info? 69).map (fun i => (i.zero, i.size, i.bytes)) = some (some (.agg #[.int .i64 0, .int .i64 0, .int .i64 0, .int .i64 0, .int .i64 0]), 5, 40) := by kernel_rfl

/-- places and whether all are, in memory of the call's own -/
def RcPost (W : World) (l : List Q) (ok : Bool) (e : Ending) (W' : World) : Prop :=
  ∃ v, e = .returned (.tuple #[v, .bool ok]) ∧ OwnQ 69 W' W.heap.size v l ∧ Below W.heap.size W W'

theorem rcOf_len (ns : List Q) : ∀ (f i : Nat) (r : Q), (rcOf ns f i r).1.length ≤ 2 ^ f
  | 0, _, _ => by simp [rcOf]
  | f + 1, i, r => by
    unfold rcOf
    have h1 := rcOf_len ns f (nth ns i).x3.toNat (partA (nth ns i) r)
    have h2 := rcOf_len ns f (nth ns i).x4.toNat (partB (nth ns i) r)
    have h3 : 2 ^ (f + 1) = 2 ^ f + 2 ^ f := by rw [Nat.pow_succ]; omega
    have h4 : 0 < 2 ^ f := Nat.pow_pos (by omega)
    split
    · simp
    · split
      · simp; omega
      · split
        · simp only [List.length_append]; omega
        · simp

theorem qC_one (q : Q) : ∀ u ∈ qC q, u.oneCell' = true := by
  intro u hu
  simp [qC] at hu
  rcases hu with rfl | rfl | rfl | rfl | rfl <;> rfl
theorem flatQ_one (l : List Q) : ∀ u ∈ l.flatMap qC, u.oneCell' = true := by
  intro u hu
  rw [List.mem_flatMap] at hu
  obtain ⟨q, _, hq⟩ := hu
  exact qC_one q u hq

theorem ownQ_one (T : TypeId) (W : World) (q : Q) {base g : Nat} (hb : base ≤ W.heap.size) (hg : g = W.heap.size) : OwnQ T (W.alloc (.cells (qC q).toArray T)) base (.slice (some ⟨g, 0, none⟩) 1 1) [q] := by
  subst hg
  have := World.ownsRow_lit (e := T) (size := 5) W (qC q).toArray 1 hb (by unfold maxLen; omega) (by simp [qC])
  unfold OwnQ
  simpa using this
theorem OwnQ.src {T : TypeId} {w : World} {base : Nat} {p : Option Addr} {n c : Nat} {l : List Q} (h : OwnQ T w base (.slice p n c) l) : (p = none ∧ c = 0 ∧ l = []) ∨ ∃ ad, p = some ad ∧ ∀ j u, (l.flatMap qC)[j]? = some u → w.cell? (ad.add j) = some u := by
  rcases h.form with ⟨e, rfl⟩ | ⟨g, cap, e, hb, hlt, ho⟩
  · simp at e; exact .inl ⟨e.1, e.2.2, rfl⟩
  · simp at e
    obtain ⟨rfl, -, rfl⟩ := e
    exact .inr ⟨_, rfl, World.ownsRow.cells h ho⟩

/-- the place's numbers stay small -/
def RcBd (r : Q) (i : Nat) : Prop := (0 ≤ r.x1 ∧ r.x1 ≤ 201 * i) ∧ (0 ≤ r.x2 ∧ r.x2 ≤ 201 * i) ∧ (-200 ≤ r.x3 ∧ r.x3 ≤ 200) ∧ (-200 ≤ r.x4 ∧ r.x4 ≤ 200)
theorem RcBd.partA {n r : Q} {i j : Nat} (h : RcBd r i) (hij : i < j) (h0 : 0 ≤ n.x2) (h1 : n.x2 ≤ 200) : RcBd (partA n r) j := by
  unfold RcBd Go.Proofs.Ytbfickdgjgbfhaa.partA at *
  split <;> (simp only; omega)
theorem RcBd.partB {n r : Q} {i j : Nat} (h : RcBd r i) (hij : i < j) (h0 : 0 ≤ n.x2) (h1 : n.x2 ≤ 200) (h3 : 1 ≤ r.x3) (h4 : 1 ≤ r.x4) : RcBd (partB n r) j := by
  unfold RcBd Go.Proofs.Ytbfickdgjgbfhaa.partB at *
  split <;> (simp only; omega)

/-- the layout at block b, its nodes at p -/
structure LyAt (w : World) (b : Nat) (x : Ly) (p : Option Addr) (c : Nat) : Prop where
  cells : AtL w b (lyL x p c)
  nodes : Qs w w.heap.size p x.nodes
theorem LyAt.on {w w' : World} {b : Nat} {x : Ly} {p : Option Addr} {c : Nat} (h : LyAt w b x p c) (hb : Below w.heap.size w w') : LyAt w' b x p c := ⟨h.cells.on hb, h.nodes.on hb⟩
theorem LyAt.new (w : World) (x : Ly) (p : Option Addr) (c : Nat) (t : TypeId) (h : Qs w w.heap.size p x.nodes) : LyAt (w.alloc (.cells (lyL x p c).toArray t)) w.heap.size x p c := ⟨AtL.new w (lyL x p c) t, h.on (below_mk _ _)⟩
theorem LyAt.node {w : World} {b : Nat} {x : Ly} {p : Option Addr} {c : Nat} (h : LyAt w b x p c) (i : Nat) (hi : i < x.nodes.length) : ∃ bn off, p = some ⟨bn, off, none⟩ ∧ bn < w.heap.size ∧ QAt w bn (off + i * 5) (nth x.nodes i) := by
  obtain ⟨bn, off, e, _, hb, hc⟩ := h.nodes (by intro e; simp [e] at hi)
  exact ⟨bn, off, e, hb, hc i hi⟩

/-- what holds in the midst of l6Rects -/
structure RcMid (w : World) (b : Nat) (x : Ly) (bn off c i ga : Nat) (ra rb : Q) (W : World) : Prop where
  ly : LyAt W b x (some ⟨bn, off, none⟩) c
  node : QAt W bn (off + i * 5) (nth x.nodes i)
  a : AtL W ga (qC ra)
  b : AtL W (ga + 1) (qC rb)
  below : Below w.heap.size w W
theorem RcMid.on {w : World} {b : Nat} {x : Ly} {bn off c i ga : Nat} {ra rb : Q} {W W' : World} (h : RcMid w b x bn off c i ga ra rb W) (hb : Below W.heap.size W W') : RcMid w b x bn off c i ga ra rb W' :=
  ⟨h.ly.on hb, h.node.below hb h.node.lt, h.a.on hb, h.b.on hb, below_on h.below hb⟩
theorem RcMid.drew {w : World} {b : Nat} {x : Ly} {bn off c i ga : Nat} {ra rb : Q} {W : World} (h : RcMid w b x bn off c i ga ra rb W) : RcMid w b x bn off c i ga ra rb W.drew := h.on (below_drewN (Below.refl _ _) 1)

theorem rc_small {ns : List Q} {f i : Nat} {r : Q} (h : r.x3 < 1 ∨ r.x4 < 1) : rcOf ns (f + 1) i r = ([], false) := by unfold rcOf; rw [if_pos h]
theorem rc_leaf {ns : List Q} {f i : Nat} {r : Q} (h : ¬ (r.x3 < 1 ∨ r.x4 < 1)) (hn : (nth ns i).x0 = 1) : rcOf ns (f + 1) i r = ([⟨(nth ns i).x1, r.x1, r.x2, r.x3, r.x4⟩], true) := by unfold rcOf; rw [if_neg h, if_pos hn]
theorem rc_first {ns : List Q} {f i : Nat} {r : Q} (h : ¬ (r.x3 < 1 ∨ r.x4 < 1)) (hn : ¬ (nth ns i).x0 = 1) (hz : inR (nth ns i).x2 0 200 = false) : rcOf ns (f + 1) i r = ([], false) := by unfold rcOf; rw [if_neg h, if_neg hn, if_neg (by rw [hz]; simp)]
theorem rc_split {ns : List Q} {f i : Nat} {r : Q} (h : ¬ (r.x3 < 1 ∨ r.x4 < 1)) (hn : ¬ (nth ns i).x0 = 1) (hz : inR (nth ns i).x2 0 200 = true) :
    rcOf ns (f + 1) i r = ((rcOf ns f (nth ns i).x3.toNat (partA (nth ns i) r)).1 ++ (rcOf ns f (nth ns i).x4.toNat (partB (nth ns i) r)).1,
       (rcOf ns f (nth ns i).x3.toNat (partA (nth ns i) r)).2 && (rcOf ns f (nth ns i).x4.toNat (partB (nth ns i) r)).2) := by conv => lhs; unfold rcOf; rw [if_neg h, if_neg hn, if_pos hz]

set_option maxRecDepth 100000 in
set_option maxHeartbeats 4000000 in
theorem l6Rects_any (x : Ly) (p : Option Addr) (c : Nat) (hm : x.nodes.length ≤ 11) (ho : Okay x.nodes) :
    ∀ (f i : Nat) (r : Q) (b : Nat) (w : World), f ≤ 11 → x.nodes.length ≤ i + f → i < x.nodes.length → LyAt w b x p c → RcBd r i →
    Calls Try.prog 108 #[.pointer (some ⟨b, 0, none⟩), .int .i64 i, .agg #[.int .i64 r.x0, .int .i64 r.x1, .int .i64 r.x2, .int .i64 r.x3, .int .i64 r.x4]] w (RcPost w (rcOf x.nodes f i r).1 (rcOf x.nodes f i r).2) := by
  intro f
  induction f with
  | zero => intro i r b w _ h1 h2; omega
  | succ f ih =>
    intro i r b w hf hfi hi hX hR
    have IH := Lib.hid ih
    clear ih
    by_cases hs : r.x3 < 1 ∨ r.x4 < 1
    · rw [rc_small hs]
      clear IH hX
      by_cases h3 : r.x3 < 1
      · clear hs
        go_enter Try.func108, Try.ntmps108
        go_wp2
        go_ret2
        exact ⟨_, rfl, ownQ_nil _ _ _, below_mk _ _⟩
      · have h4 : r.x4 < 1 := by omega
        clear hs
        go_enter Try.func108, Try.ntmps108
        go_wp2
        go_ret2
        exact ⟨_, rfl, ownQ_nil _ _ _, below_mk _ _⟩
    have h3 : ¬ r.x3 < 1 := by omega
    have h4 : ¬ r.x4 < 1 := by omega
    obtain ⟨bn, off, rfl, hbn, hq⟩ := hX.node i hi
    obtain ⟨-, -, l2⟩ := hX.cells.tri
    have hbl := hX.cells.1
    have i1 : (i : Int) < (x.nodes.length : Int) := by omega
    have i0 : (0 : Int) ≤ (i : Int) := by omega
    have HX := Lib.hid hX
    have HQ := Lib.hid hq
    obtain ⟨c0, c1, c2, c3, c4⟩ := hq
    clear hX
    have hok := ho i hi
    by_cases hn : (nth x.nodes i).x0 = 1
    · rw [rc_leaf hs hn]
      rw [hn] at c0
      clear IH hs hok
      go_enter Try.func108, Try.ntmps108
      go_wp2
      go_ret2
      exact ⟨_, rfl, ownQ_one _ _ ⟨(nth x.nodes i).x1, r.x1, r.x2, r.x3, r.x4⟩ (by simp) (by simp), below_on (below_mk _ _) (below_mk _ _)⟩
    have hsp : isSplitB (nth x.nodes i) = true := by
      cases h' : isSplitB (nth x.nodes i)
      · exact absurd (hok.leaf h').1 hn
      · rfl
    obtain ⟨-, -, g3, g4, g5, g6⟩ := hok.split hsp
    have hn2 : ((nth x.nodes i).x0 == 1) = false := by simpa using hn
    cases hz : inR (nth x.nodes i).x2 0 200
    · rw [rc_first hs hn hz]
      clear IH hs hok hn
      go_enter Try.func108, Try.ntmps108
      go_wp2_with (go_at_call 52; refine (l1In_any _ _ _ _).mono ?_; rw [hz]; rintro e w' ⟨rfl, rfl⟩)
      go_ret2
      exact ⟨_, rfl, ownQ_nil _ _ _, below_mk _ _⟩
    obtain ⟨z0, z1⟩ := inR_iff.1 hz
    obtain ⟨ia, ha⟩ := Int.eq_ofNat_of_zero_le (show 0 ≤ (nth x.nodes i).x3 by omega)
    obtain ⟨ib, hb⟩ := Int.eq_ofNat_of_zero_le (show 0 ≤ (nth x.nodes i).x4 by omega)
    have hia : i < ia := by omega
    have hib : i < ib := by omega
    have hial : ia < x.nodes.length := by omega
    have hibl : ib < x.nodes.length := by omega
    have hRA := hR.partA (n := nth x.nodes i) hia z0 z1
    have hRB := hR.partB (n := nth x.nodes i) hib z0 z1 (by omega) (by omega)
    have HA := Lib.hid (fun b w => IH.out ia (partA (nth x.nodes i) r) b w (by omega) (by omega) hial)
    have HB := Lib.hid (fun b w => IH.out ib (partB (nth x.nodes i) r) b w (by omega) (by omega) hibl)
    have HP := Lib.hid (fun W h => l6Parts_any (nth x.nodes i) r bn (off + i * 5) W h z0 z1 (by unfold RcBd at hR; omega) (by unfold RcBd at hR; omega) (by unfold RcBd at hR; omega) (by unfold RcBd at hR; omega))
    have HLA := rcOf_len x.nodes f ia (partA (nth x.nodes i) r)
    have HLB := rcOf_len x.nodes f ib (partB (nth x.nodes i) r)
    have hpow : 2 ^ f ≤ 2 ^ 11 := Nat.pow_le_pow_right (by omega) (by omega)
    have hpow2 : (2 : Nat) ^ 11 = 2048 := by decide
    rw [rc_split hs hn hz, ha, hb, Int.toNat_natCast, Int.toNat_natCast]
    have la1 : (rcOf x.nodes f ia (partA (nth x.nodes i) r)).1.length ≤ 2048 := by omega
    have lb1 : (rcOf x.nodes f ib (partB (nth x.nodes i) r)).1.length ≤ 2048 := by omega
    have HRA := Lib.hid hRA
    have HRB := Lib.hid hRB
    rw [ha] at c3
    rw [hb] at c4
    clear IH hs hok hn hsp g3 g4 g5 g6 hRA hRB HLA HLB hpow hpow2 hR
    generalize partA (nth x.nodes i) r = ra at *
    generalize partB (nth x.nodes i) r = rb at *
    generalize rcOf x.nodes f ia ra = ca at *
    generalize rcOf x.nodes f ib rb = cb at *
    obtain ⟨la, oka⟩ := ca
    obtain ⟨lb, okb⟩ := cb
    dsimp only at *
    obtain ⟨i0r, hi0r, hz0, hz1, hz2⟩ := info_parts Try.info_rect
    have HI := Lib.hid (And.intro hi0r (And.intro hz0 (And.intro hz1 hz2)))
    clear hi0r hz0 hz1 hz2
    go_enter Try.func108, Try.ntmps108
    go_wp2_with (go_at_call 52; refine (l1In_any _ _ _ _).mono ?_; rw [hz]; rintro e w' ⟨rfl, rfl⟩)
    refine (HP.out _ (HQ.out.below (below_mk _ _) hbn)).mono ?_
    rintro e w1 ⟨rfl, b1⟩
    have D1 := below_on (below_mk w _) b1
    have HM : Hid (∀ W, W = (w1.alloc (.cells #[.int .i64 ra.x0, .int .i64 ra.x1, .int .i64 ra.x2, .int .i64 ra.x3, .int .i64 ra.x4] 69)).alloc (.cells #[.int .i64 rb.x0, .int .i64 rb.x1, .int .i64 rb.x2, .int .i64 rb.x3, .int .i64 rb.x4] 69) → RcMid w b x bn off c i w1.heap.size ra rb W) := Lib.hid (by
      rintro W rfl
      have X2 := AtL.new (w1.alloc (.cells (qC ra).toArray 69)) (qC rb) 69
      rw [World.size_alloc] at X2
      have D3 := below_on (below_on D1 (below_mk w1 (.cells (qC ra).toArray 69))) (below_mk _ (.cells (qC rb).toArray 69))
      exact ⟨HX.out.on D3, HQ.out.below D3 hbn, (AtL.new w1 (qC ra) 69).on (below_mk _ _), X2, D3⟩)
    unfold qV
    clear c0 c1 c2 c3 c4 l2 b1 D1 HP
    go_wp2
    refine wp_genQ (RcMid w b x bn off c i w1.heap.size ra rb) (HM.out _ rfl) (fun W hM => ?_)
    clear HM
    generalize w1.heap.size = ga at *
    clear w1
    have HM2 := Lib.hid (fun W' (hb' : Below W.heap.size W W') => hM.on hb')
    clear hM
    refine wp_region_noPanic ?_
    refine wp_region_held_drew (S := fun W' => Below (W).heap.size (W) W') (by kernel_rfl) (below_drewN (Below.refl _ _) 1) (fun hHeld => ?_)
    refine takeA 0 54 (.pointer (some ⟨b, 0, none⟩)) hHeld ?_
    simp only [Act.put, sa, s0, ss]
    refine takeA 1 55 (.pointer (some ⟨bn, off + i * 5, none⟩)) hHeld ?_
    simp only [Act.put, sa, s0, ss]
    refine takeA 2 56 (.pointer (some ⟨bn, off + i * 5, none⟩)) hHeld ?_
    simp only [Act.put, sa, s0, ss]
    refine takeA 3 57 (.pointer (some ⟨bn, off + i * 5 + 3, none⟩)) hHeld ?_
    simp only [Act.put, sa, s0, ss]
    refine takeB 4 58 (.int .i64 (ia : Int)) (fun w o hSw ho => ?_) hHeld ?_
    · obtain rfl := Option.some.inj ho; (have hx := (HM2.out _ hSw).node.c3; rw [ha] at hx; go_simp)
    simp only [Act.put, sa, s0, ss]
    refine takeB 5 59 (.agg #[.int .i64 ra.x0, .int .i64 ra.x1, .int .i64 ra.x2, .int .i64 ra.x3, .int .i64 ra.x4]) (fun w o hSw ho => ?_) hHeld ?_
    · obtain rfl := Option.some.inj ho; (obtain ⟨d0, d1, d2, d3, d4⟩ := QAt.atl (HM2.out _ hSw).a; go_simp)
    simp only [Act.put, sa, s0, ss]
    refine oneR 6 (by kernel_rfl) (by kernel_rfl) (fun o ho K' hK => ?_)
    obtain rfl := Option.some.inj ho
    clear ho
    go_simp
    refine (HA.out b _ (HM2.out _ hHeld).ly HRA.out).mono ?_
    rintro e w3 ⟨va, rfl, oa, b3⟩
    have HM3 := Lib.hid ((HM2.out _ hHeld).on b3)
    have HOA := Lib.hid (oa.lower (base' := w.heap.size) (HM2.out _ hHeld).below.size)
    have hc3 := below_on hHeld b3
    clear oa b3 HM2 HA hHeld
    go_wp2_with fail
    refine hK.out _ _ (hc3) (fun hHeld => ?_)
    clear hK K'
    try simp only [Act.put, sa, s0, ss]
    refine takeA 7 53 (.tuple #[va, .bool oka]) hHeld ?_
    simp only [Act.put, sa, s0, ss]
    refine takeA 8 61 (va) hHeld ?_
    simp only [Act.put, sa, s0, ss]
    refine takeA 9 62 (.bool oka) hHeld ?_
    simp only [Act.put, sa, s0, ss]
    refine takeA 10 11 (va) hHeld ?_
    simp only [Act.put, sa, s0, ss]
    refine takeA 11 12 (.bool oka) hHeld ?_
    simp only [Act.put, sa, s0, ss]
    refine wpAnyH_done (by kernel_rfl) ?_ _
    refine NoPanic.normal ?_
    clear hHeld hc3
    go_wp2
    refine wp_genQ (fun W => W = w3) rfl (fun W hW => ?_)
    subst hW
    have HM2 := Lib.hid (fun W' (hb' : Below W.heap.size W W') => And.intro (HM3.out.on hb') (HOA.out.on hb'))
    clear HM3 HOA
    refine wp_region_noPanic ?_
    refine wp_region_held_drew (S := fun W' => Below (W).heap.size (W) W') (by kernel_rfl) (below_drewN (Below.refl _ _) 1) (fun hHeld => ?_)
    refine takeA 0 64 (.pointer (some ⟨b, 0, none⟩)) hHeld ?_
    simp only [Act.put, sa, s0, ss]
    refine takeA 1 65 (.pointer (some ⟨bn, off + i * 5, none⟩)) hHeld ?_
    simp only [Act.put, sa, s0, ss]
    refine takeA 2 66 (.pointer (some ⟨bn, off + i * 5, none⟩)) hHeld ?_
    simp only [Act.put, sa, s0, ss]
    refine takeA 3 67 (.pointer (some ⟨bn, off + i * 5 + 4, none⟩)) hHeld ?_
    simp only [Act.put, sa, s0, ss]
    refine takeB 4 68 (.int .i64 (ib : Int)) (fun w o hSw ho => ?_) hHeld ?_
    · obtain rfl := Option.some.inj ho; (have hx := (HM2.out _ hSw).1.node.c4; rw [hb] at hx; go_simp)
    simp only [Act.put, sa, s0, ss]
    refine takeB 5 69 (.agg #[.int .i64 rb.x0, .int .i64 rb.x1, .int .i64 rb.x2, .int .i64 rb.x3, .int .i64 rb.x4]) (fun w o hSw ho => ?_) hHeld ?_
    · obtain rfl := Option.some.inj ho; (obtain ⟨d0, d1, d2, d3, d4⟩ := QAt.atl (HM2.out _ hSw).1.b; go_simp)
    simp only [Act.put, sa, s0, ss]
    refine oneR 6 (by kernel_rfl) (by kernel_rfl) (fun o ho K' hK => ?_)
    obtain rfl := Option.some.inj ho
    clear ho
    go_simp
    refine (HB.out b _ (HM2.out _ hHeld).1.ly HRB.out).mono ?_
    rintro e w4 ⟨vb, rfl, ob, b4⟩
    obtain ⟨pb, cb, rfl⟩ := ob.slice
    have HM3 := Lib.hid ((HM2.out _ hHeld).1.on b4)
    have HOA4 := Lib.hid ((HM2.out _ hHeld).2.on b4)
    have HOB := Lib.hid (ob.lower (base' := w.heap.size) (HM2.out _ hHeld).1.below.size)
    have hc3 := below_on hHeld b4
    clear ob b4 HM2 HB hHeld
    go_wp2_with fail
    refine hK.out _ _ (hc3) (fun hHeld => ?_)
    clear hK K'
    try simp only [Act.put, sa, s0, ss]
    refine takeA 7 63 (.tuple #[.slice pb lb.length cb, .bool okb]) hHeld ?_
    simp only [Act.put, sa, s0, ss]
    refine takeA 8 71 (.slice pb lb.length cb) hHeld ?_
    simp only [Act.put, sa, s0, ss]
    refine takeA 9 72 (.bool okb) hHeld ?_
    simp only [Act.put, sa, s0, ss]
    refine takeA 10 13 (.slice pb lb.length cb) hHeld ?_
    simp only [Act.put, sa, s0, ss]
    refine takeA 11 14 (.bool okb) hHeld ?_
    simp only [Act.put, sa, s0, ss]
    refine wpAnyH_done (by kernel_rfl) ?_ _
    refine NoPanic.normal ?_
    have HD4 := Lib.hid HM3.out.below
    have hsz := HD4.out.size
    clear hHeld hc3 HM3
    rcases HOB.out.src with ⟨rfl, rfl, rfl⟩ | ⟨ad, rfl, hcells⟩
    · cases oka
      all_goals
        go_wp2_with (at_builtin; refine wpList_append_own_none rfl _ _ 58 rfl w.heap.size 69 i0r 5 Try.underlying58 HI.out.1 _ _ _ rfl HOA4.out rfl ?_)
        go_ret2
        exact ⟨_, rfl, by rw [List.append_nil]; exact HOA4.out, HD4.out⟩
    · cases oka
      all_goals
        go_wp2_with (at_builtin; refine wpList_append_own _ rfl _ _ 58 rfl w.heap.size 69 i0r _ 5 40 Try.underlying58 HI.out.1 HI.out.2.1 HI.out.2.2.1 HI.out.2.2.2 rfl (by decide) _ _ _ rfl HOA4.out ad lb.length cb (lb.flatMap qC) rfl (flatQ_len lb) hcells (flatQ_one lb) (by unfold maxLen; omega) (by omega) (by omega) ?_; intro v' w5 hown hgrow _)
        go_ret2
        exact ⟨_, rfl, by unfold OwnQ; rw [List.length_append, List.flatMap_append]; exact hown, HD4.out.trans (below_of_grown hgrow HD4.out.size (fun g hg => (HOA4.out.lt g hg).1))⟩

end Go.Proofs.Ytbfickdgjgbfhaa

/- l6Copy of the model: a layout with nodes of its own. -/
namespace Go.Proofs.Ytbfickdgjgbfhaa
open Go.RowKit
set_option linter.unusedVariables false

theorem Try.info_nodeD : (Try.prog.info? 76).map (fun i => (i.zero, i.size, i.bytes)) = some (some (.agg #[.int .i64 0, .int .i64 0, .int .i64 0, .int .i64 0, .int .i64 0]), 5, 40) := by kernel_rfl
theorem qs_cells {w : World} {B : Nat} {ad : Addr} {l : List Q} (h : Qs w B (some ad) l) : ∀ j u, (l.flatMap qC)[j]? = some u → w.cell? (ad.add j) = some u := by
  intro j u hu
  have hj : j < l.length * 5 := by rw [← flatQ_len]; exact (List.getElem?_eq_some_iff.1 hu).1
  obtain ⟨b, off, e, _, _, hc⟩ := h (by rintro rfl; simp at hj)
  obtain rfl := Option.some.inj e
  have hi : j / 5 < l.length := by omega
  have hk : j % 5 < 5 := by omega
  have ej : j / 5 * 5 + j % 5 = j := by omega
  have ea : (⟨b, off, none⟩ : Addr).add j = ⟨b, off + j, none⟩ := by
    unfold Addr.add
    split
    · rename_i h0; rw [h0]; simp
    · simp
  rw [ea]
  have hq := hc (j / 5) hi
  have hf := flatQ_at l (j / 5) (j % 5) hi hk
  rw [ej, hu] at hf
  have e5 : off + j = off + j / 5 * 5 + j % 5 := by omega
  rw [e5, hf]
  have : j % 5 = 0 ∨ j % 5 = 1 ∨ j % 5 = 2 ∨ j % 5 = 3 ∨ j % 5 = 4 := by omega
  rcases this with h | h | h | h | h <;> rw [h]
  · exact hq.c0
  · exact hq.c1
  · exact hq.c2
  · exact hq.c3
  · exact hq.c4

set_option maxRecDepth 100000 in
set_option maxHeartbeats 4000000 in
theorem l6Copy_any (b : Nat) (a : Ly) (ad : Addr) (c : Nat) (w : World) (hA : AtL w b (lyL a (some ad) c)) (hq : Qs w w.heap.size (some ad) a.nodes) (hl : a.nodes.length ≤ 1000) :
    Calls Try.prog 73 #[.pointer (some ⟨b, 0, none⟩)] w fun e w' => ∃ v, e = .returned (.agg #[.int .i64 a.wide, .int .i64 a.high, v]) ∧ OwnQ 76 w' w.heap.size v a.nodes ∧ Below w.heap.size w w' := by
  obtain ⟨i0, hi, hz0, hz1, hz2⟩ := info_parts Try.info_nodeD
  have HI := Lib.hid (And.intro hi (And.intro hz0 (And.intro hz1 hz2)))
  clear hi hz0 hz1 hz2
  have hlt := hA.1
  have HA := Lib.hid (fun W' (hb : Below w.heap.size w W') => (hA.on hb).tri)
  have HQ := Lib.hid (fun W' (hb : Below w.heap.size w W') => qs_cells (hq.on hb))
  have HR := Lib.hid (AtM.new w [.int .i64 0, .int .i64 0, .slice none 0 0] 28)
  have HB := Lib.hid (below_mk w (.cells #[.int .i64 0, .int .i64 0, .slice none 0 0] 28))
  clear hA hq
  go_enter Try.func73, Try.ntmps73
  go_wp2_with fail
  refine wp_region_noPanic ?_
  refine wp_region_held_drew (S := fun W' => Below w.heap.size w W') (by kernel_rfl) (below_drewN HB.out 1) (fun hHeld => ?_)
  refine takeA 0 3 (.pointer (some ⟨b, 0, none⟩)) hHeld ?_
  simp only [Act.put, sa, s0, ss]
  refine takeA 1 4 (.pointer (some ⟨b, 0, none⟩)) hHeld ?_
  simp only [Act.put, sa, s0, ss]
  refine takeA 2 5 (.pointer (some ⟨b, 0, none⟩)) hHeld ?_
  simp only [Act.put, sa, s0, ss]
  refine takeB 3 6 (.int .i64 a.wide) (fun w o hSw ho => ?_) hHeld ?_
  · obtain rfl := Option.some.inj ho; obtain ⟨z0, z1, z2⟩ := HA.out _ hSw; go_simp
  simp only [Act.put, sa, s0, ss]
  refine takeA 4 7 (.pointer (some ⟨b, 0, none⟩)) hHeld ?_
  simp only [Act.put, sa, s0, ss]
  refine takeA 5 8 (.pointer (some ⟨b, 0, none⟩)) hHeld ?_
  simp only [Act.put, sa, s0, ss]
  refine takeA 6 9 (.pointer (some ⟨b, 1, none⟩)) hHeld ?_
  simp only [Act.put, sa, s0, ss]
  refine takeB 7 10 (.int .i64 a.high) (fun w o hSw ho => ?_) hHeld ?_
  · obtain rfl := Option.some.inj ho; obtain ⟨z0, z1, z2⟩ := HA.out _ hSw; go_simp
  simp only [Act.put, sa, s0, ss]
  refine takeA 9 12 (.pointer (some ⟨b, 0, none⟩)) hHeld ?_
  simp only [Act.put, sa, s0, ss]
  refine takeA 10 13 (.pointer (some ⟨b, 0, none⟩)) hHeld ?_
  simp only [Act.put, sa, s0, ss]
  refine takeA 11 14 (.pointer (some ⟨b, 2, none⟩)) hHeld ?_
  simp only [Act.put, sa, s0, ss]
  refine takeB 12 15 (.slice (some ad) a.nodes.length c) (fun w o hSw ho => ?_) hHeld ?_
  · obtain rfl := Option.some.inj ho; obtain ⟨z0, z1, z2⟩ := HA.out _ hSw; go_simp
  simp only [Act.put, sa, s0, ss]
  refine oneR 8 (by kernel_rfl) (by kernel_rfl) (fun o ho K' hK => ?_)
  obtain rfl := Option.some.inj ho
  clear ho
  go_simp
  have D2 := Lib.hid (below_drewN (below_on HB.out (below_mk (w.alloc (.cells #[.int .i64 0, .int .i64 0, .slice none 0 0] 28)) (.cells #[] 76))) 1)
  have R2 := Lib.hid (HR.out.on (below_drewN (below_mk (w.alloc (.cells #[.int .i64 0, .int .i64 0, .slice none 0 0] 28)) (.cells #[] 76)) 1))
  have O2 := World.ownsRow_made (e := 76) (size := 5) (base := w.heap.size + 1) (w.alloc (.cells #[.int .i64 0, .int .i64 0, .slice none 0 0] 28)) #[] 0 (by simp) (by simp [maxLen]) (by simp)
  rw [World.size_alloc] at O2
  have O2 := Lib.hid O2
  refine hK.out _ _ (D2.out) (fun hHeld => ?_)
  clear hK K'
  try simp only [Act.put, sa, s0, ss]
  clear hHeld
  refine oneR 13 (by kernel_rfl) (by kernel_rfl) (fun o ho K' hK => ?_)
  obtain rfl := Option.some.inj ho
  clear ho
  refine wp_append_own _ _ _ 26 rfl (w.heap.size + 1) 76 i0 _ 5 40 Try.underlying26 HI.out.1 HI.out.2.1 HI.out.2.2.1 HI.out.2.2.2 rfl (by decide) _ _ _ rfl O2.out ad a.nodes.length c (a.nodes.flatMap qC) rfl (flatQ_len _) (HQ.out _ D2.out) (flatQ_one _) (by unfold maxLen; omega) (by omega) (by show w.heap.size + 1 ≤ ((w.alloc (.cells #[.int .i64 0, .int .i64 0, .slice none 0 0] 28)).alloc (.cells #[] 76)).heap.size; simp) ?_
  intro v w3 hown hgrow _
  have ho : OwnQ 76 w3 (w.heap.size + 1) v a.nodes := by unfold OwnQ; simpa using hown
  have D3 := Lib.hid (D2.out.trans (below_of_grown (B := w.heap.size) hgrow D2.out.size (fun g hg => by have := (World.ownsRow.lt O2.out g hg).1; omega)))
  have R3 := Lib.hid (R2.out.far hgrow (fun h => by have := (World.ownsRow.lt O2.out _ h.symm).1; omega))
  obtain ⟨pv, cv, rfl⟩ := ho.slice
  have HO := Lib.hid ho
  clear hown hgrow ho D2 R2 O2
  change K' (Act.put _ (some 16) _) w3
  refine hK.out _ _ (D3.out) (fun hHeld => ?_)
  clear hK K'
  try simp only [Act.put, sa, s0, ss]
  clear hHeld
  have hHeld := D3.out
  refine takeA 14 17 (.agg #[.int .i64 a.wide, .int .i64 a.high, .slice pv a.nodes.length cv]) hHeld ?_
  simp only [Act.put, sa, s0, ss]
  have q0 := R3.out.cells.get 0 rfl
  have q1 := R3.out.cells.get 1 rfl
  have q2 := R3.out.cells.get 2 rfl
  have hfz := R3.out.free
  refine oneR 15 (by kernel_rfl) (by kernel_rfl) (fun o ho K' hK => ?_)
  obtain rfl := Option.some.inj ho
  clear ho
  go_simp
  have R4 := ((R3.out.set 0 (.int .i64 a.wide)).set 1 (.int .i64 a.high)).set 2 (.slice pv a.nodes.length cv)
  have O4 := Lib.hid (((HO.out.setBelow (a := ⟨w.heap.size, 0, none⟩) (by show w.heap.size < w.heap.size + 1; omega) (.int .i64 a.wide)).setBelow (a := ⟨w.heap.size, 1, none⟩) (by show w.heap.size < w.heap.size + 1; omega) (.int .i64 a.high)).setBelow (a := ⟨w.heap.size, 2, none⟩) (by show w.heap.size < w.heap.size + 1; omega) (.slice pv a.nodes.length cv))
  have D4 : Hid (Below w.heap.size w (((w3.setCell ⟨w.heap.size, 0, none⟩ (.int .i64 a.wide)).setCell ⟨w.heap.size, 1, none⟩ (.int .i64 a.high)).setCell ⟨w.heap.size, 2, none⟩ (.slice pv a.nodes.length cv))) := ((D3.out.setCell (Nat.le_refl _) _).setCell (Nat.le_refl _) _).setCell (Nat.le_refl _) _
  obtain ⟨r0, r1, r2⟩ := R4.cells.tri
  clear R4 q0 q1 q2 hfz R3
  refine hK.out _ _ (D4.out) (fun hHeld => ?_)
  clear hK K'
  try simp only [Act.put, sa, s0, ss]
  refine wpAnyH_done (by kernel_rfl) ?_ _
  refine NoPanic.normal ?_
  clear hHeld
  generalize ((w3.setCell ⟨w.heap.size, 0, none⟩ (.int .i64 a.wide)).setCell ⟨w.heap.size, 1, none⟩ (.int .i64 a.high)).setCell ⟨w.heap.size, 2, none⟩ (.slice pv a.nodes.length cv) = w4 at *
  go_wp2_with fail
  refine bodyPost_ret (v := .agg #[.int .i64 a.wide, .int .i64 a.high, .slice pv a.nodes.length cv]) ?_ rfl ⟨_, rfl, O4.out.lower (by omega), D4.out⟩
  simp [results, Try.results73, go_sem, r0, r1, r2]

end Go.Proofs.Ytbfickdgjgbfhaa
