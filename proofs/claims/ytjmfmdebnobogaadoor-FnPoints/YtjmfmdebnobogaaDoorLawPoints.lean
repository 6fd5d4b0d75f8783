/- FnPoints: the law's walk. -/
import Derived.Test.YtjmfmdebnobogaaDoorForm
import Derived.Test.YtjmfmdebnobogaaDoorSpecFault
import Derived.Test.YtjmfmdebnobogaaDoorEvs2
import Derived.Test.YtjmfmdebnobogaaDoorFirstImpl2
import Derived.Test.YtjmfmdebnobogaaDoorFirstBack
import Derived.Test.YtjmfmdebnobogaaDoorLws
import Derived.Test.YtjmfmdebnobogaaDoorDraws2
import Derived.Test.YtjmfmdebnobogaaDoorDraws8
import Derived.Test.YtjmfmdebnobogaaDoorDraws9
import Derived.Test.YtjmfmdebnobogaaDoorDraws10
import Derived.Test.YtjmfmdebnobogaaDoorJoins
import Derived.Deep.RegionHeld3
import Derived.Deep.DeepCutAuto
import Derived.Deep.RegionWith
namespace Go.Proofs.YtjmfmdebnobogaaDoor
open Go.RowKit

/-- what the region's worlds keep -/
structure PointsS (W : World) (b0 b1 b2 : Nat) (l0 l1 l2 : List Value) (W' : World) : Prop where
  bel : Below W.heap.size W W'
  a0 : AtL W' b0 l0
  a1 : AtL W' b1 l1
  a2 : AtL W' b2 l2

theorem PointsS.all {W W' : World} {b0 b1 b2 : Nat} {x0 x1 y0 y1 y2 z0 z1 z2 z3 z4 z5 z6 z7 : Value} (h : PointsS W b0 b1 b2 [x0, x1] [y0, y1, y2] [z0, z1, z2, z3, z4, z5, z6, z7] W') :
    Below W.heap.size W W' ∧ W'.cell? ⟨b0, 0, none⟩ = some x0 ∧ W'.cell? ⟨b0, 1, none⟩ = some x1
      ∧ W'.cell? ⟨b1, 0, none⟩ = some y0 ∧ W'.cell? ⟨b1, 1, none⟩ = some y1 ∧ W'.cell? ⟨b1, 2, none⟩ = some y2
      ∧ W'.cell? ⟨b2, 0, none⟩ = some z0 ∧ W'.cell? ⟨b2, 1, none⟩ = some z1 ∧ W'.cell? ⟨b2, 2, none⟩ = some z2 ∧ W'.cell? ⟨b2, 3, none⟩ = some z3
      ∧ W'.cell? ⟨b2, 4, none⟩ = some z4 ∧ W'.cell? ⟨b2, 5, none⟩ = some z5 ∧ W'.cell? ⟨b2, 6, none⟩ = some z6 ∧ W'.cell? ⟨b2, 7, none⟩ = some z7 :=
  ⟨h.bel, h.a0.get 0 rfl, h.a0.get 1 rfl, h.a1.get 0 rfl, h.a1.get 1 rfl, h.a1.get 2 rfl, h.a2.get 0 rfl, h.a2.get 1 rfl, h.a2.get 2 rfl, h.a2.get 3 rfl, h.a2.get 4 rfl, h.a2.get 5 rfl, h.a2.get 6 rfl, h.a2.get 7 rfl⟩

theorem PointsS.some3 {W W' : World} {b0 b1 b2 : Nat} {l0 l2 : List Value} {y0 y1 y2 : Value} (h : PointsS W b0 b1 b2 l0 [y0, y1, y2] l2 W') :
    Below W.heap.size W W' ∧ W'.cell? ⟨b1, 0, none⟩ = some y0 ∧ W'.cell? ⟨b1, 1, none⟩ = some y1 ∧ W'.cell? ⟨b1, 2, none⟩ = some y2 :=
  ⟨h.bel, h.a1.get 0 rfl, h.a1.get 1 rfl, h.a1.get 2 rfl⟩

theorem skipH {P : Program} {ops : Array Oper} {Q : Exit → Act → World → Prop} {md : Region.Mode} {S : World → Prop} {fuel : Nat} {listed : Array Bool} {a : Act} {w : World} (i d : Nat)
    (hi : (ops[i]?).map (fun o => o.dst) = some (some d)) (hs : Region.noSelect ops = true) (hf : Region.free md ops listed i = true) (hr : (Region.ready md ops listed).contains i = true)
    (hQ : ∀ c (a : Act) w, Q (.panic c) (a.put (some d) undef) w → Q (.panic c) a w) (hw : (ops[i]?).map (fun o => Region.wanted o (yielded ops a.tmps)) = some false) (hS : S w)
    (h : wpAnyH P md ops Q S fuel (listed.setIfInBounds i true) (a.put (some d) undef) w) : wpAnyH P md ops Q S (fuel + 1) listed a w := by
  cases ho : ops[i]? with
  | none => rw [ho] at hi; simp at hi
  | some o =>
    rw [ho] at hi hw
    simp only [Option.map_some, Option.some.injEq] at hi hw
    exact wpAnyH_take ho hs hf hr (by rw [hi]; exact hQ) (Or.inr ⟨hw, rfl⟩) hS (by rw [hi]; exact h)

theorem putRes_len4 (p : Int) : (putRes p).length ≤ 4 := by
  unfold putRes
  split
  · rw [put_len]; exact (put_small p).2
  · simp

theorem put_cases (p : Int) (rest : List UInt8) : (putCode p = 0 ∧ putRes p ≠ [] ∧ implFP (putRes p ++ rest) = (0, p, ((putRes p).length : Int))) ∨ (putCode p != 0) = true := by
  unfold putCode putRes
  cases h : point p
  · right; simp
  · left
    simp only [if_true, true_and]
    obtain ⟨a, r, h1, h2⟩ := first_put h rest
    refine ⟨?_, ?_⟩
    · intro e
      have := (put_small p).1
      rw [← put_len, e] at this
      simp at this
    · rw [h1, same_point]
      exact h2

theorem fp_back (l : List UInt8) (p s : Int) (h : implFP l = (0, p, s)) : putRes p = l.take s.toNat ∧ 1 ≤ s ∧ s ≤ (l.length : Int) := by
  rw [same_point] at h
  match l, h with
  | [], h => simp [specFP] at h
  | a :: r, h =>
    obtain ⟨h1, h2, h3, h4⟩ := first_back a r h
    refine ⟨by unfold putRes; rw [if_pos h1, h2], h3, by simp; omega⟩

theorem lwSame_len (p q : Option Addr) (c d n m : Nat) (a b : List UInt8) (w : World) (hn : n = a.length) (hm : m = b.length) (h : Bs w w.heap.size p a) (k : Bs w w.heap.size q b) :
    Calls Tryd.prog 25 #[.slice p n c, .slice q m d] w fun e w' => e = .returned (.bool (a == b)) ∧ Below w.heap.size w w' := by
  subst hn
  subst hm
  exact (lwSame_any p q c d a b w h k).mono fun _ _ ⟨he, h2⟩ => ⟨he, h2 ▸ Below.refl _ _⟩

theorem implFirstPoint_len (p : Option Addr) (c n : Nat) (l : List UInt8) (w : World) (hn : n = l.length) (h : Bs w w.heap.size p l) (ht : Tabs w) (hl : l.length ≤ 1048576) :
    Calls Tryd.prog 10 #[.slice p n c] w fun e w' => e = .returned (prV (implFP l)) ∧ Below w.heap.size w w' := by
  subst hn
  exact implFirstPoint_any p c l w h ht hl

set_option maxRecDepth 100000 in
set_option maxHeartbeats 4000000 in
theorem lawPoints_any (q : Option Addr) (c : Nat) (l : List UInt8) (w : World) (h : Bs w w.heap.size q l) (hT : Tabs w) :
    Calls Tryd.prog 3 #[.slice q l.length c] w fun e w' => e = .returned (.bool true) ∧ Below w.heap.size w w' := by
  have HT := Lib.hid hT
  clear hT
  by_cases hbig : (1048576 : Int) < (l.length : Int)
  · have hb' : decide ((1048576 : Int) < (l.length : Int)) = true := decide_eq_true hbig
    go_enter Tryd.func3, Tryd.ntmps3
    go_wp2_with (go_at_call 6; refine (lwBig_any _ _ _ _).mono ?_; rw [hb']; rintro e w' ⟨rfl, rfl⟩)
    go_ret
    exact ⟨rfl, Below.refl _ _⟩
  have hb' : decide ((1048576 : Int) < (l.length : Int)) = false := decide_eq_false hbig
  have hl : l.length ≤ 1048576 := by omega
  go_enter Tryd.func3, Tryd.ntmps3
  go_wp2_with fail
  refine (lwBig_any _ _ _ _).mono ?_
  rw [hb']
  rintro e w' ⟨rfl, rfl⟩
  clear hb' hbig
  go_wp2_with fail
  refine (drawPutPoint_any q c l w h hl).mono ?_
  rintro e w1 ⟨⟨p, rfl, hp0, hp1⟩, b1⟩
  go_wp2_with fail
  refine (implPutPoint_any p w1).mono ?_
  rintro e w2 ⟨v2, rfl, o2, b2⟩
  obtain ⟨p2, c2, hv⟩ := o2.slice
  subst hv
  unfold brV
  have B2 := below_mk w2 (.cells #[.int .i64 (putCode p), .slice p2 (putRes p).length c2] 26)
  have N2 := AtL.new w2 [.int .i64 (putCode p), .slice p2 (putRes p).length c2] 26
  have D2 := below_on (below_on b1 b2) B2
  have x2 := (o2.on B2).bs.2
  clear o2 b1 b2 B2
  go_wp2_with fail
  refine (drawFirstPoint_any q c l _ (h.on D2) hl).mono ?_
  rintro e w3 ⟨g3, c3, data, rfl, hd10, hdc, bd3, b3⟩
  have D3 := below_on D2 b3
  have N3 := N2.on b3
  have x3 := x2.on b3
  clear N2 x2 b3 D2
  go_wp2_with fail
  refine (implFirstPoint_any (some ⟨g3, 0, none⟩) c3 data _ bd3 (HT.out.on D3) (by omega)).mono ?_
  rintro e w4 ⟨rfl, b4⟩
  have HBK := Lib.hid (fp_back data)
  have HSP := Lib.hid (same_point data)
  generalize implFP data = r at *
  obtain ⟨fc, fp, fs⟩ := r
  unfold prV
  dsimp only
  have B4 := below_mk w4 (.cells #[.int .i64 fc, .int .i64 fp, .int .i64 fs] 30)
  have F4 := AtL.new w4 [.int .i64 fc, .int .i64 fp, .int .i64 fs] 30
  have D4 := below_on (below_on D3 b4) B4
  have N4 := (N3.on b4).on B4
  have x4 := (x3.on b4).on B4
  have bd4 := (bd3.on b4).on B4
  clear N3 x3 bd3 b4 B4 D3
  go_wp2_with fail
  refine (drawIsSpecial_any q c l _ (h.on D4) hl).mono ?_
  rintro e w5 ⟨⟨n, rfl, hn0, hn1⟩, b5⟩
  have D5 := below_on D4 b5
  have N5 := N4.on b5
  have F5 := F4.on b5
  have x5 := x4.on b5
  have bd5 := bd4.on b5
  clear N4 F4 x4 bd4 b5 D4
  go_wp2_with fail
  refine (drawEventFault_any q c l _ (h.on D5) hl).mono ?_
  rintro e w6 ⟨ev, p6, c6, rfl, hl6, bs6, b6⟩
  unfold evV
  have B6 := below_mk w6 (.cells #[.int .i64 ev.kind, .int .i64 ev.code, .int .i64 ev.mods, .int .i64 ev.button, .int .i64 ev.act, .int .i64 ev.col, .int .i64 ev.row, .slice p6 ev.data.length c6] 33)
  have E6 := AtL.new w6 [.int .i64 ev.kind, .int .i64 ev.code, .int .i64 ev.mods, .int .i64 ev.button, .int .i64 ev.act, .int .i64 ev.col, .int .i64 ev.row, .slice p6 ev.data.length c6] 33
  have D6 := below_on (below_on D5 b6) B6
  have N6 := (N5.on b6).on B6
  have F6 := (F5.on b6).on B6
  have x6 := (x5.on b6).on B6
  have bd6 := (bd5.on b6).on B6
  clear N5 F5 x5 bd5 b6 B6 D5 bs6 hl6
  go_wp2_with fail
  refine (drawSameEvents_any q c l _ (h.on D6) hl).mono ?_
  rintro e w7 ⟨px, cx, py, cy, xs, ys, rfl, hx3, hy3, hdl, ex7, ey7, b7⟩
  have D7 := below_on D6 b7
  have N7 := N6.on b7
  have F7 := F6.on b7
  have E7 := E6.on b7
  have x7 := x6.on b7
  have bd7 := bd6.on b7
  clear N6 F6 E6 x6 bd6 b7 D6 hdl
  go_wp2_with fail
  refine (drawSameBytes_any q c l _ (h.on D7) hl).mono ?_
  rintro e W ⟨pu, cu, us, pv, cv, vs, rfl, hu9, huv, bu8, bv8, b8⟩
  have D8 := below_on D7 b8
  have N8 := N7.on b8
  have F8 := F7.on b8
  have E8 := E7.on b8
  have x8 := x7.on b8
  have bd8 := bd7.on b8
  have ex8 := ex7.on b8
  have ey8 := ey7.on b8
  have HUV := Lib.hid huv
  clear N7 F7 E7 x7 bd7 ex7 ey7 b8 D7 huv
  go_upto_region 11 with (fail)
  have HSPP : Hid (∀ W', Below W.heap.size W W' → Calls Tryd.prog 16 #[.int .i64 p] W' (SpbPost W (putCode p) (putRes p))) := fun W' hb =>
    (specPutPoint_any p W').mono fun _ _ ⟨v, he, ho, h2⟩ => by
      obtain ⟨p8, c8, hv⟩ := ho.slice
      subst hv
      exact ⟨p8, c8, he, ho.bs.2, below_on hb h2⟩
  have HLWB : Hid (∀ W' p8 c8, Below W.heap.size W W' → Bs W' W'.heap.size p8 (putRes p) → Calls Tryd.prog 15 #[.agg #[.int .i64 (putCode p), .slice p2 (putRes p).length c2], .agg #[.int .i64 (putCode p), .slice p8 (putRes p).length c8]] W' fun e W2 => e = .returned (.bool true) ∧ Below W.heap.size W W2) := fun W' p8 c8 hb h8 =>
    (lwBytes_any (putCode p) (putCode p) p2 p8 c2 c8 (putRes p) (putRes p) W' (x8.on hb) h8).mono fun _ _ ⟨he, h2⟩ => ⟨by rw [he]; simp, below_on hb h2⟩
  have HSFP : Hid (∀ W', Below W.heap.size W W' → Calls Tryd.prog 17 #[.slice (some ⟨g3, 0, none⟩) data.length c3] W' fun e W2 => e = .returned (.agg #[.int .i64 fc, .int .i64 fp, .int .i64 fs]) ∧ Below W.heap.size W W2) := fun W' hb =>
    (specFirstPoint_any (some ⟨g3, 0, none⟩) c3 data W' (bd8.on hb) (by omega) hdc).mono fun _ _ ⟨he, h2⟩ => ⟨by rw [he, ← HSP.out]; rfl, below_on hb h2⟩
  have HISP : Hid (∀ W', Below W.heap.size W W' → Calls Tryd.prog 18 #[.int .i64 n] W' fun e W2 => e = .returned (.bool (special n)) ∧ Below W.heap.size W W2) := fun W' hb =>
    (implIsSpecial_any n W').mono fun _ _ ⟨he, h2⟩ => ⟨he, below_on hb h2⟩
  have HSSP : Hid (∀ W', Below W.heap.size W W' → Calls Tryd.prog 19 #[.int .i64 n] W' fun e W2 => e = .returned (.bool (special n)) ∧ Below W.heap.size W W2) := fun W' hb =>
    (specIsSpecial_any n W').mono fun _ _ ⟨he, h2⟩ => ⟨he, h2 ▸ hb⟩
  have HIEF : Hid (∀ W', Below W.heap.size W W' → Calls Tryd.prog 20 #[.agg #[.int .i64 ev.kind, .int .i64 ev.code, .int .i64 ev.mods, .int .i64 ev.button, .int .i64 ev.act, .int .i64 ev.col, .int .i64 ev.row, .slice p6 ev.data.length c6]] W' fun e W2 => e = .returned (.int .i64 ev.fault) ∧ Below W.heap.size W W2) := fun W' hb =>
    (implEventFault_any ev p6 c6 W').mono fun _ _ ⟨he, h2⟩ => ⟨he, below_on hb h2⟩
  have HSEF : Hid (∀ W', Below W.heap.size W W' → Calls Tryd.prog 21 #[.agg #[.int .i64 ev.kind, .int .i64 ev.code, .int .i64 ev.mods, .int .i64 ev.button, .int .i64 ev.act, .int .i64 ev.col, .int .i64 ev.row, .slice p6 ev.data.length c6]] W' fun e W2 => e = .returned (.int .i64 ev.fault) ∧ Below W.heap.size W W2) := fun W' hb =>
    (specEventFault_any l1Form_any ev p6 c6 W').mono fun _ _ ⟨he, h2⟩ => ⟨he, below_on hb h2⟩
  have HISE : Hid (∀ W', Below W.heap.size W W' → Calls Tryd.prog 22 #[.slice px xs.length cx, .slice py ys.length cy] W' fun e W2 => e = .returned (.bool (sameEvs xs ys)) ∧ Below W.heap.size W W2) := fun W' hb =>
    (implSameEvents_any px py cx cy xs ys W' (ex8.on hb) (ey8.on hb) (by omega)).mono fun _ _ ⟨he, h2⟩ => ⟨he, below_on hb h2⟩
  have HSSE : Hid (∀ W', Below W.heap.size W W' → Calls Tryd.prog 23 #[.slice px xs.length cx, .slice py ys.length cy] W' fun e W2 => e = .returned (.bool (sameEvs xs ys)) ∧ Below W.heap.size W W2) := fun W' hb =>
    (specSameEvents_any px py cx cy xs ys W' (ex8.on hb) (ey8.on hb) (by omega)).mono fun _ _ ⟨he, h2⟩ => ⟨he, below_on hb h2⟩
  have HISB : Hid (∀ W', Below W.heap.size W W' → Calls Tryd.prog 24 #[.slice pu us.length cu, .slice pv vs.length cv] W' fun e W2 => e = .returned (.bool (us == vs)) ∧ Below W.heap.size W W2) := fun W' hb =>
    (implSameBytes_any pu pv cu cv us vs W' (bu8.on hb) (bv8.on hb)).mono fun _ _ ⟨he, h2⟩ => ⟨he, h2 ▸ hb⟩
  have HLWS : Hid (∀ W', Below W.heap.size W W' → Calls Tryd.prog 25 #[.slice pu us.length cu, .slice pv vs.length cv] W' fun e W2 => e = .returned (.bool (us == vs)) ∧ Below W.heap.size W W2) := fun W' hb =>
    (lwSame_any pu pv cu cv us vs W' (bu8.on hb) (bv8.on hb)).mono fun _ _ ⟨he, h2⟩ => ⟨he, h2 ▸ hb⟩
  have HSS : Hid (∀ W', Below W.heap.size W W' → PointsS W w2.heap.size w4.heap.size w6.heap.size [.int .i64 (putCode p), .slice p2 (putRes p).length c2] [.int .i64 fc, .int .i64 fp, .int .i64 fs] [.int .i64 ev.kind, .int .i64 ev.code, .int .i64 ev.mods, .int .i64 ev.button, .int .i64 ev.act, .int .i64 ev.col, .int .i64 ev.row, .slice p6 ev.data.length c6] W') := fun W' hb => ⟨hb, N8.on hb, F8.on hb, E8.on hb⟩
  have HSM2 := Lib.hid (below_drew1 (Below.refl W.heap.size W))
  have HPC := Lib.hid (put_cases p data)
  have hpl := putRes_len4 p
  generalize special n = sn at HISP HSSP
  generalize ev.fault = ef at HIEF HSEF
  generalize sameEvs xs ys = se at HISE HSSE
  generalize (us == vs) = sb at HISB HLWS
  go_cut [79] (fun s79 wx => s79 = .bool false ∧ Below W.heap.size W wx)
  case first =>
    go_region_held3 (fun W' => Below W.heap.size W W' ∧ W'.cell? ⟨w2.heap.size, 0, none⟩ = some (.int .i64 (putCode p)) ∧ W'.cell? ⟨w2.heap.size, 1, none⟩ = some (.slice p2 (putRes p).length c2)
        ∧ W'.cell? ⟨w4.heap.size, 0, none⟩ = some (.int .i64 fc) ∧ W'.cell? ⟨w4.heap.size, 1, none⟩ = some (.int .i64 fp) ∧ W'.cell? ⟨w4.heap.size, 2, none⟩ = some (.int .i64 fs)
        ∧ W'.cell? ⟨w6.heap.size, 0, none⟩ = some (.int .i64 ev.kind) ∧ W'.cell? ⟨w6.heap.size, 1, none⟩ = some (.int .i64 ev.code) ∧ W'.cell? ⟨w6.heap.size, 2, none⟩ = some (.int .i64 ev.mods) ∧ W'.cell? ⟨w6.heap.size, 3, none⟩ = some (.int .i64 ev.button)
        ∧ W'.cell? ⟨w6.heap.size, 4, none⟩ = some (.int .i64 ev.act) ∧ W'.cell? ⟨w6.heap.size, 5, none⟩ = some (.int .i64 ev.col) ∧ W'.cell? ⟨w6.heap.size, 6, none⟩ = some (.int .i64 ev.row) ∧ W'.cell? ⟨w6.heap.size, 7, none⟩ = some (.slice p6 ev.data.length c6))
      (first | exact (HSS.out _ (by assumption)).all | exact (HSS.out _ HSM2.out).all)
      (first
        | (go_at_call 16; refine (HSPP.out _ (by assumption)).mono ?_; rintro e W1 ⟨p8, c8, rfl, hbs8, hb1⟩; unfold brV)
        | (go_at_call 15; refine (HLWB.out _ _ _ (by assumption) (by assumption)).mono ?_; rintro e W1 ⟨rfl, hb1⟩)
        | (go_at_call 17; refine (HSFP.out _ (by assumption)).mono ?_; rintro e W1 ⟨rfl, hb1⟩)
        | (go_at_call 18; refine (HISP.out _ (by assumption)).mono ?_; rintro e W1 ⟨rfl, hb1⟩)
        | (go_at_call 19; refine (HSSP.out _ (by assumption)).mono ?_; rintro e W1 ⟨rfl, hb1⟩)
        | (go_at_call 20; refine (HIEF.out _ (by assumption)).mono ?_; rintro e W1 ⟨rfl, hb1⟩)
        | (go_at_call 21; refine (HSEF.out _ (by assumption)).mono ?_; rintro e W1 ⟨rfl, hb1⟩)
        | (go_at_call 22; refine (HISE.out _ (by assumption)).mono ?_; rintro e W1 ⟨rfl, hb1⟩)
        | (go_at_call 23; refine (HSSE.out _ (by assumption)).mono ?_; rintro e W1 ⟨rfl, hb1⟩)
        | (go_at_call 24; refine (HISB.out _ (by assumption)).mono ?_; rintro e W1 ⟨rfl, hb1⟩)
        | (go_at_call 25; refine (HLWS.out _ (by assumption)).mono ?_; rintro e W1 ⟨rfl, hb1⟩))
    all_goals (go_wp2_with fail; go_meet; exact ⟨rfl, hb1⟩)
  case rest =>
    obtain ⟨rfl, hbx⟩ := hcut
    have HSM3 := Lib.hid (below_drew1 hbx)
    have SSx := HSS.out _ hbx
    obtain ⟨_, n0, n1, f0, f1, f2, _⟩ := SSx.all
    have SS2 := Lib.hid SSx
    have hw4 := SSx.a1.1
    have HLW2 : Hid (∀ k : Nat, k ≤ data.length → putRes fp = data.take k → ∀ W' p8 c8, Below W.heap.size W W' → Bs W' W'.heap.size p8 (putRes fp) → Calls Tryd.prog 25 #[.slice p8 (putRes fp).length c8, .slice (some ⟨g3, 0, none⟩) k c3] W' fun e W2 => e = .returned (.bool true) ∧ Below W.heap.size W W2) := fun k hk hp W' p8 c8 hb h8 =>
      (lwSame_len p8 (some ⟨g3, 0, none⟩) c8 c3 _ k (putRes fp) (data.take k) W' rfl (by simp; omega) h8 ((bd8.on hb).take k)).mono fun _ _ ⟨he, h2⟩ => ⟨by rw [he, hp]; simp, below_on hb h2⟩
    have HIPP : Hid (∀ W', Below W.heap.size W W' → Calls Tryd.prog 8 #[.int .i64 fp] W' (SpbPost W (putCode fp) (putRes fp))) := fun W' hb =>
      (implPutPoint_any fp W').mono fun _ _ ⟨v, he, ho, h2⟩ => by
        obtain ⟨p8, c8, hv⟩ := ho.slice
        subst hv
        exact ⟨p8, c8, he, ho.bs.2, below_on hb h2⟩
    clear HSPP HLWB HSFP HISP HSSP HIEF HSEF HISE HSSE HISB HLWS SSx
    go_upto_region 13 with (fail)
    clear n0 n1
    go_cut [106] (fun s106 wx => s106 = .bool false ∧ Below W.heap.size W wx)
    case first =>
      cases hq : (fc == 0)
      · refine wp_region_noPanic ?_
        refine wp_region_held_drew (S := fun W' => Below W.heap.size W W' ∧ W'.cell? ⟨w4.heap.size, 0, none⟩ = some (.int .i64 fc)) (by kernel_rfl) ⟨HSM3.out, (HSS.out _ HSM3.out).a1.get 0 rfl⟩ (fun hHeld => ?_)
        refine wpAnyH_take (i := 0) (oi := { dst := some 80, op := .fieldAddr 30 (.tmp 6) 0, type := 0, pos := "laws.go:113", after := #[], guard := none }) (v := .pointer (some ⟨w4.heap.size, 0, none⟩)) rfl (by kernel_rfl) (by kernel_rfl) (by kernel_rfl) (fun _ _ _ h => h) (Or.inl ⟨by rfl, fun w hSw => ?_⟩) hHeld ?_
        · dsimp only at hSw; obtain ⟨_, hc0⟩ := hSw; go_simp
        simp only [Act.put, List.setIfInBounds_toArray, List.set_cons_zero, List.set_cons_succ]
        refine wpAnyH_take (i := 1) (oi := { dst := some 81, op := .load 2 (.tmp 80), type := 2, pos := "laws.go:113", after := #[{ on := 0, ground := .data }], guard := none }) (v := .int .i64 fc) rfl (by kernel_rfl) (by kernel_rfl) (by kernel_rfl) (fun _ _ _ h => h) (Or.inl ⟨by rfl, fun w hSw => ?_⟩) hHeld ?_
        · dsimp only at hSw; obtain ⟨_, hc0⟩ := hSw; go_simp
        simp only [Act.put, List.setIfInBounds_toArray, List.set_cons_zero, List.set_cons_succ]
        refine wpAnyH_take (i := 2) (oi := { dst := some 82, op := .binOp .eql 2 (.tmp 81) (.const (.int .i64 0)) 2, type := 4, pos := "laws.go:113", after := #[{ on := 1, ground := .data }], guard := none }) (v := .bool false) rfl (by kernel_rfl) (by kernel_rfl) (by kernel_rfl) (fun _ _ _ h => h) (Or.inl ⟨by rfl, fun w hSw => ?_⟩) hHeld ?_
        · dsimp only at hSw; obtain ⟨_, hc0⟩ := hSw; go_simp
        simp only [Act.put, List.setIfInBounds_toArray, List.set_cons_zero, List.set_cons_succ]
        refine wpAnyH_take (i := 3) (oi := { dst := some 83, op := .move (.tmp 82), type := 4, pos := "laws.go:113", after := #[{ on := 2, ground := .data }], guard := none }) (v := .bool false) rfl (by kernel_rfl) (by kernel_rfl) (by kernel_rfl) (fun _ _ _ h => h) (Or.inl ⟨by rfl, fun w hSw => ?_⟩) hHeld ?_
        · dsimp only at hSw; obtain ⟨_, hc0⟩ := hSw; go_simp
        simp only [Act.put, List.setIfInBounds_toArray, List.set_cons_zero, List.set_cons_succ]
        refine skipH 4 84 (by kernel_rfl) (by kernel_rfl) (by kernel_rfl) (by kernel_rfl) (fun _ _ _ h => h) (by kernel_rfl) hHeld ?_
        simp only [Act.put, List.setIfInBounds_toArray, List.set_cons_zero, List.set_cons_succ]
        refine skipH 5 85 (by kernel_rfl) (by kernel_rfl) (by kernel_rfl) (by kernel_rfl) (fun _ _ _ h => h) (by kernel_rfl) hHeld ?_
        simp only [Act.put, List.setIfInBounds_toArray, List.set_cons_zero, List.set_cons_succ]
        refine skipH 6 86 (by kernel_rfl) (by kernel_rfl) (by kernel_rfl) (by kernel_rfl) (fun _ _ _ h => h) (by kernel_rfl) hHeld ?_
        simp only [Act.put, List.setIfInBounds_toArray, List.set_cons_zero, List.set_cons_succ]
        refine skipH 7 87 (by kernel_rfl) (by kernel_rfl) (by kernel_rfl) (by kernel_rfl) (fun _ _ _ h => h) (by kernel_rfl) hHeld ?_
        simp only [Act.put, List.setIfInBounds_toArray, List.set_cons_zero, List.set_cons_succ]
        refine skipH 8 88 (by kernel_rfl) (by kernel_rfl) (by kernel_rfl) (by kernel_rfl) (fun _ _ _ h => h) (by kernel_rfl) hHeld ?_
        simp only [Act.put, List.setIfInBounds_toArray, List.set_cons_zero, List.set_cons_succ]
        refine skipH 9 89 (by kernel_rfl) (by kernel_rfl) (by kernel_rfl) (by kernel_rfl) (fun _ _ _ h => h) (by kernel_rfl) hHeld ?_
        simp only [Act.put, List.setIfInBounds_toArray, List.set_cons_zero, List.set_cons_succ]
        refine skipH 10 90 (by kernel_rfl) (by kernel_rfl) (by kernel_rfl) (by kernel_rfl) (fun _ _ _ h => h) (by kernel_rfl) hHeld ?_
        simp only [Act.put, List.setIfInBounds_toArray, List.set_cons_zero, List.set_cons_succ]
        refine skipH 11 91 (by kernel_rfl) (by kernel_rfl) (by kernel_rfl) (by kernel_rfl) (fun _ _ _ h => h) (by kernel_rfl) hHeld ?_
        simp only [Act.put, List.setIfInBounds_toArray, List.set_cons_zero, List.set_cons_succ]
        refine skipH 12 92 (by kernel_rfl) (by kernel_rfl) (by kernel_rfl) (by kernel_rfl) (fun _ _ _ h => h) (by kernel_rfl) hHeld ?_
        simp only [Act.put, List.setIfInBounds_toArray, List.set_cons_zero, List.set_cons_succ]
        refine skipH 13 93 (by kernel_rfl) (by kernel_rfl) (by kernel_rfl) (by kernel_rfl) (fun _ _ _ h => h) (by kernel_rfl) hHeld ?_
        simp only [Act.put, List.setIfInBounds_toArray, List.set_cons_zero, List.set_cons_succ]
        refine skipH 14 94 (by kernel_rfl) (by kernel_rfl) (by kernel_rfl) (by kernel_rfl) (fun _ _ _ h => h) (by kernel_rfl) hHeld ?_
        simp only [Act.put, List.setIfInBounds_toArray, List.set_cons_zero, List.set_cons_succ]
        refine skipH 15 95 (by kernel_rfl) (by kernel_rfl) (by kernel_rfl) (by kernel_rfl) (fun _ _ _ h => h) (by kernel_rfl) hHeld ?_
        simp only [Act.put, List.setIfInBounds_toArray, List.set_cons_zero, List.set_cons_succ]
        refine skipH 16 96 (by kernel_rfl) (by kernel_rfl) (by kernel_rfl) (by kernel_rfl) (fun _ _ _ h => h) (by kernel_rfl) hHeld ?_
        simp only [Act.put, List.setIfInBounds_toArray, List.set_cons_zero, List.set_cons_succ]
        refine skipH 19 99 (by kernel_rfl) (by kernel_rfl) (by kernel_rfl) (by kernel_rfl) (fun _ _ _ h => h) (by kernel_rfl) hHeld ?_
        simp only [Act.put, List.setIfInBounds_toArray, List.set_cons_zero, List.set_cons_succ]
        refine skipH 20 100 (by kernel_rfl) (by kernel_rfl) (by kernel_rfl) (by kernel_rfl) (fun _ _ _ h => h) (by kernel_rfl) hHeld ?_
        simp only [Act.put, List.setIfInBounds_toArray, List.set_cons_zero, List.set_cons_succ]
        refine skipH 21 101 (by kernel_rfl) (by kernel_rfl) (by kernel_rfl) (by kernel_rfl) (fun _ _ _ h => h) (by kernel_rfl) hHeld ?_
        simp only [Act.put, List.setIfInBounds_toArray, List.set_cons_zero, List.set_cons_succ]
        refine skipH 17 97 (by kernel_rfl) (by kernel_rfl) (by kernel_rfl) (by kernel_rfl) (fun _ _ _ h => h) (by kernel_rfl) hHeld ?_
        simp only [Act.put, List.setIfInBounds_toArray, List.set_cons_zero, List.set_cons_succ]
        refine skipH 18 98 (by kernel_rfl) (by kernel_rfl) (by kernel_rfl) (by kernel_rfl) (fun _ _ _ h => h) (by kernel_rfl) hHeld ?_
        simp only [Act.put, List.setIfInBounds_toArray, List.set_cons_zero, List.set_cons_succ]
        refine skipH 22 102 (by kernel_rfl) (by kernel_rfl) (by kernel_rfl) (by kernel_rfl) (fun _ _ _ h => h) (by kernel_rfl) hHeld ?_
        simp only [Act.put, List.setIfInBounds_toArray, List.set_cons_zero, List.set_cons_succ]
        refine skipH 23 103 (by kernel_rfl) (by kernel_rfl) (by kernel_rfl) (by kernel_rfl) (fun _ _ _ h => h) (by kernel_rfl) hHeld ?_
        simp only [Act.put, List.setIfInBounds_toArray, List.set_cons_zero, List.set_cons_succ]
        refine skipH 24 104 (by kernel_rfl) (by kernel_rfl) (by kernel_rfl) (by kernel_rfl) (fun _ _ _ h => h) (by kernel_rfl) hHeld ?_
        simp only [Act.put, List.setIfInBounds_toArray, List.set_cons_zero, List.set_cons_succ]
        refine skipH 25 105 (by kernel_rfl) (by kernel_rfl) (by kernel_rfl) (by kernel_rfl) (fun _ _ _ h => h) (by kernel_rfl) hHeld ?_
        simp only [Act.put, List.setIfInBounds_toArray, List.set_cons_zero, List.set_cons_succ]
        refine wpAnyH_take (i := 26) (oi := { dst := some 106, op := .pick (.tmp 83) (.tmp 105) (.const (.bool false)), type := 4, pos := "laws.go:113", after := #[{ on := 3, ground := .data }, { on := 25, ground := .data }], guard := none }) (v := .bool false) rfl (by kernel_rfl) (by kernel_rfl) (by kernel_rfl) (fun _ _ _ h => h) (Or.inl ⟨by rfl, fun w hSw => ?_⟩) hHeld ?_
        · dsimp only at hSw; obtain ⟨_, hc0⟩ := hSw; go_simp
        simp only [Act.put, List.setIfInBounds_toArray, List.set_cons_zero, List.set_cons_succ]
        refine wpAnyH_done (by kernel_rfl) ?_ _
        refine NoPanic.normal ?_
        go_wp2_with fail
        go_meet
        exact ⟨rfl, HSM3.out⟩
      · have hfc : fc = 0 := by simpa using hq
        subst hfc
        obtain ⟨hb0, hb1, hb2⟩ := HBK.out _ _ rfl
        obtain ⟨k, rfl⟩ : ∃ k : Nat, fs = (k : Int) := ⟨fs.toNat, by omega⟩
        simp only [Int.toNat_natCast] at hb0
        have hk : k ≤ data.length := by omega
        have hk1 : ¬ (k : Int) < 1 := by omega
        have hk2 : ¬ (data.length : Int) < (k : Int) := by omega
        have hkc : k ≤ c3 := by omega
        have hfd : ∀ (a : Int) (p : Option Addr) (n c : Nat) (w : World), (Instr.field 26 (.agg #[.int .i64 a, .slice p n c]) 1).run Tryd.prog w = .ok (.slice p n c) w := fun _ _ _ _ _ => by kernel_rfl
        have HLW3 := Lib.hid (HLW2.out k hk hb0)
        clear hb0 HLW2
        go_region_held3 (fun W' => Below W.heap.size W W' ∧ W'.cell? ⟨w4.heap.size, 0, none⟩ = some (.int .i64 0) ∧ W'.cell? ⟨w4.heap.size, 1, none⟩ = some (.int .i64 fp) ∧ W'.cell? ⟨w4.heap.size, 2, none⟩ = some (.int .i64 (k : Int)))
          (first | exact (HSS.out _ (by assumption)).some3 | exact (HSS.out _ HSM3.out).some3)
          (first
            | (go_at_call 8; refine (HIPP.out _ (by assumption)).mono ?_; rintro e W1 ⟨p8, c8, rfl, hbs8, hb1⟩; unfold brV)
            | (go_at_call 25; refine (HLW3.out _ _ _ (by assumption) (by assumption)).mono ?_; rintro e W1 ⟨rfl, hb1⟩))
        all_goals (go_wp2_with fail; go_meet; exact ⟨rfl, hb1⟩)
    case rest =>
      obtain ⟨rfl, hby⟩ := hcut
      have SSy := HSS.out _ hby
      obtain ⟨_, n0, n1, _⟩ := SSy.all
      have DY := below_on D8 hby
      have HSY := Lib.hid SSy
      clear HSM2 HSM3 HLW2 HIPP SS2 SSy f0 f1 f2 HBK HSP
      obtain ⟨i0, hi, hz0, hz1, hz2⟩ := info_parts Tryd.info_u8
      have HI := Lib.hid (And.intro hi (And.intro hz0 (And.intro hz1 hz2)))
      clear hi hz0 hz1 hz2
      have hbz := below_drew1 hby
      have HSZ := Lib.hid (HSS.out _ hbz)
      rcases HPC.out with ⟨hc0, hr0, hfp⟩ | hc1
      · have HFP := Lib.hid hfp
        rw [hc0] at n0 HSS HSZ
        clear hfp HPC hc0
        generalize putRes p = rs at *
        have HKP : Hid (∀ W', Below W.heap.size W W' → Below W.heap.size W W' ∧ W'.cell? ⟨w2.heap.size, 0, none⟩ = some (.int .i64 0) ∧ W'.cell? ⟨w2.heap.size, 1, none⟩ = some (.slice p2 rs.length c2)) := fun W' hb => ⟨hb, (HSS.out _ hb).a0.get 0 rfl, (HSS.out _ hb).a0.get 1 rfl⟩
        have DZ := below_drew1 DY
        obtain ⟨b7, off7, hp7, hb7, hcl7⟩ := (x8.on hbz) hr0
        subst hp7
        have HBE := Lib.hid (bd8.on hbz)
        have HTY := Lib.hid (HT.out.on DZ)
        go_upto_region 15 with (fail)
        refine wp_region_noPanic ?_
        refine wp_region_held_drew (S := fun W' => Below W.heap.size W W' ∧ W'.cell? ⟨w2.heap.size, 0, none⟩ = some (.int .i64 0) ∧ W'.cell? ⟨w2.heap.size, 1, none⟩ = some (.slice (some ⟨b7, off7, none⟩) rs.length c2)) (by kernel_rfl) (HKP.out _ hbz) (fun hHeld => ?_)
        clear n0 n1
        generalize wc.drew = wd at *
        have HL0 := Lib.hid (own_empty wd)
        have HC7 : Hid (∀ o j u, (rs.map (fun x : UInt8 => Value.int .u8 (x.toNat : Int)))[j]? = some u → (wd.alloc o).cell? ((⟨b7, off7, none⟩ : Addr).add j) = some u) := fun o j u hj => news_of (fun i hi => (World.cell?_alloc_lt wd o ⟨b7, off7 + i, none⟩ hb7).trans (hcl7 i hi)) j u hj
        clear hcl7
        refine wpAnyH_take (i := 0) (oi := { dst := some 107, op := .fieldAddr 26 (.tmp 4) 0, type := 0, pos := "laws.go:116", after := #[], guard := none }) (v := .pointer (some ⟨w2.heap.size, 0, none⟩)) rfl (by kernel_rfl) (by kernel_rfl) (by kernel_rfl) (fun _ _ _ h => h) (Or.inl ⟨by rfl, fun w hSw => ?_⟩) hHeld ?_
        · dsimp only at hSw; obtain ⟨_, hc0, hc1⟩ := hSw; go_simp
        simp only [Act.put, List.setIfInBounds_toArray, List.set_cons_zero, List.set_cons_succ]
        refine wpAnyH_take (i := 1) (oi := { dst := some 108, op := .load 2 (.tmp 107), type := 2, pos := "laws.go:116", after := #[{ on := 0, ground := .data }], guard := none }) (v := .int .i64 0) rfl (by kernel_rfl) (by kernel_rfl) (by kernel_rfl) (fun _ _ _ h => h) (Or.inl ⟨by rfl, fun w hSw => ?_⟩) hHeld ?_
        · dsimp only at hSw; obtain ⟨_, hc0, hc1⟩ := hSw; go_simp
        simp only [Act.put, List.setIfInBounds_toArray, List.set_cons_zero, List.set_cons_succ]
        refine wpAnyH_take (i := 2) (oi := { dst := some 109, op := .binOp .neq 2 (.tmp 108) (.const (.int .i64 0)) 2, type := 4, pos := "laws.go:116", after := #[{ on := 1, ground := .data }], guard := none }) (v := .bool false) rfl (by kernel_rfl) (by kernel_rfl) (by kernel_rfl) (fun _ _ _ h => h) (Or.inl ⟨by rfl, fun w hSw => ?_⟩) hHeld ?_
        · dsimp only at hSw; obtain ⟨_, hc0, hc1⟩ := hSw; go_simp
        simp only [Act.put, List.setIfInBounds_toArray, List.set_cons_zero, List.set_cons_succ]
        refine wpAnyH_take (i := 3) (oi := { dst := some 110, op := .move (.tmp 109), type := 4, pos := "laws.go:116", after := #[{ on := 2, ground := .data }], guard := none }) (v := .bool false) rfl (by kernel_rfl) (by kernel_rfl) (by kernel_rfl) (fun _ _ _ h => h) (Or.inl ⟨by rfl, fun w hSw => ?_⟩) hHeld ?_
        · dsimp only at hSw; obtain ⟨_, hc0, hc1⟩ := hSw; go_simp
        simp only [Act.put, List.setIfInBounds_toArray, List.set_cons_zero, List.set_cons_succ]
        refine wpAnyH_take (i := 5) (oi := { dst := some 112, op := .fieldAddr 26 (.tmp 4) 1, type := 0, pos := "laws.go:116", after := #[{ on := 3, ground := .guard }], guard := some (3, false) }) (v := .pointer (some ⟨w2.heap.size, 1, none⟩)) rfl (by kernel_rfl) (by kernel_rfl) (by kernel_rfl) (fun _ _ _ h => h) (Or.inl ⟨by rfl, fun w hSw => ?_⟩) hHeld ?_
        · dsimp only at hSw; obtain ⟨_, hc0, hc1⟩ := hSw; go_simp
        simp only [Act.put, List.setIfInBounds_toArray, List.set_cons_zero, List.set_cons_succ]
        refine wpAnyH_take (i := 6) (oi := { dst := some 113, op := .load 22 (.tmp 112), type := 22, pos := "laws.go:116", after := #[{ on := 5, ground := .data }, { on := 3, ground := .guard }], guard := some (3, false) }) (v := .slice (some ⟨b7, off7, none⟩) rs.length c2) rfl (by kernel_rfl) (by kernel_rfl) (by kernel_rfl) (fun _ _ _ h => h) (Or.inl ⟨by rfl, fun w hSw => ?_⟩) hHeld ?_
        · dsimp only at hSw; obtain ⟨_, hc0, hc1⟩ := hSw; go_simp
        simp only [Act.put, List.setIfInBounds_toArray, List.set_cons_zero, List.set_cons_succ]
        refine wpAnyH_take (i := 8) (oi := { dst := some 115, op := .move (.tmp 5), type := 22, pos := "laws.go:116", after := #[{ on := 3, ground := .guard }], guard := some (3, false) }) (v := .slice (some ⟨g3, 0, none⟩) data.length c3) rfl (by kernel_rfl) (by kernel_rfl) (by kernel_rfl) (fun _ _ _ h => h) (Or.inl ⟨by rfl, fun w hSw => ?_⟩) hHeld ?_
        · dsimp only at hSw; obtain ⟨_, hc0, hc1⟩ := hSw; go_simp
        simp only [Act.put, List.setIfInBounds_toArray, List.set_cons_zero, List.set_cons_succ]
        refine wpAnyH_take (i := 11) (oi := { dst := some 118, op := .move (.tmp 3), type := 2, pos := "laws.go:116", after := #[{ on := 3, ground := .guard }], guard := some (3, false) }) (v := .int .i64 p) rfl (by kernel_rfl) (by kernel_rfl) (by kernel_rfl) (fun _ _ _ h => h) (Or.inl ⟨by rfl, fun w hSw => ?_⟩) hHeld ?_
        · dsimp only at hSw; obtain ⟨_, hc0, hc1⟩ := hSw; go_simp
        simp only [Act.put, List.setIfInBounds_toArray, List.set_cons_zero, List.set_cons_succ]
        refine wpAnyH_take (i := 12) (oi := { dst := some 119, op := .fieldAddr 26 (.tmp 4) 1, type := 0, pos := "laws.go:116", after := #[{ on := 3, ground := .guard }], guard := some (3, false) }) (v := .pointer (some ⟨w2.heap.size, 1, none⟩)) rfl (by kernel_rfl) (by kernel_rfl) (by kernel_rfl) (fun _ _ _ h => h) (Or.inl ⟨by rfl, fun w hSw => ?_⟩) hHeld ?_
        · dsimp only at hSw; obtain ⟨_, hc0, hc1⟩ := hSw; go_simp
        simp only [Act.put, List.setIfInBounds_toArray, List.set_cons_zero, List.set_cons_succ]
        refine wpAnyH_take (i := 13) (oi := { dst := some 120, op := .load 22 (.tmp 119), type := 22, pos := "laws.go:116", after := #[{ on := 12, ground := .data }, { on := 3, ground := .guard }], guard := some (3, false) }) (v := .slice (some ⟨b7, off7, none⟩) rs.length c2) rfl (by kernel_rfl) (by kernel_rfl) (by kernel_rfl) (fun _ _ _ h => h) (Or.inl ⟨by rfl, fun w hSw => ?_⟩) hHeld ?_
        · dsimp only at hSw; obtain ⟨_, hc0, hc1⟩ := hSw; go_simp
        simp only [Act.put, List.setIfInBounds_toArray, List.set_cons_zero, List.set_cons_succ]
        refine wpAnyH_take (i := 14) (oi := { dst := some 121, op := .call { callee := .builtin .len, args := #[.tmp 120], argTypes := #[22] }, type := 3, pos := "laws.go:116", after := #[{ on := 13, ground := .data }, { on := 3, ground := .guard }], guard := some (3, false) }) (v := .int .i64 (rs.length : Int)) rfl (by kernel_rfl) (by kernel_rfl) (by kernel_rfl) (fun _ _ _ h => h) (Or.inl ⟨by rfl, fun w hSw => ?_⟩) hHeld ?_
        · dsimp only at hSw; obtain ⟨_, hc0, hc1⟩ := hSw; go_simp
        simp only [Act.put, List.setIfInBounds_toArray, List.set_cons_zero, List.set_cons_succ]
        refine wpAnyH_take (i := 15) (oi := { dst := some 122, op := .build 30 #[(1, .tmp 118), (2, .tmp 121)], type := 30, pos := "laws.go:116", after := #[{ on := 11, ground := .data }, { on := 14, ground := .data }, { on := 3, ground := .guard }], guard := some (3, false) }) (v := .agg #[.int .i64 0, .int .i64 p, .int .i64 (rs.length : Int)]) rfl (by kernel_rfl) (by kernel_rfl) (by kernel_rfl) (fun _ _ _ h => h) (Or.inl ⟨by rfl, fun w hSw => ?_⟩) hHeld ?_
        · dsimp only at hSw; obtain ⟨_, hc0, hc1⟩ := hSw; go_simp
        simp only [Act.put, List.setIfInBounds_toArray, List.set_cons_zero, List.set_cons_succ]
        refine wpAnyH_ready (rs := [4]) (by kernel_rfl) (by simp) (AllReadyH.cons (o := { dst := some 111, op := .buildSlice 22 0 #[], type := 22, pos := "laws.go:116", after := #[{ on := 3, ground := .guard }], guard := some (3, false) }) rfl (fun K' hK => ?_) AllReadyH.nil)
        rw [if_pos (by rfl)]
        go_simp
        refine hK.out _ _ (HKP.out _ (below_on hbz (below_mk wd _))) (fun hHeld => ?_)
        clear hK K'
        try simp only [Act.put, List.setIfInBounds_toArray, List.set_cons_zero, List.set_cons_succ]
        refine wpAnyH_ready (rs := [7]) (by kernel_rfl) (by simp) (AllReadyH.cons (o := { dst := some 114, op := .call { callee := .builtin .append, args := #[.tmp 111, .tmp 113], argTypes := #[22, 22] }, type := 22, pos := "laws.go:116", after := #[{ on := 4, ground := .data }, { on := 6, ground := .data }, { on := 3, ground := .chain }, { on := 3, ground := .guard }], guard := some (3, false) }) rfl (fun K' hK => ?_) AllReadyH.nil)
        rw [if_pos (by rfl)]
        refine wp_append_own _ _ _ 22 rfl wd.heap.size 5 i0 (.int .u8 0) 1 1 Tryd.underlying22 HI.out.1 HI.out.2.1 HI.out.2.2.1 HI.out.2.2.2 rfl (by decide) _ 0 [] rfl HL0.out ⟨b7, off7, none⟩ rs.length c2 (rs.map (fun x : UInt8 => Value.int .u8 (x.toNat : Int))) rfl (by simp) (HC7.out _) (one_cells rs) (by unfold maxLen; omega) (by omega) (by simp) ?_
        intro v1 wA hownA hgrowA _
        have HA1 := Lib.hid (grew1 HL0.out hownA hgrowA)
        clear hownA hgrowA
        refine hK.out _ _ (HKP.out _ (below_on hbz HA1.out.2)) (fun hHeld => ?_)
        clear hK K'
        try simp only [Act.put, List.setIfInBounds_toArray, List.set_cons_zero, List.set_cons_succ]
        refine wpAnyH_ready (rs := [9]) (by kernel_rfl) (by simp) (AllReadyH.cons (o := { dst := some 116, op := .call { callee := .builtin .append, args := #[.tmp 114, .tmp 115], argTypes := #[22, 22] }, type := 22, pos := "laws.go:116", after := #[{ on := 7, ground := .data }, { on := 8, ground := .data }, { on := 7, ground := .chain }, { on := 3, ground := .guard }], guard := some (3, false) }) rfl (fun K' hK => ?_) AllReadyH.nil)
        rw [if_pos (by rfl)]
        refine wp_append_own _ _ _ 22 rfl wd.heap.size 5 i0 (.int .u8 0) 1 1 Tryd.underlying22 HI.out.1 HI.out.2.1 HI.out.2.2.1 HI.out.2.2.2 rfl (by decide) _ _ _ rfl HA1.out.1 ⟨g3, 0, none⟩ data.length c3 (data.map (fun x : UInt8 => Value.int .u8 (x.toNat : Int))) rfl (by simp) (news_bs (HBE.out.on HA1.out.2)) (one_cells data) (by unfold maxLen; omega) (by omega) HA1.out.2.size ?_
        intro v2 wB hownB hgrowB _
        have HB1 := Lib.hid (grew2 HA1.out.1 HA1.out.2 hownB hgrowB)
        clear hownB hgrowB
        obtain ⟨g2, cap2, hv2, hlc⟩ := own_room HB1.out.1 (by simp [hr0])
        subst hv2
        refine hK.out _ _ (HKP.out _ (below_on hbz HB1.out.2)) (fun hHeld => ?_)
        clear hK K'
        try simp only [Act.put, List.setIfInBounds_toArray, List.set_cons_zero, List.set_cons_succ]
        refine wpAnyH_ready (rs := [10]) (by kernel_rfl) (by simp) (AllReadyH.cons (o := { dst := some 117, op := .call { callee := .value (.func 10), args := #[.tmp 116], argTypes := #[22] }, type := 30, pos := "laws.go:116", after := #[{ on := 9, ground := .data }, { on := 9, ground := .chain }, { on := 3, ground := .guard }], guard := some (3, false) }) rfl (fun K' hK => ?_) AllReadyH.nil)
        rw [if_pos (by rfl)]
        go_simp
        refine (implFirstPoint_len _ _ _ (rs ++ data) _ (by simp) HB1.out.1.bs.2 (HTY.out.on HB1.out.2) (by simp; omega)).mono ?_
        rw [HFP.out]
        rintro e wC ⟨rfl, b3⟩
        unfold prV
        dsimp only
        go_wp2_with fail
        refine hK.out _ _ (HKP.out _ (below_on (below_on hbz HB1.out.2) b3)) (fun hHeld => ?_)
        clear hK K'
        try simp only [Act.put, List.setIfInBounds_toArray, List.set_cons_zero, List.set_cons_succ]
        refine wpAnyH_take (i := 16) (oi := { dst := some 123, op := .binOp .eql 30 (.tmp 117) (.tmp 122) 30, type := 4, pos := "laws.go:116", after := #[{ on := 10, ground := .data }, { on := 15, ground := .data }, { on := 3, ground := .guard }], guard := some (3, false) }) (v := .bool true) rfl (by kernel_rfl) (by kernel_rfl) (by kernel_rfl) (fun _ _ _ h => h) (Or.inl ⟨by rfl, fun w hSw => ?_⟩) hHeld ?_
        · dsimp only at hSw; obtain ⟨_, hc0, hc1⟩ := hSw; go_simp
        simp only [Act.put, List.setIfInBounds_toArray, List.set_cons_zero, List.set_cons_succ]
        refine wpAnyH_take (i := 17) (oi := { dst := some 124, op := .pick (.tmp 110) (.const (.bool true)) (.tmp 123), type := 4, pos := "laws.go:116", after := #[{ on := 3, ground := .data }, { on := 16, ground := .data }], guard := none }) (v := .bool true) rfl (by kernel_rfl) (by kernel_rfl) (by kernel_rfl) (fun _ _ _ h => h) (Or.inl ⟨by rfl, fun w hSw => ?_⟩) hHeld ?_
        · dsimp only at hSw; obtain ⟨_, hc0, hc1⟩ := hSw; go_simp
        simp only [Act.put, List.setIfInBounds_toArray, List.set_cons_zero, List.set_cons_succ]
        refine wpAnyH_take (i := 18) (oi := { dst := some 2, op := .assign (.tmp 124), type := 4, pos := "laws.go:116", after := #[{ on := 17, ground := .data }, { on := 10, ground := .chain }, { on := 0, ground := .phase }, { on := 1, ground := .phase }, { on := 2, ground := .phase }, { on := 3, ground := .phase }, { on := 4, ground := .phase }, { on := 5, ground := .phase }, { on := 6, ground := .phase }, { on := 7, ground := .phase }, { on := 8, ground := .phase }, { on := 9, ground := .phase }, { on := 10, ground := .phase }, { on := 11, ground := .phase }, { on := 12, ground := .phase }, { on := 13, ground := .phase }, { on := 14, ground := .phase }, { on := 15, ground := .phase }, { on := 16, ground := .phase }, { on := 17, ground := .phase }], guard := none }) (v := .bool true) rfl (by kernel_rfl) (by kernel_rfl) (by kernel_rfl) (fun _ _ _ h => h) (Or.inl ⟨by rfl, fun w hSw => ?_⟩) hHeld ?_
        · dsimp only at hSw; obtain ⟨_, hc0, hc1⟩ := hSw; go_simp
        simp only [Act.put, List.setIfInBounds_toArray, List.set_cons_zero, List.set_cons_succ]
        refine wpAnyH_done (by kernel_rfl) ?_ _
        refine NoPanic.normal ?_
        go_wp2_with fail
        go_ret
        exact ⟨rfl, below_on (below_on DZ HB1.out.2) b3⟩
      · have HKP : Hid (∀ W', Below W.heap.size W W' → Below W.heap.size W W' ∧ W'.cell? ⟨w2.heap.size, 0, none⟩ = some (.int .i64 (putCode p)) ∧ W'.cell? ⟨w2.heap.size, 1, none⟩ = some (.slice p2 (putRes p).length c2)) := fun W' hb => ⟨hb, (HSS.out _ hb).a0.get 0 rfl, (HSS.out _ hb).a0.get 1 rfl⟩
        go_upto_region 15 with (fail)
        refine wp_region_noPanic ?_
        refine wp_region_held_drew (S := fun W' => Below W.heap.size W W' ∧ W'.cell? ⟨w2.heap.size, 0, none⟩ = some (.int .i64 (putCode p)) ∧ W'.cell? ⟨w2.heap.size, 1, none⟩ = some (.slice p2 (putRes p).length c2)) (by kernel_rfl) (HKP.out _ hbz) (fun hHeld => ?_)
        refine wpAnyH_take (i := 0) (oi := { dst := some 107, op := .fieldAddr 26 (.tmp 4) 0, type := 0, pos := "laws.go:116", after := #[], guard := none }) (v := .pointer (some ⟨w2.heap.size, 0, none⟩)) rfl (by kernel_rfl) (by kernel_rfl) (by kernel_rfl) (fun _ _ _ h => h) (Or.inl ⟨by rfl, fun w hSw => ?_⟩) hHeld ?_
        · dsimp only at hSw; obtain ⟨_, hc0, hc1⟩ := hSw; go_simp
        simp only [Act.put, List.setIfInBounds_toArray, List.set_cons_zero, List.set_cons_succ]
        refine wpAnyH_take (i := 1) (oi := { dst := some 108, op := .load 2 (.tmp 107), type := 2, pos := "laws.go:116", after := #[{ on := 0, ground := .data }], guard := none }) (v := .int .i64 (putCode p)) rfl (by kernel_rfl) (by kernel_rfl) (by kernel_rfl) (fun _ _ _ h => h) (Or.inl ⟨by rfl, fun w hSw => ?_⟩) hHeld ?_
        · dsimp only at hSw; obtain ⟨_, hc0, hc1⟩ := hSw; go_simp
        simp only [Act.put, List.setIfInBounds_toArray, List.set_cons_zero, List.set_cons_succ]
        refine wpAnyH_take (i := 2) (oi := { dst := some 109, op := .binOp .neq 2 (.tmp 108) (.const (.int .i64 0)) 2, type := 4, pos := "laws.go:116", after := #[{ on := 1, ground := .data }], guard := none }) (v := .bool true) rfl (by kernel_rfl) (by kernel_rfl) (by kernel_rfl) (fun _ _ _ h => h) (Or.inl ⟨by rfl, fun w hSw => ?_⟩) hHeld ?_
        · dsimp only at hSw; obtain ⟨_, hc0, hc1⟩ := hSw; go_simp
        simp only [Act.put, List.setIfInBounds_toArray, List.set_cons_zero, List.set_cons_succ]
        refine wpAnyH_take (i := 3) (oi := { dst := some 110, op := .move (.tmp 109), type := 4, pos := "laws.go:116", after := #[{ on := 2, ground := .data }], guard := none }) (v := .bool true) rfl (by kernel_rfl) (by kernel_rfl) (by kernel_rfl) (fun _ _ _ h => h) (Or.inl ⟨by rfl, fun w hSw => ?_⟩) hHeld ?_
        · dsimp only at hSw; obtain ⟨_, hc0, hc1⟩ := hSw; go_simp
        simp only [Act.put, List.setIfInBounds_toArray, List.set_cons_zero, List.set_cons_succ]
        refine skipH 5 112 (by kernel_rfl) (by kernel_rfl) (by kernel_rfl) (by kernel_rfl) (fun _ _ _ h => h) (by kernel_rfl) hHeld ?_
        simp only [Act.put, List.setIfInBounds_toArray, List.set_cons_zero, List.set_cons_succ]
        refine skipH 6 113 (by kernel_rfl) (by kernel_rfl) (by kernel_rfl) (by kernel_rfl) (fun _ _ _ h => h) (by kernel_rfl) hHeld ?_
        simp only [Act.put, List.setIfInBounds_toArray, List.set_cons_zero, List.set_cons_succ]
        refine skipH 8 115 (by kernel_rfl) (by kernel_rfl) (by kernel_rfl) (by kernel_rfl) (fun _ _ _ h => h) (by kernel_rfl) hHeld ?_
        simp only [Act.put, List.setIfInBounds_toArray, List.set_cons_zero, List.set_cons_succ]
        refine skipH 11 118 (by kernel_rfl) (by kernel_rfl) (by kernel_rfl) (by kernel_rfl) (fun _ _ _ h => h) (by kernel_rfl) hHeld ?_
        simp only [Act.put, List.setIfInBounds_toArray, List.set_cons_zero, List.set_cons_succ]
        refine skipH 12 119 (by kernel_rfl) (by kernel_rfl) (by kernel_rfl) (by kernel_rfl) (fun _ _ _ h => h) (by kernel_rfl) hHeld ?_
        simp only [Act.put, List.setIfInBounds_toArray, List.set_cons_zero, List.set_cons_succ]
        refine skipH 13 120 (by kernel_rfl) (by kernel_rfl) (by kernel_rfl) (by kernel_rfl) (fun _ _ _ h => h) (by kernel_rfl) hHeld ?_
        simp only [Act.put, List.setIfInBounds_toArray, List.set_cons_zero, List.set_cons_succ]
        refine skipH 14 121 (by kernel_rfl) (by kernel_rfl) (by kernel_rfl) (by kernel_rfl) (fun _ _ _ h => h) (by kernel_rfl) hHeld ?_
        simp only [Act.put, List.setIfInBounds_toArray, List.set_cons_zero, List.set_cons_succ]
        refine skipH 15 122 (by kernel_rfl) (by kernel_rfl) (by kernel_rfl) (by kernel_rfl) (fun _ _ _ h => h) (by kernel_rfl) hHeld ?_
        simp only [Act.put, List.setIfInBounds_toArray, List.set_cons_zero, List.set_cons_succ]
        refine skipH 4 111 (by kernel_rfl) (by kernel_rfl) (by kernel_rfl) (by kernel_rfl) (fun _ _ _ h => h) (by kernel_rfl) hHeld ?_
        simp only [Act.put, List.setIfInBounds_toArray, List.set_cons_zero, List.set_cons_succ]
        refine skipH 7 114 (by kernel_rfl) (by kernel_rfl) (by kernel_rfl) (by kernel_rfl) (fun _ _ _ h => h) (by kernel_rfl) hHeld ?_
        simp only [Act.put, List.setIfInBounds_toArray, List.set_cons_zero, List.set_cons_succ]
        refine skipH 9 116 (by kernel_rfl) (by kernel_rfl) (by kernel_rfl) (by kernel_rfl) (fun _ _ _ h => h) (by kernel_rfl) hHeld ?_
        simp only [Act.put, List.setIfInBounds_toArray, List.set_cons_zero, List.set_cons_succ]
        refine skipH 10 117 (by kernel_rfl) (by kernel_rfl) (by kernel_rfl) (by kernel_rfl) (fun _ _ _ h => h) (by kernel_rfl) hHeld ?_
        simp only [Act.put, List.setIfInBounds_toArray, List.set_cons_zero, List.set_cons_succ]
        refine skipH 16 123 (by kernel_rfl) (by kernel_rfl) (by kernel_rfl) (by kernel_rfl) (fun _ _ _ h => h) (by kernel_rfl) hHeld ?_
        simp only [Act.put, List.setIfInBounds_toArray, List.set_cons_zero, List.set_cons_succ]
        refine wpAnyH_take (i := 17) (oi := { dst := some 124, op := .pick (.tmp 110) (.const (.bool true)) (.tmp 123), type := 4, pos := "laws.go:116", after := #[{ on := 3, ground := .data }, { on := 16, ground := .data }], guard := none }) (v := .bool true) rfl (by kernel_rfl) (by kernel_rfl) (by kernel_rfl) (fun _ _ _ h => h) (Or.inl ⟨by rfl, fun w hSw => ?_⟩) hHeld ?_
        · dsimp only at hSw; obtain ⟨_, hc0, hc1⟩ := hSw; go_simp
        simp only [Act.put, List.setIfInBounds_toArray, List.set_cons_zero, List.set_cons_succ]
        refine wpAnyH_take (i := 18) (oi := { dst := some 2, op := .assign (.tmp 124), type := 4, pos := "laws.go:116", after := #[{ on := 17, ground := .data }, { on := 10, ground := .chain }, { on := 0, ground := .phase }, { on := 1, ground := .phase }, { on := 2, ground := .phase }, { on := 3, ground := .phase }, { on := 4, ground := .phase }, { on := 5, ground := .phase }, { on := 6, ground := .phase }, { on := 7, ground := .phase }, { on := 8, ground := .phase }, { on := 9, ground := .phase }, { on := 10, ground := .phase }, { on := 11, ground := .phase }, { on := 12, ground := .phase }, { on := 13, ground := .phase }, { on := 14, ground := .phase }, { on := 15, ground := .phase }, { on := 16, ground := .phase }, { on := 17, ground := .phase }], guard := none }) (v := .bool true) rfl (by kernel_rfl) (by kernel_rfl) (by kernel_rfl) (fun _ _ _ h => h) (Or.inl ⟨by rfl, fun w hSw => ?_⟩) hHeld ?_
        · dsimp only at hSw; obtain ⟨_, hc0, hc1⟩ := hSw; go_simp
        simp only [Act.put, List.setIfInBounds_toArray, List.set_cons_zero, List.set_cons_succ]
        refine wpAnyH_done (by kernel_rfl) ?_ _
        refine NoPanic.normal ?_
        go_wp2_with fail
        go_ret
        exact ⟨rfl, below_drew1 DY⟩

end Go.Proofs.YtjmfmdebnobogaaDoor
