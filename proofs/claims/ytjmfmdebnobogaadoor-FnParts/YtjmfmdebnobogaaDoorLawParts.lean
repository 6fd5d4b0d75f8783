/- FnParts: the law's walk. -/
import Derived.Test.YtjmfmdebnobogaaDoorPartsSpec
import Derived.Test.YtjmfmdebnobogaaDoorPartsBack
import Derived.Test.YtjmfmdebnobogaaDoorPbImpl
import Derived.Test.YtjmfmdebnobogaaDoorDrawsPb
import Derived.Test.YtjmfmdebnobogaaDoorLws
import Derived.Deep.RegionHeld3
import Derived.Deep.DeepCutAuto
namespace Go.Proofs.YtjmfmdebnobogaaDoor
open Go.RowKit

/-- what spec.PartsBytes leaves in the region -/
def SpbPost (W : World) (code : Int) (res : List UInt8) (e : Ending) (W2 : World) : Prop := ∃ p8 c8, e = .returned (brV code (.slice p8 res.length c8)) ∧ Bs W2 W2.heap.size p8 res ∧ Below W.heap.size W W2

/-- what the region's worlds keep -/
structure PartsS (W : World) (b0 b1 b2 b3 : Nat) (l0 l1 l2 l3 : List Value) (W' : World) : Prop where
  bel : Below W.heap.size W W'
  a0 : AtL W' b0 l0
  a1 : AtL W' b1 l1
  a2 : AtL W' b2 l2
  a3 : AtL W' b3 l3

theorem PartsS.all {W W' : World} {b0 b1 b2 b3 : Nat} {x0 x1 y0 y1 y2 y3 y4 z0 z1 z2 z3 z4 u0 u1 : Value} (h : PartsS W b0 b1 b2 b3 [x0, x1] [y0, y1, y2, y3, y4] [z0, z1, z2, z3, z4] [u0, u1] W') :
    Below W.heap.size W W' ∧ W'.cell? ⟨b0, 0, none⟩ = some x0 ∧ W'.cell? ⟨b0, 1, none⟩ = some x1
      ∧ W'.cell? ⟨b1, 0, none⟩ = some y0 ∧ W'.cell? ⟨b1, 1, none⟩ = some y1 ∧ W'.cell? ⟨b1, 2, none⟩ = some y2 ∧ W'.cell? ⟨b1, 3, none⟩ = some y3 ∧ W'.cell? ⟨b1, 4, none⟩ = some y4
      ∧ W'.cell? ⟨b2, 0, none⟩ = some z0 ∧ W'.cell? ⟨b2, 1, none⟩ = some z1 ∧ W'.cell? ⟨b2, 2, none⟩ = some z2 ∧ W'.cell? ⟨b2, 3, none⟩ = some z3 ∧ W'.cell? ⟨b2, 4, none⟩ = some z4
      ∧ W'.cell? ⟨b3, 0, none⟩ = some u0 ∧ W'.cell? ⟨b3, 1, none⟩ = some u1 :=
  ⟨h.bel, h.a0.get 0 rfl, h.a0.get 1 rfl, h.a1.get 0 rfl, h.a1.get 1 rfl, h.a1.get 2 rfl, h.a1.get 3 rfl, h.a1.get 4 rfl, h.a2.get 0 rfl, h.a2.get 1 rfl, h.a2.get 2 rfl, h.a2.get 3 rfl, h.a2.get 4 rfl, h.a3.get 0 rfl, h.a3.get 1 rfl⟩
theorem below_drew1 {B : Nat} {a b : World} (h : Below B a b) : Below B a b.drew := ⟨h.os, h.tape, h.output, h.size, h.block⟩
theorem pbRes_len (priv : Bool) (nums : List Int) (fin : UInt8) : (pbRes priv nums fin).length ≤ 100 := by
  unfold pbRes
  split
  · simp
  split
  · simp
  split
  · simp
  · have h1 : inNum nums = true := by simp_all
    have := jn_len nums h1
    have h2 : (mark priv).length ≤ 1 := by unfold mark; split <;> simp
    simp [pb]
    omega

theorem pb_cases (priv : Bool) (nums : List Int) (fin : UInt8) : (pbCode nums fin = 0 ∧ pbRes priv nums fin = pb priv nums fin ∧ finl fin = true ∧ inNum nums = true ∧ nums.length ≤ 4) ∨ (pbCode nums fin != 0) = true := by
  unfold pbCode pbRes
  cases hf : finl fin
  · right; simp
  cases hin : inNum nums
  · right; simp
  by_cases hl : 4 < nums.length
  · right; simp [hl]
  · left; simp [hl]; omega

theorem news_of {w : World} {b off : Nat} {l : List UInt8} (h : ∀ i, i < l.length → w.cell? ⟨b, off + i, none⟩ = some (.int .u8 ((l.getD i 0).toNat : Int))) (j : Nat) (u : Value) (hj : (l.map (fun x : UInt8 => Value.int .u8 (x.toNat : Int)))[j]? = some u) :
    w.cell? ((⟨b, off, none⟩ : Addr).add j) = some u := by
  have hjl : j < l.length := by have := (List.getElem?_eq_some_iff.1 hj).1; simpa using this
  have e : (⟨b, off, none⟩ : Addr).add j = ⟨b, off + j, none⟩ := by unfold Addr.add; split <;> simp_all
  rw [e, h j hjl, ← hj]
  simp [hjl]
theorem news_bs {w : World} {B b off : Nat} {l : List UInt8} (h : Bs w B (some ⟨b, off, none⟩) l) (j : Nat) (u : Value) (hj : (l.map (fun x : UInt8 => Value.int .u8 (x.toNat : Int)))[j]? = some u) :
    w.cell? ((⟨b, off, none⟩ : Addr).add j) = some u := by
  have hjl : j < l.length := by have := (List.getElem?_eq_some_iff.1 hj).1; simpa using this
  obtain ⟨b', off', e, _, hc⟩ := h (by rintro rfl; simp at hjl)
  simp only [Option.some.injEq, Addr.mk.injEq] at e
  obtain ⟨rfl, rfl, -⟩ := e
  exact news_of hc j u hj
theorem one_cells (l : List UInt8) : ∀ u ∈ l.map (fun x : UInt8 => Value.int .u8 (x.toNat : Int)), u.oneCell' = true := by
  intro u hu
  obtain ⟨x, _, rfl⟩ := List.mem_map.1 hu
  rfl
theorem grew1 {w w2 : World} {o : Obj} {v v' : Value} {q : List UInt8} {n : Nat} (ho : Own (w.alloc o) w.heap.size v [])
    (h : w2.ownsRow w.heap.size 5 1 v' n ([] ++ q.map (fun x : UInt8 => Value.int .u8 (x.toNat : Int)))) (hg : (w.alloc o).grownBy w2 v.ownBlock) : Own w2 w.heap.size v' q ∧ Below w.heap.size w w2 := by
  have hl : n = q.length := by have := h.1; simpa using this.symm
  subst hl
  exact ⟨h, (below_mk w o).grown hg (by simp) fun j ej => (ho.lt j ej).1⟩
theorem grew2 {w wr w2 : World} {v v' : Value} {l q : List UInt8} {n : Nat} (ho : Own wr w.heap.size v l) (hb : Below w.heap.size w wr)
    (h : w2.ownsRow w.heap.size 5 1 v' n (l.map (fun x : UInt8 => Value.int .u8 (x.toNat : Int)) ++ q.map (fun x : UInt8 => Value.int .u8 (x.toNat : Int)))) (hg : wr.grownBy w2 v.ownBlock) : Own w2 w.heap.size v' (l ++ q) ∧ Below w.heap.size w w2 :=
  grewB ho hb (by have := h.1; simpa using this.symm) h hg
theorem own_room {w : World} {base : Nat} {v : Value} {l : List UInt8} (h : Own w base v l) (h0 : l ≠ []) : ∃ g cap, v = .slice (some ⟨g, 0, none⟩) l.length cap ∧ l.length ≤ cap := by
  rcases h.2 with ⟨e, hn⟩ | ⟨g, cap, cur, e, hb, hh, hcap, _⟩
  · exact absurd (List.eq_nil_of_length_eq_zero hn) h0
  · exact ⟨g, cap, e, hcap⟩
theorem implPartsOf_len (p : Option Addr) (c n : Nat) (l : List UInt8) (w : World) (hn : n = l.length) (h : Bs w w.heap.size p l) (hc : l.length ≤ c) (hl : l.length ≤ 1048576) :
    Calls Tryd.prog 29 #[.slice p n c] w (NewPt w (ptOf l)) := by
  subst hn
  exact implPartsOf_any p c l w h hc hl

set_option maxRecDepth 100000 in
set_option maxHeartbeats 4000000 in
theorem lawParts_any (q : Option Addr) (c : Nat) (l : List UInt8) (w : World) (h : Bs w w.heap.size q l) (hT : Lib.TabIs Tryd.prog w "internal/strconv.uint64pow10" .u64 Lib.pow10Tab) :
    Calls Tryd.prog 4 #[.slice q l.length c] w fun e w' => e = .returned (.bool true) ∧ Below w.heap.size w w' := by
  have HT := Lib.hid (Lib.tabBelow_of_tabIs hT)
  clear hT
  by_cases hbig : (1048576 : Int) < (l.length : Int)
  · have hb' : decide ((1048576 : Int) < (l.length : Int)) = true := decide_eq_true hbig
    go_enter Tryd.func4, Tryd.ntmps4
    go_wp2_with (go_at_call 6; refine (lwBig_any _ _ _ _).mono ?_; rw [hb']; rintro e w' ⟨rfl, rfl⟩)
    go_ret
    exact ⟨rfl, Below.refl _ _⟩
  have hb' : decide ((1048576 : Int) < (l.length : Int)) = false := decide_eq_false hbig
  have hl : l.length ≤ 1048576 := by omega
  go_enter Tryd.func4, Tryd.ntmps4
  go_wp2_with fail
  refine (lwBig_any _ _ _ _).mono ?_
  rw [hb']
  rintro e w' ⟨rfl, rfl⟩
  clear hb' hbig
  go_wp2_with fail
  refine (drawNumberOf_any q c l w h hl).mono ?_
  rintro e w1 ⟨gd, cd, d, rfl, hd24, hdc, bd1, b1⟩
  go_wp2_with fail
  refine (implNumberOf_any _ _ _ _ bd1 (by omega)).mono ?_
  rintro e w2 ⟨rfl, b2⟩
  unfold irV
  have B2 := below_mk w2 (.cells #[.int .i64 (numCode d), .int .i64 (numRes d)] 46)
  have N2 := AtL.new w2 [.int .i64 (numCode d), .int .i64 (numRes d)] 46
  have D2 := below_on (below_on b1 b2) B2
  have bd2 := (bd1.on b2).on B2
  clear bd1 b1 b2 B2
  go_wp2_with fail
  refine (drawPartsOf_any q c l _ (h.on D2) hl).mono ?_
  rintro e w3 ⟨ge, ce, dt, rfl, he24, hec, be3, b3⟩
  have D3 := below_on D2 b3
  have N3 := N2.on b3
  have bd3 := bd2.on b3
  clear N2 bd2 b3 D2
  go_wp2_with fail
  refine (implPartsOf_any _ _ _ _ be3 hec (by omega)).mono ?_
  rintro e w4 ⟨v, rfl, o4, b4⟩
  obtain ⟨p4, c4, hv⟩ := o4.slice
  subst hv
  have HSM := Lib.hid (ptOf_small dt)
  unfold ptV
  have B4 := below_mk w4 (.cells #[.int .i64 (ptOf dt).code, .bool (ptOf dt).priv, .slice p4 (ptOf dt).nums.length c4, .int .u8 (ptOf dt).fin, .int .i64 (ptOf dt).size] 50)
  have P4 := AtL.new w4 [.int .i64 (ptOf dt).code, .bool (ptOf dt).priv, .slice p4 (ptOf dt).nums.length c4, .int .u8 (ptOf dt).fin, .int .i64 (ptOf dt).size] 50
  have D4 := below_on (below_on D3 b4) B4
  have N4 := (N3.on b4).on B4
  have bd4 := (bd3.on b4).on B4
  have be4 := (be3.on b4).on B4
  have i4 := (o4.on B4).is.2
  clear N3 bd3 be3 b4 D3 B4 o4
  go_wp2_with fail
  refine (specPartsOf_any _ _ _ _ be4 hec (by omega)).mono ?_
  rintro e w5 ⟨v, rfl, o5, b5⟩
  obtain ⟨p5, c5, hv⟩ := o5.slice
  subst hv
  unfold ptV
  have B5 := below_mk w5 (.cells #[.int .i64 (ptOf dt).code, .bool (ptOf dt).priv, .slice p5 (ptOf dt).nums.length c5, .int .u8 (ptOf dt).fin, .int .i64 (ptOf dt).size] 50)
  have Q5 := AtL.new w5 [.int .i64 (ptOf dt).code, .bool (ptOf dt).priv, .slice p5 (ptOf dt).nums.length c5, .int .u8 (ptOf dt).fin, .int .i64 (ptOf dt).size] 50
  have D5 := below_on (below_on D4 b5) B5
  have N5 := (N4.on b5).on B5
  have P5 := (P4.on b5).on B5
  have bd5 := (bd4.on b5).on B5
  have be5 := (be4.on b5).on B5
  have j4 := (i4.on b5).on B5
  have i5 := (o5.on B5).is.2
  clear N4 P4 bd4 be4 i4 b5 D4 B5 o5
  generalize ptOf dt = r at *
  go_wp2_with fail
  refine (drawPartsBytes_any q c l _ (h.on D5) hl).mono ?_
  rintro e w6 ⟨priv, pn, cn, nums, fin, rfl, hn5, in6, b6⟩
  have D6 := below_on D5 b6
  have N6 := N5.on b6
  have P6 := P5.on b6
  have Q6 := Q5.on b6
  have bd6 := bd5.on b6
  have be6 := be5.on b6
  have k4 := j4.on b6
  have k5 := i5.on b6
  clear N5 P5 Q5 bd5 be5 j4 i5 b6 D5
  have IPB : Hid (∀ w', Is w' w'.heap.size pn nums → Below w.heap.size w w' → Calls Tryd.prog 32 #[.bool priv, .slice pn nums.length cn, .int .u8 (fin.toNat : Int)] w' (NewBr w' (pbCode nums fin) (pbRes priv nums fin))) := fun w' h hb => by
    cases priv
    · exact implPartsBytes_false pn cn nums fin w' h (by omega) (HT.out w' hb)
    · exact implPartsBytes_true pn cn nums fin w' h (by omega) (HT.out w' hb)
  go_wp2_with fail
  refine (IPB.out _ in6 D6).mono ?_
  rintro e w7 ⟨v, rfl, o7, b7⟩
  obtain ⟨p7, c7, hv⟩ := o7.slice
  subst hv
  unfold brV
  have B7 := below_mk w7 (.cells #[.int .i64 (pbCode nums fin), .slice p7 (pbRes priv nums fin).length c7] 26)
  have R7 := AtL.new w7 [.int .i64 (pbCode nums fin), .slice p7 (pbRes priv nums fin).length c7] 26
  have D7 := below_on (below_on D6 b7) B7
  have N7 := (N6.on b7).on B7
  have P7 := (P6.on b7).on B7
  have Q7 := (Q6.on b7).on B7
  have bd7 := (bd6.on b7).on B7
  have be7 := (be6.on b7).on B7
  have m4 := (k4.on b7).on B7
  have m5 := (k5.on b7).on B7
  have in7 := (in6.on b7).on B7
  have x7 := (o7.on B7).bs.2
  clear N6 P6 Q6 bd6 be6 k4 k5 in6 b7 D6 B7 o7 IPB
  go_upto_region 10 with (fail)
  generalize w7.alloc (.cells #[.int .i64 (pbCode nums fin), .slice p7 (pbRes priv nums fin).length c7] 26) = W at N7 P7 Q7 R7 bd7 be7 m4 m5 in7 x7 D7 ⊢
  have hrs := pbRes_len priv nums fin
  have HNUM : Hid (∀ W', Below W.heap.size W W' → Calls Tryd.prog 33 #[.slice (some ⟨gd, 0, none⟩) d.length cd] W' fun e W2 => e = .returned (.agg #[.int .i64 (numCode d), .int .i64 (numRes d)]) ∧ Below W.heap.size W W2) := fun W' hb =>
    (specNumberOf_any _ cd d W' (bd7.on hb) (by omega)).mono fun _ _ ⟨he, h2⟩ => ⟨he, below_on hb h2⟩
  have HLWN : Hid (∀ W', Below W.heap.size W W' → Calls Tryd.prog 34 #[.slice p4 r.nums.length c4, .slice p5 r.nums.length c5] W' fun e W2 => e = .returned (.bool true) ∧ Below W.heap.size W W2) := fun W' hb =>
    (lwNums_same _ _ _ _ r.nums W' (m4.on hb) (m5.on hb) (by have := HSM.out; omega)).mono fun _ _ ⟨he, h2⟩ => ⟨he, below_on hb h2⟩
  have HSPB : Hid (∀ W', Below W.heap.size W W' → Calls Tryd.prog 35 #[.bool priv, .slice pn nums.length cn, .int .u8 (fin.toNat : Int)] W' (SpbPost W (pbCode nums fin) (pbRes priv nums fin))) := fun W' hb =>
    (specPartsBytes_any priv pn cn nums fin W' (in7.on hb) (by omega)).mono fun _ _ ⟨v, he, ho, h2⟩ => by
      obtain ⟨p8, c8, hv⟩ := ho.slice
      subst hv
      exact ⟨p8, c8, he, ho.bs.2, below_on hb h2⟩
  have HLWB : Hid (∀ W' p8 c8, Below W.heap.size W W' → Bs W' W'.heap.size p8 (pbRes priv nums fin) → Calls Tryd.prog 15 #[.agg #[.int .i64 (pbCode nums fin), .slice p7 (pbRes priv nums fin).length c7], .agg #[.int .i64 (pbCode nums fin), .slice p8 (pbRes priv nums fin).length c8]] W' fun e W2 => e = .returned (.bool true) ∧ Below W.heap.size W W2) := fun W' p8 c8 hb h8 =>
    (lwBytes_any (pbCode nums fin) (pbCode nums fin) p7 p8 c7 c8 (pbRes priv nums fin) (pbRes priv nums fin) W' (x7.on hb) h8).mono fun _ _ ⟨he, h2⟩ => ⟨by rw [he]; simp, below_on hb h2⟩
  have HSS : Hid (∀ W', Below W.heap.size W W' → PartsS W w2.heap.size w4.heap.size w5.heap.size w7.heap.size [.int .i64 (numCode d), .int .i64 (numRes d)] [.int .i64 r.code, .bool r.priv, .slice p4 r.nums.length c4, .int .u8 r.fin, .int .i64 r.size] [.int .i64 r.code, .bool r.priv, .slice p5 r.nums.length c5, .int .u8 r.fin, .int .i64 r.size] [.int .i64 (pbCode nums fin), .slice p7 (pbRes priv nums fin).length c7] W') := fun W' hb => ⟨hb, N7.on hb, P7.on hb, Q7.on hb, R7.on hb⟩
  have HSM2 := Lib.hid (below_drew1 (Below.refl W.heap.size W))
  have hnr := numRes_range d
  generalize numCode d = nc at *
  generalize numRes d = nv at *
  have HPB := Lib.hid (pb_cases priv nums fin)
  have HBK := Lib.hid (fun h1 h2 h3 => parts_back priv nums fin dt h1 h2 h3)
  go_cut [83] (fun s83 wx => s83 = .bool false ∧ Below W.heap.size W wx)
  case first =>
    go_region_held3 (fun W' => Below W.heap.size W W' ∧ W'.cell? ⟨w2.heap.size, 0, none⟩ = some (.int .i64 nc) ∧ W'.cell? ⟨w2.heap.size, 1, none⟩ = some (.int .i64 nv)
        ∧ W'.cell? ⟨w4.heap.size, 0, none⟩ = some (.int .i64 r.code) ∧ W'.cell? ⟨w4.heap.size, 1, none⟩ = some (.bool r.priv) ∧ W'.cell? ⟨w4.heap.size, 2, none⟩ = some (.slice p4 r.nums.length c4) ∧ W'.cell? ⟨w4.heap.size, 3, none⟩ = some (.int .u8 r.fin) ∧ W'.cell? ⟨w4.heap.size, 4, none⟩ = some (.int .i64 r.size)
        ∧ W'.cell? ⟨w5.heap.size, 0, none⟩ = some (.int .i64 r.code) ∧ W'.cell? ⟨w5.heap.size, 1, none⟩ = some (.bool r.priv) ∧ W'.cell? ⟨w5.heap.size, 2, none⟩ = some (.slice p5 r.nums.length c5) ∧ W'.cell? ⟨w5.heap.size, 3, none⟩ = some (.int .u8 r.fin) ∧ W'.cell? ⟨w5.heap.size, 4, none⟩ = some (.int .i64 r.size)
        ∧ W'.cell? ⟨w7.heap.size, 0, none⟩ = some (.int .i64 (pbCode nums fin)) ∧ W'.cell? ⟨w7.heap.size, 1, none⟩ = some (.slice p7 (pbRes priv nums fin).length c7))
      (first | exact (HSS.out _ (by assumption)).all | exact (HSS.out _ HSM2.out).all)
      (first
        | (go_at_call 33; refine (HNUM.out _ (by assumption)).mono ?_; rintro e W1 ⟨rfl, hb1⟩)
        | (go_at_call 34; refine (HLWN.out _ (by assumption)).mono ?_; rintro e W1 ⟨rfl, hb1⟩)
        | (go_at_call 35; refine (HSPB.out _ (by assumption)).mono ?_; rintro e W1 ⟨p8, c8, rfl, hbs8, hb1⟩; unfold brV)
        | (go_at_call 15; refine (HLWB.out _ _ _ (by assumption) (by assumption)).mono ?_; rintro e W1 ⟨rfl, hb1⟩))
    all_goals (go_wp2_with fail; go_meet; exact ⟨rfl, hb1⟩)
  case rest =>
    obtain ⟨rfl, hbx⟩ := hcut
    have SS := HSS.out _ hbx
    have hw7 := SS.a3.1
    obtain ⟨_, n0, n1, _, _, _, _, _, _, _, _, _, _, c0, c1⟩ := SS.all
    have hnv0 : ¬ nv < 0 := by omega
    have hnv1 : ¬ 9999999 < nv := by omega
    have DX := below_on D7 hbx
    rcases HPB.out with ⟨hc0, hr0, hf, hin, hl4⟩ | hc1
    · have HBK2 := Lib.hid (HBK.out hf hin hl4)
      have hrs0 : pbRes priv nums fin ≠ [] := by rw [hr0]; simp [pb]
      have HRR := Lib.hid hr0
      rw [hc0] at c0
      clear hf hin hr0 HNUM HLWN HSPB HLWB HSS HSM2 HPB HBK
      generalize pbRes priv nums fin = rs at *
      obtain ⟨b7, off7, hp7, hb7, hcl7⟩ := (x7.on hbx) hrs0
      subst hp7
      have hlen0 : ((rs.length : Int) == 0) = false := by simpa using hrs0
      have HL0 := Lib.hid (own_lit0 wc)
      have HC7 : Hid (∀ o j u, (rs.map (fun x : UInt8 => Value.int .u8 (x.toNat : Int)))[j]? = some u → (wc.alloc o).cell? ((⟨b7, off7, none⟩ : Addr).add j) = some u) := fun o j u hj => news_of (fun i hi => (World.cell?_alloc_lt wc o ⟨b7, off7 + i, none⟩ hb7).trans (hcl7 i hi)) j u hj
      have HBE := Lib.hid (be7.on hbx)
      have HIN := Lib.hid (in7.on hbx)
      obtain ⟨i0, hi, hz0, hz1, hz2⟩ := info_parts Tryd.info_u8
      clear hcl7
      cases hq : (nc == 0)
      all_goals
        go_wp2_with (first
          | (at_builtin; refine wpList_append_own _ rfl _ _ 22 rfl wc.heap.size 5 i0 (.int .u8 0) 1 1 Tryd.underlying22 hi hz0 hz1 hz2 rfl (by decide) _ 0 [] rfl HL0.out ⟨b7, off7, none⟩ rs.length c7 (rs.map (fun x : UInt8 => Value.int .u8 (x.toNat : Int))) rfl (by simp) (HC7.out _) (one_cells rs) (by unfold maxLen; omega) (by omega) (by simp) ?_; intro v1 wA hownA hgrowA _; have HA1 := Lib.hid (grew1 HL0.out hownA hgrowA))
          | (at_builtin; refine wpList_append_own _ rfl _ _ 22 rfl wc.heap.size 5 i0 (.int .u8 0) 1 1 Tryd.underlying22 hi hz0 hz1 hz2 rfl (by decide) _ _ _ rfl HA1.out.1 ⟨ge, 0, none⟩ dt.length ce (dt.map (fun x : UInt8 => Value.int .u8 (x.toNat : Int))) rfl (by simp) (news_bs (HBE.out.on HA1.out.2)) (one_cells dt) (by unfold maxLen; omega) (by omega) HA1.out.2.size ?_; intro v2 wB hownB hgrowB _; have HB1 := Lib.hid (grew2 HA1.out.1 HA1.out.2 hownB hgrowB); obtain ⟨g2, cap2, hv2, hlc⟩ := own_room HB1.out.1 (by simp [hrs0]); subst hv2)
          | (go_at_call 29; refine (implPartsOf_len _ _ _ (rs ++ dt) _ (by simp) HB1.out.1.bs.2 hlc (by simp; omega)).mono ?_; rw [HRR.out, HBK2.out]; rintro e wC ⟨v3, rfl, o3, b3⟩; obtain ⟨p3, c3, hv3⟩ := o3.slice; subst hv3; unfold ptV; dsimp only))
        have BC := below_mk wC (.cells #[.int .i64 0, .bool priv, .slice p3 nums.length c3, .int .u8 (fin.toNat : Int), .int .i64 ((pb priv nums fin).length : Int)] 50)
        have Z3 := AtL.new wC [.int .i64 0, .bool priv, .slice p3 nums.length c3, .int .u8 (fin.toNat : Int), .int .i64 ((pb priv nums fin).length : Int)] 50
        have R3 := ((SS.a3.on HB1.out.2).on b3).on BC
        have DC := below_on (below_on (below_on DX HB1.out.2) b3) BC
        refine (lwNums_same p3 pn c3 cn nums _ (o3.on BC).is.2 (((HIN.out.on HB1.out.2).on b3).on BC) (by omega)).mono ?_
        rintro e wD ⟨rfl, bD⟩
        obtain ⟨z0, z1, z2, z3, z4⟩ := (Z3.on bD).five
        have r1 := (R3.on bD).get 1 rfl
        have hsz : (((pb priv nums fin).length : Int) == (rs.length : Int)) = true := by rw [HRR.out]; simp
        have DD := below_on DC bD
        clear Z3 R3 DC BC c0 c1 n0 n1
        go_wp2_with fail
        go_ret
        exact ⟨rfl, DD⟩
    · cases hq : (nc == 0)
      all_goals
        go_wp2_with fail
        go_ret
        exact ⟨rfl, DX⟩

end Go.Proofs.YtjmfmdebnobogaaDoor
