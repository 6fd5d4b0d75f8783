/- The model's l1First and FirstPoint. -/
import Derived.Test.YtbnpodledgaipaaGreatDoorQFirstSpecToFirstSpec2
import Derived.Test.YtbnpodledgaipaaGreatDoorQPutToMarksBig
namespace Go.Proofs.YtbnpodledgaipaaGreatDoor
open Go.RowKit

/-- code, point and size of the first point of a :: tail, as the model reckons them -/
def specFirst (a : UInt8) (tail : List UInt8) : Int × Int × Int :=
  if leadN a.toNat = 0 then (5, 0, 0)
  else if tail.length + 1 < leadN a.toNat then (if begins tail (leadN a.toNat) (leadP a.toNat) = true then (6, 0, 0) else (5, 0, 0))
  else if point (tailAcc (leadP a.toNat) (tail.take (leadN a.toNat - 1))) = true ∧ putB (tailAcc (leadP a.toNat) (tail.take (leadN a.toNat - 1))) = (a :: tail).take (leadN a.toNat) then
    (0, tailAcc (leadP a.toNat) (tail.take (leadN a.toNat - 1)), leadN a.toNat)
  else (5, 0, 0)

theorem ret3 {a b c x y z : Int} (h1 : a = x) (h2 : b = y) (h3 : c = z) :
    Ending.returned (.tuple #[.int .i64 a, .int .i64 b, .int .i64 c]) = .returned (.tuple #[.int .i64 x, .int .i64 y, .int .i64 z]) := by rw [h1, h2, h3]

/-- what l1First hands back -/
def FirstPost (w : World) (r : Int × Int × Int) (e : Ending) (w' : World) : Prop :=
  e = .returned (.tuple #[.int .i64 r.2.1, .int .i64 r.2.2, .int .i64 r.1]) ∧ Below w.heap.size w w'

theorem l1Begins_any (q : Option Addr) (c : Nat) (a : UInt8) (tail : List UInt8) (n : Nat) (p0 : Int) (w : World) {B : Nat} (h : Bs w B q (a :: tail)) (hp0 : 0 ≤ p0) (hp1 : p0 ≤ 127) (hn : n = 2 ∨ n = 3 ∨ n = 4) (ht : tail.length + 1 < n) :
    Calls Tryz.prog 118 #[.slice q (tail.length + 1) c, .int .i64 n, .int .i64 p0] w fun e w' => e = .returned (.bool (begins tail n p0)) ∧ Below w.heap.size w w' := by
  rcases hn with rfl | rfl | rfl
  · exact l1Begins_2 q c a tail p0 w h hp0 hp1 ht
  · exact l1Begins_3 q c a tail p0 w h hp0 hp1 ht
  · exact l1Begins_4 q c a tail p0 w h hp0 hp1 ht

theorem leadN_cases {x : Nat} (h : ¬ leadN x = 0) (h1 : ¬ leadN x = 1) : leadN x = 2 ∨ leadN x = 3 ∨ leadN x = 4 := by have := leadN_le x; omega

/-- ahead of its loop: no such byte, or fewer bytes than its point has -/
theorem specFirst_none {a : UInt8} {tail : List UInt8} (h : leadN a.toNat = 0) : specFirst a tail = (5, 0, 0) := by unfold specFirst; rw [if_pos h]
theorem specFirst_short {a : UInt8} {tail : List UInt8} (h : ¬ leadN a.toNat = 0) (k : tail.length + 1 < leadN a.toNat) : specFirst a tail = if begins tail (leadN a.toNat) (leadP a.toNat) = true then (6, 0, 0) else (5, 0, 0) := by
  unfold specFirst; rw [if_neg h, if_pos k]
theorem specFirst_long {a : UInt8} {tail : List UInt8} (h : ¬ leadN a.toNat = 0) (k : ¬ tail.length + 1 < leadN a.toNat) (P : Int) (hP : tailAcc (leadP a.toNat) (tail.take (leadN a.toNat - 1)) = P) :
    specFirst a tail = if point P = true ∧ putB P = (a :: tail).take (leadN a.toNat) then (0, P, (leadN a.toNat : Int)) else (5, 0, 0) := by
  subst hP; unfold specFirst; rw [if_neg h, if_neg k]

set_option maxRecDepth 100000 in
set_option maxHeartbeats 4000000 in
theorem l1First_short (q : Option Addr) (c : Nat) (a : UInt8) (tail : List UInt8) (w : World) (h : Bs w w.heap.size q (a :: tail)) (hs : leadN a.toNat = 0 ∨ tail.length + 1 < leadN a.toNat) :
    Calls Tryz.prog 69 #[.slice q (tail.length + 1) c] w (FirstPost w (specFirst a tail)) := by
  have hx := byte_lt a
  have hlp := leadP_bd a.toNat
  have hle := leadN_le a.toNat
  obtain ⟨b, off, rfl, _, hc⟩ := h (by simp)
  have c0 := hc 0 (by simp)
  simp at c0
  clear hc
  have hlen : (0 : Int) < (tail.length : Int) + 1 := by omega
  by_cases hz : leadN a.toNat = 0
  · have HR := Lib.hid (specFirst_none (tail := tail) hz)
    have hz' : ((leadN a.toNat : Int) == 0) = true := by simp [hz]
    clear hz hs
    go_enter Tryz.func69, Tryz.ntmps69
    go_wp2_with (go_at_call 117; refine (l1Lead_any a _).mono ?_; rintro e w' ⟨rfl, rfl⟩)
    go_ret3
    rw [HR.out]
    exact ⟨rfl, Below.refl _ _⟩
  · have hsh : tail.length + 1 < leadN a.toNat := by omega
    have HR := Lib.hid (specFirst_short hz hsh)
    have HN := Lib.hid (leadN_cases hz (by omega))
    have hz' : ((leadN a.toNat : Int) == 0) = false := by simp; omega
    have hsh' : (tail.length : Int) + 1 < (leadN a.toNat : Int) := by omega
    clear hs hz
    cases hbg : begins tail (leadN a.toNat) (leadP a.toNat)
    · go_enter Tryz.func69, Tryz.ntmps69
      go_wp2_with (first
        | (go_at_call 117; refine (l1Lead_any a _).mono ?_; rintro e w' ⟨rfl, rfl⟩)
        | (go_at_call 118; refine (l1Begins_any _ _ a tail _ _ _ h hlp.1 hlp.2 HN.out hsh).mono ?_; rintro e w1 ⟨rfl, hb1⟩))
      go_ret3
      rw [HR.out, hbg]
      exact ⟨rfl, hb1⟩
    · go_enter Tryz.func69, Tryz.ntmps69
      go_wp2_with (first
        | (go_at_call 117; refine (l1Lead_any a _).mono ?_; rintro e w' ⟨rfl, rfl⟩)
        | (go_at_call 118; refine (l1Begins_any _ _ a tail _ _ _ h hlp.1 hlp.2 HN.out hsh).mono ?_; rintro e w1 ⟨rfl, hb1⟩))
      go_ret3
      rw [HR.out, hbg]
      exact ⟨rfl, hb1⟩

theorem acc_step (T : List UInt8) (k : Nat) (p : Int) (h : k < T.length) : tailAcc p (T.drop k) = tailAcc (p * 64 + (T[k].toNat : Int) % 64) (T.drop (k + 1)) := (tail_step T k p h).1
theorem bs_take {w : World} {B : Nat} {p : Option Addr} {l : List UInt8} (h : Bs w B p l) (n : Nat) : Bs w B p (l.take n) := fun hne => by
  have hl : l ≠ [] := fun e => hne (by rw [e]; simp)
  obtain ⟨b, off, e, hb, hc⟩ := h hl
  refine ⟨b, off, e, hb, fun i hi => ?_⟩
  simp only [List.length_take] at hi
  have h1 : i < n := by omega
  rw [hc i (by omega)]
  simp [h1]

set_option maxRecDepth 100000 in
set_option maxHeartbeats 4000000 in
theorem l1First_long (q : Option Addr) (c : Nat) (a : UInt8) (tail : List UInt8) (w : World) (h : Bs w w.heap.size q (a :: tail)) (hs : ¬ leadN a.toNat = 0) (hk : ¬ tail.length + 1 < leadN a.toNat) (hl : tail.length + 1 ≤ 1048576) (hcap : tail.length + 1 ≤ c) :
    Calls Tryz.prog 69 #[.slice q (tail.length + 1) c] w (FirstPost w (specFirst a tail)) := by
  have hx := byte_lt a
  have hlp := leadP_bd a.toNat
  have hle := leadN_le a.toNat
  have hT : (tail.take (leadN a.toNat - 1)).length = leadN a.toNat - 1 := by simp; omega
  have HR := Lib.hid (fun P hP => specFirst_long (tail := tail) hs hk P hP)
  have HLe := Lib.hid (l1Lead_any a)
  have HTG : Hid (∀ k, k < leadN a.toNat - 1 → (tail.take (leadN a.toNat - 1))[k]? = tail[k]?) := fun k h => by rw [List.getElem?_take, if_pos h]
  generalize hN : leadN a.toNat = N at *
  generalize hT0 : tail.take (N - 1) = T at *
  have HH := Lib.hid h
  obtain ⟨b, off, rfl, _, hc⟩ := h (by simp)
  have HC := Lib.hid hc
  have HT := Lib.hid hT
  have c0 := hc 0 (by simp)
  simp at c0
  have hTl : T.length ≤ N - 1 := Nat.le_of_eq hT
  have hTl' : N - 1 ≤ T.length := Nat.le_of_eq hT.symm
  clear hc h hT hN hT0
  have hlen : (0 : Int) < (tail.length : Int) + 1 := by omega
  have hz' : ((N : Int) == 0) = false := by simp; omega
  have hsh' : ¬ (tail.length : Int) + 1 < (N : Int) := by omega
  clear hs
  go_enter Tryz.func69, Tryz.ntmps69
  go_wp2_with (go_at_call 117; refine (HLe.out _).mono ?_; rintro e w' ⟨rfl, rfl⟩)
  go_loop [6, 7] (fun pv i => ∃ (k : Nat) (pk : Int), k ≤ N - 1 ∧ i = .int .i64 (k + 1 : Nat) ∧ pv = .int .i64 pk ∧ 0 ≤ pk ∧ pk ≤ bnd k ∧ tailAcc (leadP a.toNat) T = tailAcc pk (T.drop k)) (fun _ i => N - (intOf i).toNat)
  case atStart => exact ⟨0, _, by omega, rfl, rfl, hlp.1, hlp.2, rfl⟩
  case round =>
    obtain ⟨k, pk, hkk, rfl, rfl, k0, k1, hb⟩ := hrel
    have HB := Lib.hid hb
    clear hb
    have hbd := bnd_le k (by omega)
    by_cases hlt : k + 1 < N
    · have ck := HC.out (k + 1) (by simp; omega)
      have hkt : k < tail.length := by omega
      have e0 : (a :: tail).getD (k + 1) 0 = tail[k] := by simp [hkt]
      rw [e0] at ck
      clear e0
      have HS := Lib.hid (acc_step T k pk (by omega))
      have HG : Hid (T[k]'(by omega) = tail[k]) := by
        have := HTG.out k (by omega)
        rw [List.getElem?_eq_getElem hkt, List.getElem?_eq_getElem (show k < T.length by omega)] at this
        exact Option.some.inj this
      have hr : (0 : Int) ≤ (tail[k].toNat : Int) % 64 ∧ (tail[k].toNat : Int) % 64 < 64 := by omega
      have hxk := byte_lt tail[k]
      go_wp2
      exact ⟨⟨k + 1, _, by omega, by go_num, rfl, by omega, by show _ ≤ bnd k * 64 + 63; omega, by rw [HB.out, HS.out, HG.out]⟩, by simp [intOf]; omega⟩
    · have hkN : k = N - 1 := by omega
      have HP : Hid (tailAcc (leadP a.toNat) T = pk) := by
        have e : T.drop k = [] := List.drop_eq_nil_of_le (by omega)
        have := HB.out
        rw [e] at this
        exact this
      have HF := Lib.hid (HR.out pk HP.out)
      clear HB HP HR hkN
      cases hpt : point pk
      · have HQ : Hid (∀ n, Calls Tryz.prog 119 #[.int .i64 pk] (w.drewN n) fun e w'' => e = .returned (.bool false) ∧ ∃ m, w'' = w.drewN m) := fun n =>
          (l1Point_any pk (w.drewN n)).mono fun _ _ ⟨he, hw⟩ => ⟨by rw [he, hpt], n, hw.symm⟩
        go_wp2
        go_quiet ((go_at_call 119; exact HQ.out _))
        go_wp2
        go_ret3
        rw [HF.out, hpt]
        exact ⟨rfl, below_drewN (Below.refl _ _) _⟩
      · obtain ⟨p0, p1, _⟩ := point_range hpt
        have HQ : Hid (∀ w', Calls Tryz.prog 119 #[.int .i64 pk] w' fun e w'' => e = .returned (.bool true) ∧ w' = w'') := fun w' =>
          (l1Point_any pk w').mono fun _ _ ⟨he, hw⟩ => ⟨by rw [he, hpt], hw⟩
        have hcut : (N : Int) ≤ (c : Int) := by omega
        have hNl : ((a :: tail).take N).length = N := by simp; omega
        have HV : Hid (∀ w', Below w.heap.size w w' → (convert 22 9 (.slice (some ⟨b, off, none⟩) N c)).run Tryz.prog w' = .ok (.string ⟨((a :: tail).take N).toArray⟩) w') := fun w' hb' => by
          have hh := convert_str (P := Tryz.prog) Tryz.underlying22 Tryz.underlying5 Tryz.underlying9 (some ⟨b, off, none⟩) c ((a :: tail).take N) w' (bs_take (HH.out.on hb') N)
          rw [hNl] at hh
          exact hh
        have v1 := HV.out w.drew (Below.refl _ _).drew
        clear hNl
        go_wp2
        go_region_with (first
          | (go_at_call 119; refine (HQ.out _).mono ?_; rintro e w' ⟨rfl, rfl⟩)
          | (go_at_call 120; refine (l1Put_any pk _ p0 p1).mono ?_; rintro e w1 ⟨v, rfl, ho, hb1⟩; obtain ⟨pp, cc, hv⟩ := ho.slice; subst hv; have v2 := HV.out w1 (below_on ((Below.refl _ _).drew) hb1); have v3 := convert_str (P := Tryz.prog) Tryz.underlying22 Tryz.underlying5 Tryz.underlying9 pp cc (putB pk) w1 ho.bs.2))
        all_goals go_wp2
        all_goals
          go_ret3
          first
            | (have hne : (!putB pk == List.take N (a :: tail)) = true := by assumption
               rw [HF.out, if_neg (fun hh => by rw [hh.2] at hne; simp at hne)]
               exact ⟨rfl, below_on ((Below.refl _ _).drew) hb1⟩)
            | (have heq : (!putB pk == List.take N (a :: tail)) = false := by assumption
               rw [HF.out, if_pos ⟨hpt, by simpa using heq⟩]
               exact ⟨rfl, below_on ((Below.refl _ _).drew) hb1⟩)

theorem l1First_any (q : Option Addr) (c : Nat) (a : UInt8) (tail : List UInt8) (w : World) (h : Bs w w.heap.size q (a :: tail)) (hl : tail.length + 1 ≤ 1048576) (hcap : tail.length + 1 ≤ c) :
    Calls Tryz.prog 69 #[.slice q (tail.length + 1) c] w (FirstPost w (specFirst a tail)) := by
  by_cases h0 : leadN a.toNat = 0
  · exact l1First_short q c a tail w h (.inl h0)
  by_cases h1 : tail.length + 1 < leadN a.toNat
  · exact l1First_short q c a tail w h (.inr h1)
  · exact l1First_long q c a tail w h h0 h1 hl hcap

/-- a PointResult as a value -/
def prV (r : Int × Int × Int) : Value := .agg #[.int .i64 r.1, .int .i64 r.2.1, .int .i64 r.2.2]
/-- the model's FirstPoint -/
def specFP : List UInt8 → Int × Int × Int
  | [] => (4, 0, 0)
  | a :: tail => specFirst a tail



end Go.Proofs.YtbnpodledgaipaaGreatDoor
