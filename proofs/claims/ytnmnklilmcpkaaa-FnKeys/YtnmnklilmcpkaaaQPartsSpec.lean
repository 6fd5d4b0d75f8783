/- The contract of the model's PartsOf. -/
import Derived.Test.YtnmnklilmcpkaaaQPiecesInToPartsImpl
namespace Go.Proofs.Ytnmnklilmcpkaaa
open Go.RowKit

/-- what the model's loop keeps -/
def AtRel (l : List UInt8) (s : Nat) (v : Value) : Prop := ∃ m : Nat, s ≤ m ∧ m ≤ l.length ∧ v = .int .i64 m ∧ ∀ j, s ≤ j → j < m → bod (l.getD j 0) = true

theorem getD_drop (l : List UInt8) (s j : Nat) : (l.drop s).getD j 0 = l.getD (s + j) 0 := by simp [List.getD_eq_getElem?_getD]
theorem at_stop {l : List UInt8} {s m : Nat} (hs : s ≤ m) (hm : m ≤ l.length) (ha : ∀ j, s ≤ j → j < m → bod (l.getD j 0) = true) (he : m = l.length ∨ bod (l.getD m 0) = false) : s + bsz (l.drop s) = m := by
  have := bsz_stop (l.drop s) (m - s) (by simp; omega) (fun i hi => by rw [getD_drop]; exact ha _ (by omega) (by omega)) (by
    rcases he with h | h
    · exact .inl (by simp; omega)
    · exact .inr (by rw [getD_drop, show s + (m - s) = m by omega]; exact h))
  omega
theorem at_body {l : List UInt8} {s m : Nat} (hm : m ≤ l.length) (ha : ∀ j, s ≤ j → j < m → bod (l.getD j 0) = true) : ∀ x ∈ (l.take m).drop s, bod x = true := by
  intro x hx
  obtain ⟨i, hi, rfl⟩ := List.mem_iff_getElem.1 hx
  simp at hi
  have := ha (s + i) (by omega) (by omega)
  rw [List.getD_eq_getElem?_getD, List.getElem?_eq_getElem (by omega)] at this
  simpa using this

theorem l2Numbers_len (p : Option Addr) (c n : Nat) (l : List UInt8) (w : World) (hn : n = l.length) (h : Bs w w.heap.size p l) (hd : ∀ x ∈ l, bod x = true) (hc : n ≤ c) (hl : l.length ≤ 1048576) :
    Calls Try.prog 46 #[.slice p n c] w (NewI w (numsOf l)) := by
  subst hn
  exact l2Numbers_any p c l w h hd hc hl

theorem ptAt_m {l : List UInt8} {s m : Nat} (h : s + bsz (l.drop s) = m) : ptAt l s = (if m = l.length then (⟨6, false, [], 0, 0⟩ : Pt)
    else if finl (l.getD m 0) = false then ⟨5, false, [], 0, (m : Int) + 1⟩
    else if fits ((l.take m).drop s) = false then ⟨2, false, [], 0, (m : Int) + 1⟩
    else ⟨0, decide (s = 1), numsOf ((l.take m).drop s), ((l.getD m 0).toNat : Int), (m : Int) + 1⟩) := by
  unfold ptAt
  rw [h]
theorem fits_len (l : List UInt8) : fits l = decide ((numsOf l).length ≤ 4) := by simp [fits, numsOf]

/-- two new blocks: what lay is as it was -/
theorem below_two (w : World) (o1 o2 : Obj) : Below w.heap.size w ((w.alloc o1).alloc o2) := ((Below.refl _ _).alloc (Nat.le_refl _) _).alloc (by simp) _

theorem pt_end2 {w w1 : World} {o1 o2 : Obj} {r : Pt} {v u0 u1 u2 u3 u4 x2 x3 : Value} (ho : OwnI w1 ((w.alloc o1).alloc o2).heap.size v r.nums ∨ (v = .slice none 0 0 ∧ r.nums = [])) (hb : Below ((w.alloc o1).alloc o2).heap.size ((w.alloc o1).alloc o2) w1) :
    NewPt w r (.returned (ptV r v)) (((((((w1.setCell ⟨w.heap.size + 1, 2, none⟩ x2).setCell ⟨w.heap.size + 1, 3, none⟩ x3).setCell ⟨w.heap.size, 0, none⟩ u0).setCell ⟨w.heap.size, 1, none⟩ u1).setCell ⟨w.heap.size, 2, none⟩ u2).setCell ⟨w.heap.size, 3, none⟩ u3).setCell ⟨w.heap.size, 4, none⟩ u4) := by
  have hz : w.heap.size < ((w.alloc o1).alloc o2).heap.size := by simp; omega
  have hz1 : w.heap.size + 1 < ((w.alloc o1).alloc o2).heap.size := by simp
  refine ⟨v, rfl, ?_, ?_⟩
  · rcases ho with ho | ⟨rfl, hr⟩
    · exact (((((((ho.setBelow (a := ⟨w.heap.size + 1, 2, none⟩) hz1 x2).setBelow (a := ⟨w.heap.size + 1, 3, none⟩) hz1 x3).setBelow (a := ⟨w.heap.size, 0, none⟩) hz u0).setBelow (a := ⟨w.heap.size, 1, none⟩) hz u1).setBelow (a := ⟨w.heap.size, 2, none⟩) hz u2).setBelow (a := ⟨w.heap.size, 3, none⟩) hz u3).setBelow (a := ⟨w.heap.size, 4, none⟩) hz u4).lower (by simp; omega)
    · rw [hr]; exact ownI_nil _ _
  · have h0 : Below w.heap.size w w1 := (below_two w o1 o2).trans (hb.mono (by simp; omega))
    exact ((((((h0.setCell (p := ⟨w.heap.size + 1, 2, none⟩) (by simp) _).setCell (p := ⟨w.heap.size + 1, 3, none⟩) (by simp) _).setCell (Nat.le_refl _) _).setCell (Nat.le_refl _) _).setCell (Nat.le_refl _) _).setCell (Nat.le_refl _) _).setCell (Nat.le_refl _) _

set_option maxRecDepth 100000 in
set_option maxHeartbeats 1000000 in
theorem specPartsOf_e (p : Option Addr) (c : Nat) (w : World) : Calls Try.prog 24 #[.slice p 0 c] w (NewPt w (ptAt [] 0)) := by
  go_enter Try.func24, Try.ntmps24
  go_wp2
  go_loop [4] (fun v => v = .int .i64 0) (fun _ => 0)
  case atStart => rfl
  case round =>
    subst hrel
    go_wp2
    exact bodyPost_ret (v := ptV ⟨6, false, [], 0, 0⟩ (.slice none 0 0)) (by simp [results, Try.results24, ptV, go_sem]) rfl ⟨_, rfl, ownI_nil _ _, below_two _ _ _⟩

set_option maxRecDepth 100000 in
set_option maxHeartbeats 4000000 in
theorem specPartsOf_0 (p : Option Addr) (c : Nat) (l : List UInt8) (w : World) (h : Bs w w.heap.size p l) (hc : l.length ≤ c) (hl : l.length ≤ 1048576) (he : l ≠ []) (h60 : (l.getD 0 0 == 60) = false) :
    Calls Try.prog 24 #[.slice p l.length c] w (NewPt w (ptAt l 0)) := by
  have HA := Lib.hid (fun o1 o2 => (h.alloc o1).alloc o2)
  have hpos : 0 < l.length := List.length_pos_iff.2 he
  obtain ⟨b, off, rfl, hb, hcell⟩ := h he
  have hc0 := hcell 0 hpos
  rw [Nat.add_zero] at hc0
  have h60' : (((l.getD 0 0).toNat : Int) == 60) = false := by rw [u8_eq60]; exact h60
  have HC := Lib.hid hcell
  clear h60 he h hcell
  generalize l.getD 0 0 = x0 at *
  go_enter Try.func24, Try.ntmps24
  go_wp2
  go_loop [4] (fun v => AtRel l 0 v) (fun v => l.length - (intOf v).toNat)
  case atStart => exact ⟨0, Nat.le_refl _, by omega, rfl, fun j h1 h2 => by omega⟩
  case round =>
    obtain ⟨m, hs, hm, rfl, ht⟩ := hrel
    have HT := Lib.hid ht
    clear ht
    by_cases hlt : m < l.length
    · have hcm := HC.out m hlt
      have HNX : Hid (bod (l.getD m 0) = true → AtRel l 0 (.int .i64 ((m : Int) + 1))) := fun hbm => ⟨m + 1, by omega, by omega, by go_num, fun j h1 h2 => by
        rcases Nat.lt_or_ge j m with h3 | h3
        · exact HT.out j h1 h3
        · obtain rfl : j = m := by omega
          exact hbm⟩
      have HST := Lib.hid (fun h => ptAt_m (at_stop hs hm HT.out (.inr h)))
      have HBD := Lib.hid (at_body hm HT.out)
      have hmn : ((m : Int) == (l.length : Int)) = false := by simp; omega
      generalize l.getD m 0 = x at *
      cases hd : dgt x with
      | true =>
        have HD := Lib.hid hd
        go_wp2_with (go_at_call 45; refine (l2Digit_any _ _).mono ?_; rintro e w' ⟨rfl, rfl⟩)
        exact ⟨HNX.out (by simp [bod, HD.out]), by simp [intOf]; omega⟩
      | false =>
        have HD := Lib.hid hd
        have h59 := u8_eq59 x
        cases hx : (x == 59) with
        | true =>
          have h59' : ((x.toNat : Int) == 59) = true := by rw [h59, hx]
          have HX := Lib.hid hx
          clear h59 hx
          go_wp2_with (go_at_call 45; refine (l2Digit_any _ _).mono ?_; rintro e w' ⟨rfl, rfl⟩)
          exact ⟨HNX.out (by simp [bod, HX.out]), by simp [intOf]; omega⟩
        | false =>
          have h59' : ((x.toNat : Int) == 59) = false := by rw [h59, hx]
          have hbx : bod x = false := by simp [bod, hd, hx]
          have HR := Lib.hid (HST.out hbx)
          clear h59 hx hbx HST HNX
          rw [if_neg (by omega)] at HR
          by_cases hlo : (x.toNat : Int) < 64
          · have HF := Lib.hid (finl_lo hlo)
            go_wp2_with (go_at_call 45; refine (l2Digit_any _ _).mono ?_; rintro e w' ⟨rfl, rfl⟩)
            rw [HR.out, if_pos HF.out]
            exact bodyPost_ret (v := ptV ⟨5, false, [], 0, (m : Int) + 1⟩ (.slice none 0 0)) (by simp [results, Try.results24, ptV, go_sem]) rfl ⟨_, rfl, ownI_nil _ _, below_two _ _ _⟩
          by_cases hhi : 126 < (x.toNat : Int)
          · have HF := Lib.hid (finl_hi hhi)
            go_wp2_with (go_at_call 45; refine (l2Digit_any _ _).mono ?_; rintro e w' ⟨rfl, rfl⟩)
            rw [HR.out, if_pos HF.out]
            exact bodyPost_ret (v := ptV ⟨5, false, [], 0, (m : Int) + 1⟩ (.slice none 0 0)) (by simp [results, Try.results24, ptV, go_sem]) rfl ⟨_, rfl, ownI_nil _ _, below_two _ _ _⟩
          have HF := Lib.hid (finl_in hlo hhi)
          go_wp2_with (go_at_call 45; refine (l2Digit_any _ _).mono ?_; rintro e w' ⟨rfl, rfl⟩)
          have hct := (HA.out (.cells #[.int .i64 0, .bool false, .slice none 0 0, .int .u8 0, .int .i64 0] 34) (.cells #[.int .i64 0, .bool false, .slice none 0 0, .int .u8 0, .int .i64 ((m : Int) + 1)] 34)).cut 0 m c hm hc
          rw [if_neg (by omega), map_add_zero] at hct
          have HCT := Lib.hid (show Bs _ _ (some ⟨b, off, none⟩) ((l.take m).drop 0) from hct)
          clear hct
          refine (l2Numbers_len _ _ _ ((l.take m).drop 0) _ (by simp; omega) HCT.out HBD.out (by omega) (by simp; omega)).mono ?_
          rintro e w1 ⟨v, rfl, ho, hb1⟩
          obtain ⟨hcc, hff⟩ := bcellI hb1
          have hz1 : w.heap.size + 1 < w1.heap.size := by have := hb1.size; simp at this; omega
          have hcE1 : w1.cell? ⟨b, off + m, none⟩ = some (.int .u8 (x.toNat : Int)) := (hcc b _ (by simp; omega)).trans ((World.cell?_alloc_lt _ _ ⟨b, off + m, none⟩ (by simp; omega)).trans ((World.cell?_alloc_lt w _ ⟨b, off + m, none⟩ hb).trans hcm))
          have hq : ∀ i, w1.cell? ⟨w.heap.size, i, none⟩ = (w.alloc (.cells #[.int .i64 0, .bool false, .slice none 0 0, .int .u8 0, .int .i64 0] 34)).cell? ⟨w.heap.size, i, none⟩ := fun i => (hcc w.heap.size i (by simp; omega)).trans (World.cell?_alloc_lt _ _ ⟨w.heap.size, i, none⟩ (by simp))
          have HFL := Lib.hid (fits_len ((l.take m).drop 0))
          obtain ⟨pv, cv, hv⟩ := ho.form
          subst hv
          by_cases hft : (numsOf ((l.take m).drop 0)).length ≤ 4
          · have hft' : ¬ (4 : Int) < ((numsOf ((l.take m).drop 0)).length : Int) := by omega
            have HFT := Lib.hid (show fits ((l.take m).drop 0) = true by rw [HFL.out]; simpa using hft)
            generalize hnl : (numsOf ((l.take m).drop 0)).length = nl at *
            go_wp2
            rw [HR.out, if_neg (by rw [HF.out]; simp), if_neg (by rw [HFT.out]; simp)]
            exact bodyPost_ret (v := ptV ⟨0, false, numsOf ((l.take m).drop 0), (x.toNat : Int), (m : Int) + 1⟩ (.slice pv nl cv)) (by simp [results, Try.results24, ptV, go_sem, hq]) rfl (pt_end2 (.inl ho) hb1)
          · have hft' : (4 : Int) < ((numsOf ((l.take m).drop 0)).length : Int) := by omega
            have HFT := Lib.hid (show fits ((l.take m).drop 0) = false by rw [HFL.out]; simpa using hft)
            generalize hnl : (numsOf ((l.take m).drop 0)).length = nl at *
            go_wp2
            rw [HR.out, if_neg (by rw [HF.out]; simp), if_pos HFT.out]
            exact bodyPost_ret (v := ptV ⟨2, false, [], 0, (m : Int) + 1⟩ (.slice none 0 0)) (by simp [results, Try.results24, ptV, go_sem, hq]) rfl (pt_end2 (.inr ⟨rfl, rfl⟩) hb1)
    · obtain rfl : m = l.length := by omega
      have HR := Lib.hid (ptAt_m (at_stop hs hm HT.out (.inl rfl)))
      go_wp2
      rw [HR.out, if_pos trivial]
      exact bodyPost_ret (v := ptV ⟨6, false, [], 0, 0⟩ (.slice none 0 0)) (by simp [results, Try.results24, ptV, go_sem]) rfl ⟨_, rfl, ownI_nil _ _, below_two _ _ _⟩

set_option maxRecDepth 100000 in
set_option maxHeartbeats 4000000 in
theorem specPartsOf_1 (p : Option Addr) (c : Nat) (l : List UInt8) (w : World) (h : Bs w w.heap.size p l) (hc : l.length ≤ c) (hl : l.length ≤ 1048576) (he : l ≠ []) (h60 : (l.getD 0 0 == 60) = true) :
    Calls Try.prog 24 #[.slice p l.length c] w (NewPt w (ptAt l 1)) := by
  have HA := Lib.hid (fun o1 o2 => (h.alloc o1).alloc o2)
  have hpos : 0 < l.length := List.length_pos_iff.2 he
  obtain ⟨b, off, rfl, hb, hcell⟩ := h he
  have hc0 := hcell 0 hpos
  rw [Nat.add_zero] at hc0
  have h60' : (((l.getD 0 0).toNat : Int) == 60) = true := by rw [u8_eq60]; exact h60
  have HC := Lib.hid hcell
  clear h60 he h hcell
  generalize l.getD 0 0 = x0 at *
  go_enter Try.func24, Try.ntmps24
  go_wp2
  go_loop [4] (fun v => AtRel l 1 v) (fun v => l.length - (intOf v).toNat)
  case atStart => exact ⟨1, Nat.le_refl _, by omega, rfl, fun j h1 h2 => by omega⟩
  case round =>
    obtain ⟨m, hs, hm, rfl, ht⟩ := hrel
    have HT := Lib.hid ht
    clear ht
    by_cases hlt : m < l.length
    · have hcm := HC.out m hlt
      have HNX : Hid (bod (l.getD m 0) = true → AtRel l 1 (.int .i64 ((m : Int) + 1))) := fun hbm => ⟨m + 1, by omega, by omega, by go_num, fun j h1 h2 => by
        rcases Nat.lt_or_ge j m with h3 | h3
        · exact HT.out j h1 h3
        · obtain rfl : j = m := by omega
          exact hbm⟩
      have HST := Lib.hid (fun h => ptAt_m (at_stop hs hm HT.out (.inr h)))
      have HBD := Lib.hid (at_body hm HT.out)
      have hmn : ((m : Int) == (l.length : Int)) = false := by simp; omega
      generalize l.getD m 0 = x at *
      cases hd : dgt x with
      | true =>
        have HD := Lib.hid hd
        go_wp2_with (go_at_call 45; refine (l2Digit_any _ _).mono ?_; rintro e w' ⟨rfl, rfl⟩)
        exact ⟨HNX.out (by simp [bod, HD.out]), by simp [intOf]; omega⟩
      | false =>
        have HD := Lib.hid hd
        have h59 := u8_eq59 x
        cases hx : (x == 59) with
        | true =>
          have h59' : ((x.toNat : Int) == 59) = true := by rw [h59, hx]
          have HX := Lib.hid hx
          clear h59 hx
          go_wp2_with (go_at_call 45; refine (l2Digit_any _ _).mono ?_; rintro e w' ⟨rfl, rfl⟩)
          exact ⟨HNX.out (by simp [bod, HX.out]), by simp [intOf]; omega⟩
        | false =>
          have h59' : ((x.toNat : Int) == 59) = false := by rw [h59, hx]
          have hbx : bod x = false := by simp [bod, hd, hx]
          have HR := Lib.hid (HST.out hbx)
          clear h59 hx hbx HST HNX
          rw [if_neg (by omega)] at HR
          by_cases hlo : (x.toNat : Int) < 64
          · have HF := Lib.hid (finl_lo hlo)
            go_wp2_with (go_at_call 45; refine (l2Digit_any _ _).mono ?_; rintro e w' ⟨rfl, rfl⟩)
            rw [HR.out, if_pos HF.out]
            exact bodyPost_ret (v := ptV ⟨5, false, [], 0, (m : Int) + 1⟩ (.slice none 0 0)) (by simp [results, Try.results24, ptV, go_sem]) rfl ⟨_, rfl, ownI_nil _ _, below_two _ _ _⟩
          by_cases hhi : 126 < (x.toNat : Int)
          · have HF := Lib.hid (finl_hi hhi)
            go_wp2_with (go_at_call 45; refine (l2Digit_any _ _).mono ?_; rintro e w' ⟨rfl, rfl⟩)
            rw [HR.out, if_pos HF.out]
            exact bodyPost_ret (v := ptV ⟨5, false, [], 0, (m : Int) + 1⟩ (.slice none 0 0)) (by simp [results, Try.results24, ptV, go_sem]) rfl ⟨_, rfl, ownI_nil _ _, below_two _ _ _⟩
          have HF := Lib.hid (finl_in hlo hhi)
          go_wp2_with (go_at_call 45; refine (l2Digit_any _ _).mono ?_; rintro e w' ⟨rfl, rfl⟩)
          have hct := (HA.out (.cells #[.int .i64 0, .bool false, .slice none 0 0, .int .u8 0, .int .i64 0] 34) (.cells #[.int .i64 0, .bool true, .slice none 0 0, .int .u8 0, .int .i64 ((m : Int) + 1)] 34)).cut 1 m c hm hc
          rw [if_neg (by omega)] at hct
          have HCT := Lib.hid (show Bs _ _ (some ⟨b, off + 1, none⟩) ((l.take m).drop 1) from hct)
          clear hct
          refine (l2Numbers_len _ _ _ ((l.take m).drop 1) _ (by simp; omega) HCT.out HBD.out (by omega) (by simp; omega)).mono ?_
          rintro e w1 ⟨v, rfl, ho, hb1⟩
          obtain ⟨hcc, hff⟩ := bcellI hb1
          have hz1 : w.heap.size + 1 < w1.heap.size := by have := hb1.size; simp at this; omega
          have hcE1 : w1.cell? ⟨b, off + m, none⟩ = some (.int .u8 (x.toNat : Int)) := (hcc b _ (by simp; omega)).trans ((World.cell?_alloc_lt _ _ ⟨b, off + m, none⟩ (by simp; omega)).trans ((World.cell?_alloc_lt w _ ⟨b, off + m, none⟩ hb).trans hcm))
          have hq : ∀ i, w1.cell? ⟨w.heap.size, i, none⟩ = (w.alloc (.cells #[.int .i64 0, .bool false, .slice none 0 0, .int .u8 0, .int .i64 0] 34)).cell? ⟨w.heap.size, i, none⟩ := fun i => (hcc w.heap.size i (by simp; omega)).trans (World.cell?_alloc_lt _ _ ⟨w.heap.size, i, none⟩ (by simp))
          have HFL := Lib.hid (fits_len ((l.take m).drop 1))
          obtain ⟨pv, cv, hv⟩ := ho.form
          subst hv
          by_cases hft : (numsOf ((l.take m).drop 1)).length ≤ 4
          · have hft' : ¬ (4 : Int) < ((numsOf ((l.take m).drop 1)).length : Int) := by omega
            have HFT := Lib.hid (show fits ((l.take m).drop 1) = true by rw [HFL.out]; simpa using hft)
            generalize hnl : (numsOf ((l.take m).drop 1)).length = nl at *
            go_wp2
            rw [HR.out, if_neg (by rw [HF.out]; simp), if_neg (by rw [HFT.out]; simp)]
            exact bodyPost_ret (v := ptV ⟨0, true, numsOf ((l.take m).drop 1), (x.toNat : Int), (m : Int) + 1⟩ (.slice pv nl cv)) (by simp [results, Try.results24, ptV, go_sem, hq]) rfl (pt_end2 (.inl ho) hb1)
          · have hft' : (4 : Int) < ((numsOf ((l.take m).drop 1)).length : Int) := by omega
            have HFT := Lib.hid (show fits ((l.take m).drop 1) = false by rw [HFL.out]; simpa using hft)
            generalize hnl : (numsOf ((l.take m).drop 1)).length = nl at *
            go_wp2
            rw [HR.out, if_neg (by rw [HF.out]; simp), if_pos HFT.out]
            exact bodyPost_ret (v := ptV ⟨2, false, [], 0, (m : Int) + 1⟩ (.slice none 0 0)) (by simp [results, Try.results24, ptV, go_sem, hq]) rfl (pt_end2 (.inr ⟨rfl, rfl⟩) hb1)
    · obtain rfl : m = l.length := by omega
      have HR := Lib.hid (ptAt_m (at_stop hs hm HT.out (.inl rfl)))
      go_wp2
      rw [HR.out, if_pos trivial]
      exact bodyPost_ret (v := ptV ⟨6, false, [], 0, 0⟩ (.slice none 0 0)) (by simp [results, Try.results24, ptV, go_sem]) rfl ⟨_, rfl, ownI_nil _ _, below_two _ _ _⟩

theorem specPartsOf_any (p : Option Addr) (c : Nat) (l : List UInt8) (w : World) (h : Bs w w.heap.size p l) (hc : l.length ≤ c) (hl : l.length ≤ 1048576) :
    Calls Try.prog 24 #[.slice p l.length c] w (NewPt w (ptOf l)) := by
  by_cases he : l = []
  · subst he
    exact specPartsOf_e p c w
  unfold ptOf
  split
  · exact specPartsOf_1 p c l w h hc hl he (by assumption)
  · exact specPartsOf_0 p c l w h hc hl he (by simp_all)

end Go.Proofs.Ytnmnklilmcpkaaa
