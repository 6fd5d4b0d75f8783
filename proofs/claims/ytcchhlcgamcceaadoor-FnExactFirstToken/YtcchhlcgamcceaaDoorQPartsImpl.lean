/- The parts of a control sequence as data; the contract of the program's PartsOf. -/
import Derived.Test.YtcchhlcgamcceaaDoorQL2Numbers
namespace Go.Proofs.YtcchhlcgamcceaaDoor
open Go.RowKit

/-- a PartsResult as data -/
structure Pt where
  code : Int
  priv : Bool
  nums : List Int
  fin : Int
  size : Int
def ptV (r : Pt) (v : Value) : Value := .agg #[.int .i64 r.code, .bool r.priv, v, .int .u8 r.fin, .int .i64 r.size]
/-- what a call leaves that hands back a PartsResult -/
def NewPt (w : World) (r : Pt) (e : Ending) (w' : World) : Prop := ∃ v, e = .returned (ptV r v) ∧ OwnI w' w.heap.size v r.nums ∧ Below w.heap.size w w'

/-- the parts of l, the body beginning at place s -/
def ptAt (l : List UInt8) (s : Nat) : Pt :=
  if s + bsz (l.drop s) = l.length then ⟨6, false, [], 0, 0⟩
  else if finl (l.getD (s + bsz (l.drop s)) 0) = false then ⟨5, false, [], 0, (s + bsz (l.drop s) : Nat) + 1⟩
  else if fits ((l.take (s + bsz (l.drop s))).drop s) = false then ⟨2, false, [], 0, (s + bsz (l.drop s) : Nat) + 1⟩
  else ⟨0, decide (s = 1), numsOf ((l.take (s + bsz (l.drop s))).drop s), ((l.getD (s + bsz (l.drop s)) 0).toNat : Int), (s + bsz (l.drop s) : Nat) + 1⟩
def ptOf (l : List UInt8) : Pt := if (l.getD 0 0 == 60) = true then ptAt l 1 else ptAt l 0

theorem ptAt_full {l : List UInt8} {s : Nat} (h : s + bsz (l.drop s) = l.length) : ptAt l s = ⟨6, false, [], 0, 0⟩ := by unfold ptAt; rw [if_pos h]
theorem ptAt_text {l : List UInt8} {s : Nat} (h : ¬ s + bsz (l.drop s) = l.length) (h2 : finl (l.getD (s + bsz (l.drop s)) 0) = false) : ptAt l s = ⟨5, false, [], 0, (s + bsz (l.drop s) : Nat) + 1⟩ := by unfold ptAt; rw [if_neg h, if_pos h2]
theorem ptAt_many {l : List UInt8} {s : Nat} (h : ¬ s + bsz (l.drop s) = l.length) (h2 : finl (l.getD (s + bsz (l.drop s)) 0) = true) (h3 : fits ((l.take (s + bsz (l.drop s))).drop s) = false) : ptAt l s = ⟨2, false, [], 0, (s + bsz (l.drop s) : Nat) + 1⟩ := by
  unfold ptAt; rw [if_neg h, if_neg (by rw [h2]; simp), if_pos h3]
theorem ptAt_ok {l : List UInt8} {s : Nat} (h : ¬ s + bsz (l.drop s) = l.length) (h2 : finl (l.getD (s + bsz (l.drop s)) 0) = true) (h3 : fits ((l.take (s + bsz (l.drop s))).drop s) = true) :
    ptAt l s = ⟨0, decide (s = 1), numsOf ((l.take (s + bsz (l.drop s))).drop s), ((l.getD (s + bsz (l.drop s)) 0).toNat : Int), (s + bsz (l.drop s) : Nat) + 1⟩ := by
  unfold ptAt; rw [if_neg h, if_neg (by rw [h2]; simp), if_neg (by rw [h3]; simp)]

theorem bodySize_len (p : Option Addr) (c n : Nat) (l : List UInt8) (w : World) {B : Nat} (hn : n = l.length) (h : Bs w B p l) (hl : l.length ≤ 1048576) :
    Calls Tryd.prog 76 #[.slice p n c] w fun e w' => e = .returned (.int .i64 (bsz l)) ∧ w = w' := by
  subst hn
  exact bodySize_any p c l w h hl
theorem bodySize_k (p : Option Addr) (c n : Nat) (l : List UInt8) (k : Nat) (w : World) {B : Nat} (hk : bsz l = k) (hn : n = l.length) (h : Bs w B p l) (hl : l.length ≤ 1048576) :
    Calls Tryd.prog 76 #[.slice p n c] w fun e w' => e = .returned (.int .i64 k) ∧ w = w' := by
  subst hk
  exact bodySize_len p c n l w hn h hl
theorem bodySize_nil (p : Option Addr) (c : Nat) (w : World) :
    Calls Tryd.prog 76 #[.slice p 0 c] w fun e w' => e = .returned (.int .i64 0) ∧ w = w' := bodySize_any p c [] w (B := 0) (fun h => absurd rfl h) (by simp)
theorem numbersOf_len (p : Option Addr) (c n : Nat) (l : List UInt8) (w : World) (hn : n = l.length) (h : Bs w w.heap.size p l) (hc : n ≤ c) (hl : l.length ≤ 1048576) :
    Calls Tryd.prog 78 #[.slice p n c] w (NumbersPost w l) := by
  subst hn
  exact numbersOf_any p c l w h hc hl

theorem u8_eq60 (x : UInt8) : ((x.toNat : Int) == 60) = (x == 60) := by
  rw [Bool.eq_iff_iff]
  simp [← UInt8.toNat_inj]
  omega

theorem OwnI.setBelow {w : World} {base : Nat} {v : Value} {l : List Int} (h : OwnI w base v l) {a : Addr} (ha : a.block < base) (u : Value) : OwnI (w.setCell a u) base v l := ownsRow_setCell_below h ha u
theorem OwnI.lower {w : World} {base base' : Nat} {v : Value} {l : List Int} (h : OwnI w base v l) (hb : base' ≤ base) : OwnI w base' v l := by
  refine ⟨h.1, ?_⟩
  rcases h.2 with h' | ⟨g, cap, cur, e, hg, r⟩
  · exact .inl h'
  · exact .inr ⟨g, cap, cur, e, by omega, r⟩
theorem ownI_nil (w : World) (base : Nat) : OwnI w base (.slice none 0 0) [] := World.ownsRow_nil w _ _ _

theorem fits_eq (l : List UInt8) : fits l = true ∨ fits l = false := by cases fits l <;> simp

theorem bsz_drop (l : List UInt8) (s : Nat) (hs : s ≤ l.length) : s + bsz (l.drop s) ≤ l.length := by
  have := bsz_le (l.drop s)
  simp at this
  omega

/-- the result's cells written behind the callee's own memory -/
theorem pt_end {w w1 : World} {o : Obj} {r : Pt} {v u0 u1 u2 u3 u4 : Value} (ho : OwnI w1 (w.alloc o).heap.size v r.nums) (hb : Below (w.alloc o).heap.size (w.alloc o) w1) :
    NewPt w r (.returned (ptV r v)) (((((w1.setCell ⟨w.heap.size, 0, none⟩ u0).setCell ⟨w.heap.size, 1, none⟩ u1).setCell ⟨w.heap.size, 2, none⟩ u2).setCell ⟨w.heap.size, 3, none⟩ u3).setCell ⟨w.heap.size, 4, none⟩ u4) := by
  have hz : w.heap.size < (w.alloc o).heap.size := by simp
  refine ⟨v, rfl, ?_, ?_⟩
  · exact (((((ho.setBelow (a := ⟨w.heap.size, 0, none⟩) hz u0).setBelow (a := ⟨w.heap.size, 1, none⟩) hz u1).setBelow (a := ⟨w.heap.size, 2, none⟩) hz u2).setBelow (a := ⟨w.heap.size, 3, none⟩) hz u3).setBelow (a := ⟨w.heap.size, 4, none⟩) hz u4).lower (by simp)
  · exact (((((below_on (below_mk w o) hb).setCell (Nat.le_refl _) _).setCell (Nat.le_refl _) _).setCell (Nat.le_refl _) _).setCell (Nat.le_refl _) _).setCell (Nat.le_refl _) _

set_option maxRecDepth 100000 in
set_option maxHeartbeats 2000000 in
theorem implPartsOf_0 (p : Option Addr) (c : Nat) (l : List UInt8) (w : World) (h : Bs w w.heap.size p l) (hc : l.length ≤ c) (hl : l.length ≤ 1048576) (h60 : (l.getD 0 0 == 60) = false) :
    Calls Tryd.prog 66 #[.slice p l.length c] w (NewPt w (ptAt l 0)) := by
  have HA := Lib.hid (h.alloc (.cells #[.int .i64 0, .bool false, .slice none 0 0, .int .u8 0, .int .i64 0] 60))
  by_cases he : l = []
  · subst he
    clear h60
    show Calls Tryd.prog 66 #[.slice p 0 c] w (NewPt w _)
    go_enter Tryd.func66, Tryd.ntmps66
    go_wp2_with (go_at_call 76; refine (bodySize_nil _ _ _).mono ?_; rintro e w' ⟨rfl, rfl⟩)
    exact bodyPost_ret (v := ptV ⟨6, false, [], 0, 0⟩ (.slice none 0 0)) (by simp [results, Tryd.results66, ptV, go_sem]) rfl ⟨_, rfl, ownI_nil _ _, below_mk _ _⟩
  have hpos : 0 < l.length := List.length_pos_iff.2 he
  obtain ⟨b, off, rfl, hb, hcell⟩ := h he
  have hc0 := hcell 0 hpos
  rw [Nat.add_zero] at hc0
  have hm := bsz_drop l 0 (by omega)
  have HF := Lib.hid (ptAt_full (l := l) (s := 0))
  have HT := Lib.hid (ptAt_text (l := l) (s := 0))
  have HM := Lib.hid (ptAt_many (l := l) (s := 0))
  have HK := Lib.hid (ptAt_ok (l := l) (s := 0))
  rw [Nat.zero_add, List.drop_zero] at hm HF HT HM HK
  have hct := HA.out.cut 0 (bsz l) c hm hc
  rw [if_neg (by omega), map_add_zero] at hct
  have HCT := Lib.hid hct
  clear hct
  have h60' : (((l.getD 0 0).toNat : Int) == 60) = false := by rw [u8_eq60]; exact h60
  have HE := Lib.hid he
  clear h60 he
  generalize l.getD 0 0 = x0 at *
  by_cases hend : bsz l = l.length
  · have hend' : ((bsz l : Int) == (l.length : Int)) = true := by simp [hend]
    have HEND := Lib.hid hend
    clear hend hcell
    go_enter Tryd.func66, Tryd.ntmps66
    go_wp2_with (go_at_call 76; refine (bodySize_len _ _ _ l _ rfl HA.out hl).mono ?_; rintro e w' ⟨rfl, rfl⟩)
    rw [HF.out HEND.out]
    exact bodyPost_ret (v := ptV ⟨6, false, [], 0, 0⟩ (.slice none 0 0)) (by simp [results, Tryd.results66, ptV, go_sem]) rfl ⟨_, rfl, ownI_nil _ _, below_mk _ _⟩
  · have hend' : ((bsz l : Int) == (l.length : Int)) = false := by simp; omega
    have hlt : bsz l < l.length := by omega
    have hcE := hcell (bsz l) hlt
    have HEND := Lib.hid hend
    have HT1 := Lib.hid (HT.out hend)
    have HM1 := Lib.hid (HM.out hend)
    have HK1 := Lib.hid (HK.out hend)
    clear hend hcell
    generalize l.getD (bsz l) 0 = xe at *
    cases hfn : finl xe with
    | false =>
      have HR := Lib.hid (HT1.out hfn)
      go_enter Tryd.func66, Tryd.ntmps66
      go_wp2_with (first | (go_at_call 76; refine (bodySize_len _ _ _ l _ rfl HA.out hl).mono ?_; rintro e w' ⟨rfl, rfl⟩) | (go_at_call 77; refine (implIsFinal_any _ _).mono ?_; rintro e w' ⟨rfl, rfl⟩))
      rw [HR.out]
      exact bodyPost_ret (v := ptV ⟨5, false, [], 0, (bsz l : Int) + 1⟩ (.slice none 0 0)) (by simp [results, Tryd.results66, ptV, go_sem]) rfl ⟨_, rfl, ownI_nil _ _, below_mk _ _⟩
    | true =>
      have HM2 := Lib.hid (HM1.out hfn)
      have HK2 := Lib.hid (HK1.out hfn)
      go_enter Tryd.func66, Tryd.ntmps66
      go_wp2_with (first | (go_at_call 76; refine (bodySize_len _ _ _ l _ rfl HA.out hl).mono ?_; rintro e w' ⟨rfl, rfl⟩) | (go_at_call 77; refine (implIsFinal_any _ _).mono ?_; rintro e w' ⟨rfl, rfl⟩))
      refine (numbersOf_len _ _ _ ((l.take (bsz l)).drop 0) _ (by simp; omega) (HCT.out) (by omega) (by simp; omega)).mono ?_
      rintro e w1 ⟨v, rfl, ho, hb1⟩
      obtain ⟨hcc, hff⟩ := bcellI hb1
      have hz1 : w.heap.size < w1.heap.size := by have := hb1.size; simp at this; omega
      have hcE1 : w1.cell? ⟨b, off + bsz l, none⟩ = some (.int .u8 (xe.toNat : Int)) := (hcc b _ (by simp; omega)).trans ((World.cell?_alloc_lt w _ ⟨b, off + bsz l, none⟩ hb).trans hcE)
      cases hft : fits ((l.take (bsz l)).drop 0) with
      | false =>
        have HR := Lib.hid (HM2.out hft)
        go_wp2
        rw [HR.out]
        exact bodyPost_ret (v := ptV ⟨2, false, [], 0, (bsz l : Int) + 1⟩ (.slice none 0 0)) (by simp [results, Tryd.results66, ptV, go_sem, hcc]) rfl (pt_end (ownI_nil _ _) hb1)
      | true =>
        have HR := Lib.hid (HK2.out hft)
        rw [hft, if_pos rfl] at ho
        obtain ⟨pv, cv, hv⟩ := ho.form
        subst hv
        go_wp2
        rw [HR.out]
        exact bodyPost_ret (v := ptV ⟨0, false, numsOf ((l.take (bsz l)).drop 0), (xe.toNat : Int), (bsz l : Int) + 1⟩ (.slice pv (numsOf ((l.take (bsz l)).drop 0)).length cv)) (by simp [results, Tryd.results66, ptV, go_sem, hcc]) rfl (pt_end ho hb1)

set_option maxRecDepth 100000 in
set_option maxHeartbeats 2000000 in
theorem implPartsOf_1 (p : Option Addr) (c : Nat) (l : List UInt8) (w : World) (h : Bs w w.heap.size p l) (hc : l.length ≤ c) (hl : l.length ≤ 1048576) (h60 : (l.getD 0 0 == 60) = true) :
    Calls Tryd.prog 66 #[.slice p l.length c] w (NewPt w (ptAt l 1)) := by
  have HA := Lib.hid (h.alloc (.cells #[.int .i64 0, .bool false, .slice none 0 0, .int .u8 0, .int .i64 0] 60))
  have he : l ≠ [] := by rintro rfl; simp at h60
  have hpos : 0 < l.length := List.length_pos_iff.2 he
  obtain ⟨b, off, rfl, hb, hcell⟩ := h he
  have hc0 := hcell 0 hpos
  rw [Nat.add_zero] at hc0
  have h60' : (((l.getD 0 0).toNat : Int) == 60) = true := by rw [u8_eq60]; exact h60
  have hm := bsz_drop l 1 hpos
  have HF := Lib.hid (ptAt_full (l := l) (s := 1))
  have HT := Lib.hid (ptAt_text (l := l) (s := 1))
  have HM := Lib.hid (ptAt_many (l := l) (s := 1))
  have HK := Lib.hid (ptAt_ok (l := l) (s := 1))
  clear h60 he
  generalize l.getD 0 0 = x0 at *
  by_cases hc1 : c = 1
  · subst hc1
    have hl1 : l.length = 1 := by omega
    have hb0 : bsz (l.drop 1) = 0 := by rw [List.drop_eq_nil_of_le (by omega)]; rfl
    have HR := Lib.hid (HF.out (by rw [hb0, hl1]))
    rw [hl1]
    clear hl1 hb0 hcell hm hc hpos hl
    go_enter Tryd.func66, Tryd.ntmps66
    go_wp2_with (go_at_call 76; refine (bodySize_nil _ _ _).mono ?_; rintro e w' ⟨rfl, rfl⟩)
    rw [HR.out]
    exact bodyPost_ret (v := ptV ⟨6, false, [], 0, 0⟩ (.slice none 0 0)) (by simp [results, Tryd.results66, ptV, go_sem]) rfl ⟨_, rfl, ownI_nil _ _, below_mk _ _⟩
  have hdr := HA.out.cut 1 l.length c (Nat.le_refl _) hc
  rw [if_neg hc1, List.take_length] at hdr
  have hct := HA.out.cut 1 (1 + bsz (l.drop 1)) c hm hc
  rw [if_neg hc1] at hct
  have HDR := Lib.hid (show Bs _ _ (some ⟨b, off + 1, none⟩) (l.drop 1) from hdr)
  have HCT := Lib.hid (show Bs _ _ (some ⟨b, off + 1, none⟩) ((l.take (1 + bsz (l.drop 1))).drop 1) from hct)
  clear hdr hct
  generalize hkk : bsz (l.drop 1) = k at *
  have HKK := Lib.hid hkk
  clear hkk
  by_cases hend : 1 + k = l.length
  · have hend' : ((1 : Int) + (k : Int) == (l.length : Int)) = true := by simp; omega
    have HR := Lib.hid (HF.out hend)
    clear hend hcell
    go_enter Tryd.func66, Tryd.ntmps66
    go_wp2_with (go_at_call 76; refine (bodySize_k _ _ _ (l.drop 1) k _ HKK.out (by simp) HDR.out (by simp; omega)).mono ?_; rintro e w' ⟨rfl, rfl⟩)
    rw [HR.out]
    exact bodyPost_ret (v := ptV ⟨6, false, [], 0, 0⟩ (.slice none 0 0)) (by simp [results, Tryd.results66, ptV, go_sem]) rfl ⟨_, rfl, ownI_nil _ _, below_mk _ _⟩
  · have hend' : ((1 : Int) + (k : Int) == (l.length : Int)) = false := by simp; omega
    have hlt : 1 + k < l.length := by omega
    have hcE := hcell (1 + k) hlt
    have HT1 := Lib.hid (HT.out hend)
    have HM1 := Lib.hid (HM.out hend)
    have HK1 := Lib.hid (HK.out hend)
    clear hend hcell
    generalize l.getD (1 + k) 0 = xe at *
    cases hfn : finl xe with
    | false =>
      have HR := Lib.hid (HT1.out hfn)
      go_enter Tryd.func66, Tryd.ntmps66
      go_wp2_with (first | (go_at_call 76; refine (bodySize_k _ _ _ (l.drop 1) k _ HKK.out (by simp) HDR.out (by simp; omega)).mono ?_; rintro e w' ⟨rfl, rfl⟩) | (go_at_call 77; refine (implIsFinal_any _ _).mono ?_; rintro e w' ⟨rfl, rfl⟩))
      rw [HR.out, show ((1 + k : Nat) : Int) + 1 = 1 + (k : Int) + 1 by omega]
      exact bodyPost_ret (v := ptV ⟨5, false, [], 0, 1 + (k : Int) + 1⟩ (.slice none 0 0)) (by simp [results, Tryd.results66, ptV, go_sem]) rfl ⟨_, rfl, ownI_nil _ _, below_mk _ _⟩
    | true =>
      have HM2 := Lib.hid (HM1.out hfn)
      have HK2 := Lib.hid (HK1.out hfn)
      go_enter Tryd.func66, Tryd.ntmps66
      go_wp2_with (first | (go_at_call 76; refine (bodySize_k _ _ _ (l.drop 1) k _ HKK.out (by simp) HDR.out (by simp; omega)).mono ?_; rintro e w' ⟨rfl, rfl⟩) | (go_at_call 77; refine (implIsFinal_any _ _).mono ?_; rintro e w' ⟨rfl, rfl⟩))
      refine (numbersOf_len _ _ _ ((l.take (1 + k)).drop 1) _ (by simp; omega) (HCT.out) (by omega) (by simp; omega)).mono ?_
      rintro e w1 ⟨v, rfl, ho, hb1⟩
      obtain ⟨hcc, hff⟩ := bcellI hb1
      have hz1 : w.heap.size < w1.heap.size := by have := hb1.size; simp at this; omega
      have hcE1 : w1.cell? ⟨b, off + (1 + k), none⟩ = some (.int .u8 (xe.toNat : Int)) := (hcc b _ (by simp; omega)).trans ((World.cell?_alloc_lt w _ ⟨b, off + (1 + k), none⟩ hb).trans hcE)
      cases hft : fits ((l.take (1 + k)).drop 1) with
      | false =>
        have HR := Lib.hid (HM2.out hft)
        go_wp2
        rw [HR.out, show ((1 + k : Nat) : Int) + 1 = 1 + (k : Int) + 1 by omega]
        exact bodyPost_ret (v := ptV ⟨2, false, [], 0, 1 + (k : Int) + 1⟩ (.slice none 0 0)) (by simp [results, Tryd.results66, ptV, go_sem, hcc]) rfl (pt_end (ownI_nil _ _) hb1)
      | true =>
        have HR := Lib.hid (HK2.out hft)
        rw [hft, if_pos rfl] at ho
        obtain ⟨pv, cv, hv⟩ := ho.form
        subst hv
        go_wp2
        rw [HR.out, show ((1 + k : Nat) : Int) + 1 = 1 + (k : Int) + 1 by omega]
        exact bodyPost_ret (v := ptV ⟨0, true, numsOf ((l.take (1 + k)).drop 1), (xe.toNat : Int), 1 + (k : Int) + 1⟩ (.slice pv (numsOf ((l.take (1 + k)).drop 1)).length cv)) (by simp [results, Tryd.results66, ptV, go_sem, hcc]) rfl (pt_end ho hb1)

theorem implPartsOf_any (p : Option Addr) (c : Nat) (l : List UInt8) (w : World) (h : Bs w w.heap.size p l) (hc : l.length ≤ c) (hl : l.length ≤ 1048576) :
    Calls Tryd.prog 66 #[.slice p l.length c] w (NewPt w (ptOf l)) := by
  unfold ptOf
  split
  · exact implPartsOf_1 p c l w h hc hl (by assumption)
  · exact implPartsOf_0 p c l w h hc hl (by simp_all)

theorem ptAt_small (l : List UInt8) (s : Nat) : (ptAt l s).nums.length ≤ 4 := by
  unfold ptAt
  split
  · simp
  split
  · simp
  split
  · simp
  · rename_i h
    have : (pieces ((l.take (s + bsz (l.drop s))).drop s)).length ≤ 4 := by
      simpa [fits] using h
    simpa [numsOf] using this
theorem ptOf_small (l : List UInt8) : (ptOf l).nums.length ≤ 4 := by
  unfold ptOf
  split <;> exact ptAt_small _ _

end Go.Proofs.YtcchhlcgamcceaaDoor
