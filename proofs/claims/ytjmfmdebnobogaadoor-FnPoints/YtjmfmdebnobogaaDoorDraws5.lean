/- DrawSameBytes. -/
import Derived.Test.YtjmfmdebnobogaaDoorDraws4
import Derived.Laws.BitsAllLaws
namespace Go.Proofs.YtjmfmdebnobogaaDoor
open Go.RowKit

/-- what a draw of two slices of bytes leaves -/
def TwoBytes (w : World) (e : Ending) (w' : World) : Prop :=
  ∃ p c a q d b, e = .returned (.tuple #[.slice p (List.length a) c, .slice q (List.length b) d]) ∧ a.length ≤ 9 ∧ b.length = a.length ∧ Bs w' w'.heap.size p a ∧ Bs w' w'.heap.size q b ∧ Below w.heap.size w w'

/-- an owned slice that is not nil: where it lies -/
theorem Own.at {w : World} {base : Nat} {v : Value} {l : List UInt8} (h : Own w base v l) (h0 : l ≠ []) :
    ∃ g cap, v = .slice (some ⟨g, 0, none⟩) l.length cap ∧ base ≤ g ∧ g < w.heap.size ∧ (∀ i, i < l.length → w.cell? ⟨g, i, none⟩ = some (.int .u8 ((l.getD i 0).toNat : Int))) ∧ ∀ o, w.frozen? ⟨g, o, none⟩ = false := by
  rcases h.form with ⟨_, e⟩ | ⟨g, cap, e, hb, hlt, _⟩
  · exact absurd e h0
  · refine ⟨g, cap, e, hb, hlt, ?_, ?_⟩
    · subst e
      obtain ⟨b, off, e, _, hc⟩ := h.bs.2 h0
      simp at e
      obtain ⟨rfl, rfl⟩ := e
      intro i hi
      simpa using hc i hi
    · intro o
      rcases h.2 with ⟨e', _⟩ | ⟨g', cap', cur, e', _, hh, _⟩
      · rw [e] at e'; simp at e'
      · rw [e] at e'
        simp at e'
        obtain ⟨rfl, -⟩ := e'
        simp [World.frozen?, hh]

theorem xor_byte (x : UInt8) : bits .xor .u8 (x.toNat : Int) 1 = ((UInt8.ofNat (x.toNat ^^^ 1)).toNat : Int) := by
  have h := x.toNat_lt
  have h2 : x.toNat ^^^ 1 < 256 := Nat.xor_lt_two_pow (n := 8) h (by decide)
  have e := u8_xor_nat x.toNat 1 h (by decide)
  rw [UInt8.toNat_ofNat', Nat.mod_eq_of_lt h2]
  exact e

/-- a byte of the slice is set -/
theorem Bs.set {w : World} {g i : Nat} {x : UInt8} {l : List UInt8} (hi : i < l.length) (hlt : g < w.heap.size) (hc : ∀ i, i < l.length → w.cell? ⟨g, i, none⟩ = some (.int .u8 ((l.getD i 0).toNat : Int))) :
    Bs (w.setCell ⟨g, i, none⟩ (.int .u8 (x.toNat : Int))) (w.setCell ⟨g, i, none⟩ (.int .u8 (x.toNat : Int))).heap.size (some ⟨g, 0, none⟩) (l.set i x) := by
  intro _
  refine ⟨g, 0, rfl, by simp [hlt], fun j hj => ?_⟩
  rw [List.length_set] at hj
  rw [Nat.zero_add]
  by_cases e : i = j
  · subst e
    rw [World.cell?_setCell_same _ _ _ (hc i hi)]
    simp [hi]
  · rw [World.cell?_setCell_other _ _ _ _ (by simp), hc j hj]
    simp [e]

set_option maxRecDepth 100000 in
set_option maxHeartbeats 400000 in
theorem drawSameBytes_any (q : Option Addr) (c : Nat) (l : List UInt8) (w : World) (h : Bs w w.heap.size q l) (hl : l.length ≤ 1048576) :
    Calls Tryd.prog 14 #[.slice q l.length c] w (TwoBytes w) := by
  have H := Lib.hid (l1Source_any q c l w h)
  clear h
  go_enter Tryd.func14, Tryd.ntmps14
  go_wp2_with fail
  refine H.out.mono ?_
  rintro e w1 ⟨rfl, hs1, hb1⟩
  have HS1 := Lib.hid hs1
  clear hs1
  go_wp2_with fail
  refine (l1Next_src _ q c 0 l 9 _ HS1.out hl (by omega) (by omega) (by omega)).mono ?_
  rintro e w2 ⟨v, rfl, ⟨hv0, hv1⟩, hs2, hg2⟩
  obtain ⟨k, rfl⟩ := Int.eq_ofNat_of_zero_le hv0
  have HS2 := Lib.hid hs2
  clear hs2
  go_wp2_with fail
  refine (l1Some_any _ q c 1 l k _ HS2.out hl (by omega)).mono ?_
  rintro e w3 ⟨va, a, rfl, hk, ho3, hs3, hg3⟩
  subst hk
  obtain ⟨pa, ca, rfl⟩ := ho3.slice
  have HS3 := Lib.hid hs3
  have HO3 := Lib.hid ho3
  clear hs3 ho3
  go_wp2_with fail
  refine (l1Copy_any _ _ a _ HO3.out.bs.2 (by omega)).mono ?_
  rintro e w4 ⟨vb, rfl, ho4, hb4⟩
  obtain ⟨pb, cb, rfl⟩ := ho4.slice
  have HS4 := Lib.hid (HS3.out.below hb4)
  have HO4 := Lib.hid ho4
  have HA4 := Lib.hid (HO3.out.on hb4)
  clear ho4
  have hb3 : Below w.heap.size w w3 := (hb1.grown hg2 hb1.size (by simp)).grown hg3 (Nat.le_trans hb1.size hg2.size) (by simp)
  have hb5 : Below w.heap.size w w4 := hb3.trans (hb4.mono hb3.size)
  have hlt : w.heap.size < w2.heap.size := HS2.out.choose_spec.2.2
  have hlt3 : w.heap.size < w3.heap.size := HS3.out.choose_spec.2.2
  by_cases h0 : a = []
  · subst h0
    go_wp2
    go_ret2
    exact ⟨pa, ca, [], pb, cb, [], rfl, by simp, rfl, HA4.out.bs.2, HO4.out.bs.2, hb5⟩
  have hp : 0 < a.length := List.length_pos_iff.mpr h0
  obtain ⟨g, cap, ev, hgb, hgl, hgc, hgf⟩ := HO4.out.at h0
  simp only [Value.slice.injEq] at ev
  obtain ⟨rfl, -, rfl⟩ := ev
  have HGC := Lib.hid hgc
  have HGF := Lib.hid hgf
  clear hgc hgf
  go_wp2_with fail
  refine (l1Chance_any _ q c _ l 2 _ HS4.out hl (by omega) (by omega) (by omega)).mono ?_
  rintro e w5 ⟨v, rfl, hs5, hg5⟩
  have HS5 := Lib.hid hs5
  have HA5 := Lib.hid (HA4.out.far hg5 (fun j hj => by have := (HA4.out.lt j hj).1; simp; omega))
  have HO5 := Lib.hid (HO4.out.far hg5 (fun j hj => by have := (HO4.out.lt j hj).1; simp; omega))
  have hb6 : Below w.heap.size w w5 := hb5.grown hg5 hb5.size (by simp)
  clear hs5
  cases v
  · go_wp2
    go_ret2
    exact ⟨pa, ca, a, _, _, a, rfl, by omega, rfl, HA5.out.bs.2, HO5.out.bs.2, hb6⟩
  go_wp2_with fail
  refine (l1Next_src _ q c _ l a.length _ HS5.out hl (by omega) (by omega) (by omega)).mono ?_
  rintro e w6 ⟨v, rfl, ⟨hi0, hi1⟩, hs6, hg6⟩
  obtain ⟨i, rfl⟩ := Int.eq_ofNat_of_zero_le hi0
  have HA6 := Lib.hid (HA5.out.far hg6 (fun j hj => by have := (HA5.out.lt j hj).1; simp; omega))
  have HO6 := Lib.hid (HO5.out.far hg6 (fun j hj => by have := (HO5.out.lt j hj).1; simp; omega))
  have hb7 : Below w.heap.size w w6 := hb6.grown hg6 hb6.size (by simp)
  clear hs6
  obtain ⟨g', cap', ev, hgb', hgl', hgc, hgf⟩ := HO6.out.at h0
  simp only [Value.slice.injEq, Option.some.injEq, Addr.mk.injEq] at ev
  obtain ⟨⟨rfl, -, -⟩, -, rfl⟩ := ev
  have hci := hgc i (by omega)
  have hfi := hgf i
  have HGC6 := Lib.hid hgc
  clear hgc hgf
  go_wp2
  go_ret2
  have hs := Bs.set (i := i) (x := UInt8.ofNat ((a.getD i 0).toNat ^^^ 1)) (by omega) hgl' HGC6.out
  rw [← xor_byte] at hs
  simp only [List.getD_eq_getElem?_getD] at hs
  exact ⟨pa, ca, a, some ⟨g, 0, none⟩, cb, a.set i (UInt8.ofNat ((a[i]?.getD 0).toNat ^^^ 1)), by rw [List.length_set]; rfl, by omega, by simp,
    (HA6.out.keep fun j hj => Below.heap_setCell _ _ _ _ (by have := (HO3.out.lt j hj).2; show j ≠ g; omega)).bs.2, hs, hb7.setCell (by show w.heap.size ≤ g; omega) _⟩

end Go.Proofs.YtjmfmdebnobogaaDoor
