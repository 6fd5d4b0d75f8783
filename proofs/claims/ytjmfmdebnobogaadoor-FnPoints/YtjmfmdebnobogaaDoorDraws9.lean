/- DrawFirstPoint. -/
import Derived.Test.YtjmfmdebnobogaaDoorDraws6
namespace Go.Proofs.YtjmfmdebnobogaaDoor
open Go.RowKit

/-- what a draw of bytes from a code leaves -/
def AnyBytes (w : World) (e : Ending) (w' : World) : Prop :=
  ∃ (g c : Nat) (bs : List UInt8), e = .returned (.slice (some ⟨g, 0, none⟩) bs.length c) ∧ bs.length ≤ 10 ∧ bs.length ≤ c ∧ Bs w' w'.heap.size (some ⟨g, 0, none⟩) bs ∧ Below w.heap.size w w'

/-- an owned slice that is not nil: where it lies, and its room -/
theorem Own.place {w : World} {base : Nat} {v : Value} {l : List UInt8} (h : Own w base v l) (h0 : v ≠ .slice none 0 0) :
    ∃ g cap, v = .slice (some ⟨g, 0, none⟩) l.length cap ∧ base ≤ g ∧ g < w.heap.size ∧ l.length ≤ cap ∧ cap ≤ maxLen ∧ ∀ i, i < l.length → w.cell? ⟨g, i, none⟩ = some (.int .u8 ((l.getD i 0).toNat : Int)) := by
  have hlt := h.lt
  rcases h.2 with ⟨e, _⟩ | ⟨g, cap, cur, e, hb, hh, hcap, hmax, _⟩
  · exact absurd e h0
  · subst e
    refine ⟨g, cap, rfl, hb, (hlt g rfl).2, hcap, hmax, ?_⟩
    intro i hi
    obtain ⟨b, off, e, _, hc⟩ := h.bs.2 (by intro e; simp [e] at hi)
    simp at e
    obtain ⟨rfl, rfl⟩ := e
    simpa using hc i hi

theorem Bs.take {w : World} {B : Nat} {p : Option Addr} {l : List UInt8} (h : Bs w B p l) (n : Nat) : Bs w B p (l.take n) := by
  intro hne
  obtain ⟨b, off, e, hb, hc⟩ := h (by intro e; subst e; simp at hne)
  refine ⟨b, off, e, hb, fun i hi => ?_⟩
  have hi' : i < n ∧ i < l.length := by rw [List.length_take] at hi; omega
  rw [hc i hi'.2]
  simp [hi'.1]

theorem Bs.lit (W : World) (l : List UInt8) (cs : Array Value) (h : cs = bcells l) (t : TypeId) (b : Nat) (hb : b = W.heap.size) : Bs (W.alloc (.cells cs t)) (W.alloc (.cells cs t)).heap.size (some ⟨b, 0, none⟩) l := by
  subst h
  subst hb
  have := Bs.new W l t
  rwa [← World.size_alloc (o := .cells (bcells l) t)] at this

theorem Bs.kept {w w' : World} {g b off : Nat} {l : List UInt8} (h : Bs w w.heap.size (some ⟨b, off, none⟩) l) (hg : w.grownBy w' (some g)) (hne : b ≠ g) : Bs w' w'.heap.size (some ⟨b, off, none⟩) l := by
  intro hl
  obtain ⟨b', off', e, hb, hc⟩ := h hl
  simp only [Option.some.injEq, Addr.mk.injEq] at e
  obtain ⟨rfl, rfl, -⟩ := e
  exact ⟨b, off, rfl, Nat.lt_of_lt_of_le hb hg.size, fun i hi => (World.cell?_of_block (a := ⟨b, off + i, none⟩) (hg.block b hb (by simpa using hne))).trans (hc i hi)⟩

theorem put_ne (p : Int) : putB p ≠ [] := by
  intro e
  have h := put_small p
  rw [← put_len, e] at h
  simp at h

theorem Own.not_nil {w : World} {base : Nat} {v : Value} {l : List UInt8} (h : Own w base v l) (h0 : l ≠ []) : v ≠ .slice none 0 0 := by
  rcases h.form with ⟨_, e⟩ | ⟨g, cap, e, _⟩
  · exact absurd e h0
  · rw [e]; simp

theorem grownBy_lits (w : World) (o0 o1 o2 o3 o4 o5 o6 o7 o8 o9 o10 : Obj) : w.grownBy (((((((((((w.alloc o0).alloc o1).alloc o2).alloc o3).alloc o4).alloc o5).alloc o6).alloc o7).alloc o8).alloc o9).alloc o10) none :=
  (grown_trans (grown_trans (grown_trans (grown_trans (grown_trans (grown_trans (grown_trans (grown_trans (grown_trans (grown_trans (World.grownBy_alloc w o0 none) (World.grownBy_alloc _ o1 none)) (World.grownBy_alloc _ o2 none)) (World.grownBy_alloc _ o3 none)) (World.grownBy_alloc _ o4 none)) (World.grownBy_alloc _ o5 none)) (World.grownBy_alloc _ o6 none)) (World.grownBy_alloc _ o7 none)) (World.grownBy_alloc _ o8 none)) (World.grownBy_alloc _ o9 none)) (World.grownBy_alloc _ o10 none))

set_option maxRecDepth 100000 in
set_option maxHeartbeats 4000000 in
theorem drawFirstPoint_any (q : Option Addr) (c : Nat) (l : List UInt8) (w : World) (h : Bs w w.heap.size q l) (hl : l.length ≤ 1048576) :
    Calls Tryd.prog 9 #[.slice q l.length c] w (AnyBytes w) := by
  have H := Lib.hid (l1Source_any q c l w h)
  have HL := Lib.hid hl
  clear h hl
  obtain ⟨i0, hi, hz0, hz1, hz2⟩ := info_parts Tryd.info_u8
  have HI := Lib.hid (And.intro hi (And.intro hz0 (And.intro hz1 hz2)))
  clear hi hz0 hz1 hz2
  go_enter Tryd.func9, Tryd.ntmps9
  go_wp2_with fail
  refine H.out.mono ?_
  rintro e w1 ⟨rfl, hs1, hb1⟩
  have HS1 := Lib.hid hs1
  clear hs1
  go_wp2_with fail
  refine (l1Pick_lit _ q c 0 l _ HS1.out HL.out (by omega) [0, 65, 128, 2048, 55295, 57344, 65536, 1114111] 8 rfl (fun v => 0 ≤ v ∧ v ≤ 1114111) (by omega) (by omega) _ rfl _ (by simp)).mono ?_
  rintro e w2 ⟨v, rfl, ⟨hv0, hv1⟩, hs2, hg2⟩
  have HS2 := Lib.hid hs2
  clear hs2
  go_wp2_with fail
  refine (l1Put_any v _ hv0 hv1).mono ?_
  rintro e w3 ⟨vb, rfl, ho3, hb3⟩
  obtain ⟨g3, c3, rfl, hg3b, hg3l, hcap3, _, hcell3⟩ := ho3.place (ho3.not_nil (put_ne v))
  have HS3 := Lib.hid (HS2.out.below hb3)
  have HO3 := Lib.hid ho3
  have hbl3 : Below w.heap.size w w3 := (hb1.grown hg2 hb1.size (by simp)).trans (hb3.mono (Nat.le_trans hb1.size hg2.size))
  clear ho3 hcell3
  go_wp2_with fail
  refine (l1Next_src _ q c _ l 3 _ HS3.out HL.out (by omega) (by omega) (by omega)).mono ?_
  rintro e w4 ⟨v4, rfl, ⟨hk0, hk1⟩, hs4, hg4⟩
  obtain ⟨k, rfl⟩ := Int.eq_ofNat_of_zero_le hk0
  have HS4 := Lib.hid hs4
  clear hs4
  go_wp2_with fail
  refine (l1Some_plus _ q c _ l k _ HS4.out HL.out (by omega)).mono ?_
  rintro e w5 ⟨va, a, rfl, hk, ho5, hs5, hg5, hnn⟩
  subst hk
  obtain ⟨g5, c5, rfl, hg5b, hg5l, hcap5, _, hcell5⟩ := ho5.place hnn
  have hlt2 : w.heap.size < w2.heap.size := HS2.out.choose_spec.2.2
  have HO5 := Lib.hid ((HO3.out.far hg4 (fun j hj => by have := (HO3.out.lt j hj).1; simp; omega)).far hg5 (fun j hj => by have := (HO3.out.lt j hj).1; simp; omega))
  have HC5 := Lib.hid hcell5
  have HS5 := Lib.hid hs5
  clear hcell5 ho5 hs5 hnn
  have hbl5 : Below w.heap.size w w5 := (hbl3.grown hg4 hbl3.size (by simp)).grown hg5 (Nat.le_trans hbl3.size hg4.size) (by simp)
  have hsz : w2.heap.size ≤ w5.heap.size := Nat.le_trans hb3.size (Nat.le_trans hg4.size hg5.size)
  have hpl := put_small v
  rw [← put_len] at hpl
  go_wp2_with (at_builtin; refine wpList_append_own _ rfl _ _ 22 rfl w2.heap.size 5 i0 (.int .u8 0) 1 1 Tryd.underlying22 HI.out.1 HI.out.2.1 HI.out.2.2.1 HI.out.2.2.2 rfl (by decide) _ _ _ rfl HO5.out ⟨g5, 0, none⟩ a.length c5 (a.map fun x : UInt8 => Value.int .u8 (x.toNat : Int)) rfl (by simp) ?c1 ?c2 ?c3 ?c4 ?c5 ?_)
  case c1 =>
    intro j u hj
    have hlt : j < a.length := by
      rcases Nat.lt_or_ge j a.length with h | h
      · exact h
      · rw [List.getElem?_eq_none (by simpa using h)] at hj; cases hj
    have ea : (⟨g5, 0, none⟩ : Addr).add j = ⟨g5, j, none⟩ := by simp [Addr.add]; omega
    rw [ea]
    refine (HC5.out j hlt).trans ?_
    simp [hlt] at hj ⊢
    exact hj
  case c2 => intro u hu; simp at hu; obtain ⟨x, _, rfl⟩ := hu; rfl
  case c3 => unfold maxLen; omega
  case c4 => omega
  case c5 => omega
  intro v' w6 hown' hgrow hnil
  have ho6 : Own w6 w2.heap.size v' (putB v ++ a) := by unfold Own; rw [List.map_append, List.length_append]; exact hown'
  have hne6 : v' ≠ .slice none 0 0 := ho6.not_nil (by simp [put_ne])
  have hbl6 : Below w.heap.size w w6 := hbl5.grown hgrow hbl5.size (fun j hj => by have := (HO5.out.lt j hj).1; omega)
  have HS6 := Lib.hid (HS5.out.grown hgrow (fun j hj => by have := (HO5.out.lt j hj).1; omega))
  obtain ⟨g6, c6, rfl, hg6b, hg6l, hcap6, hmax6, hcell6⟩ := ho6.place hne6
  have hlen6 : 1 ≤ (putB v ++ a).length ∧ (putB v ++ a).length ≤ 6 := by rw [List.length_append]; omega
  have HO6 := Lib.hid ho6
  clear hown' hgrow hnil hne6 ho6 hcell6 HO5 HC5 HS5 HO3 HS4 HS3 hpl hcap5 hcap3
  generalize putB v ++ a = bs at *
  go_wp2_with fail
  refine (l1Next_src _ q c _ l 5 _ HS6.out HL.out (by omega) (by omega) (by omega)).mono ?_
  rintro e w7 ⟨v7, rfl, ⟨hm0, hm1⟩, hs7, hg7⟩
  obtain ⟨m, rfl⟩ := Int.eq_ofNat_of_zero_le hm0
  have HS7 := Lib.hid hs7
  have HO7 := Lib.hid (HO6.out.far hg7 (fun j hj => by have := (HO6.out.lt j hj).1; simp; omega))
  have hbl7 := hbl6.grown hg7 hbl6.size (by simp)
  clear hs7 HO6
  have hm : m = 0 ∨ m = 1 ∨ 2 ≤ m := by omega
  rcases hm with rfl | rfl | hm
  · clear hm0 hm1
    go_wp2_with fail
    refine (l1Next_src _ q c _ l (bs.length + 1) _ HS7.out HL.out (by omega) (by omega) (by omega)).mono ?_
    rintro e w8 ⟨v8, rfl, ⟨hn0, hn1⟩, hs8, hg8⟩
    obtain ⟨n, rfl⟩ := Int.eq_ofNat_of_zero_le hn0
    have HO8 := Lib.hid (HO7.out.far hg8 (fun j hj => by have := (HO7.out.lt j hj).1; simp; omega))
    have hbl8 := hbl7.grown hg8 hbl7.size (by simp)
    have hnc : (n : Int) ≤ (c6 : Int) := by omega
    have hnc' : n ≤ c6 := by omega
    have hnl : n ≤ bs.length := by omega
    clear hs8 HO7 hmax6
    go_wp2
    go_ret
    have hlt : (bs.take n).length = n := by rw [List.length_take]; omega
    exact ⟨g6, c6, bs.take n, by rw [hlt]; rfl, by omega, by omega, HO8.out.bs.2.take n, hbl8⟩
  · clear hm0 hm1
    have hlt7 : w.heap.size < w7.heap.size := HS7.out.choose_spec.2.2
    go_wp2_with fail
    refine (l1Next_src _ q c _ l 10 _ (HS7.out.grown (grownBy_lits w7 _ _ _ _ _ _ _ _ _ _ _) (by simp)) HL.out (by omega) (by omega) (by omega)).mono ?_
    rintro e w8 ⟨v8, rfl, ⟨hn0, hn1⟩, hs8, hg8⟩
    obtain ⟨n, rfl⟩ := Int.eq_ofNat_of_zero_le hn0
    have hbl8 : Below w.heap.size w w8 := (hbl7.grown (grownBy_lits w7 _ _ _ _ _ _ _ _ _ _ _) hbl7.size (by simp)).grown hg8 (by simp; have := hbl7.size; omega) (by simp)
    obtain ⟨hc, hf⟩ := kept_cells hg8 (r := w7.heap.size + 1 + 1 + 1 + 1 + 1 + 1 + 1 + 1 + 1 + 1) (by simp) (by omega)
    have HG8 := Lib.hid hg8
    clear hs8 hg8 HO7 hmax6 hf
    have hn : n = 0 ∨ n = 1 ∨ n = 2 ∨ n = 3 ∨ n = 4 ∨ n = 5 ∨ n = 6 ∨ n = 7 ∨ n = 8 ∨ n = 9 := by omega
    rcases hn with rfl | rfl | rfl | rfl | rfl | rfl | rfl | rfl | rfl | rfl
    · go_wp2
      go_ret
      exact ⟨w7.heap.size, 2, [192, 128], rfl, by simp, by simp, Bs.kept (((((((((((Bs.lit _ [192, 128] _ rfl _ _ (by simp)).alloc _).alloc _).alloc _).alloc _).alloc _).alloc _).alloc _).alloc _).alloc _).alloc _) HG8.out (by omega), hbl8⟩
    · go_wp2
      go_ret
      exact ⟨w7.heap.size + 1, 2, [237, 160], rfl, by simp, by simp, Bs.kept ((((((((((Bs.lit _ [237, 160] _ rfl _ _ (by simp)).alloc _).alloc _).alloc _).alloc _).alloc _).alloc _).alloc _).alloc _).alloc _) HG8.out (by omega), hbl8⟩
    · go_wp2
      go_ret
      exact ⟨w7.heap.size + 1 + 1, 2, [237, 159], rfl, by simp, by simp, Bs.kept (((((((((Bs.lit _ [237, 159] _ rfl _ _ (by simp)).alloc _).alloc _).alloc _).alloc _).alloc _).alloc _).alloc _).alloc _) HG8.out (by omega), hbl8⟩
    · go_wp2
      go_ret
      exact ⟨w7.heap.size + 1 + 1 + 1, 2, [244, 144], rfl, by simp, by simp, Bs.kept ((((((((Bs.lit _ [244, 144] _ rfl _ _ (by simp)).alloc _).alloc _).alloc _).alloc _).alloc _).alloc _).alloc _) HG8.out (by omega), hbl8⟩
    · go_wp2
      go_ret
      exact ⟨w7.heap.size + 1 + 1 + 1 + 1, 1, [240], rfl, by simp, by simp, Bs.kept (((((((Bs.lit _ [240] _ rfl _ _ (by simp)).alloc _).alloc _).alloc _).alloc _).alloc _).alloc _) HG8.out (by omega), hbl8⟩
    · go_wp2
      go_ret
      exact ⟨w7.heap.size + 1 + 1 + 1 + 1 + 1, 2, [240, 128], rfl, by simp, by simp, Bs.kept ((((((Bs.lit _ [240, 128] _ rfl _ _ (by simp)).alloc _).alloc _).alloc _).alloc _).alloc _) HG8.out (by omega), hbl8⟩
    · go_wp2
      go_ret
      exact ⟨w7.heap.size + 1 + 1 + 1 + 1 + 1 + 1, 2, [224, 159], rfl, by simp, by simp, Bs.kept (((((Bs.lit _ [224, 159] _ rfl _ _ (by simp)).alloc _).alloc _).alloc _).alloc _) HG8.out (by omega), hbl8⟩
    · go_wp2
      go_ret
      exact ⟨w7.heap.size + 1 + 1 + 1 + 1 + 1 + 1 + 1, 1, [255], rfl, by simp, by simp, Bs.kept ((((Bs.lit _ [255] _ rfl _ _ (by simp)).alloc _).alloc _).alloc _) HG8.out (by omega), hbl8⟩
    · go_wp2
      go_ret
      exact ⟨w7.heap.size + 1 + 1 + 1 + 1 + 1 + 1 + 1 + 1, 1, [128], rfl, by simp, by simp, Bs.kept (((Bs.lit _ [128] _ rfl _ _ (by simp)).alloc _).alloc _) HG8.out (by omega), hbl8⟩
    · go_wp2
      go_ret
      exact ⟨w7.heap.size + 1 + 1 + 1 + 1 + 1 + 1 + 1 + 1 + 1, 0, [], rfl, by simp, by simp, Bs.kept ((Bs.lit _ [] _ rfl _ _ (by simp)).alloc _) HG8.out (by omega), hbl8⟩
  · go_wp2
    go_ret
    exact ⟨_, _, bs, rfl, by omega, hcap6, HO7.out.bs.2, hbl7⟩

end Go.Proofs.YtjmfmdebnobogaaDoor
