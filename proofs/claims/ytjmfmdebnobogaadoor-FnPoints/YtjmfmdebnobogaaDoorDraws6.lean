/- l1Draw: an event drawn. -/
import Derived.Test.YtjmfmdebnobogaaDoorDraws5
namespace Go.Proofs.YtjmfmdebnobogaaDoor
open Go.RowKit

/-- what is known behind a draw that writes to the source and to blocks of its own: the source, a slice of its own, the rest kept -/
structure DE (w : World) (g : Nat) (q : Option Addr) (c : Nat) (l : List UInt8) (N : Nat) (v : Value) (bs : List UInt8) (W : World) : Prop where
  src : Src W g q c l N
  own : Own W (w.heap.size + 1) v bs
  kept : w.grownBy W (some g)
  lt : g < w.heap.size

theorem DE.set {w : World} {g : Nat} {q : Option Addr} {c : Nat} {l : List UInt8} {N : Nat} {v : Value} {bs : List UInt8} {W : World} (h : DE w g q c l N v bs W) (o : Nat) (u : Value) :
    DE w g q c l N v bs (W.setCell ⟨w.heap.size, o, none⟩ u) := by
  have hg : W.grownBy (W.setCell ⟨w.heap.size, o, none⟩ u) (some w.heap.size) := ⟨rfl, rfl, rfl, by simp, fun b _ hb => Below.heap_setCell _ _ _ _ (fun e => hb (by rw [e]))⟩
  exact ⟨h.src.grown hg (fun j hj => by cases hj; exact h.lt), h.own.setBelow (Nat.lt_succ_self _) _, grownBy_on h.kept hg (fun j hj => by cases hj; exact .inl (Nat.le_refl _)), h.lt⟩

/-- what a draw of an event leaves -/
def EvPost (w : World) (g : Nat) (q : Option Addr) (c : Nat) (l : List UInt8) (N : Nat) (e : Ending) (w' : World) : Prop :=
  ∃ (ev : Ev) (p : Option Addr) (cp : Nat), e = .returned (evV ev p cp) ∧ ev.data.length ≤ 40 ∧ 0 ≤ ev.mods ∧ ev.mods ≤ 7 ∧ DE w g q c l N (.slice p ev.data.length cp) ev.data w'

theorem kept_cells {w W : World} {g r : Nat} (h : w.grownBy W (some g)) (hr : r < w.heap.size) (hne : r ≠ g) : (∀ o, W.cell? ⟨r, o, none⟩ = w.cell? ⟨r, o, none⟩) ∧ ∀ o, W.frozen? ⟨r, o, none⟩ = w.frozen? ⟨r, o, none⟩ :=
  have hb := h.block r hr (by simpa using hne)
  ⟨fun o => World.cell?_of_block (a := ⟨r, o, none⟩) hb, fun o => World.frozen?_of_block (a := ⟨r, o, none⟩) hb⟩

theorem DE.set8 {w : World} {g : Nat} {q : Option Addr} {c : Nat} {l : List UInt8} {N : Nat} {v : Value} {bs : List UInt8} {W : World} (h : DE w g q c l N v bs W) (u0 u1 u2 u3 u4 u5 u6 u7 : Value) :
    DE w g q c l N v bs ((((((((W.setCell ⟨w.heap.size, 0, none⟩ u0).setCell ⟨w.heap.size, 1, none⟩ u1).setCell ⟨w.heap.size, 2, none⟩ u2).setCell ⟨w.heap.size, 3, none⟩ u3).setCell ⟨w.heap.size, 4, none⟩ u4).setCell ⟨w.heap.size, 5, none⟩ u5).setCell ⟨w.heap.size, 6, none⟩ u6).setCell ⟨w.heap.size, 7, none⟩ u7) :=
  (((((((h.set 0 u0).set 1 u1).set 2 u2).set 3 u3).set 4 u4).set 5 u5).set 6 u6).set 7 u7

theorem DE.of {w : World} {g : Nat} {q : Option Addr} {c : Nat} {l : List UInt8} {N M : Nat} {v : Value} {bs : List UInt8} {W : World} {o : Obj} (hg : (w.alloc o).grownBy W (some g)) (hs : Src W g q c l M) (hM : M ≤ N) (ho : Own W (w.heap.size + 1) v bs) (hgw : g < w.heap.size) : DE w g q c l N v bs W :=
  ⟨hs.more hM, ho, grownBy_on (World.grownBy_alloc w o (some g)) hg (fun j hj => .inr (by cases hj; rfl)), hgw⟩

theorem alloc_size {w W : World} {o : Obj} {row : Option Nat} (h : (w.alloc o).grownBy W row) : w.heap.size + 1 ≤ W.heap.size := by
  have := h.size
  simpa using this

set_option maxRecDepth 100000 in
set_option maxHeartbeats 4000000 in
theorem l1Draw_any (g : Nat) (q : Option Addr) (c N : Nat) (l : List UInt8) (w : World) (h : Src w g q c l N) (hl : l.length ≤ 1048576) (hn : N ≤ 900000) :
    Calls Tryd.prog 51 #[.pointer (some ⟨g, 0, none⟩)] w (EvPost w g q c l (N + 40)) := by
  have H := Lib.hid (fun o => h.grown (World.grownBy_alloc w o none) (by simp))
  have hgw := h.choose_spec.2.2
  have HL := Lib.hid hl
  clear h hl
  go_enter Tryd.func51, Tryd.ntmps51
  go_wp2_with fail
  refine (l1Next_src _ q c N l 6 _ (H.out _) HL.out (by omega) (by omega) (by omega)).mono ?_
  rintro e w1 ⟨v, rfl, ⟨hv0, hv1⟩, hs1, hg1⟩
  obtain ⟨i, rfl⟩ := Int.eq_ofNat_of_zero_le hv0
  have HS1 := Lib.hid hs1
  clear hs1
  have hi : i = 0 ∨ i = 1 ∨ i = 2 ∨ i = 3 ∨ 4 ≤ i := by omega
  rcases hi with rfl | rfl | rfl | rfl | hi
  · clear hv0 hv1
    go_wp2_with fail
    refine (l1Next_src _ q c _ l 3 _ HS1.out HL.out (by omega) (by omega) (by omega)).mono ?_
    rintro e w2 ⟨v2, rfl, ⟨ha0, ha1⟩, hs2, hg2⟩
    have HS2 := Lib.hid hs2
    clear hs2
    go_wp2_with fail
    refine (l1Next_src _ q c _ l 3 _ HS2.out HL.out (by omega) (by omega) (by omega)).mono ?_
    rintro e w3 ⟨v3, rfl, ⟨hb0, hb1⟩, hs3, hg3⟩
    have HS3 := Lib.hid hs3
    clear hs3
    go_wp2_with fail
    refine (l1Pick_lit _ q c _ l _ HS3.out HL.out (by omega) [0, 0, 1, 2, 4, 7] 6 rfl (fun v => 0 ≤ v ∧ v ≤ 7) (by omega) (by omega) _ rfl _ (by simp)).mono ?_
    rintro e w4 ⟨v4, rfl, ⟨hc0, hc1⟩, hs4, hg4⟩
    have HS4 := Lib.hid hs4
    clear hs4
    go_wp2_with fail
    refine (l1Pick_lit _ q c _ l _ HS4.out HL.out (by omega) [0, 1, 5, 9, 79, 199] 6 rfl (fun v => 0 ≤ v ∧ v ≤ 199) (by omega) (by omega) _ rfl _ (by simp)).mono ?_
    rintro e w5 ⟨v5, rfl, ⟨hd0, hd1⟩, hs5, hg5⟩
    have HS5 := Lib.hid hs5
    clear hs5
    go_wp2_with fail
    refine (l1Pick_lit _ q c _ l _ HS5.out HL.out (by omega) [0, 1, 3, 9, 23, 199] 6 rfl (fun v => 0 ≤ v ∧ v ≤ 199) (by omega) (by omega) _ rfl _ (by simp)).mono ?_
    rintro e w6 ⟨v6, rfl, ⟨he0, he1⟩, hs6, hg6⟩
    have hgk := grown_trans (grown_trans (grown_trans (grown_trans (grown_trans hg1 hg2) hg3) hg4) hg5) hg6
    have HE := Lib.hid (DE.of hgk hs6 (N := N + 40) (by omega) (own_nil _ _) hgw)
    obtain ⟨hc, hf⟩ := kept_cells hgk (r := w.heap.size) (by simp) (by omega)
    clear hs6
    go_wp2
    exact bodyPost_ret (v := evV ⟨2, 0, v4, v2, 1 + v3, v5, v6, []⟩ none 0) (by simp [results, Tryd.results51, evV, go_sem, hc]) rfl ⟨_, _, _, rfl, by simp, hc0, hc1, HE.out.set8 _ _ _ _ _ _ _ _⟩
  · clear hv0 hv1
    go_wp2_with fail
    refine (l1Pick_lit _ q c _ l _ HS1.out HL.out (by omega) [1, 3, 31, 32] 4 rfl (fun v => 0 ≤ v ∧ v ≤ 32) (by omega) (by omega) _ rfl _ (by simp)).mono ?_
    rintro e w2 ⟨v, rfl, ⟨hv0, hv1⟩, hs2, hg2⟩
    obtain ⟨k, rfl⟩ := Int.eq_ofNat_of_zero_le hv0
    have HS2 := Lib.hid hs2
    clear hs2
    go_wp2_with fail
    refine (l1Some_any _ q c _ l k _ HS2.out HL.out (by omega)).mono ?_
    rintro e w3 ⟨va, a, rfl, hk, ho3, hs3, hg3⟩
    subst hk
    obtain ⟨pa, ca, rfl⟩ := ho3.slice
    have hgk := grown_trans (grown_trans hg1 hg2) hg3
    have HE := Lib.hid (DE.of hgk hs3 (N := N + 40) (by omega) (ho3.lower (alloc_size (grown_trans hg1 hg2))) hgw)
    obtain ⟨hc, hf⟩ := kept_cells hgk (r := w.heap.size) (by simp) (by omega)
    clear hs3 ho3
    go_wp2
    exact bodyPost_ret (v := evV ⟨3, 0, 0, 0, 0, 0, 0, a⟩ pa ca) (by simp [results, Tryd.results51, evV, go_sem, hc]) rfl ⟨_, _, _, rfl, (by show a.length ≤ 40; omega), Int.le_refl _, (by show (0 : Int) ≤ 7; decide), HE.out.set8 _ _ _ _ _ _ _ _⟩
  · clear hv0 hv1
    go_wp2_with fail
    refine (l1Pick_lit _ q c _ l _ HS1.out HL.out (by omega) [1, 3, 24] 3 rfl (fun v => 0 ≤ v ∧ v ≤ 24) (by omega) (by omega) _ rfl _ (by simp)).mono ?_
    rintro e w2 ⟨v, rfl, ⟨hv0, hv1⟩, hs2, hg2⟩
    obtain ⟨k, rfl⟩ := Int.eq_ofNat_of_zero_le hv0
    have HS2 := Lib.hid hs2
    clear hs2
    go_wp2_with fail
    refine (l1Some_any _ q c _ l k _ HS2.out HL.out (by omega)).mono ?_
    rintro e w3 ⟨va, a, rfl, hk, ho3, hs3, hg3⟩
    subst hk
    obtain ⟨pa, ca, rfl⟩ := ho3.slice
    have hgk := grown_trans (grown_trans hg1 hg2) hg3
    have HE := Lib.hid (DE.of hgk hs3 (N := N + 40) (by omega) (ho3.lower (alloc_size (grown_trans hg1 hg2))) hgw)
    obtain ⟨hc, hf⟩ := kept_cells hgk (r := w.heap.size) (by simp) (by omega)
    clear hs3 ho3
    go_wp2
    exact bodyPost_ret (v := evV ⟨4, 0, 0, 0, 0, 0, 0, a⟩ pa ca) (by simp [results, Tryd.results51, evV, go_sem, hc]) rfl ⟨_, _, _, rfl, (by show a.length ≤ 40; omega), Int.le_refl _, (by show (0 : Int) ≤ 7; decide), HE.out.set8 _ _ _ _ _ _ _ _⟩
  · clear hv0 hv1
    go_wp2_with fail
    refine (l1Next_src _ q c _ l 14 _ HS1.out HL.out (by omega) (by omega) (by omega)).mono ?_
    rintro e w2 ⟨v2, rfl, ⟨ha0, ha1⟩, hs2, hg2⟩
    have HS2 := Lib.hid hs2
    clear hs2
    go_wp2_with fail
    refine (l1Pick_lit _ q c _ l _ HS2.out HL.out (by omega) [0, 0, 1, 2, 4, 7] 6 rfl (fun v => 0 ≤ v ∧ v ≤ 7) (by omega) (by omega) _ rfl _ (by simp)).mono ?_
    rintro e w3 ⟨v3, rfl, ⟨hb0, hb1⟩, hs3, hg3⟩
    have hgk := grown_trans (grown_trans hg1 hg2) hg3
    have HE := Lib.hid (DE.of hgk hs3 (N := N + 40) (by omega) (own_nil _ _) hgw)
    obtain ⟨hc, hf⟩ := kept_cells hgk (r := w.heap.size) (by simp) (by omega)
    clear hs3
    go_wp2
    exact bodyPost_ret (v := evV ⟨1, 2000001 + v2, v3, 0, 0, 0, 0, []⟩ none 0) (by simp [results, Tryd.results51, evV, go_sem, hc]) rfl ⟨_, _, _, rfl, by simp, hb0, hb1, HE.out.set8 _ _ _ _ _ _ _ _⟩
  · go_wp2_with fail
    refine (l1Pick_lit _ q c _ l _ HS1.out HL.out (by omega) [97, 98, 120, 90, 32, 91, 79, 233, 8364, 128512] 10 rfl (fun v => 32 ≤ v ∧ v ≤ 128512) (by omega) (by omega) _ rfl _ (by simp)).mono ?_
    rintro e w2 ⟨v2, rfl, ⟨ha0, ha1⟩, hs2, hg2⟩
    have HS2 := Lib.hid hs2
    clear hs2
    go_wp2_with fail
    refine (l1Pick_lit _ q c _ l _ HS2.out HL.out (by omega) [0, 0, 0, 2, 4, 6] 6 rfl (fun v => 0 ≤ v ∧ v ≤ 7) (by omega) (by omega) _ rfl _ (by simp)).mono ?_
    rintro e w3 ⟨v3, rfl, ⟨hb0, hb1⟩, hs3, hg3⟩
    have hgk := grown_trans (grown_trans hg1 hg2) hg3
    have HE := Lib.hid (DE.of hgk hs3 (N := N + 40) (by omega) (own_nil _ _) hgw)
    obtain ⟨hc, hf⟩ := kept_cells hgk (r := w.heap.size) (by simp) (by omega)
    clear hs3
    go_wp2
    exact bodyPost_ret (v := evV ⟨1, v2, v3, 0, 0, 0, 0, []⟩ none 0) (by simp [results, Tryd.results51, evV, go_sem, hc]) rfl ⟨_, _, _, rfl, by simp, hb0, hb1, HE.out.set8 _ _ _ _ _ _ _ _⟩

end Go.Proofs.YtjmfmdebnobogaaDoor
