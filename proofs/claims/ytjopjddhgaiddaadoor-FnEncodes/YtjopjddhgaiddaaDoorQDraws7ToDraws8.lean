/- l1Event: an event copied. -/
import Derived.Test.YtjopjddhgaiddaaDoorQDrawsToDraws6
namespace Go.Proofs.YtjopjddhgaiddaaDoor
open Go.RowKit

/-- what a call leaves that hands back an event whose data are its own -/
def OwnEv (w : World) (ev : Ev) (e : Ending) (w' : World) : Prop :=
  ∃ p c, e = .returned (evV ev p c) ∧ Own w' w.heap.size (.slice p ev.data.length c) ev.data ∧ Below w.heap.size w w'

/-- a slice of the call's own, and the rest kept -/
def OB (w : World) (s B : Nat) (v : Value) (bs : List UInt8) (W : World) : Prop := Own W B v bs ∧ Below s w W
theorem OB.set {w : World} {s B : Nat} {v : Value} {bs : List UInt8} {W : World} (h : OB w s B v bs W) (b o : Nat) (u : Value) (h1 : b < B) (h2 : s ≤ b) : OB w s B v bs (W.setCell ⟨b, o, none⟩ u) :=
  ⟨h.1.setBelow h1 u, h.2.setCell h2 u⟩
theorem OB.set8 {w : World} {s B : Nat} {v : Value} {bs : List UInt8} {W : World} (h : OB w s B v bs W) (b : Nat) (u0 u1 u2 u3 u4 u5 u6 u7 : Value) (h1 : b < B) (h2 : s ≤ b) :
    OB w s B v bs ((((((((W.setCell ⟨b, 0, none⟩ u0).setCell ⟨b, 1, none⟩ u1).setCell ⟨b, 2, none⟩ u2).setCell ⟨b, 3, none⟩ u3).setCell ⟨b, 4, none⟩ u4).setCell ⟨b, 5, none⟩ u5).setCell ⟨b, 6, none⟩ u6).setCell ⟨b, 7, none⟩ u7) :=
  (((((((h.set b 0 u0 h1 h2).set b 1 u1 h1 h2).set b 2 u2 h1 h2).set b 3 u3 h1 h2).set b 4 u4 h1 h2).set b 5 u5 h1 h2).set b 6 u6 h1 h2).set b 7 u7 h1 h2
theorem OB.ev {w : World} {B : Nat} {ev : Ev} {p : Option Addr} {c : Nat} {W : World} (h : OB w w.heap.size B (.slice p ev.data.length c) ev.data W) (hB : w.heap.size ≤ B) : OwnEv w ev (.returned (evV ev p c)) W :=
  ⟨p, c, rfl, h.1.lower hB, h.2⟩



end Go.Proofs.YtjopjddhgaiddaaDoor

/- DrawEventFault: an event, one field of it changed. -/
namespace Go.Proofs.YtjopjddhgaiddaaDoor
open Go.RowKit

/-- what a draw of an event from a code leaves -/
def AnyEv (w : World) (e : Ending) (w' : World) : Prop :=
  ∃ (ev : Ev) (p : Option Addr) (c : Nat), e = .returned (evV ev p c) ∧ ev.data.length ≤ 40 ∧ Bs w' w'.heap.size p ev.data ∧ Below w.heap.size w w'

/-- the same, with memory of its own -/
def AnyEvO (w : World) (e : Ending) (w' : World) : Prop :=
  ∃ (ev : Ev) (p : Option Addr) (c : Nat), e = .returned (evV ev p c) ∧ ev.data.length ≤ 40 ∧ Own w' w.heap.size (.slice p ev.data.length c) ev.data ∧ Below w.heap.size w w'
theorem AnyEvO.any {w : World} {e : Ending} {w' : World} (h : AnyEvO w e w') : AnyEv w e w' := by
  obtain ⟨ev, p, c, he, hl, ho, hb⟩ := h
  exact ⟨ev, p, c, he, hl, ho.bs.2, hb⟩

theorem OB.set' {w : World} {s B : Nat} {v : Value} {bs : List UInt8} {W : World} (h : OB w s B v bs W) (b o : Nat) (u : Value) (hne : v.ownBlock ≠ some b) (h2 : s ≤ b) : OB w s B v bs (W.setCell ⟨b, o, none⟩ u) :=
  ⟨h.1.keep fun j hj => Below.heap_setCell _ _ _ _ (fun e => hne (hj.trans (by rw [e]))), h.2.setCell h2 u⟩
theorem OB.any {w : World} {s B : Nat} {ev : Ev} {p : Option Addr} {c : Nat} {W : World} (h : OB w s B (.slice p ev.data.length c) ev.data W) (hs : s = w.heap.size) (hl : ev.data.length ≤ 40) (hB : w.heap.size ≤ B := by omega) : AnyEvO w (.returned (evV ev p c)) W :=
  ⟨ev, p, c, rfl, hl, h.1.lower hB, hs ▸ h.2⟩

/-- an event drawn lies in block eb, the result's block is as it was laid -/
structure ES (w : World) (o : Obj) (eb : Nat) (ev : Ev) (p : Option Addr) (cp : Nat) (W : World) : Prop where
  at0 : EvAt W eb 0 ev p cp
  fe : ∀ i, W.frozen? ⟨eb, i, none⟩ = false
  rc : ∀ i, W.cell? ⟨w.heap.size, i, none⟩ = (w.alloc o).cell? ⟨w.heap.size, i, none⟩
  rf : ∀ i, W.frozen? ⟨w.heap.size, i, none⟩ = (w.alloc o).frozen? ⟨w.heap.size, i, none⟩
  own : Own W (w.heap.size + 2) (.slice p ev.data.length cp) ev.data
  ne : (Value.slice p ev.data.length cp).ownBlock ≠ some eb
  below : Below w.heap.size w W
  lt : w.heap.size + 1 < eb
  size : eb < W.heap.size

theorem ES.grown {w : World} {o : Obj} {eb : Nat} {ev : Ev} {p : Option Addr} {cp : Nat} {W W' : World} (h : ES w o eb ev p cp W) (hg : W.grownBy W' (some (w.heap.size + 1))) : ES w o eb ev p cp W' := by
  have hlt := h.lt
  have hs := h.size
  obtain ⟨hc, hf⟩ := kept_cells hg hs (by omega)
  obtain ⟨hc', hf'⟩ := kept_cells hg (r := w.heap.size) (by omega) (by omega)
  exact ⟨h.at0.keep hc, fun i => (hf i).trans (h.fe i), fun i => (hc' i).trans (h.rc i), fun i => (hf' i).trans (h.rf i), h.own.far hg (fun j hj => by have := (h.own.lt j hj).1; simp; omega), h.ne,
    h.below.grown hg h.below.size (fun k hk => by cases hk; omega), h.lt, Nat.lt_of_lt_of_le hs hg.size⟩

theorem ES.new {w w1 w2 : World} {o : Obj} {q : Option Addr} {c : Nat} {l : List UInt8} {N : Nat} {ev : Ev} {p : Option Addr} {cp : Nat} {t : TypeId} (hb : Below (w.alloc o).heap.size (w.alloc o) w1) (h : DE w1 (w.heap.size + 1) q c l N (.slice p ev.data.length cp) ev.data w2) :
    ES w o w2.heap.size ev p cp (w2.alloc (.cells (evC ev p cp) t)) := by
  have h1 := hb.size
  rw [World.size_alloc] at h1
  have h2 := h.kept.size
  have h3 := h.lt
  obtain ⟨hc, hf⟩ := kept_cells h.kept (r := w.heap.size) (by omega) (by omega)
  refine ⟨EvAt.new _ _ _ _ _, fun i => World.frozen?_alloc_at _ _ _ _ rfl, fun i => ?_, fun i => ?_, (h.own.on ((Below.refl _ _).alloc (Nat.le_refl _) _)).lower (by omega), fun e => Nat.lt_irrefl _ (h.own.lt _ e).2, ?_, by omega, by simp⟩
  · rw [World.cell?_alloc_lt _ _ _ (by show w.heap.size < w2.heap.size; omega), hc, hb.cell (by simp)]
  · rw [World.frozen?_alloc_past _ _ _ (by omega), hf, hb.frozen (by simp)]
  · exact ((((Below.refl _ _).alloc (Nat.le_refl _) o).trans (hb.mono (by simp))).grown h.kept (by omega) (fun k hk => by cases hk; omega)).alloc (by omega) _

set_option maxRecDepth 100000 in
set_option maxHeartbeats 2000000 in
theorem drawEventFault_own (q : Option Addr) (c : Nat) (l : List UInt8) (w : World) (h : Bs w w.heap.size q l) (hl : l.length ≤ 1048576) :
    Calls Tryd.prog 34 #[.slice q l.length c] w (AnyEvO w) := by
  have H := Lib.hid (fun o => l1Source_any q c l _ (h.alloc o))
  have HL := Lib.hid hl
  clear h hl
  go_enter Tryd.func34, Tryd.ntmps34
  go_wp2_with fail
  refine (H.out _).mono ?_
  rintro e w1 ⟨rfl, hs1, hb1⟩
  rw [World.size_alloc] at hs1
  have HS1 := Lib.hid hs1
  clear hs1
  go_wp2_with fail
  refine (l1Draw_any (w.heap.size + 1) q c 0 l w1 HS1.out HL.out (by omega)).mono ?_
  rintro e w2 ⟨ev, p, cp, rfl, hlen, hm0, hm1, hde⟩
  have HE2 := Lib.hid hde
  clear hde
  have HZ := Lib.hid (fun t => ES.new (t := t) hb1 HE2.out)
  have HS2 := Lib.hid (fun o => HE2.out.src.grown (World.grownBy_alloc w2 o none) (by simp))
  unfold evV
  go_wp2_with fail
  refine (l1Next_src _ q c _ l 9 _ (HS2.out _) HL.out (by omega) (by omega) (by omega)).mono ?_
  rintro e w3 ⟨v, rfl, ⟨hv0, hv1⟩, hs3, hg3⟩
  obtain ⟨i, rfl⟩ := Int.eq_ofNat_of_zero_le hv0
  have HS3 := Lib.hid hs3
  have HZ3 := Lib.hid ((HZ.out _).grown hg3)
  have hlt := HZ3.out.lt
  have hne1 : ¬ w2.heap.size = w.heap.size := by omega
  have hne2 : ¬ w.heap.size = w2.heap.size := by omega
  clear hs3 HS2 HZ hb1 HE2 hg3
  have hi : i = 0 ∨ i = 1 ∨ i = 2 ∨ i = 3 ∨ i = 4 ∨ 5 ≤ i := by omega
  rcases hi with rfl | rfl | rfl | rfl | rfl | hi
  · clear hv0 hv1
    go_wp2_with fail
    refine (l1Pick_lit _ q c _ l _ HS3.out HL.out (by omega) [0, 1, 2, 3, 4, 5] 6 rfl (fun v => 0 ≤ v ∧ v ≤ 5) (by omega) (by omega) _ rfl _ (by simp)).mono ?_
    rintro e w4 ⟨v4, rfl, ⟨hc0, hc1⟩, hs4, hg4⟩
    have HZ4 := Lib.hid (HZ3.out.grown hg4)
    obtain ⟨⟨c0, c1, c2, c3, c4, c5, c6, c7⟩, fe, rc, rf, ho, hno, hbl, _, _⟩ := HZ4.out
    have HO := Lib.hid (show OB w w.heap.size (w.heap.size + 2) _ _ w4 from ⟨ho, hbl⟩)
    clear hs4 ho hbl HS3 hg4 HZ3 HZ4
    go_wp2
    have hz : ∀ i, (w4.setCell ⟨w2.heap.size, 0, none⟩ (.int .i64 v4)).cell? ⟨w.heap.size, i, none⟩ = (w.alloc (.cells #[.int .i64 0, .int .i64 0, .int .i64 0, .int .i64 0, .int .i64 0, .int .i64 0, .int .i64 0, .slice none 0 0] 27)).cell? ⟨w.heap.size, i, none⟩ := fun i => (World.cell?_setCell_other _ _ _ _ (by simp)).trans (rc i)
    have hob := HO.out.set' w2.heap.size 0 (.int .i64 v4) hno (by omega)
    generalize w4.setCell ⟨w2.heap.size, 0, none⟩ (.int .i64 v4) = W at hz hob ⊢
    exact bodyPost_ret (v := evV ⟨v4, ev.code, ev.mods, ev.button, ev.act, ev.col, ev.row, ev.data⟩ p cp) (by simp [results, Tryd.results34, evV, go_sem, hz]) rfl ((hob.set8 w.heap.size _ _ _ _ _ _ _ _ (by omega) (by omega)).any (ev := ⟨v4, ev.code, ev.mods, ev.button, ev.act, ev.col, ev.row, ev.data⟩) rfl hlen)
  · clear hv0 hv1
    go_wp2_with fail
    refine (l1Pick_lit _ q c _ l _ HS3.out HL.out (by omega) [31, 127, 55296, 2000015, 0] 5 rfl (fun v => 0 ≤ v ∧ v ≤ 2000015) (by omega) (by omega) _ rfl _ (by simp)).mono ?_
    rintro e w4 ⟨v4, rfl, ⟨hc0, hc1⟩, hs4, hg4⟩
    have HZ4 := Lib.hid (HZ3.out.grown hg4)
    obtain ⟨⟨c0, c1, c2, c3, c4, c5, c6, c7⟩, fe, rc, rf, ho, hno, hbl, _, _⟩ := HZ4.out
    have HO := Lib.hid (show OB w w.heap.size (w.heap.size + 2) _ _ w4 from ⟨ho, hbl⟩)
    clear hs4 ho hbl HS3 hg4 HZ3 HZ4
    go_wp2
    have hz : ∀ i, (w4.setCell ⟨w2.heap.size, 1, none⟩ (.int .i64 v4)).cell? ⟨w.heap.size, i, none⟩ = (w.alloc (.cells #[.int .i64 0, .int .i64 0, .int .i64 0, .int .i64 0, .int .i64 0, .int .i64 0, .int .i64 0, .slice none 0 0] 27)).cell? ⟨w.heap.size, i, none⟩ := fun i => (World.cell?_setCell_other _ _ _ _ (by simp)).trans (rc i)
    have hob := HO.out.set' w2.heap.size 1 (.int .i64 v4) hno (by omega)
    generalize w4.setCell ⟨w2.heap.size, 1, none⟩ (.int .i64 v4) = W at hz hob ⊢
    exact bodyPost_ret (v := evV ⟨ev.kind, v4, ev.mods, ev.button, ev.act, ev.col, ev.row, ev.data⟩ p cp) (by simp [results, Tryd.results34, evV, go_sem, hz]) rfl ((hob.set8 w.heap.size _ _ _ _ _ _ _ _ (by omega) (by omega)).any (ev := ⟨ev.kind, v4, ev.mods, ev.button, ev.act, ev.col, ev.row, ev.data⟩) rfl hlen)
  · clear hv0 hv1
    go_wp2_with fail
    refine (l1Pick_lit _ q c _ l _ HS3.out HL.out (by omega) [-1, 8] 2 rfl (fun v => -1 ≤ v ∧ v ≤ 8) (by omega) (by omega) _ rfl _ (by simp)).mono ?_
    rintro e w4 ⟨v4, rfl, ⟨hc0, hc1⟩, hs4, hg4⟩
    have HZ4 := Lib.hid (HZ3.out.grown hg4)
    obtain ⟨⟨c0, c1, c2, c3, c4, c5, c6, c7⟩, fe, rc, rf, ho, hno, hbl, _, _⟩ := HZ4.out
    have HO := Lib.hid (show OB w w.heap.size (w.heap.size + 2) _ _ w4 from ⟨ho, hbl⟩)
    clear hs4 ho hbl HS3 hg4 HZ3 HZ4
    go_wp2
    have hz : ∀ i, (w4.setCell ⟨w2.heap.size, 2, none⟩ (.int .i64 v4)).cell? ⟨w.heap.size, i, none⟩ = (w.alloc (.cells #[.int .i64 0, .int .i64 0, .int .i64 0, .int .i64 0, .int .i64 0, .int .i64 0, .int .i64 0, .slice none 0 0] 27)).cell? ⟨w.heap.size, i, none⟩ := fun i => (World.cell?_setCell_other _ _ _ _ (by simp)).trans (rc i)
    have hob := HO.out.set' w2.heap.size 2 (.int .i64 v4) hno (by omega)
    generalize w4.setCell ⟨w2.heap.size, 2, none⟩ (.int .i64 v4) = W at hz hob ⊢
    exact bodyPost_ret (v := evV ⟨ev.kind, ev.code, v4, ev.button, ev.act, ev.col, ev.row, ev.data⟩ p cp) (by simp [results, Tryd.results34, evV, go_sem, hz]) rfl ((hob.set8 w.heap.size _ _ _ _ _ _ _ _ (by omega) (by omega)).any (ev := ⟨ev.kind, ev.code, v4, ev.button, ev.act, ev.col, ev.row, ev.data⟩) rfl hlen)
  · clear hv0 hv1
    go_wp2_with fail
    refine (l1Pick_lit _ q c _ l _ HS3.out HL.out (by omega) [-1, 200] 2 rfl (fun v => -1 ≤ v ∧ v ≤ 200) (by omega) (by omega) _ rfl _ (by simp)).mono ?_
    rintro e w4 ⟨v4, rfl, ⟨hc0, hc1⟩, hs4, hg4⟩
    have HZ4 := Lib.hid (HZ3.out.grown hg4)
    obtain ⟨⟨c0, c1, c2, c3, c4, c5, c6, c7⟩, fe, rc, rf, ho, hno, hbl, _, _⟩ := HZ4.out
    have HO := Lib.hid (show OB w w.heap.size (w.heap.size + 2) _ _ w4 from ⟨ho, hbl⟩)
    clear hs4 ho hbl HS3 hg4 HZ3 HZ4
    go_wp2
    have hz : ∀ i, (w4.setCell ⟨w2.heap.size, 5, none⟩ (.int .i64 v4)).cell? ⟨w.heap.size, i, none⟩ = (w.alloc (.cells #[.int .i64 0, .int .i64 0, .int .i64 0, .int .i64 0, .int .i64 0, .int .i64 0, .int .i64 0, .slice none 0 0] 27)).cell? ⟨w.heap.size, i, none⟩ := fun i => (World.cell?_setCell_other _ _ _ _ (by simp)).trans (rc i)
    have hob := HO.out.set' w2.heap.size 5 (.int .i64 v4) hno (by omega)
    generalize w4.setCell ⟨w2.heap.size, 5, none⟩ (.int .i64 v4) = W at hz hob ⊢
    exact bodyPost_ret (v := evV ⟨ev.kind, ev.code, ev.mods, ev.button, ev.act, v4, ev.row, ev.data⟩ p cp) (by simp [results, Tryd.results34, evV, go_sem, hz]) rfl ((hob.set8 w.heap.size _ _ _ _ _ _ _ _ (by omega) (by omega)).any (ev := ⟨ev.kind, ev.code, ev.mods, ev.button, ev.act, v4, ev.row, ev.data⟩) rfl hlen)
  · clear hv0 hv1
    go_wp2_with fail
    refine (l1Pick_lit _ q c _ l _ HS3.out HL.out (by omega) [0, 33, 25] 3 rfl (fun v => 0 ≤ v ∧ v ≤ 33) (by omega) (by omega) _ rfl _ (by simp)).mono ?_
    rintro e w4 ⟨v4, rfl, ⟨hc0, hc1⟩, hs4, hg4⟩
    obtain ⟨k, rfl⟩ := Int.eq_ofNat_of_zero_le hc0
    have HS4 := Lib.hid hs4
    clear hs4
    go_wp2_with fail
    refine (l1Some_any _ q c _ l k _ HS4.out HL.out (by omega)).mono ?_
    rintro e w5 ⟨va, a, rfl, hk, ho5, hs5, hg5⟩
    subst hk
    obtain ⟨pa, ca, rfl⟩ := ho5.slice
    have HZ5 := Lib.hid ((HZ3.out.grown hg4).grown hg5)
    have hs4 := (HZ3.out.grown hg4).size
    obtain ⟨⟨c0, c1, c2, c3, c4, c5, c6, c7⟩, fe, rc, rf, ho, _, hbl, _, _⟩ := HZ5.out
    have HO := Lib.hid (show OB w w.heap.size (w.heap.size + 2) _ _ w5 from ⟨ho5.lower (by omega), hbl⟩)
    have hno : (Value.slice pa a.length ca).ownBlock ≠ some w2.heap.size := fun e => by have := (ho5.lt _ e).1; omega
    clear hs5 ho5 ho hbl HS3 hg4 hg5 HZ3 HZ5 HS4
    go_wp2
    have hz : ∀ i, (w5.setCell ⟨w2.heap.size, 7, none⟩ (.slice pa a.length ca)).cell? ⟨w.heap.size, i, none⟩ = (w.alloc (.cells #[.int .i64 0, .int .i64 0, .int .i64 0, .int .i64 0, .int .i64 0, .int .i64 0, .int .i64 0, .slice none 0 0] 27)).cell? ⟨w.heap.size, i, none⟩ := fun i => (World.cell?_setCell_other _ _ _ _ (by simp)).trans (rc i)
    have hob := HO.out.set' w2.heap.size 7 (.slice pa a.length ca) hno (by omega)
    generalize w5.setCell ⟨w2.heap.size, 7, none⟩ (.slice pa a.length ca) = W at hz hob ⊢
    exact bodyPost_ret (v := evV ⟨ev.kind, ev.code, ev.mods, ev.button, ev.act, ev.col, ev.row, a⟩ pa ca) (by simp [results, Tryd.results34, evV, go_sem, hz]) rfl ((hob.set8 w.heap.size _ _ _ _ _ _ _ _ (by omega) (by omega)).any (ev := ⟨ev.kind, ev.code, ev.mods, ev.button, ev.act, ev.col, ev.row, a⟩) rfl (by show a.length ≤ 40; omega))
  · obtain ⟨⟨c0, c1, c2, c3, c4, c5, c6, c7⟩, fe, rc, rf, ho, hno, hbl, _, _⟩ := HZ3.out
    have HO := Lib.hid (show OB w w.heap.size (w.heap.size + 2) _ _ w3 from ⟨ho, hbl⟩)
    clear ho hbl HS3 HZ3
    go_wp2
    have hob := HO.out
    exact bodyPost_ret (v := evV ev p cp) (by simp [results, Tryd.results34, evV, go_sem, rc]) rfl ((hob.set8 w.heap.size _ _ _ _ _ _ _ _ (by omega) (by omega)).any rfl hlen)

theorem drawEventFault_any (q : Option Addr) (c : Nat) (l : List UInt8) (w : World) (h : Bs w w.heap.size q l) (hl : l.length ≤ 1048576) :
    Calls Tryd.prog 34 #[.slice q l.length c] w (AnyEv w) := (drawEventFault_own q c l w h hl).mono fun _ _ h => h.any

end Go.Proofs.YtjopjddhgaiddaaDoor
