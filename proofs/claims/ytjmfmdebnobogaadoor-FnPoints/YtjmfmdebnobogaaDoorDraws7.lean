/- l1Event: an event copied. -/
import Derived.Test.YtjmfmdebnobogaaDoorDraws6
namespace Go.Proofs.YtjmfmdebnobogaaDoor
open Go.RowKit

/-- what a call leaves that hands back an event whose data are its own -/
def OwnEv (w : World) (ev : Ev) (e : Ending) (w' : World) : Prop :=
  ∃ p c, e = .returned (evV ev p c) ∧ Own w' w.heap.size (.slice p ev.data.length c) ev.data ∧ Below w.heap.size w w'

/-- a slice of the call's own, and the rest kept -/
def OB (w : World) (s B : Nat) (v : Value) (bs : List UInt8) (W : World) : Prop := Own W B v bs ∧ Below s w W
theorem OB.set {w : World} {s B : Nat} {v : Value} {bs : List UInt8} {W : World} (h : OB w s B v bs W) (b o : Nat) (u : Value) (h1 : b < B) (h2 : s ≤ b) : OB w s B v bs (W.setCell ⟨b, o, none⟩ u) :=
  ⟨h.1.setBelow h1 u, h.2.setCell h2 u⟩
theorem OB.set8 {w : World} {s B : Nat} {v : Value} {bs : List UInt8} {W : World} (h : OB w s B v bs W) (b : Nat) (u0 u1 u2 u3 u4 u5 u6 u7 : Value) (h1 : b < B) (h2 : s ≤ b) :
    OB w s B v bs ((((((((W.setCell ⟨b, 0, none⟩ u0).setCell ⟨b, 1, none⟩ u1).setCell ⟨b, 2, none⟩ u2).setCell ⟨b, 3, none⟩ u3).setCell ⟨b, 4, none⟩ u4).setCell ⟨b, 5, none⟩ u5).setCell ⟨b, 6, none⟩ u6).setCell ⟨b, 7, none⟩ u7) :=
  (((((((h.set b 0 u0 h1 h2).set b 1 u1 h1 h2).set b 2 u2 h1 h2).set b 3 u3 h1 h2).set b 4 u4 h1 h2).set b 5 u5 h1 h2).set b 6 u6 h1 h2).set b 7 u7 h1 h2
theorem OB.ev {w : World} {B : Nat} {ev : Ev} {p : Option Addr} {c : Nat} {W : World} (h : OB w w.heap.size B (.slice p ev.data.length c) ev.data W) (hB : w.heap.size ≤ B) : OwnEv w ev (.returned (evV ev p c)) W :=
  ⟨p, c, rfl, h.1.lower hB, h.2⟩

set_option maxRecDepth 100000 in
set_option maxHeartbeats 2000000 in
theorem l1Event_any (ev : Ev) (p : Option Addr) (c b off : Nat) (w : World) (h : EvAt w b off ev p c) (hd : Bs w w.heap.size p ev.data) (hl : ev.data.length ≤ 1048576) :
    Calls Tryd.prog 52 #[.pointer (some ⟨b, off, none⟩)] w (OwnEv w ev) := by
  have hb := h.lt
  have HD := Lib.hid hd
  have HL := Lib.hid hl
  clear hd hl
  obtain ⟨c0, c1, c2, c3, c4, c5, c6, c7⟩ := h
  have hne : ¬ b = w.heap.size := by omega
  go_enter Tryd.func52, Tryd.ntmps52
  go_wp2_with fail
  refine (l1Copy_any _ _ ev.data _ ((HD.out.alloc _).alloc _) HL.out).mono ?_
  rintro e w1 ⟨v, rfl, ho, hb1⟩
  obtain ⟨pp, cc, rfl⟩ := ho.slice
  obtain ⟨hc, hf⟩ := bcell hb1
  have HO := Lib.hid (show OB w w.heap.size (w.heap.size + 1 + 1) _ _ w1 from ⟨by simpa using ho, below_on (((Below.refl _ _).alloc (Nat.le_refl _) _).alloc (by simp) _) hb1⟩)
  clear ho hb1
  have hz : ∀ o, (w1.setCell ⟨w.heap.size + 1, 7, none⟩ (.slice pp ev.data.length cc)).cell? ⟨w.heap.size, o, none⟩ = (w.alloc (.cells #[.int .i64 0, .int .i64 0, .int .i64 0, .int .i64 0, .int .i64 0, .int .i64 0, .int .i64 0, .slice none 0 0] 33)).cell? ⟨w.heap.size, o, none⟩ := fun o =>
    (World.cell?_setCell_other _ _ _ _ (by simp)).trans ((hc w.heap.size o (by simp; omega)).trans (World.cell?_alloc_lt _ _ _ (by simp)))
  have HZ := Lib.hid hz
  clear hz
  go_wp2
  have hz := HZ.out
  have hob := HO.out.set (w.heap.size + 1) 7 (.slice pp ev.data.length cc) (by omega) (by omega)
  clear hc hf HO HZ
  generalize w1.setCell ⟨w.heap.size + 1, 7, none⟩ (.slice pp ev.data.length cc) = W at hz hob ⊢
  exact bodyPost_ret (v := evV ev pp cc) (by simp [results, Tryd.results52, evV, go_sem, hz]) rfl ((hob.set8 w.heap.size _ _ _ _ _ _ _ _ (by omega) (by omega)).ev (by omega))

end Go.Proofs.YtjmfmdebnobogaaDoor
