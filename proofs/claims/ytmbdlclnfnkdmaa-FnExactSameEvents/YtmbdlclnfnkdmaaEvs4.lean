/- The walks of toEventS and eqEventS. -/
import Derived.Test.YtmbdlclnfnkdmaaEvs3
import Derived.StillTailTactics
import Derived.Deep.RegionWith
namespace Go.Proofs.Ytmbdlclnfnkdmaa
open Go.RowKit

/-- what a call that hands back a new slice of the events l leaves -/
def NewEvs (w : World) (l : List Ev) (e : Ending) (w' : World) : Prop :=
  ∃ p, e = .returned (.slice p l.length l.length) ∧ Es w' w'.heap.size p l ∧ Below w.heap.size w w'

theorem run_make_evs (n : Nat) (hn : n ≤ 1048576) (w : World) :
    (Instr.makeSlice 40 (.int .i64 (n : Int)) (.int .i64 (n : Int))).run Try.prog w = .ok (.slice (some ⟨w.heap.size, 0, none⟩) n n)
      (w.alloc (.cells (madeCells #[.int .i64 0, .int .i64 0, .int .i64 0, .int .i64 0, .int .i64 0, .int .i64 0, .int .i64 0, .slice none 0 0] (n * 8)) 33)) := by
  obtain ⟨i, hi, hz, hs, hby⟩ := info_parts Try.info_ev
  have hb : (i.bytes : Int) * (n : Int) ≤ 281474976710656 := by rw [hby]; omega
  have hr := run_make (P := Try.prog) w 40 33 i _ Try.underlying40 hi hz .i64 .i64 n n (by omega) (Int.le_refl _) hb (by omega)
  simp only [Int.toNat_natCast, hs] at hr
  exact hr

theorem EvsRel.start (w : World) (l : List Ev) (cs : Array Value) : EvsRel w l 0 (w.alloc (.cells (madeCells cs (l.length * 8)) 33)) :=
  ⟨(Below.refl _ _).alloc (Nat.le_refl _) _, by simp, ⟨_, heap_alloc_new w _, size_madeCells _ _⟩, fun j hj => by omega⟩

theorem EvsRel.done {w wr : World} {l : List Ev} (h : EvsRel w l l.length wr) : NewEvs w l (.returned (.slice (some ⟨w.heap.size, 0, none⟩) l.length l.length)) wr :=
  ⟨_, rfl, fun _ => ⟨w.heap.size, 0, rfl, h.size, fun i hi => by
    obtain ⟨q, c, h1, h2⟩ := h.evs i hi hi
    exact ⟨q, c, by rw [Nat.zero_add]; exact h1, h2.bs⟩⟩, h.below⟩

/-- the eight cells of element k: there, and not frozen -/
theorem EvsRel.cell {w wr w1 : World} {l : List Ev} {k : Nat} (h : EvsRel w l k wr) (hk : k < l.length) (hb : Below wr.heap.size wr w1) (i : Nat) (hi : i < 8) :
    (∃ u, w1.cell? ⟨w.heap.size, k * 8 + i, none⟩ = some u) ∧ ∀ o, w1.frozen? ⟨w.heap.size, o, none⟩ = false := by
  obtain ⟨a, ha, hs⟩ := h.row
  have ha1 : w1.heap[w.heap.size]? = some (.cells a 33 (0, 0)) := (hb.block _ h.size).trans ha
  have hlt : k * 8 + i < a.size := by rw [hs]; omega
  exact ⟨⟨a[k * 8 + i], by rw [cell_of_row _ _ _ _ _ _ ha1]; exact Array.getElem?_eq_getElem hlt⟩, fun o => frozen_of_row _ _ o _ _ ha1⟩

set_option maxHeartbeats 4000000 in
theorem toEventS_any (p : Option Addr) (c : Nat) (l : List Ev) (w : World) (h : Es w w.heap.size p l) (hn : l.length ≤ 1048576) (hd : ∀ e ∈ l, e.data.length ≤ 1048576) :
    Calls Try.prog 22 #[.slice p l.length c] w (NewEvs w l) := by
  have hmk := run_make_evs l.length hn
  have HST := Lib.hid (EvsRel.start w l)
  have H := Lib.hid h
  have HD := Lib.hid hd
  clear h hd
  go_enter Try.func22, Try.ntmps22
  go_wp2
  go_loopw [4] (fun i wr => ∃ k : Nat, k ≤ l.length ∧ i = .int .i64 k ∧ EvsRel w l k wr) (fun i _ => l.length - (intOf i).toNat)
  case atStart => exact ⟨0, by omega, rfl, HST.out _⟩
  case round =>
    obtain ⟨k, hk, rfl, hr⟩ := hrel
    clear hmk HST
    by_cases hlt : k < l.length
    · obtain ⟨b, off, rfl, hbB, hc⟩ := (H.out.on hr.below) (by intro e; simp [e] at hlt)
      obtain ⟨q, d, he, hbs⟩ := hc k hlt
      obtain ⟨c0, c1, c2, c3, c4, c5, c6, c7⟩ := he
      have hdk := HD.out l[k] (List.getElem_mem hlt)
      have HR := Lib.hid hr
      clear hc hr
      go_wp2_with fail
      refine (toEvent_fresh l[k] q d _ hbs hdk).mono ?_
      rintro en w1 ⟨q1, rfl, hq1, hb1⟩
      have HQ := Lib.hid (HR.out.step hlt hb1 l[k].data.length hq1)
      obtain ⟨⟨u0, f0⟩, fz⟩ := HR.out.cell hlt hb1 0 (by omega)
      obtain ⟨⟨u1, f1⟩, _⟩ := HR.out.cell hlt hb1 1 (by omega)
      obtain ⟨⟨u2, f2⟩, _⟩ := HR.out.cell hlt hb1 2 (by omega)
      obtain ⟨⟨u3, f3⟩, _⟩ := HR.out.cell hlt hb1 3 (by omega)
      obtain ⟨⟨u4, f4⟩, _⟩ := HR.out.cell hlt hb1 4 (by omega)
      obtain ⟨⟨u5, f5⟩, _⟩ := HR.out.cell hlt hb1 5 (by omega)
      obtain ⟨⟨u6, f6⟩, _⟩ := HR.out.cell hlt hb1 6 (by omega)
      obtain ⟨⟨u7, f7⟩, _⟩ := HR.out.cell hlt hb1 7 (by omega)
      rw [Nat.add_zero] at f0
      unfold evV
      clear c0 c1 c2 c3 c4 c5 c6 c7
      go_wp2
      exact ⟨⟨k + 1, by omega, by go_num, HQ.out⟩, by simp [intOf]; omega⟩
    · obtain rfl : k = l.length := by omega
      go_wp2
      go_ret
      exact hr.done

set_option maxHeartbeats 4000000 in
theorem eqEventS_same (p q : Option Addr) (c d : Nat) (x : List Ev) (w : World) (h : Es w w.heap.size p x) (k : Es w w.heap.size q x) (hx : x.length ≤ 1048576) (hd : ∀ e ∈ x, e.data.length ≤ 1048576) :
    Calls Try.prog 24 #[.slice p x.length c, .slice q x.length d] w fun e w' => e = .returned (.bool true) ∧ Below w.heap.size w w' := by
  have H := Lib.hid h
  have K := Lib.hid k
  have HD := Lib.hid hd
  clear h k hd
  go_enter Try.func24, Try.ntmps24
  go_wp2
  go_loopw [5] (fun i wr => ∃ j : Nat, j ≤ x.length ∧ i = .int .i64 j ∧ Below w.heap.size w wr) (fun i _ => x.length - (intOf i).toNat)
  case atStart => exact ⟨0, by omega, rfl, Below.refl _ _⟩
  case round =>
    obtain ⟨j, hj, rfl, hb⟩ := hrel
    by_cases hlt : j < x.length
    · obtain ⟨b, off, rfl, _, hc⟩ := (H.out.on hb) (by intro e; simp [e] at hlt)
      obtain ⟨b', off', rfl, _, hc'⟩ := (K.out.on hb) (by intro e; simp [e] at hlt)
      obtain ⟨q1, d1, he, hbs⟩ := hc j hlt
      obtain ⟨q2, d2, he', hbs'⟩ := hc' j hlt
      have hdk := HD.out x[j] (List.getElem_mem hlt)
      obtain ⟨c0, c1, c2, c3, c4, c5, c6, c7⟩ := he
      obtain ⟨e0, e1, e2, e3, e4, e5, e6, e7⟩ := he'
      have i1 : (j : Int) < (x.length : Int) := by omega
      have i0 : (0 : Int) ≤ (j : Int) := by omega
      clear hc hc'
      go_wp2
      go_still_tail 8, (by kernel_rfl)
      change wpList _ _ _ _ _ wr.drew
      have hbd : Below wr.heap.size wr wr.drew := (Below.refl _ _).drew
      have n1 := hbs.on hbd
      have n2 := hbs'.on hbd
      have hb2 := below_on hb hbd
      clear c0 c1 c2 c3 c4 c5 c6 c7 e0 e1 e2 e3 e4 e5 e6 e7 hbs hbs' hbd
      generalize wr.drew = w2 at n1 n2 hb2 ⊢
      go_wp2_with (go_at_call 19; refine (eqEvent_same x[j] q1 q2 d1 d2 _ n1 n2 hdk).mono ?_; rintro en w3 ⟨rfl, hb3⟩)
      exact ⟨⟨j + 1, by omega, by go_num, below_on hb2 hb3⟩, by simp [intOf]; omega⟩
    · go_wp2
      go_ret
      exact ⟨rfl, hb⟩

end Go.Proofs.Ytmbdlclnfnkdmaa
