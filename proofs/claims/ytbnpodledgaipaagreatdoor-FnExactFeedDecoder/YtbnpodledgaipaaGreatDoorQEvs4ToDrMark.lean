/- The walks of toEventS and eqEventS. -/
import Derived.Test.YtbnpodledgaipaaGreatDoorQEvsToEvs3
import Derived.StillTailTactics
import Derived.Deep.RegionWith
import Derived.Test.YtbnpodledgaipaaGreatDoorQSpecTick
import Derived.Test.YtbnpodledgaipaaGreatDoorQTokToTokLaw2
namespace Go.Proofs.YtbnpodledgaipaaGreatDoor
open Go.RowKit

/-- what a call that hands back a new slice of the events l leaves -/
def NewEvs (w : World) (l : List Ev) (e : Ending) (w' : World) : Prop :=
  ∃ p, e = .returned (.slice p l.length l.length) ∧ Es w' w'.heap.size p l ∧ Below w.heap.size w w'

theorem run_make_evs (n : Nat) (hn : n ≤ 1048576) (w : World) :
    (Instr.makeSlice 41 (.int .i64 (n : Int)) (.int .i64 (n : Int))).run Tryz.prog w = .ok (.slice (some ⟨w.heap.size, 0, none⟩) n n)
      (w.alloc (.cells (madeCells #[.int .i64 0, .int .i64 0, .int .i64 0, .int .i64 0, .int .i64 0, .int .i64 0, .int .i64 0, .slice none 0 0] (n * 8)) 26)) := by
  obtain ⟨i, hi, hz, hs, hby⟩ := info_parts Tryz.info_ev
  have hb : (i.bytes : Int) * (n : Int) ≤ 281474976710656 := by rw [hby]; omega
  have hr := run_make (P := Tryz.prog) w 41 26 i _ Tryz.underlying41 hi hz .i64 .i64 n n (by omega) (Int.le_refl _) hb (by omega)
  simp only [Int.toNat_natCast, hs] at hr
  exact hr

theorem EvsRel.start (w : World) (l : List Ev) (cs : Array Value) : EvsRel w l 0 (w.alloc (.cells (madeCells cs (l.length * 8)) 26)) :=
  ⟨(Below.refl _ _).alloc (Nat.le_refl _) _, by simp, ⟨_, heap_alloc_new w _, size_madeCells _ _⟩, fun j hj => by omega⟩

theorem EvsRel.done {w wr : World} {l : List Ev} (h : EvsRel w l l.length wr) : NewEvs w l (.returned (.slice (some ⟨w.heap.size, 0, none⟩) l.length l.length)) wr :=
  ⟨_, rfl, fun _ => ⟨w.heap.size, 0, rfl, h.size, fun i hi => by
    obtain ⟨q, c, h1, h2⟩ := h.evs i hi hi
    exact ⟨q, c, by rw [Nat.zero_add]; exact h1, h2.bs⟩⟩, h.below⟩

/-- the eight cells of element k: there, and not frozen -/
theorem EvsRel.cell {w wr w1 : World} {l : List Ev} {k : Nat} (h : EvsRel w l k wr) (hk : k < l.length) (hb : Below wr.heap.size wr w1) (i : Nat) (hi : i < 8) :
    (∃ u, w1.cell? ⟨w.heap.size, k * 8 + i, none⟩ = some u) ∧ ∀ o, w1.frozen? ⟨w.heap.size, o, none⟩ = false := by
  obtain ⟨a, ha, hs⟩ := h.row
  have ha1 : w1.heap[w.heap.size]? = some (.cells a 26 (0, 0)) := (hb.block _ h.size).trans ha
  have hlt : k * 8 + i < a.size := by rw [hs]; omega
  exact ⟨⟨a[k * 8 + i], by rw [cell_of_row _ _ _ _ _ _ ha1]; exact Array.getElem?_eq_getElem hlt⟩, fun o => frozen_of_row _ _ o _ _ ha1⟩



set_option maxRecDepth 100000 in
set_option maxHeartbeats 4000000 in
theorem eqEventS_same (p q : Option Addr) (c d : Nat) (x : List Ev) (w : World) (h : Es w w.heap.size p x) (k : Es w w.heap.size q x) (hx : x.length ≤ 1048576) (hd : ∀ e ∈ x, e.data.length ≤ 1048576) :
    Calls Tryz.prog 102 #[.slice p x.length c, .slice q x.length d] w fun e w' => e = .returned (.bool true) ∧ Below w.heap.size w w' := by
  have H := Lib.hid h
  have K := Lib.hid k
  have HD := Lib.hid hd
  clear h k hd
  go_enter Tryz.func102, Tryz.ntmps102
  go_wp2
  go_loopw [5] (fun i wr => ∃ j : Nat, j ≤ x.length ∧ i = .int .i64 j ∧ Below w.heap.size w wr) (fun i _ => x.length - (intOf i).toNat)
  case atStart => exact ⟨0, by omega, rfl, Below.refl _ _⟩
  case round =>
    obtain ⟨j, hj, rfl, hb⟩ := hrel
    by_cases hlt : j < x.length
    · obtain ⟨b, off, rfl, _, hc⟩ := (H.out.on hb) (by intro e; simp [e] at hlt)
      obtain ⟨b', off', rfl, _, hc'⟩ := (K.out.on hb) (by intro e; simp [e] at hlt)
      obtain ⟨q1, d1, he, hbs⟩ := hc j hlt
      obtain ⟨q2, d2, he', hbs'⟩ := hc' j hlt
      have hdk := HD.out x[j] (List.getElem_mem hlt)
      obtain ⟨c0, c1, c2, c3, c4, c5, c6, c7⟩ := he
      obtain ⟨e0, e1, e2, e3, e4, e5, e6, e7⟩ := he'
      have i1 : (j : Int) < (x.length : Int) := by omega
      have i0 : (0 : Int) ≤ (j : Int) := by omega
      clear hc hc'
      go_wp2
      go_still_tail 8, (by kernel_rfl)
      change wpList _ _ _ _ _ wr.drew
      have hbd : Below wr.heap.size wr wr.drew := (Below.refl _ _).drew
      have n1 := hbs.on hbd
      have n2 := hbs'.on hbd
      have hb2 := below_on hb hbd
      clear c0 c1 c2 c3 c4 c5 c6 c7 e0 e1 e2 e3 e4 e5 e6 e7 hbs hbs' hbd
      generalize wr.drew = w2 at n1 n2 hb2 ⊢
      go_wp2_with (go_at_call 127; refine (eqEvent_same x[j] q1 q2 d1 d2 _ n1 n2 hdk).mono ?_; rintro en w3 ⟨rfl, hb3⟩)
      exact ⟨⟨j + 1, by omega, by go_num, below_on hb2 hb3⟩, by simp [intOf]; omega⟩
    · go_wp2
      go_ret
      exact ⟨rfl, hb⟩

end Go.Proofs.YtbnpodledgaipaaGreatDoor

/- The law's own helpers over answers with a decoder and events. -/
namespace Go.Proofs.YtbnpodledgaipaaGreatDoor
open Go.RowKit
set_option linter.unusedVariables false

/-- an answer that can be read -/
structure DrAt (w : World) (r : Dr) (p : Option Addr) (q : Option Addr) : Prop where
  pend : Bs w w.heap.size p r.dc.pend
  evs : Es w w.heap.size q r.evs
theorem DrAt.on {w w' : World} {r : Dr} {p q : Option Addr} (h : DrAt w r p q) (hb : Below w.heap.size w w') : DrAt w' r p q := ⟨h.pend.on hb, h.evs.on hb⟩
def drV (r : Dr) (p : Option Addr) (c : Nat) (q : Option Addr) (d : Nat) : Value := .agg #[.int .i64 r.code, .slice p r.dc.pend.length c, .bool r.dc.paste, .int .i64 r.dc.due, .slice q r.evs.length d]
theorem DrOwn.at {base : Nat} {r : Dr} {v u : Value} {rows : List EvRow} {w : World} (h : DrOwn base r v u rows w) : ∃ p c q d, v = .slice p r.dc.pend.length c ∧ u = .slice q r.evs.length d ∧ DrAt w r p q := by
  obtain ⟨p, c, rfl⟩ := h.pend.slice
  obtain ⟨q, d, hu⟩ := h.own.slice
  have e : rows.length = r.evs.length := by rw [← h.evs, List.length_map]
  rw [e] at hu
  subst hu
  refine ⟨p, c, q, d, rfl, rfl, h.pend.bs.2, ?_⟩
  have := h.own.es.2
  rw [h.evs] at this
  exact this

set_option maxRecDepth 100000 in
set_option maxHeartbeats 2000000 in
theorem eqDecodeResult_same (r : Dr) (p p' q q' : Option Addr) (c c' d d' : Nat) (w : World) (h : DrAt w r p q) (k : DrAt w r p' q') (hl : r.dc.pend.length ≤ 1048576) (hx : r.evs.length ≤ 1048576) (hd : ∀ e ∈ r.evs, e.data.length ≤ 1048576) :
    Calls Tryz.prog 42 #[drV r p c q d, drV r p' c' q' d'] w fun en w' => en = .returned (.bool true) ∧ Below w.heap.size w w' := by
  have h1 : (r.code != r.code) = false := by simp
  have HE := Lib.hid (fun W (hb : Below w.heap.size w W) => eqDecoder_same r.dc p p' c c' W (h.pend.on hb) (k.pend.on hb) hl)
  have HS := Lib.hid (fun W (hb : Below w.heap.size w W) => eqEventS_same q q' d d' r.evs W (h.evs.on hb) (k.evs.on hb) hx hd)
  clear h k hd
  unfold drV
  unfold dcV at HE
  have HB := Lib.hid (fun o1 o2 => below_on (below_mk w o1) (below_mk (w.alloc o1) o2))
  go_enter Tryz.func42, Tryz.ntmps42
  go_wp2_with fail
  refine (HE.out _ (HB.out _ _)).mono ?_
  rintro e w1 ⟨rfl, hb1⟩
  have hd1 := below_on (HB.out _ _) hb1
  obtain ⟨hcc, hf⟩ := bcell hb1
  go_wp2_with fail
  refine (HS.out _ hd1).mono ?_
  rintro e w2 ⟨rfl, hb2⟩
  have hd2 := below_on hd1 hb2
  clear hb1 hb2 hd1 hcc hf
  go_wp2_with fail
  go_ret
  exact ⟨rfl, hd2⟩

end Go.Proofs.YtbnpodledgaipaaGreatDoor

/- Marks over answers with a decoder and events. -/
namespace Go.Proofs.YtbnpodledgaipaaGreatDoor
open Go.RowKit
set_option linter.unusedVariables false

/-- only the blocks of P have turned -/
structure Touched (w w' : World) (P : Nat → Prop) : Prop where
  os : w'.os = w.os
  tape : w'.tape = w.tape
  output : w'.output = w.output
  size : w.heap.size ≤ w'.heap.size
  block : ∀ j, j < w.heap.size → ¬ P j → w'.heap[j]? = w.heap[j]?
theorem Touched.refl (w : World) (P : Nat → Prop) : Touched w w P := ⟨rfl, rfl, rfl, Nat.le_refl _, fun _ _ _ => rfl⟩
theorem Touched.grown {w w1 w2 : World} {P : Nat → Prop} {row : Option Nat} (h : Touched w w1 P) (k : w1.grownBy w2 row) (hr : ∀ j, row = some j → P j) : Touched w w2 P :=
  ⟨k.os.trans h.os, k.tape.trans h.tape, k.output.trans h.output, Nat.le_trans h.size k.size, fun j hj hn => (k.block j (Nat.lt_of_lt_of_le hj h.size) (fun e => hn (hr j e.symm))).trans (h.block j hj hn)⟩
theorem Touched.below {w w' : World} {P : Nat → Prop} {B : Nat} (h : Touched w w' P) (hB : B ≤ w.heap.size) (hP : ∀ j, P j → B ≤ j) : Below B w w' :=
  ⟨h.os, h.tape, h.output, h.size, fun j hj => h.block j (by omega) (fun e => by have := hP j e; omega)⟩
theorem Own.touched {w w' : World} {base : Nat} {v : Value} {l : List UInt8} {P : Nat → Prop} (h : Own w base v l) (k : Touched w w' P) (hn : ∀ j, v.ownBlock = some j → ¬ P j) : Own w' base v l :=
  h.keep fun g hg => k.block g (h.lt g hg).2 (hn g hg)

theorem EvsOwn.evAt {W : World} {base g n c : Nat} {rows : List EvRow} (h : EvsOwn W base (.slice (some ⟨g, 0, none⟩) n c) rows) (i : Nat) (hi : i < rows.length) : EvAt W g (i * 8) rows[i].1 rows[i].2.1 rows[i].2.2 := by
  have hn := h.es.1
  subst hn
  have hc : ∀ k, k < 8 → W.cell? ⟨g, i * 8 + k, none⟩ = (rowCells rows[i])[k]? := by
    intro k hk
    have := World.ownsRow.cellAt h.1 (i * 8 + k) (by omega)
    rw [flat_at rows i k hi hk] at this
    exact this
  exact ⟨hc 0 (by omega), hc 1 (by omega), hc 2 (by omega), hc 3 (by omega), hc 4 (by omega), hc 5 (by omega), hc 6 (by omega), hc 7 (by omega)⟩

/-- the blocks that marking turns -/
def MarkP (u : Value) (rows : List EvRow) (j : Nat) : Prop := u.ownBlock = some j ∨ ∃ r ∈ rows, (rowSlice r).ownBlock = some j

def MRel (w : World) (base g c k : Nat) (rows : List EvRow) (kk i : Value) (W : World) : Prop :=
  ∃ j : Nat, j ≤ rows.length ∧ i = .int .i64 j ∧ kk = .int .i64 (mkTop k (rows.take j) : Nat) ∧ EvsOwn W base (.slice (some ⟨g, 0, none⟩) rows.length c) (halfRows k rows j) ∧ Apart (halfRows k rows j) ∧ Touched w W (MarkP (.slice (some ⟨g, 0, none⟩) rows.length c) rows)

set_option maxRecDepth 100000 in
set_option maxHeartbeats 4000000 in
theorem markEventS_own (w : World) (base g c k : Nat) (rows : List EvRow) (h : EvsOwn w base (.slice (some ⟨g, 0, none⟩) rows.length c) rows) (ha : Apart rows) (hk : mkTop k rows ≤ 1000000) (hl : rows.length ≤ 1000000) :
    Calls Tryz.prog 103 #[.slice (some ⟨g, 0, none⟩) rows.length c, .int .i64 k] w fun e w' => e = .returned (.int .i64 (mkTop k rows : Nat)) ∧ EvsOwn w' base (.slice (some ⟨g, 0, none⟩) rows.length c) (mkRows k rows) ∧ Touched w w' (MarkP (.slice (some ⟨g, 0, none⟩) rows.length c) rows) := by
  have HO := Lib.hid (And.intro h ha)
  clear h ha
  go_enter Tryz.func103, Tryz.ntmps103
  go_wp2_with fail
  go_loopw [1, 5] (fun kk i W => MRel w base g c k rows kk i W) (fun _ i _ => rows.length - (intOf i).toNat)
  case atStart => exact ⟨0, by omega, rfl, rfl, by rw [halfRows_zero]; exact HO.out.1, by rw [halfRows_zero]; exact HO.out.2, Touched.refl _ _⟩
  case round =>
    obtain ⟨j, hj, rfl, rfl, hE, hA, hT⟩ := hrel
    by_cases hlt : j < rows.length
    · have hl2 : j < (halfRows k rows j).length := by rw [halfRows_len k rows j hj]; exact hlt
      have hat := halfRows_at k rows j hlt hl2
      have hev := hE.evAt j hl2
      have hfz : ∀ o, wr.frozen? ⟨g, o, none⟩ = false := by
        intro o
        have h1 := hE.1
        rw [halfRows_len k rows j hj] at h1
        exact World.ownsRow.frozenAt h1 o
      rw [hat] at hev
      obtain ⟨c0, c1, c2, c3, c4, c5, c6, c7⟩ := hev
      have hK1 : mkTop k (rows.take j) + 7 + rows[j].1.data.length ≤ 1000000 := by
        have h1 := mkTop_succ k rows j hlt
        have h2 := mkTop_take k rows (j + 1)
        omega
      have HMK := Lib.hid (fun (W' : World) ho hg => EvsOwn.mark (W' := W') j hlt hE hA rfl ho hg)
      have HTS := Lib.hid (mkTop_succ k rows j hlt)
      have hmem : rows[j] ∈ halfRows k rows j := by rw [← hat]; exact List.getElem_mem _
      have HOW := Lib.hid (hE.2 rows[j] hmem)
      have HRN := Lib.hid (rows_ne hE.1 (hE.2 rows[j] hmem))
      have HTT := Lib.hid hT
      have hlt2 : (j : Int) < (rows.length : Int) := by omega
      clear hE hA hT hat hmem hl2 HO
      generalize mkTop k (rows.take j) = K at *
      have HO7 : Hid (Own (sets wr g (j * 8) [.int .i64 (K : Nat), .int .i64 (K + 1 : Nat), .int .i64 (K + 2 : Nat), .int .i64 (K + 3 : Nat), .int .i64 (K + 4 : Nat), .int .i64 (K + 5 : Nat), .int .i64 (K + 6 : Nat)]) base (.slice rows[j].2.1 rows[j].1.data.length rows[j].2.2) rows[j].1.data) :=
        HOW.out.far (sets_grown (b := g) [.int .i64 (K : Nat), .int .i64 (K + 1 : Nat), .int .i64 (K + 2 : Nat), .int .i64 (K + 3 : Nat), .int .i64 (K + 4 : Nat), .int .i64 (K + 5 : Nat), .int .i64 (K + 6 : Nat)] (j * 8) wr) (fun i hi e => by
          rcases HRN.out with h0 | h0
          · simp [Value.ownBlock] at h0
          · exact h0 (hi.trans e))
      have HT7 := Lib.hid (HTT.out.grown (sets_grown (b := g) [.int .i64 (K : Nat), .int .i64 (K + 1 : Nat), .int .i64 (K + 2 : Nat), .int .i64 (K + 3 : Nat), .int .i64 (K + 4 : Nat), .int .i64 (K + 5 : Nat), .int .i64 (K + 6 : Nat)] (j * 8) wr) (fun i hi => .inl (by injection hi with hi; subst hi; rfl)))
      have HPJ : Hid (∀ i, (rowSlice rows[j]).ownBlock = some i → MarkP (.slice (some ⟨g, 0, none⟩) rows.length c) rows i) := fun i hi => .inr ⟨rows[j], List.getElem_mem _, hi⟩
      have HMB := Lib.hid (markByteS_any (sets wr g (j * 8) [.int .i64 (K : Nat), .int .i64 (K + 1 : Nat), .int .i64 (K + 2 : Nat), .int .i64 (K + 3 : Nat), .int .i64 (K + 4 : Nat), .int .i64 (K + 5 : Nat), .int .i64 (K + 6 : Nat)]) base (K + 7) _ rows[j].1.data HO7.out (by omega) (by omega))
      have e7 : ((K : Int) + 1 + 1 + 1 + 1 + 1 + 1 + 1) = ((K + 7 : Nat) : Int) := by omega
      have HE7 := Lib.hid e7
      clear e7
      go_wp2_with fail
      rw [HE7.out]
      refine HMB.out.mono ?_
      rintro e w8 ⟨rfl, ho8, hg8⟩
      have HM := Lib.hid (HMK.out _ ho8 hg8)
      have HT8 := Lib.hid (HT7.out.grown hg8 HPJ.out)
      clear ho8 hg8 c0 c1 c2 c3 c4 c5 c6 c7
      go_wp2_with fail
      refine ⟨⟨j + 1, by omega, by go_num, ?_, HM.out.1, HM.out.2, HT8.out⟩, by simp [intOf]; omega⟩
      exact congrArg (fun n : Nat => Value.int .i64 (n : Int)) HTS.out.symm
    · obtain rfl : j = rows.length := by omega
      rw [halfRows_all] at hE
      have HF := Lib.hid (show mkTop k (rows.take rows.length) = mkTop k rows by rw [List.take_length])
      go_wp2_with fail
      go_ret
      exact ⟨congrArg (fun n : Nat => Ending.returned (.int .i64 (n : Int))) HF.out, hE, hT⟩

set_option maxRecDepth 100000 in
set_option maxHeartbeats 1000000 in
theorem markEventS_none (w : World) (k : Nat) :
    Calls Tryz.prog 103 #[.slice none 0 0, .int .i64 k] w fun e w' => e = .returned (.int .i64 k) ∧ w = w' := by
  go_enter Tryz.func103, Tryz.ntmps103
  go_wp2_with fail
  go_loop [1, 5] (fun q i => i = .int .i64 0 ∧ q = .int .i64 k) (fun _ _ => 0)
  case atStart => exact ⟨rfl, rfl⟩
  case round =>
    obtain ⟨rfl, rfl⟩ := hrel
    go_wp2_with fail
    go_ret
    exact ⟨rfl, rfl⟩
theorem markEventS_any (w : World) (base k : Nat) (v : Value) (rows : List EvRow) (h : EvsOwn w base v rows) (ha : Apart rows) (hk : mkTop k rows ≤ 1000000) (hl : rows.length ≤ 1000000) :
    Calls Tryz.prog 103 #[v, .int .i64 k] w fun e w' => e = .returned (.int .i64 (mkTop k rows : Nat)) ∧ EvsOwn w' base v (mkRows k rows) ∧ Touched w w' (MarkP v rows) := by
  rcases h.1.2 with ⟨rfl, e0⟩ | ⟨g, cap, cur, rfl, _⟩
  · obtain rfl := List.eq_nil_of_length_eq_zero e0
    exact (markEventS_none w k).mono fun _ _ ⟨he, hw⟩ => ⟨by rw [he]; rfl, by subst hw; exact h, by subst hw; exact Touched.refl _ _⟩
  · exact markEventS_own w base g cap k rows h ha hk hl

theorem mkRows_fst (k : Nat) (rows : List EvRow) (i : Nat) (hi : i < rows.length) (h : i < ((mkRows k rows).map Prod.fst).length) : ((mkRows k rows).map Prod.fst)[i] = mkEv (mkTop k (rows.take i)) rows[i].1.data.length := by
  rw [List.getElem_map, mkRows_at k rows i hi (by rw [mkRows_len]; exact hi)]

set_option maxRecDepth 100000 in
set_option maxHeartbeats 4000000 in
theorem heldEventS_any (w : World) (q : Option Addr) (c k : Nat) (rows : List EvRow) (h : Es w w.heap.size q ((mkRows k rows).map Prod.fst)) (hk : mkTop k rows ≤ 1000000) (hl : rows.length ≤ 1000000) :
    Calls Tryz.prog 105 #[.slice q rows.length c, .int .i64 k] w fun e w' => e = .returned (.int .i64 (mkTop k rows : Nat)) ∧ w = w' := by
  have H := Lib.hid h
  clear h
  go_enter Tryz.func105, Tryz.ntmps105
  go_wp2_with fail
  go_loop [1, 5] (fun kk i => ∃ j : Nat, j ≤ rows.length ∧ i = .int .i64 j ∧ kk = .int .i64 (mkTop k (rows.take j) : Nat)) (fun _ i => rows.length - (intOf i).toNat)
  case atStart => exact ⟨0, by omega, rfl, rfl⟩
  case round =>
    obtain ⟨j, hj, rfl, rfl⟩ := hrel
    by_cases hlt : j < rows.length
    · have hl2 : j < ((mkRows k rows).map Prod.fst).length := by rw [List.length_map, mkRows_len]; exact hlt
      obtain ⟨b, off, rfl, hb, hc⟩ := H.out (by intro e; rw [e] at hl2; simp at hl2)
      obtain ⟨q1, d1, he, hbs⟩ := hc j hl2
      rw [mkRows_fst k rows j hlt hl2] at he hbs
      have hK1 : mkTop k (rows.take j) + 7 + rows[j].1.data.length ≤ 1000000 := by
        have h1 := mkTop_succ k rows j hlt
        have h2 := mkTop_take k rows (j + 1)
        omega
      have HTS := Lib.hid (mkTop_succ k rows j hlt)
      have hlt2 : (j : Int) < (rows.length : Int) := by omega
      generalize mkTop k (rows.take j) = K at *
      obtain ⟨c0, c1, c2, c3, c4, c5, c6, c7⟩ := he
      unfold mkEv numEv at c0 c1 c2 c3 c4 c5 c6 c7 hbs
      dsimp only at c0 c1 c2 c3 c4 c5 c6 c7 hbs
      rw [marksL_length] at c7
      have HHB : Hid (Calls Tryz.prog 128 #[.slice q1 rows[j].1.data.length d1, .int .i64 ((K + 7 : Nat) : Int)] w fun e w' => e = .returned (.int .i64 ((K + 7 + rows[j].1.data.length : Nat) : Int)) ∧ w = w') := by
        have := heldByteS_any w q1 d1 (K + 7) (marksL (K + 7) rows[j].1.data.length) hbs (by rw [marksL_length]) (by rw [marksL_length]; omega) (by omega)
        rw [marksL_length] at this
        exact this
      have i1 : (((K + 1 : Nat) : Int)) = (K : Int) + 1 := by omega
      have i2 : (((K + 2 : Nat) : Int)) = (K : Int) + 1 + 1 := by omega
      have i3 : (((K + 3 : Nat) : Int)) = (K : Int) + 1 + 1 + 1 := by omega
      have i4 : (((K + 4 : Nat) : Int)) = (K : Int) + 1 + 1 + 1 + 1 := by omega
      have i5 : (((K + 5 : Nat) : Int)) = (K : Int) + 1 + 1 + 1 + 1 + 1 := by omega
      have i6 : (((K + 6 : Nat) : Int)) = (K : Int) + 1 + 1 + 1 + 1 + 1 + 1 := by omega
      rw [i1] at c1
      rw [i2] at c2
      rw [i3] at c3
      rw [i4] at c4
      rw [i5] at c5
      rw [i6] at c6
      have e7 : ((K : Int) + 1 + 1 + 1 + 1 + 1 + 1 + 1) = ((K + 7 : Nat) : Int) := by omega
      have HE7 := Lib.hid e7
      clear e7 i1 i2 i3 i4 i5 i6 hc hbs
      go_wp2_with fail
      rw [HE7.out]
      refine HHB.out.mono ?_
      rintro e w8 ⟨rfl, rfl⟩
      have hpos : ¬ ((K + 7 + rows[j].1.data.length : Nat) : Int) < 0 := by omega
      go_wp2_with fail
      refine ⟨⟨j + 1, by omega, by go_num, ?_⟩, by simp [intOf]; omega⟩
      exact congrArg (fun n : Nat => Value.int .i64 (n : Int)) HTS.out.symm
    · obtain rfl : j = rows.length := by omega
      have HF := Lib.hid (show mkTop k (rows.take rows.length) = mkTop k rows by rw [List.take_length])
      go_wp2_with fail
      go_ret
      exact ⟨rfl, rfl⟩

set_option maxRecDepth 100000 in
set_option maxHeartbeats 1000000 in
theorem markDecoder_any (w : World) (base k : Nat) (d : Dc) (p : Option Addr) (c : Nat) (h : Own w base (.slice p d.pend.length c) d.pend) (hl : d.pend.length ≤ 1048576) (hk : k ≤ 1048576) :
    Calls Tryz.prog 45 #[dcV d p c, .int .i64 k] w (Marked w base (.slice p d.pend.length c) d.pend k) := by
  have HM := Lib.hid (fun o => markByteS_any (w.alloc o) base k _ d.pend (h.on (below_mk _ _)) hl hk)
  clear h
  unfold dcV
  go_enter Tryz.func45, Tryz.ntmps45
  go_wp2_with fail
  refine (HM.out _).mono ?_
  rintro e w1 ⟨rfl, ho, hg⟩
  have HE := Lib.hid (And.intro ho (grown_mk hg))
  clear ho hg
  go_wp2_with fail
  go_ret
  exact ⟨rfl, HE.out.1, HE.out.2⟩

set_option maxRecDepth 100000 in
set_option maxHeartbeats 1000000 in
theorem heldDecoder_any (w : World) (k n : Nat) (pa : Bool) (du : Int) (p : Option Addr) (c : Nat) (h : Bs w w.heap.size p (marksL k n)) (hl : n ≤ 1048576) (hk : k ≤ 1048576) :
    Calls Tryz.prog 104 #[.agg #[.slice p n c, .bool pa, .int .i64 du], .int .i64 k] w fun e w' => e = .returned (.int .i64 ((k + n : Nat) : Int)) ∧ Below w.heap.size w w' := by
  have HM : Hid (∀ o, Calls Tryz.prog 128 #[.slice p n c, .int .i64 k] (w.alloc o) fun e w' => e = .returned (.int .i64 ((k + n : Nat) : Int)) ∧ w.alloc o = w') := fun o => by
    have := heldByteS_any (w.alloc o) p c k (marksL k n) (h.alloc o) (by rw [marksL_length]) (by rw [marksL_length]; exact hl) hk
    rw [marksL_length] at this
    exact this
  have hpos : ¬ ((k + n : Nat) : Int) < 0 := by omega
  clear h
  go_enter Tryz.func104, Tryz.ntmps104
  go_wp2_with fail
  refine (HM.out _).mono ?_
  rintro e w1 ⟨rfl, rfl⟩
  go_wp2_with fail
  go_ret
  exact ⟨rfl, below_mk _ _⟩

/-- an answer marked from k on: the pending bytes, then the events -/
def drTop (k : Nat) (r : Dr) (rows : List EvRow) : Nat := mkTop (k + r.dc.pend.length) rows
/-- the marked answer -/
structure DrMarked (k : Nat) (r : Dr) (p : Option Addr) (c : Nat) (q : Option Addr) (d : Nat) (rows : List EvRow) (w : World) : Prop where
  pend : Bs w w.heap.size p (marksL k r.dc.pend.length)
  evs : Es w w.heap.size q ((mkRows (k + r.dc.pend.length) rows).map Prod.fst)
theorem DrMarked.on {k : Nat} {r : Dr} {p : Option Addr} {c : Nat} {q : Option Addr} {d : Nat} {rows : List EvRow} {w w' : World} (h : DrMarked k r p c q d rows w) (hb : Below w.heap.size w w') : DrMarked k r p c q d rows w' := ⟨h.pend.on hb, h.evs.on hb⟩

set_option maxRecDepth 100000 in
set_option maxHeartbeats 2000000 in
theorem markDecodeResult_any (w : World) (base k : Nat) (r : Dr) (p q : Option Addr) (c d : Nat) (rows : List EvRow) (h : DrOwn base r (.slice p r.dc.pend.length c) (.slice q r.evs.length d) rows w) (hB : base ≤ w.heap.size) (hl : r.dc.pend.length ≤ 1048576) (hk : k ≤ 1048576) (ht : drTop k r rows ≤ 1000000) (hn : rows.length ≤ 1000000) :
    Calls Tryz.prog 47 #[drV r p c q d, .int .i64 k] w fun e w' => e = .returned (.int .i64 (drTop k r rows : Nat)) ∧ DrMarked k r p c q d rows w' ∧ Below base w w' ∧ ∀ j, j < w.heap.size → (Value.slice p r.dc.pend.length c).ownBlock ≠ some j → ¬ MarkP (.slice q r.evs.length d) rows j → w'.heap[j]? = w.heap[j]? := by
  have HX := Lib.hid h
  have HM := Lib.hid (fun o => markDecoder_any (w.alloc o) base k r.dc p c (h.pend.on (below_mk _ _)) hl hk)
  have hkn : k + r.dc.pend.length ≤ 1000000 := Nat.le_trans (mkTop_le rows _) ht
  clear h
  unfold drV
  unfold dcV at HM
  go_enter Tryz.func47, Tryz.ntmps47
  go_wp2_with fail
  refine (HM.out _).mono ?_
  rintro e w1 ⟨rfl, ho1, hg1⟩
  have hev1 : EvsOwn w1 base (.slice q r.evs.length d) rows := (HX.out.own.alloc _).kept hg1 (by
    rcases rows_ne HX.out.own.1 HX.out.pend with h0 | h0
    · exact .inr h0
    · exact .inl (Ne.symm h0)) (fun x hx j hj e => HX.out.off x hx j hj e.symm)
  have HO1 := Lib.hid ho1
  have HE := Lib.hid (markEventS_any w1 base (k + r.dc.pend.length) _ rows hev1 HX.out.apart ht hn)
  have hc4 : ∀ o, w1.cell? ⟨w.heap.size, o, none⟩ = (w.alloc (.cells #[.int .i64 r.code, .slice p r.dc.pend.length c, .bool r.dc.paste, .int .i64 r.dc.due, .slice q r.evs.length d] 43)).cell? ⟨w.heap.size, o, none⟩ := fun o =>
    World.cell?_of_block (a := ⟨w.heap.size, o, none⟩) (hg1.block _ (by simp) (fun e => by have := (HX.out.pend.lt _ e.symm).2; exact Nat.lt_irrefl _ this))
  have c4 := hc4 4
  have HG1 := Lib.hid hg1
  clear hc4 hev1 ho1 hg1
  go_wp2_with fail
  refine HE.out.mono ?_
  rintro e w2 ⟨rfl, he2, ht2⟩
  have hp2 := HO1.out.touched ht2 (fun j hj hP => by
    rcases hP with hP | ⟨x, hx, hP⟩
    · rcases rows_ne HX.out.own.1 HX.out.pend with h0 | h0
      · rw [h0] at hP; cases hP
      · exact h0 (hj.trans hP.symm)
    · exact HX.out.off x hx j hP hj)
  have hbel : Below base w w2 := by
    have h1 : Below base w w1 := ((Below.refl base w).alloc hB _).grown HG1.out (by simp; omega) (fun j hj => (HX.out.pend.lt j hj).1)
    refine h1.trans (ht2.below (Nat.le_trans hB (Nat.le_trans (by simp) HG1.out.size)) (fun j hP => ?_))
    rcases hP with hP | ⟨x, hx, hP⟩
    · exact (HX.out.own.lt j hP).1
    · exact ((HX.out.own.2 x hx).lt j hP).1
  have HF : Hid (DrMarked k r p c q d rows w2 ∧ Below base w w2 ∧ ∀ j, j < w.heap.size → (Value.slice p r.dc.pend.length c).ownBlock ≠ some j → ¬ MarkP (.slice q r.evs.length d) rows j → w2.heap[j]? = w.heap[j]?) :=
    ⟨⟨hp2.bs.2, he2.es.2⟩, hbel, fun j hj h1 h2 => (ht2.block j (Nat.lt_of_lt_of_le hj (Nat.le_trans (by simp) HG1.out.size)) h2).trans ((HG1.out.block j (by simp; omega) (fun e => h1 e.symm)).trans (Below.heap_alloc _ _ _ hj))⟩
  clear he2 ht2 hp2 hbel c4
  go_wp2_with fail
  go_ret
  exact ⟨rfl, HF.out.1, HF.out.2.1, HF.out.2.2⟩

set_option maxRecDepth 100000 in
set_option maxHeartbeats 2000000 in
theorem heldDecodeResult_any (w : World) (k : Nat) (r : Dr) (p q : Option Addr) (c d : Nat) (rows : List EvRow) (h : DrMarked k r p c q d rows w) (hr : rows.map Prod.fst = r.evs) (hl : r.dc.pend.length ≤ 1048576) (hk : k ≤ 1048576) (ht : drTop k r rows ≤ 1000000) (hn : rows.length ≤ 1000000) :
    Calls Tryz.prog 48 #[drV r p c q d, .int .i64 k] w fun e w' => e = .returned (.int .i64 (drTop k r rows : Nat)) ∧ Below w.heap.size w w' := by
  have e : r.evs.length = rows.length := by rw [← hr, List.length_map]
  have HM := Lib.hid (fun o => heldDecoder_any (w.alloc o) k r.dc.pend.length r.dc.paste r.dc.due p c (h.pend.alloc o) hl hk)
  have HE := Lib.hid (fun W (hb : Below w.heap.size w W) => heldEventS_any W q d (k + r.dc.pend.length) rows (h.evs.on hb) ht hn)
  have hpos : ¬ ((k + r.dc.pend.length : Nat) : Int) < 0 := by omega
  have hpos2 : ¬ ((drTop k r rows : Nat) : Int) < 0 := by omega
  clear h hr
  unfold drV
  rw [e]
  clear e
  unfold drTop at *
  go_enter Tryz.func48, Tryz.ntmps48
  go_wp2_with fail
  refine (HM.out _).mono ?_
  rintro e w1 ⟨rfl, hb1⟩
  have hd1 := below_on (below_mk _ _) hb1
  obtain ⟨hcc, hf⟩ := bcell hb1
  go_wp2_with fail
  refine (HE.out _ hd1).mono ?_
  rintro e w2 ⟨rfl, rfl⟩
  clear hcc hf hb1
  go_wp2_with fail
  go_ret
  exact ⟨rfl, hd1⟩

end Go.Proofs.YtbnpodledgaipaaGreatDoor
