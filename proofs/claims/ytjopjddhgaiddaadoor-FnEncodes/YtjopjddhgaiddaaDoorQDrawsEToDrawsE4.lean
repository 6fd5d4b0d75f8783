/- The draws of chapter 5: modes; the encoder's contracts with no word on the pointer. -/
import Derived.Test.YtjopjddhgaiddaaDoorQMd
import Derived.Test.YtjopjddhgaiddaaDoorQDraws7ToDraws8
import Derived.Test.YtjopjddhgaiddaaDoorQTakesToMem
namespace Go.Proofs.YtjopjddhgaiddaaDoor
open Go.RowKit
set_option linter.unusedVariables false
set_option linter.unusedSimpArgs false

set_option maxRecDepth 100000 in
set_option maxHeartbeats 2000000 in
theorem l5Modes_any (g : Nat) (q : Option Addr) (c N : Nat) (l : List UInt8) (w : World) (h : Src w g q c l N) (hl : l.length ≤ 1048576) (hn : N ≤ 900000) :
    Calls Tryd.prog 31 #[.pointer (some ⟨g, 0, none⟩)] w fun e w' => ∃ md : Md, e = .returned (mdV md) ∧ Src w' g q c l (N + 5) ∧ w.grownBy w' (some g) := by
  have hgw := h.choose_spec.2.2
  have hs0 := Lib.hid (fun o => h.grown (World.grownBy_alloc w o none) (by simp))
  have hr0 := AtM.new w [.bool false, .bool false, .int .i64 0, .bool false, .bool false] 25
  have hg0 := World.grownBy_alloc w (.cells #[.bool false, .bool false, .int .i64 0, .bool false, .bool false] 25) (some g)
  clear h
  go_enter Tryd.func31, Tryd.ntmps31
  go_wp2_with fail
  refine (l1Chance_any g q c N l 2 _ (hs0.out _) hl (by omega) (by omega) (by omega)).mono ?_
  rintro e w1 ⟨v1, rfl, hs1, hg1⟩
  have HS1 := Lib.hid hs1
  have HR1 := Lib.hid (hr0.far hg1 (by intro e; injection e; omega))
  have HG1 := Lib.hid (grown_trans hg0 hg1)
  clear hs0 hr0 hg0 hs1 hg1
  go_wp2_with fail
  refine (l1Chance_any g q c _ l 2 _ HS1.out hl (by omega) (by omega) (by omega)).mono ?_
  rintro e w2 ⟨v2, rfl, hs2, hg2⟩
  have HS2 := Lib.hid hs2
  have HR2 := Lib.hid (HR1.out.far hg2 (by intro e; injection e; omega))
  have HG2 := Lib.hid (grown_trans HG1.out hg2)
  clear HS1 HR1 HG1 hs2 hg2
  go_wp2_with fail
  refine (l1Pick_lit g q c _ l _ HS2.out hl (by omega) [0, 1, 2, 3, 3, 3] 6 rfl (fun v => 0 ≤ v ∧ v ≤ 3) (by omega) (by omega) _ rfl _ (by simp)).mono ?_
  rintro e w3 ⟨v3, rfl, _, hs3, hg3⟩
  have HS3 := Lib.hid hs3
  have HR3 := Lib.hid (HR2.out.far hg3 (by intro e; injection e; omega))
  have HG3 := Lib.hid (grown_trans HG2.out hg3)
  clear HS2 HR2 HG2 hs3 hg3
  go_wp2_with fail
  refine (l1Chance_any g q c _ l 4 _ HS3.out hl (by omega) (by omega) (by omega)).mono ?_
  rintro e w4 ⟨v4, rfl, hs4, hg4⟩
  have HS4 := Lib.hid hs4
  have HR4 := Lib.hid (HR3.out.far hg4 (by intro e; injection e; omega))
  have HG4 := Lib.hid (grown_trans HG3.out hg4)
  clear HS3 HR3 HG3 hs4 hg4
  go_wp2_with fail
  refine (l1Chance_any g q c _ l 2 _ HS4.out hl (by omega) (by omega) (by omega)).mono ?_
  rintro e w5 ⟨v5, rfl, hs5, hg5⟩
  have HR5 := HR4.out.far hg5 (by intro e; injection e; omega)
  have HG5 := Lib.hid (grown_trans HG4.out hg5)
  have HS5 := Lib.hid hs5
  obtain ⟨r0, r1, r2, r3, r4⟩ := HR5.cells.five
  have hfr := HR5.free
  have hE : Hid (∀ vs, Src (sets w5 w.heap.size 0 vs) g q c l (N + 1 + 1 + 1 + 1 + 1) ∧ w.grownBy (sets w5 w.heap.size 0 vs) (some g)) := fun vs =>
    ⟨hs5.grown (sets_grown vs 0 w5) (by intro j hj; injection hj; omega), grownBy_on HG5.out (sets_grown vs 0 w5) (fun j hj => by cases hj; exact .inl (Nat.le_refl _))⟩
  clear HS4 HR4 HG4 hs5 hg5 HR5
  go_wp2_with fail
  refine bodyPost_ret (v := mdV ⟨v1, v2, v3, !v4, v5⟩) ?_ rfl ⟨⟨v1, v2, v3, !v4, v5⟩, rfl, hE.out [.bool v1, .bool v2, .int .i64 v3, .bool !v4, .bool v5]⟩
  simp [results, Tryd.results31, mdV, go_sem, r0, r1, r2, r3, r4]

/-- in the midst of l5Draw: the source, the two results' blocks, the modes' block, the event's block -/
structure LD (w : World) (q : Option Addr) (c : Nat) (l : List UInt8) (N b7 b8 : Nat) (md : Md) (ev : Ev) (p : Option Addr) (cp : Nat) (W : World) : Prop where
  src : Src W (w.heap.size + 2) q c l N
  m4 : AtM W w.heap.size [.bool false, .bool false, .int .i64 0, .bool false, .bool false]
  e5 : AtM W (w.heap.size + 1) [.int .i64 0, .int .i64 0, .int .i64 0, .int .i64 0, .int .i64 0, .int .i64 0, .int .i64 0, .slice none 0 0]
  m7 : AtM W b7 (mdL md)
  e8 : AtM W b8 (evC ev p cp).toList
  own : Own W (w.heap.size + 3) (.slice p ev.data.length cp) ev.data
  ne : ∀ j, (Value.slice p ev.data.length cp).ownBlock = some j → j ≠ b7 ∧ j ≠ b8
  below : Below w.heap.size w W
  lt7 : w.heap.size + 2 < b7
  lt8 : b7 < b8
  len : ev.data.length ≤ 40
theorem LD.draw {w : World} {q : Option Addr} {c : Nat} {l : List UInt8} {N b7 b8 : Nat} {md : Md} {ev : Ev} {p : Option Addr} {cp : Nat} {W W' : World} {M : Nat} (h : LD w q c l N b7 b8 md ev p cp W) (hs : Src W' (w.heap.size + 2) q c l M) (hg : W.grownBy W' (some (w.heap.size + 2))) : LD w q c l M b7 b8 md ev p cp W' :=
  have h7 := h.lt7
  have h8 := h.lt8
  ⟨hs, h.m4.far hg (by intro e; injection e; omega), h.e5.far hg (by intro e; injection e; omega), h.m7.far hg (by intro e; injection e; omega), h.e8.far hg (by intro e; injection e; omega),
    h.own.far hg (fun j hj e => by have := (h.own.lt j hj).1; injection e; omega), h.ne, h.below.grown hg h.below.size (fun k hk => by cases hk; omega), h7, h8, h.len⟩
theorem LD.put {w : World} {q : Option Addr} {c : Nat} {l : List UInt8} {N b7 b8 : Nat} {md : Md} {ev ev' : Ev} {p p' : Option Addr} {cp cp' : Nat} {W W' : World} {M : Nat} (h : LD w q c l N b7 b8 md ev p cp W) (hs : Src W' (w.heap.size + 2) q c l M) (hg : W.grownBy W' (some (w.heap.size + 2)))
    (ho : Own W' W.heap.size (.slice p' ev'.data.length cp') ev'.data) (hl : ev'.data.length ≤ 40) : LD w q c l M b7 b8 md ev' p' cp' (sets W' b8 0 (evC ev' p' cp').toList) := by
  have h7 := h.lt7
  have h8 := h.lt8
  have hb8 := h.e8.cells.1
  have k := h.draw hs hg
  refine ⟨hs.grown (sets_grown _ 0 W') (by intro j hj; injection hj; omega), k.m4.beside (by omega) _ 0, k.e5.beside (by omega) _ 0, k.m7.beside (by omega) _ 0, k.e8.sets _ rfl, (sets_own hb8 _ 0 _ ho).lower (by omega), ?_, sets_below (by omega) _ 0 _ _ k.below, h7, h8, hl⟩
  intro j hj
  have := (ho.lt j hj).1
  omega
theorem LD.mode {w : World} {q : Option Addr} {c : Nat} {l : List UInt8} {N b7 b8 : Nat} {md : Md} {ev : Ev} {p : Option Addr} {cp : Nat} {W : World} (h : LD w q c l N b7 b8 md ev p cp W) (m : Int) : LD w q c l N b7 b8 { md with mouse := m } ev p cp (W.setCell ⟨b7, 2, none⟩ (.int .i64 m)) := by
  have h7 := h.lt7
  have h8 := h.lt8
  have hg : W.grownBy (W.setCell ⟨b7, 2, none⟩ (.int .i64 m)) (some b7) := ⟨rfl, rfl, rfl, by simp, fun k _ hk => Below.heap_setCell _ _ _ _ (fun e => hk (by rw [e]))⟩
  exact ⟨h.src.grown hg (by intro j hj; injection hj; omega), h.m4.other (by omega) _ _, h.e5.other (by omega) _ _, h.m7.set 2 _, h.e8.other (by omega) _ _,
    h.own.far hg (fun j hj e => by have := (h.ne j hj).1; injection e; omega), h.ne, h.below.setCell (by show w.heap.size ≤ b7; omega) _, h7, h8, h.len⟩
theorem LD.more {w : World} {q : Option Addr} {c : Nat} {l : List UInt8} {N M b7 b8 : Nat} {md : Md} {ev : Ev} {p : Option Addr} {cp : Nat} {W : World} (h : LD w q c l N b7 b8 md ev p cp W) (hN : N ≤ M) : LD w q c l M b7 b8 md ev p cp W := ⟨h.src.more hN, h.m4, h.e5, h.m7, h.e8, h.own, h.ne, h.below, h.lt7, h.lt8, h.len⟩

/-- what a draw of modes and an event leaves -/
def AnyMe (w : World) (e : Ending) (w' : World) : Prop := ∃ (md : Md) (ev : Ev) (p : Option Addr) (cp : Nat), e = .returned (.tuple #[mdV md, evV ev p cp]) ∧ ev.data.length ≤ 40 ∧ Own w' w.heap.size (.slice p ev.data.length cp) ev.data ∧ Below w.heap.size w w'

end Go.Proofs.YtjopjddhgaiddaaDoor

/- l5Draw: modes and an event. (Written by wip/gen_l5draw.py.) -/
namespace Go.Proofs.YtjopjddhgaiddaaDoor
open Go.RowKit
set_option linter.unusedVariables false
set_option linter.unusedSimpArgs false

theorem LD.eight {w : World} {q : Option Addr} {c : Nat} {l : List UInt8} {N b7 b8 : Nat} {md : Md} {ev : Ev} {p : Option Addr} {cp : Nat} {W : World} (h : LD w q c l N b7 b8 md ev p cp W) :
    W.cell? ⟨b8, 0, none⟩ = some (.int .i64 ev.kind) ∧ W.cell? ⟨b8, 1, none⟩ = some (.int .i64 ev.code) ∧ W.cell? ⟨b8, 2, none⟩ = some (.int .i64 ev.mods) ∧ W.cell? ⟨b8, 3, none⟩ = some (.int .i64 ev.button) ∧ W.cell? ⟨b8, 4, none⟩ = some (.int .i64 ev.act) ∧ W.cell? ⟨b8, 5, none⟩ = some (.int .i64 ev.col) ∧ W.cell? ⟨b8, 6, none⟩ = some (.int .i64 ev.row) ∧ W.cell? ⟨b8, 7, none⟩ = some (.slice p ev.data.length cp) :=
  ⟨h.e8.cells.get 0 rfl, h.e8.cells.get 1 rfl, h.e8.cells.get 2 rfl, h.e8.cells.get 3 rfl, h.e8.cells.get 4 rfl, h.e8.cells.get 5 rfl, h.e8.cells.get 6 rfl, h.e8.cells.get 7 rfl⟩
theorem LD.five {w : World} {q : Option Addr} {c : Nat} {l : List UInt8} {N b7 b8 : Nat} {md : Md} {ev : Ev} {p : Option Addr} {cp : Nat} {W : World} (h : LD w q c l N b7 b8 md ev p cp W) :
    W.cell? ⟨b7, 0, none⟩ = some (.bool md.cursor) ∧ W.cell? ⟨b7, 1, none⟩ = some (.bool md.coded) ∧ W.cell? ⟨b7, 2, none⟩ = some (.int .i64 md.mouse) ∧ W.cell? ⟨b7, 3, none⟩ = some (.bool md.sgr) ∧ W.cell? ⟨b7, 4, none⟩ = some (.bool md.paste) :=
  ⟨h.m7.cells.get 0 rfl, h.m7.cells.get 1 rfl, h.m7.cells.get 2 rfl, h.m7.cells.get 3 rfl, h.m7.cells.get 4 rfl⟩

theorem AtL.eightD {w : World} {b : Nat} {v0 v1 v2 v3 v4 v5 v6 v7 : Value} (h : AtL w b [v0, v1, v2, v3, v4, v5, v6, v7]) : w.cell? ⟨b, 0, none⟩ = some v0 ∧ w.cell? ⟨b, 1, none⟩ = some v1 ∧ w.cell? ⟨b, 2, none⟩ = some v2 ∧ w.cell? ⟨b, 3, none⟩ = some v3 ∧ w.cell? ⟨b, 4, none⟩ = some v4 ∧ w.cell? ⟨b, 5, none⟩ = some v5 ∧ w.cell? ⟨b, 6, none⟩ = some v6 ∧ w.cell? ⟨b, 7, none⟩ = some v7 :=
  ⟨h.get 0 rfl, h.get 1 rfl, h.get 2 rfl, h.get 3 rfl, h.get 4 rfl, h.get 5 rfl, h.get 6 rfl, h.get 7 rfl⟩

set_option maxRecDepth 100000 in
set_option maxHeartbeats 8000000 in
theorem l5Draw_any (q : Option Addr) (c : Nat) (l : List UInt8) (kind : Int) (w : World) (h : Bs w w.heap.size q l) (hl : l.length ≤ 1048576) :
    Calls Tryd.prog 15 #[.slice q l.length c, .int .i64 kind] w (AnyMe w) := by
  have H := Lib.hid (fun A B => l1Source_any q c l ((w.alloc A).alloc B) ((h.alloc A).alloc B))
  have HQ := Lib.hid h
  have R4 := Lib.hid (AtM.new w [.bool false, .bool false, .int .i64 0, .bool false, .bool false] 25)
  have R5 := Lib.hid (fun A => AtM.new (w.alloc A) [.int .i64 0, .int .i64 0, .int .i64 0, .int .i64 0, .int .i64 0, .int .i64 0, .int .i64 0, .slice none 0 0] 27)
  clear h
  go_enter Tryd.func15, Tryd.ntmps15
  go_wp2_with fail
  refine (H.out _ _).mono ?_
  rintro e w1 ⟨rfl, hs1, hb1⟩
  rw [World.size_alloc, World.size_alloc] at hs1
  have M1 := Lib.hid ((R4.out.on (below_mk _ _)).on hb1)
  have E1 := (R5.out _).on hb1
  rw [World.size_alloc] at E1
  have E1 := Lib.hid E1
  have B1 := Lib.hid (below_on (below_on (below_mk w _) (below_mk _ _)) hb1)
  have S1 := Lib.hid hs1
  have z1 := hb1.size
  rw [World.size_alloc, World.size_alloc] at z1
  clear hs1 hb1 H R4 R5
  go_wp2_with fail
  refine (l5Modes_any (w.heap.size + 1 + 1) q c 0 l _ S1.out hl (by omega)).mono ?_
  rintro e w2 ⟨md, rfl, hs2, hg2⟩
  have M2 := Lib.hid (M1.out.far hg2 (by intro e; injection e; omega))
  have E2 := Lib.hid (E1.out.far hg2 (by intro e; injection e; omega))
  have B2 := Lib.hid (B1.out.grown hg2 B1.out.size (fun k hk => by cases hk; omega))
  have z2 := hg2.size
  have S2 := Lib.hid hs2
  have F7 := Lib.hid (AtM.new w2 (mdL md) 25)
  have K2 := below_mk w2 (.cells (mdL md).toArray 25)
  have M3 := Lib.hid (M2.out.on K2)
  have E3 := Lib.hid (E2.out.on K2)
  have B3 := Lib.hid (below_on B2.out K2)
  have S3 := Lib.hid (S2.out.below K2)
  have hgw := S2.out.choose_spec.2.2
  clear M1 E1 B1 S1 M2 E2 B2 S2 hs2 hg2 K2
  unfold mdL at *
  dsimp only at *
  unfold mdV
  go_wp2_with fail
  refine (l1Draw_any (w.heap.size + 1 + 1) q c _ l _ S3.out hl (by omega)).mono ?_
  rintro e w3 ⟨ev, p, cp, rfl, hlen, hm0, hm1, hde⟩
  obtain ⟨hs3, ho3, hg3, _⟩ := hde
  rw [World.size_alloc] at ho3
  have z3 := hg3.size
  rw [World.size_alloc] at z3
  have HLD : Hid (LD w q c l 100 w2.heap.size w3.heap.size md ev p cp (w3.alloc (.cells (evC ev p cp) 27))) := by
    have K := below_mk w3 (.cells (evC ev p cp) 27)
    refine ⟨(hs3.below K).more (by omega), (M3.out.far hg3 (by intro e; injection e; omega)).on K, (E3.out.far hg3 (by intro e; injection e; omega)).on K, (F7.out.far hg3 (by intro e; injection e; omega)).on K, AtM.new w3 (evC ev p cp).toList _, (ho3.on K).lower (by omega), fun j hj => ?_, below_on (B3.out.grown hg3 B3.out.size (fun k hk => by cases hk; omega)) K, by omega, by omega, hlen⟩
    have := ho3.lt j hj
    exact ⟨by omega, by omega⟩
  clear M3 E3 B3 S3 F7 hs3 ho3 hg3 hm0 hm1 hlen
  unfold evV
  unfold evC at HLD
  go_wp2_with fail
  generalize w3.alloc (.cells #[.int .i64 ev.kind, .int .i64 ev.code, .int .i64 ev.mods, .int .i64 ev.button, .int .i64 ev.act, .int .i64 ev.col, .int .i64 ev.row, .slice p ev.data.length cp] 27) = W3 at *
  generalize hb7 : w2.heap.size = b7 at *
  generalize hb8 : w3.heap.size = b8 at *
  have Z := Lib.hid (And.intro hgw (And.intro z1 (And.intro z2 z3)))
  clear hgw z1 z2 z3 hb7 hb8
  go_loopw [9] (fun n wr => ∃ (k : Nat) (ev : Ev) (p : Option Addr) (cp : Nat), k ≤ 20 ∧ n = .int .i64 k ∧ LD w q c l (100 + 40 * k) b7 b8 md ev p cp wr) (fun n _ => 20 - (intOf n).toNat)
  case atStart => exact ⟨0, ev, p, cp, by omega, rfl, HLD.out⟩
  case round =>
    clear HLD
    obtain ⟨k, ev, p, cp, hk, rfl, hld⟩ := hrel
    have HL := Lib.hid hld
    have h7 := hld.lt7
    have h8 := hld.lt8
    have n1 : ¬ b8 = b7 := by omega
    have n2 : ¬ b7 = b8 := by omega
    obtain ⟨e0, e1, e2, e3, e4, e5, e6, e7⟩ := hld.eight
    have hfe := hld.e8.free
    clear hld
    by_cases hlt : k < 20
    · by_cases hkd : ev.kind = kind
      · subst hkd
        go_wp2_with fail
        clear e0 e1 e2 e3 e4 e5 e6 e7 hfe
        refine (l1Chance_any (w.heap.size + 2) q c _ l 12 _ HL.out.src hl (by omega) (by omega) (by omega)).mono ?_
        rintro e w4 ⟨b12, rfl, hs4, hg4⟩
        have HX4 := Lib.hid (HL.out.draw hs4 hg4)
        clear hs4 hg4
        cases b12
        · go_wp2_with fail
          refine (l1Chance_any (w.heap.size + 2) q c _ l 16 _ HX4.out.src hl (by omega) (by omega) (by omega)).mono ?_
          rintro e w6 ⟨b16, rfl, hs6, hg6⟩
          have HX := Lib.hid (HX4.out.draw hs6 hg6)
          clear hs6 hg6
          cases b16
          · have HZ := HX
            clear HX
            go_wp2_with fail
            have D := below_drewN (Below.refl w6.heap.size w6) 1
            obtain ⟨r0, r1, r2, r3, r4⟩ := HZ.out.m4.cells.five
            obtain ⟨s0, s1, s2, s3, s4, s5, s6, s7⟩ := AtL.eightD HZ.out.e5.cells
            have hf4 := HZ.out.m4.free
            have hf5 := HZ.out.e5.free
            have k7 := HZ.out.lt7
            have k8 := HZ.out.lt8
            have x7 := HZ.out.m7.beside (c := w.heap.size) (by omega) [.bool md.cursor, .bool md.coded, .int .i64 md.mouse, .bool md.sgr, .bool md.paste] 0
            have x8 := HZ.out.e8.beside (c := w.heap.size) (by omega) [.bool md.cursor, .bool md.coded, .int .i64 md.mouse, .bool md.sgr, .bool md.paste] 0
            have xB := sets_below (B := w.heap.size) (Nat.le_refl _) [.bool md.cursor, .bool md.coded, .int .i64 md.mouse, .bool md.sgr, .bool md.paste] 0 _ _ HZ.out.below
            have xO := sets_own (show w.heap.size < w.heap.size + 3 by omega) [.bool md.cursor, .bool md.coded, .int .i64 md.mouse, .bool md.sgr, .bool md.paste] 0 _ HZ.out.own
            have y7 := x7.beside (c := w.heap.size + 1) (by omega) [.int .i64 ev.kind, .int .i64 ev.code, .int .i64 ev.mods, .int .i64 ev.button, .int .i64 ev.act, .int .i64 ev.col, .int .i64 ev.row, .slice p ev.data.length cp] 0
            have y8 := x8.beside (c := w.heap.size + 1) (by omega) [.int .i64 ev.kind, .int .i64 ev.code, .int .i64 ev.mods, .int .i64 ev.button, .int .i64 ev.act, .int .i64 ev.col, .int .i64 ev.row, .slice p ev.data.length cp] 0
            have yB := sets_below (B := w.heap.size) (Nat.le_succ _) [.int .i64 ev.kind, .int .i64 ev.code, .int .i64 ev.mods, .int .i64 ev.button, .int .i64 ev.act, .int .i64 ev.col, .int .i64 ev.row, .slice p ev.data.length cp] 0 _ _ xB
            have yO := sets_own (show w.heap.size + 1 < w.heap.size + 3 by omega) [.int .i64 ev.kind, .int .i64 ev.code, .int .i64 ev.mods, .int .i64 ev.button, .int .i64 ev.act, .int .i64 ev.col, .int .i64 ev.row, .slice p ev.data.length cp] 0 _ xO
            have X := Lib.hid (And.intro (x7.on (below_drewN (Below.refl _ _) 1)).cells (And.intro (x8.on (below_drewN (Below.refl _ _) 1)).cells (xB.trans (below_drewN (Below.refl _ _) 1))))
            have Y := Lib.hid (And.intro (y7.on (below_drewN (Below.refl _ _) 1)).cells (And.intro (y8.on (below_drewN (Below.refl _ _) 1)).cells (yB.trans (below_drewN (Below.refl _ _) 1))))
            have YO := Lib.hid (yO.on (below_drewN (Below.refl _ _) 1))
            have HLEN := Lib.hid HZ.out.len
            clear x7 x8 xB xO y7 y8 yB yO
            refine wp_region_noPanic ?_
            refine wp_region_held_drew (S := fun W' => AtL W' b7 [.bool md.cursor, .bool md.coded, .int .i64 md.mouse, .bool md.sgr, .bool md.paste] ∧ AtL W' b8 [.int .i64 ev.kind, .int .i64 ev.code, .int .i64 ev.mods, .int .i64 ev.button, .int .i64 ev.act, .int .i64 ev.col, .int .i64 ev.row, .slice p ev.data.length cp] ∧ Below w.heap.size w W') (by kernel_rfl) ⟨(HZ.out.m7.on D).cells, (HZ.out.e8.on D).cells, HZ.out.below.trans (D.mono HZ.out.below.size)⟩ (fun hHeld => ?_)
            clear D k7 k8 HZ HL HQ hl Z
            refine takeR 0 35 (.agg #[.bool md.cursor, .bool md.coded, .int .i64 md.mouse, .bool md.sgr, .bool md.paste]) (by kernel_rfl) (by kernel_rfl) (by kernel_rfl) (by kernel_rfl) (fun _ _ _ h => h) (by kernel_rfl) (fun w o hSw ho => ?_) hHeld ?_
            · obtain rfl := Option.some.inj ho; obtain ⟨z0, z1, z2, z3, z4⟩ := hSw.1.five; go_simp
            simp only [Act.put, List.setIfInBounds_toArray, List.set_cons_zero, List.set_cons_succ]
            refine takeR 1 36 (.agg #[.int .i64 ev.kind, .int .i64 ev.code, .int .i64 ev.mods, .int .i64 ev.button, .int .i64 ev.act, .int .i64 ev.col, .int .i64 ev.row, .slice p ev.data.length cp]) (by kernel_rfl) (by kernel_rfl) (by kernel_rfl) (by kernel_rfl) (fun _ _ _ h => h) (by kernel_rfl) (fun w o hSw ho => ?_) hHeld ?_
            · obtain rfl := Option.some.inj ho; obtain ⟨z0, z1, z2, z3, z4, z5, z6, z7⟩ := AtL.eightD hSw.2.1; go_simp
            simp only [Act.put, List.setIfInBounds_toArray, List.set_cons_zero, List.set_cons_succ]
            refine oneR 2 (by kernel_rfl) (by kernel_rfl) (fun o ho K' hK => ?_)
            obtain rfl := Option.some.inj ho
            clear ho
            go_simp
            refine hK.out _ _ (X.out) (fun hHeld => ?_)
            clear hK K'
            try simp only [Act.put, List.setIfInBounds_toArray, List.set_cons_zero, List.set_cons_succ]
            refine oneR 3 (by kernel_rfl) (by kernel_rfl) (fun o ho K' hK => ?_)
            obtain rfl := Option.some.inj ho
            clear ho
            go_simp
            refine hK.out _ _ (Y.out) (fun hHeld => ?_)
            clear hK K'
            try simp only [Act.put, List.setIfInBounds_toArray, List.set_cons_zero, List.set_cons_succ]
            refine wpAnyH_done (by kernel_rfl) ?_ _
            refine NoPanic.normal ?_
            go_wp2_with fail
            refine bodyPost_ret (v := .tuple #[mdV md, evV ev p cp]) ?_ rfl ⟨md, ev, p, cp, rfl, HLEN.out, YO.out.lower (by omega), Y.out.2.2⟩
            simp [results, Tryd.results15, mdV, evV, go_sem, r0, r1, r2, r3, r4, s0, s1, s2, s3, s4, s5, s6, s7]
          · have HZ := Lib.hid (HX.out.mode 4)
            have m2 := HX.out.m7.cells.get 2 rfl
            have hf7 := HX.out.m7.free
            clear HX
            go_wp2_with fail
            generalize w6.setCell ⟨b7, 2, none⟩ (.int .i64 4) = W6 at *
            have D := below_drewN (Below.refl W6.heap.size W6) 1
            obtain ⟨r0, r1, r2, r3, r4⟩ := HZ.out.m4.cells.five
            obtain ⟨s0, s1, s2, s3, s4, s5, s6, s7⟩ := AtL.eightD HZ.out.e5.cells
            have hf4 := HZ.out.m4.free
            have hf5 := HZ.out.e5.free
            have k7 := HZ.out.lt7
            have k8 := HZ.out.lt8
            have x7 := HZ.out.m7.beside (c := w.heap.size) (by omega) [.bool ({ md with mouse := 4 } : Md).cursor, .bool ({ md with mouse := 4 } : Md).coded, .int .i64 ({ md with mouse := 4 } : Md).mouse, .bool ({ md with mouse := 4 } : Md).sgr, .bool ({ md with mouse := 4 } : Md).paste] 0
            have x8 := HZ.out.e8.beside (c := w.heap.size) (by omega) [.bool ({ md with mouse := 4 } : Md).cursor, .bool ({ md with mouse := 4 } : Md).coded, .int .i64 ({ md with mouse := 4 } : Md).mouse, .bool ({ md with mouse := 4 } : Md).sgr, .bool ({ md with mouse := 4 } : Md).paste] 0
            have xB := sets_below (B := w.heap.size) (Nat.le_refl _) [.bool ({ md with mouse := 4 } : Md).cursor, .bool ({ md with mouse := 4 } : Md).coded, .int .i64 ({ md with mouse := 4 } : Md).mouse, .bool ({ md with mouse := 4 } : Md).sgr, .bool ({ md with mouse := 4 } : Md).paste] 0 _ _ HZ.out.below
            have xO := sets_own (show w.heap.size < w.heap.size + 3 by omega) [.bool ({ md with mouse := 4 } : Md).cursor, .bool ({ md with mouse := 4 } : Md).coded, .int .i64 ({ md with mouse := 4 } : Md).mouse, .bool ({ md with mouse := 4 } : Md).sgr, .bool ({ md with mouse := 4 } : Md).paste] 0 _ HZ.out.own
            have y7 := x7.beside (c := w.heap.size + 1) (by omega) [.int .i64 ev.kind, .int .i64 ev.code, .int .i64 ev.mods, .int .i64 ev.button, .int .i64 ev.act, .int .i64 ev.col, .int .i64 ev.row, .slice p ev.data.length cp] 0
            have y8 := x8.beside (c := w.heap.size + 1) (by omega) [.int .i64 ev.kind, .int .i64 ev.code, .int .i64 ev.mods, .int .i64 ev.button, .int .i64 ev.act, .int .i64 ev.col, .int .i64 ev.row, .slice p ev.data.length cp] 0
            have yB := sets_below (B := w.heap.size) (Nat.le_succ _) [.int .i64 ev.kind, .int .i64 ev.code, .int .i64 ev.mods, .int .i64 ev.button, .int .i64 ev.act, .int .i64 ev.col, .int .i64 ev.row, .slice p ev.data.length cp] 0 _ _ xB
            have yO := sets_own (show w.heap.size + 1 < w.heap.size + 3 by omega) [.int .i64 ev.kind, .int .i64 ev.code, .int .i64 ev.mods, .int .i64 ev.button, .int .i64 ev.act, .int .i64 ev.col, .int .i64 ev.row, .slice p ev.data.length cp] 0 _ xO
            have X := Lib.hid (And.intro (x7.on (below_drewN (Below.refl _ _) 1)).cells (And.intro (x8.on (below_drewN (Below.refl _ _) 1)).cells (xB.trans (below_drewN (Below.refl _ _) 1))))
            have Y := Lib.hid (And.intro (y7.on (below_drewN (Below.refl _ _) 1)).cells (And.intro (y8.on (below_drewN (Below.refl _ _) 1)).cells (yB.trans (below_drewN (Below.refl _ _) 1))))
            have YO := Lib.hid (yO.on (below_drewN (Below.refl _ _) 1))
            have HLEN := Lib.hid HZ.out.len
            clear x7 x8 xB xO y7 y8 yB yO
            refine wp_region_noPanic ?_
            refine wp_region_held_drew (S := fun W' => AtL W' b7 [.bool ({ md with mouse := 4 } : Md).cursor, .bool ({ md with mouse := 4 } : Md).coded, .int .i64 ({ md with mouse := 4 } : Md).mouse, .bool ({ md with mouse := 4 } : Md).sgr, .bool ({ md with mouse := 4 } : Md).paste] ∧ AtL W' b8 [.int .i64 ev.kind, .int .i64 ev.code, .int .i64 ev.mods, .int .i64 ev.button, .int .i64 ev.act, .int .i64 ev.col, .int .i64 ev.row, .slice p ev.data.length cp] ∧ Below w.heap.size w W') (by kernel_rfl) ⟨(HZ.out.m7.on D).cells, (HZ.out.e8.on D).cells, HZ.out.below.trans (D.mono HZ.out.below.size)⟩ (fun hHeld => ?_)
            clear D k7 k8 HZ HL HQ hl Z
            refine takeR 0 35 (.agg #[.bool ({ md with mouse := 4 } : Md).cursor, .bool ({ md with mouse := 4 } : Md).coded, .int .i64 ({ md with mouse := 4 } : Md).mouse, .bool ({ md with mouse := 4 } : Md).sgr, .bool ({ md with mouse := 4 } : Md).paste]) (by kernel_rfl) (by kernel_rfl) (by kernel_rfl) (by kernel_rfl) (fun _ _ _ h => h) (by kernel_rfl) (fun w o hSw ho => ?_) hHeld ?_
            · obtain rfl := Option.some.inj ho; obtain ⟨z0, z1, z2, z3, z4⟩ := hSw.1.five; go_simp
            simp only [Act.put, List.setIfInBounds_toArray, List.set_cons_zero, List.set_cons_succ]
            refine takeR 1 36 (.agg #[.int .i64 ev.kind, .int .i64 ev.code, .int .i64 ev.mods, .int .i64 ev.button, .int .i64 ev.act, .int .i64 ev.col, .int .i64 ev.row, .slice p ev.data.length cp]) (by kernel_rfl) (by kernel_rfl) (by kernel_rfl) (by kernel_rfl) (fun _ _ _ h => h) (by kernel_rfl) (fun w o hSw ho => ?_) hHeld ?_
            · obtain rfl := Option.some.inj ho; obtain ⟨z0, z1, z2, z3, z4, z5, z6, z7⟩ := AtL.eightD hSw.2.1; go_simp
            simp only [Act.put, List.setIfInBounds_toArray, List.set_cons_zero, List.set_cons_succ]
            refine oneR 2 (by kernel_rfl) (by kernel_rfl) (fun o ho K' hK => ?_)
            obtain rfl := Option.some.inj ho
            clear ho
            go_simp
            refine hK.out _ _ (X.out) (fun hHeld => ?_)
            clear hK K'
            try simp only [Act.put, List.setIfInBounds_toArray, List.set_cons_zero, List.set_cons_succ]
            refine oneR 3 (by kernel_rfl) (by kernel_rfl) (fun o ho K' hK => ?_)
            obtain rfl := Option.some.inj ho
            clear ho
            go_simp
            refine hK.out _ _ (Y.out) (fun hHeld => ?_)
            clear hK K'
            try simp only [Act.put, List.setIfInBounds_toArray, List.set_cons_zero, List.set_cons_succ]
            refine wpAnyH_done (by kernel_rfl) ?_ _
            refine NoPanic.normal ?_
            go_wp2_with fail
            refine bodyPost_ret (v := .tuple #[mdV ({ md with mouse := 4 } : Md), evV ev p cp]) ?_ rfl ⟨({ md with mouse := 4 } : Md), ev, p, cp, rfl, HLEN.out, YO.out.lower (by omega), Y.out.2.2⟩
            simp [results, Tryd.results15, mdV, evV, go_sem, r0, r1, r2, r3, r4, s0, s1, s2, s3, s4, s5, s6, s7]
        · go_wp2_with fail
          refine (drawEventFault_own q c l _ (HQ.out.on HX4.out.below) hl).mono ?_
          rintro e w5 ⟨ev', p', cp', rfl, hl5, ho5, hb5⟩
          have HX5 := Lib.hid (HX4.out.put (HX4.out.src.below hb5) (grown_of_below hb5 _) ho5 hl5)
          have hx4 := HX4.out.draw (HX4.out.src.below hb5) (grown_of_below hb5 _)
          obtain ⟨e0, e1, e2, e3, e4, e5, e6, e7⟩ := hx4.eight
          have hfe := hx4.e8.free
          clear hx4 ho5 hb5
          unfold evV
          unfold evC at HX5
          go_wp2_with fail
          clear e0 e1 e2 e3 e4 e5 e6 e7 hfe
          refine (l1Chance_any (w.heap.size + 2) q c _ l 16 _ HX5.out.src hl (by omega) (by omega) (by omega)).mono ?_
          rintro e w6 ⟨b16, rfl, hs6, hg6⟩
          have HX := Lib.hid (HX5.out.draw hs6 hg6)
          clear hs6 hg6
          cases b16
          · have HZ := HX
            clear HX
            go_wp2_with fail
            have D := below_drewN (Below.refl w6.heap.size w6) 1
            obtain ⟨r0, r1, r2, r3, r4⟩ := HZ.out.m4.cells.five
            obtain ⟨s0, s1, s2, s3, s4, s5, s6, s7⟩ := AtL.eightD HZ.out.e5.cells
            have hf4 := HZ.out.m4.free
            have hf5 := HZ.out.e5.free
            have k7 := HZ.out.lt7
            have k8 := HZ.out.lt8
            have x7 := HZ.out.m7.beside (c := w.heap.size) (by omega) [.bool md.cursor, .bool md.coded, .int .i64 md.mouse, .bool md.sgr, .bool md.paste] 0
            have x8 := HZ.out.e8.beside (c := w.heap.size) (by omega) [.bool md.cursor, .bool md.coded, .int .i64 md.mouse, .bool md.sgr, .bool md.paste] 0
            have xB := sets_below (B := w.heap.size) (Nat.le_refl _) [.bool md.cursor, .bool md.coded, .int .i64 md.mouse, .bool md.sgr, .bool md.paste] 0 _ _ HZ.out.below
            have xO := sets_own (show w.heap.size < w.heap.size + 3 by omega) [.bool md.cursor, .bool md.coded, .int .i64 md.mouse, .bool md.sgr, .bool md.paste] 0 _ HZ.out.own
            have y7 := x7.beside (c := w.heap.size + 1) (by omega) [.int .i64 ev'.kind, .int .i64 ev'.code, .int .i64 ev'.mods, .int .i64 ev'.button, .int .i64 ev'.act, .int .i64 ev'.col, .int .i64 ev'.row, .slice p' ev'.data.length cp'] 0
            have y8 := x8.beside (c := w.heap.size + 1) (by omega) [.int .i64 ev'.kind, .int .i64 ev'.code, .int .i64 ev'.mods, .int .i64 ev'.button, .int .i64 ev'.act, .int .i64 ev'.col, .int .i64 ev'.row, .slice p' ev'.data.length cp'] 0
            have yB := sets_below (B := w.heap.size) (Nat.le_succ _) [.int .i64 ev'.kind, .int .i64 ev'.code, .int .i64 ev'.mods, .int .i64 ev'.button, .int .i64 ev'.act, .int .i64 ev'.col, .int .i64 ev'.row, .slice p' ev'.data.length cp'] 0 _ _ xB
            have yO := sets_own (show w.heap.size + 1 < w.heap.size + 3 by omega) [.int .i64 ev'.kind, .int .i64 ev'.code, .int .i64 ev'.mods, .int .i64 ev'.button, .int .i64 ev'.act, .int .i64 ev'.col, .int .i64 ev'.row, .slice p' ev'.data.length cp'] 0 _ xO
            have X := Lib.hid (And.intro (x7.on (below_drewN (Below.refl _ _) 1)).cells (And.intro (x8.on (below_drewN (Below.refl _ _) 1)).cells (xB.trans (below_drewN (Below.refl _ _) 1))))
            have Y := Lib.hid (And.intro (y7.on (below_drewN (Below.refl _ _) 1)).cells (And.intro (y8.on (below_drewN (Below.refl _ _) 1)).cells (yB.trans (below_drewN (Below.refl _ _) 1))))
            have YO := Lib.hid (yO.on (below_drewN (Below.refl _ _) 1))
            have HLEN := Lib.hid HZ.out.len
            clear x7 x8 xB xO y7 y8 yB yO
            refine wp_region_noPanic ?_
            refine wp_region_held_drew (S := fun W' => AtL W' b7 [.bool md.cursor, .bool md.coded, .int .i64 md.mouse, .bool md.sgr, .bool md.paste] ∧ AtL W' b8 [.int .i64 ev'.kind, .int .i64 ev'.code, .int .i64 ev'.mods, .int .i64 ev'.button, .int .i64 ev'.act, .int .i64 ev'.col, .int .i64 ev'.row, .slice p' ev'.data.length cp'] ∧ Below w.heap.size w W') (by kernel_rfl) ⟨(HZ.out.m7.on D).cells, (HZ.out.e8.on D).cells, HZ.out.below.trans (D.mono HZ.out.below.size)⟩ (fun hHeld => ?_)
            clear D k7 k8 HZ HL HQ hl Z
            refine takeR 0 35 (.agg #[.bool md.cursor, .bool md.coded, .int .i64 md.mouse, .bool md.sgr, .bool md.paste]) (by kernel_rfl) (by kernel_rfl) (by kernel_rfl) (by kernel_rfl) (fun _ _ _ h => h) (by kernel_rfl) (fun w o hSw ho => ?_) hHeld ?_
            · obtain rfl := Option.some.inj ho; obtain ⟨z0, z1, z2, z3, z4⟩ := hSw.1.five; go_simp
            simp only [Act.put, List.setIfInBounds_toArray, List.set_cons_zero, List.set_cons_succ]
            refine takeR 1 36 (.agg #[.int .i64 ev'.kind, .int .i64 ev'.code, .int .i64 ev'.mods, .int .i64 ev'.button, .int .i64 ev'.act, .int .i64 ev'.col, .int .i64 ev'.row, .slice p' ev'.data.length cp']) (by kernel_rfl) (by kernel_rfl) (by kernel_rfl) (by kernel_rfl) (fun _ _ _ h => h) (by kernel_rfl) (fun w o hSw ho => ?_) hHeld ?_
            · obtain rfl := Option.some.inj ho; obtain ⟨z0, z1, z2, z3, z4, z5, z6, z7⟩ := AtL.eightD hSw.2.1; go_simp
            simp only [Act.put, List.setIfInBounds_toArray, List.set_cons_zero, List.set_cons_succ]
            refine oneR 2 (by kernel_rfl) (by kernel_rfl) (fun o ho K' hK => ?_)
            obtain rfl := Option.some.inj ho
            clear ho
            go_simp
            refine hK.out _ _ (X.out) (fun hHeld => ?_)
            clear hK K'
            try simp only [Act.put, List.setIfInBounds_toArray, List.set_cons_zero, List.set_cons_succ]
            refine oneR 3 (by kernel_rfl) (by kernel_rfl) (fun o ho K' hK => ?_)
            obtain rfl := Option.some.inj ho
            clear ho
            go_simp
            refine hK.out _ _ (Y.out) (fun hHeld => ?_)
            clear hK K'
            try simp only [Act.put, List.setIfInBounds_toArray, List.set_cons_zero, List.set_cons_succ]
            refine wpAnyH_done (by kernel_rfl) ?_ _
            refine NoPanic.normal ?_
            go_wp2_with fail
            refine bodyPost_ret (v := .tuple #[mdV md, evV ev' p' cp']) ?_ rfl ⟨md, ev', p', cp', rfl, HLEN.out, YO.out.lower (by omega), Y.out.2.2⟩
            simp [results, Tryd.results15, mdV, evV, go_sem, r0, r1, r2, r3, r4, s0, s1, s2, s3, s4, s5, s6, s7]
          · have HZ := Lib.hid (HX.out.mode 4)
            have m2 := HX.out.m7.cells.get 2 rfl
            have hf7 := HX.out.m7.free
            clear HX
            go_wp2_with fail
            generalize w6.setCell ⟨b7, 2, none⟩ (.int .i64 4) = W6 at *
            have D := below_drewN (Below.refl W6.heap.size W6) 1
            obtain ⟨r0, r1, r2, r3, r4⟩ := HZ.out.m4.cells.five
            obtain ⟨s0, s1, s2, s3, s4, s5, s6, s7⟩ := AtL.eightD HZ.out.e5.cells
            have hf4 := HZ.out.m4.free
            have hf5 := HZ.out.e5.free
            have k7 := HZ.out.lt7
            have k8 := HZ.out.lt8
            have x7 := HZ.out.m7.beside (c := w.heap.size) (by omega) [.bool ({ md with mouse := 4 } : Md).cursor, .bool ({ md with mouse := 4 } : Md).coded, .int .i64 ({ md with mouse := 4 } : Md).mouse, .bool ({ md with mouse := 4 } : Md).sgr, .bool ({ md with mouse := 4 } : Md).paste] 0
            have x8 := HZ.out.e8.beside (c := w.heap.size) (by omega) [.bool ({ md with mouse := 4 } : Md).cursor, .bool ({ md with mouse := 4 } : Md).coded, .int .i64 ({ md with mouse := 4 } : Md).mouse, .bool ({ md with mouse := 4 } : Md).sgr, .bool ({ md with mouse := 4 } : Md).paste] 0
            have xB := sets_below (B := w.heap.size) (Nat.le_refl _) [.bool ({ md with mouse := 4 } : Md).cursor, .bool ({ md with mouse := 4 } : Md).coded, .int .i64 ({ md with mouse := 4 } : Md).mouse, .bool ({ md with mouse := 4 } : Md).sgr, .bool ({ md with mouse := 4 } : Md).paste] 0 _ _ HZ.out.below
            have xO := sets_own (show w.heap.size < w.heap.size + 3 by omega) [.bool ({ md with mouse := 4 } : Md).cursor, .bool ({ md with mouse := 4 } : Md).coded, .int .i64 ({ md with mouse := 4 } : Md).mouse, .bool ({ md with mouse := 4 } : Md).sgr, .bool ({ md with mouse := 4 } : Md).paste] 0 _ HZ.out.own
            have y7 := x7.beside (c := w.heap.size + 1) (by omega) [.int .i64 ev'.kind, .int .i64 ev'.code, .int .i64 ev'.mods, .int .i64 ev'.button, .int .i64 ev'.act, .int .i64 ev'.col, .int .i64 ev'.row, .slice p' ev'.data.length cp'] 0
            have y8 := x8.beside (c := w.heap.size + 1) (by omega) [.int .i64 ev'.kind, .int .i64 ev'.code, .int .i64 ev'.mods, .int .i64 ev'.button, .int .i64 ev'.act, .int .i64 ev'.col, .int .i64 ev'.row, .slice p' ev'.data.length cp'] 0
            have yB := sets_below (B := w.heap.size) (Nat.le_succ _) [.int .i64 ev'.kind, .int .i64 ev'.code, .int .i64 ev'.mods, .int .i64 ev'.button, .int .i64 ev'.act, .int .i64 ev'.col, .int .i64 ev'.row, .slice p' ev'.data.length cp'] 0 _ _ xB
            have yO := sets_own (show w.heap.size + 1 < w.heap.size + 3 by omega) [.int .i64 ev'.kind, .int .i64 ev'.code, .int .i64 ev'.mods, .int .i64 ev'.button, .int .i64 ev'.act, .int .i64 ev'.col, .int .i64 ev'.row, .slice p' ev'.data.length cp'] 0 _ xO
            have X := Lib.hid (And.intro (x7.on (below_drewN (Below.refl _ _) 1)).cells (And.intro (x8.on (below_drewN (Below.refl _ _) 1)).cells (xB.trans (below_drewN (Below.refl _ _) 1))))
            have Y := Lib.hid (And.intro (y7.on (below_drewN (Below.refl _ _) 1)).cells (And.intro (y8.on (below_drewN (Below.refl _ _) 1)).cells (yB.trans (below_drewN (Below.refl _ _) 1))))
            have YO := Lib.hid (yO.on (below_drewN (Below.refl _ _) 1))
            have HLEN := Lib.hid HZ.out.len
            clear x7 x8 xB xO y7 y8 yB yO
            refine wp_region_noPanic ?_
            refine wp_region_held_drew (S := fun W' => AtL W' b7 [.bool ({ md with mouse := 4 } : Md).cursor, .bool ({ md with mouse := 4 } : Md).coded, .int .i64 ({ md with mouse := 4 } : Md).mouse, .bool ({ md with mouse := 4 } : Md).sgr, .bool ({ md with mouse := 4 } : Md).paste] ∧ AtL W' b8 [.int .i64 ev'.kind, .int .i64 ev'.code, .int .i64 ev'.mods, .int .i64 ev'.button, .int .i64 ev'.act, .int .i64 ev'.col, .int .i64 ev'.row, .slice p' ev'.data.length cp'] ∧ Below w.heap.size w W') (by kernel_rfl) ⟨(HZ.out.m7.on D).cells, (HZ.out.e8.on D).cells, HZ.out.below.trans (D.mono HZ.out.below.size)⟩ (fun hHeld => ?_)
            clear D k7 k8 HZ HL HQ hl Z
            refine takeR 0 35 (.agg #[.bool ({ md with mouse := 4 } : Md).cursor, .bool ({ md with mouse := 4 } : Md).coded, .int .i64 ({ md with mouse := 4 } : Md).mouse, .bool ({ md with mouse := 4 } : Md).sgr, .bool ({ md with mouse := 4 } : Md).paste]) (by kernel_rfl) (by kernel_rfl) (by kernel_rfl) (by kernel_rfl) (fun _ _ _ h => h) (by kernel_rfl) (fun w o hSw ho => ?_) hHeld ?_
            · obtain rfl := Option.some.inj ho; obtain ⟨z0, z1, z2, z3, z4⟩ := hSw.1.five; go_simp
            simp only [Act.put, List.setIfInBounds_toArray, List.set_cons_zero, List.set_cons_succ]
            refine takeR 1 36 (.agg #[.int .i64 ev'.kind, .int .i64 ev'.code, .int .i64 ev'.mods, .int .i64 ev'.button, .int .i64 ev'.act, .int .i64 ev'.col, .int .i64 ev'.row, .slice p' ev'.data.length cp']) (by kernel_rfl) (by kernel_rfl) (by kernel_rfl) (by kernel_rfl) (fun _ _ _ h => h) (by kernel_rfl) (fun w o hSw ho => ?_) hHeld ?_
            · obtain rfl := Option.some.inj ho; obtain ⟨z0, z1, z2, z3, z4, z5, z6, z7⟩ := AtL.eightD hSw.2.1; go_simp
            simp only [Act.put, List.setIfInBounds_toArray, List.set_cons_zero, List.set_cons_succ]
            refine oneR 2 (by kernel_rfl) (by kernel_rfl) (fun o ho K' hK => ?_)
            obtain rfl := Option.some.inj ho
            clear ho
            go_simp
            refine hK.out _ _ (X.out) (fun hHeld => ?_)
            clear hK K'
            try simp only [Act.put, List.setIfInBounds_toArray, List.set_cons_zero, List.set_cons_succ]
            refine oneR 3 (by kernel_rfl) (by kernel_rfl) (fun o ho K' hK => ?_)
            obtain rfl := Option.some.inj ho
            clear ho
            go_simp
            refine hK.out _ _ (Y.out) (fun hHeld => ?_)
            clear hK K'
            try simp only [Act.put, List.setIfInBounds_toArray, List.set_cons_zero, List.set_cons_succ]
            refine wpAnyH_done (by kernel_rfl) ?_ _
            refine NoPanic.normal ?_
            go_wp2_with fail
            refine bodyPost_ret (v := .tuple #[mdV ({ md with mouse := 4 } : Md), evV ev' p' cp']) ?_ rfl ⟨({ md with mouse := 4 } : Md), ev', p', cp', rfl, HLEN.out, YO.out.lower (by omega), Y.out.2.2⟩
            simp [results, Tryd.results15, mdV, evV, go_sem, r0, r1, r2, r3, r4, s0, s1, s2, s3, s4, s5, s6, s7]
        exfalso
        omega
      · go_wp2_with fail
        refine (l1Draw_any (w.heap.size + 2) q c _ l _ HL.out.src hl (by omega)).mono ?_
        rintro e w4 ⟨ev', p', cp', rfl, hlen, _, _, hde⟩
        obtain ⟨hs4, ho4, hg4, _⟩ := hde
        have HX := Lib.hid (HL.out.put hs4 hg4 (ho4.lower (by omega)) hlen)
        have hx4 := HL.out.draw hs4 hg4
        clear e0 e1 e2 e3 e4 e5 e6 e7 hfe
        obtain ⟨e0, e1, e2, e3, e4, e5, e6, e7⟩ := hx4.eight
        have hfe := hx4.e8.free
        clear hx4 hs4 ho4 hg4
        unfold evV
        unfold evC at HX
        go_wp2_with fail
        exact ⟨⟨k + 1, ev', p', cp', by omega, by go_num, HX.out.more (by omega)⟩, by simp [intOf]; omega⟩
        exfalso
        omega
    · obtain rfl : k = 20 := by omega
      go_wp2_with fail
      clear e0 e1 e2 e3 e4 e5 e6 e7 hfe
      refine (l1Chance_any (w.heap.size + 2) q c _ l 12 _ HL.out.src hl (by omega) (by omega) (by omega)).mono ?_
      rintro e w4 ⟨b12, rfl, hs4, hg4⟩
      have HX4 := Lib.hid (HL.out.draw hs4 hg4)
      clear hs4 hg4
      cases b12
      · go_wp2_with fail
        refine (l1Chance_any (w.heap.size + 2) q c _ l 16 _ HX4.out.src hl (by omega) (by omega) (by omega)).mono ?_
        rintro e w6 ⟨b16, rfl, hs6, hg6⟩
        have HX := Lib.hid (HX4.out.draw hs6 hg6)
        clear hs6 hg6
        cases b16
        · have HZ := HX
          clear HX
          go_wp2_with fail
          have D := below_drewN (Below.refl w6.heap.size w6) 1
          obtain ⟨r0, r1, r2, r3, r4⟩ := HZ.out.m4.cells.five
          obtain ⟨s0, s1, s2, s3, s4, s5, s6, s7⟩ := AtL.eightD HZ.out.e5.cells
          have hf4 := HZ.out.m4.free
          have hf5 := HZ.out.e5.free
          have k7 := HZ.out.lt7
          have k8 := HZ.out.lt8
          have x7 := HZ.out.m7.beside (c := w.heap.size) (by omega) [.bool md.cursor, .bool md.coded, .int .i64 md.mouse, .bool md.sgr, .bool md.paste] 0
          have x8 := HZ.out.e8.beside (c := w.heap.size) (by omega) [.bool md.cursor, .bool md.coded, .int .i64 md.mouse, .bool md.sgr, .bool md.paste] 0
          have xB := sets_below (B := w.heap.size) (Nat.le_refl _) [.bool md.cursor, .bool md.coded, .int .i64 md.mouse, .bool md.sgr, .bool md.paste] 0 _ _ HZ.out.below
          have xO := sets_own (show w.heap.size < w.heap.size + 3 by omega) [.bool md.cursor, .bool md.coded, .int .i64 md.mouse, .bool md.sgr, .bool md.paste] 0 _ HZ.out.own
          have y7 := x7.beside (c := w.heap.size + 1) (by omega) [.int .i64 ev.kind, .int .i64 ev.code, .int .i64 ev.mods, .int .i64 ev.button, .int .i64 ev.act, .int .i64 ev.col, .int .i64 ev.row, .slice p ev.data.length cp] 0
          have y8 := x8.beside (c := w.heap.size + 1) (by omega) [.int .i64 ev.kind, .int .i64 ev.code, .int .i64 ev.mods, .int .i64 ev.button, .int .i64 ev.act, .int .i64 ev.col, .int .i64 ev.row, .slice p ev.data.length cp] 0
          have yB := sets_below (B := w.heap.size) (Nat.le_succ _) [.int .i64 ev.kind, .int .i64 ev.code, .int .i64 ev.mods, .int .i64 ev.button, .int .i64 ev.act, .int .i64 ev.col, .int .i64 ev.row, .slice p ev.data.length cp] 0 _ _ xB
          have yO := sets_own (show w.heap.size + 1 < w.heap.size + 3 by omega) [.int .i64 ev.kind, .int .i64 ev.code, .int .i64 ev.mods, .int .i64 ev.button, .int .i64 ev.act, .int .i64 ev.col, .int .i64 ev.row, .slice p ev.data.length cp] 0 _ xO
          have X := Lib.hid (And.intro (x7.on (below_drewN (Below.refl _ _) 1)).cells (And.intro (x8.on (below_drewN (Below.refl _ _) 1)).cells (xB.trans (below_drewN (Below.refl _ _) 1))))
          have Y := Lib.hid (And.intro (y7.on (below_drewN (Below.refl _ _) 1)).cells (And.intro (y8.on (below_drewN (Below.refl _ _) 1)).cells (yB.trans (below_drewN (Below.refl _ _) 1))))
          have YO := Lib.hid (yO.on (below_drewN (Below.refl _ _) 1))
          have HLEN := Lib.hid HZ.out.len
          clear x7 x8 xB xO y7 y8 yB yO
          refine wp_region_noPanic ?_
          refine wp_region_held_drew (S := fun W' => AtL W' b7 [.bool md.cursor, .bool md.coded, .int .i64 md.mouse, .bool md.sgr, .bool md.paste] ∧ AtL W' b8 [.int .i64 ev.kind, .int .i64 ev.code, .int .i64 ev.mods, .int .i64 ev.button, .int .i64 ev.act, .int .i64 ev.col, .int .i64 ev.row, .slice p ev.data.length cp] ∧ Below w.heap.size w W') (by kernel_rfl) ⟨(HZ.out.m7.on D).cells, (HZ.out.e8.on D).cells, HZ.out.below.trans (D.mono HZ.out.below.size)⟩ (fun hHeld => ?_)
          clear D k7 k8 HZ HL HQ hl Z
          refine takeR 0 35 (.agg #[.bool md.cursor, .bool md.coded, .int .i64 md.mouse, .bool md.sgr, .bool md.paste]) (by kernel_rfl) (by kernel_rfl) (by kernel_rfl) (by kernel_rfl) (fun _ _ _ h => h) (by kernel_rfl) (fun w o hSw ho => ?_) hHeld ?_
          · obtain rfl := Option.some.inj ho; obtain ⟨z0, z1, z2, z3, z4⟩ := hSw.1.five; go_simp
          simp only [Act.put, List.setIfInBounds_toArray, List.set_cons_zero, List.set_cons_succ]
          refine takeR 1 36 (.agg #[.int .i64 ev.kind, .int .i64 ev.code, .int .i64 ev.mods, .int .i64 ev.button, .int .i64 ev.act, .int .i64 ev.col, .int .i64 ev.row, .slice p ev.data.length cp]) (by kernel_rfl) (by kernel_rfl) (by kernel_rfl) (by kernel_rfl) (fun _ _ _ h => h) (by kernel_rfl) (fun w o hSw ho => ?_) hHeld ?_
          · obtain rfl := Option.some.inj ho; obtain ⟨z0, z1, z2, z3, z4, z5, z6, z7⟩ := AtL.eightD hSw.2.1; go_simp
          simp only [Act.put, List.setIfInBounds_toArray, List.set_cons_zero, List.set_cons_succ]
          refine oneR 2 (by kernel_rfl) (by kernel_rfl) (fun o ho K' hK => ?_)
          obtain rfl := Option.some.inj ho
          clear ho
          go_simp
          refine hK.out _ _ (X.out) (fun hHeld => ?_)
          clear hK K'
          try simp only [Act.put, List.setIfInBounds_toArray, List.set_cons_zero, List.set_cons_succ]
          refine oneR 3 (by kernel_rfl) (by kernel_rfl) (fun o ho K' hK => ?_)
          obtain rfl := Option.some.inj ho
          clear ho
          go_simp
          refine hK.out _ _ (Y.out) (fun hHeld => ?_)
          clear hK K'
          try simp only [Act.put, List.setIfInBounds_toArray, List.set_cons_zero, List.set_cons_succ]
          refine wpAnyH_done (by kernel_rfl) ?_ _
          refine NoPanic.normal ?_
          go_wp2_with fail
          refine bodyPost_ret (v := .tuple #[mdV md, evV ev p cp]) ?_ rfl ⟨md, ev, p, cp, rfl, HLEN.out, YO.out.lower (by omega), Y.out.2.2⟩
          simp [results, Tryd.results15, mdV, evV, go_sem, r0, r1, r2, r3, r4, s0, s1, s2, s3, s4, s5, s6, s7]
        · have HZ := Lib.hid (HX.out.mode 4)
          have m2 := HX.out.m7.cells.get 2 rfl
          have hf7 := HX.out.m7.free
          clear HX
          go_wp2_with fail
          generalize w6.setCell ⟨b7, 2, none⟩ (.int .i64 4) = W6 at *
          have D := below_drewN (Below.refl W6.heap.size W6) 1
          obtain ⟨r0, r1, r2, r3, r4⟩ := HZ.out.m4.cells.five
          obtain ⟨s0, s1, s2, s3, s4, s5, s6, s7⟩ := AtL.eightD HZ.out.e5.cells
          have hf4 := HZ.out.m4.free
          have hf5 := HZ.out.e5.free
          have k7 := HZ.out.lt7
          have k8 := HZ.out.lt8
          have x7 := HZ.out.m7.beside (c := w.heap.size) (by omega) [.bool ({ md with mouse := 4 } : Md).cursor, .bool ({ md with mouse := 4 } : Md).coded, .int .i64 ({ md with mouse := 4 } : Md).mouse, .bool ({ md with mouse := 4 } : Md).sgr, .bool ({ md with mouse := 4 } : Md).paste] 0
          have x8 := HZ.out.e8.beside (c := w.heap.size) (by omega) [.bool ({ md with mouse := 4 } : Md).cursor, .bool ({ md with mouse := 4 } : Md).coded, .int .i64 ({ md with mouse := 4 } : Md).mouse, .bool ({ md with mouse := 4 } : Md).sgr, .bool ({ md with mouse := 4 } : Md).paste] 0
          have xB := sets_below (B := w.heap.size) (Nat.le_refl _) [.bool ({ md with mouse := 4 } : Md).cursor, .bool ({ md with mouse := 4 } : Md).coded, .int .i64 ({ md with mouse := 4 } : Md).mouse, .bool ({ md with mouse := 4 } : Md).sgr, .bool ({ md with mouse := 4 } : Md).paste] 0 _ _ HZ.out.below
          have xO := sets_own (show w.heap.size < w.heap.size + 3 by omega) [.bool ({ md with mouse := 4 } : Md).cursor, .bool ({ md with mouse := 4 } : Md).coded, .int .i64 ({ md with mouse := 4 } : Md).mouse, .bool ({ md with mouse := 4 } : Md).sgr, .bool ({ md with mouse := 4 } : Md).paste] 0 _ HZ.out.own
          have y7 := x7.beside (c := w.heap.size + 1) (by omega) [.int .i64 ev.kind, .int .i64 ev.code, .int .i64 ev.mods, .int .i64 ev.button, .int .i64 ev.act, .int .i64 ev.col, .int .i64 ev.row, .slice p ev.data.length cp] 0
          have y8 := x8.beside (c := w.heap.size + 1) (by omega) [.int .i64 ev.kind, .int .i64 ev.code, .int .i64 ev.mods, .int .i64 ev.button, .int .i64 ev.act, .int .i64 ev.col, .int .i64 ev.row, .slice p ev.data.length cp] 0
          have yB := sets_below (B := w.heap.size) (Nat.le_succ _) [.int .i64 ev.kind, .int .i64 ev.code, .int .i64 ev.mods, .int .i64 ev.button, .int .i64 ev.act, .int .i64 ev.col, .int .i64 ev.row, .slice p ev.data.length cp] 0 _ _ xB
          have yO := sets_own (show w.heap.size + 1 < w.heap.size + 3 by omega) [.int .i64 ev.kind, .int .i64 ev.code, .int .i64 ev.mods, .int .i64 ev.button, .int .i64 ev.act, .int .i64 ev.col, .int .i64 ev.row, .slice p ev.data.length cp] 0 _ xO
          have X := Lib.hid (And.intro (x7.on (below_drewN (Below.refl _ _) 1)).cells (And.intro (x8.on (below_drewN (Below.refl _ _) 1)).cells (xB.trans (below_drewN (Below.refl _ _) 1))))
          have Y := Lib.hid (And.intro (y7.on (below_drewN (Below.refl _ _) 1)).cells (And.intro (y8.on (below_drewN (Below.refl _ _) 1)).cells (yB.trans (below_drewN (Below.refl _ _) 1))))
          have YO := Lib.hid (yO.on (below_drewN (Below.refl _ _) 1))
          have HLEN := Lib.hid HZ.out.len
          clear x7 x8 xB xO y7 y8 yB yO
          refine wp_region_noPanic ?_
          refine wp_region_held_drew (S := fun W' => AtL W' b7 [.bool ({ md with mouse := 4 } : Md).cursor, .bool ({ md with mouse := 4 } : Md).coded, .int .i64 ({ md with mouse := 4 } : Md).mouse, .bool ({ md with mouse := 4 } : Md).sgr, .bool ({ md with mouse := 4 } : Md).paste] ∧ AtL W' b8 [.int .i64 ev.kind, .int .i64 ev.code, .int .i64 ev.mods, .int .i64 ev.button, .int .i64 ev.act, .int .i64 ev.col, .int .i64 ev.row, .slice p ev.data.length cp] ∧ Below w.heap.size w W') (by kernel_rfl) ⟨(HZ.out.m7.on D).cells, (HZ.out.e8.on D).cells, HZ.out.below.trans (D.mono HZ.out.below.size)⟩ (fun hHeld => ?_)
          clear D k7 k8 HZ HL HQ hl Z
          refine takeR 0 35 (.agg #[.bool ({ md with mouse := 4 } : Md).cursor, .bool ({ md with mouse := 4 } : Md).coded, .int .i64 ({ md with mouse := 4 } : Md).mouse, .bool ({ md with mouse := 4 } : Md).sgr, .bool ({ md with mouse := 4 } : Md).paste]) (by kernel_rfl) (by kernel_rfl) (by kernel_rfl) (by kernel_rfl) (fun _ _ _ h => h) (by kernel_rfl) (fun w o hSw ho => ?_) hHeld ?_
          · obtain rfl := Option.some.inj ho; obtain ⟨z0, z1, z2, z3, z4⟩ := hSw.1.five; go_simp
          simp only [Act.put, List.setIfInBounds_toArray, List.set_cons_zero, List.set_cons_succ]
          refine takeR 1 36 (.agg #[.int .i64 ev.kind, .int .i64 ev.code, .int .i64 ev.mods, .int .i64 ev.button, .int .i64 ev.act, .int .i64 ev.col, .int .i64 ev.row, .slice p ev.data.length cp]) (by kernel_rfl) (by kernel_rfl) (by kernel_rfl) (by kernel_rfl) (fun _ _ _ h => h) (by kernel_rfl) (fun w o hSw ho => ?_) hHeld ?_
          · obtain rfl := Option.some.inj ho; obtain ⟨z0, z1, z2, z3, z4, z5, z6, z7⟩ := AtL.eightD hSw.2.1; go_simp
          simp only [Act.put, List.setIfInBounds_toArray, List.set_cons_zero, List.set_cons_succ]
          refine oneR 2 (by kernel_rfl) (by kernel_rfl) (fun o ho K' hK => ?_)
          obtain rfl := Option.some.inj ho
          clear ho
          go_simp
          refine hK.out _ _ (X.out) (fun hHeld => ?_)
          clear hK K'
          try simp only [Act.put, List.setIfInBounds_toArray, List.set_cons_zero, List.set_cons_succ]
          refine oneR 3 (by kernel_rfl) (by kernel_rfl) (fun o ho K' hK => ?_)
          obtain rfl := Option.some.inj ho
          clear ho
          go_simp
          refine hK.out _ _ (Y.out) (fun hHeld => ?_)
          clear hK K'
          try simp only [Act.put, List.setIfInBounds_toArray, List.set_cons_zero, List.set_cons_succ]
          refine wpAnyH_done (by kernel_rfl) ?_ _
          refine NoPanic.normal ?_
          go_wp2_with fail
          refine bodyPost_ret (v := .tuple #[mdV ({ md with mouse := 4 } : Md), evV ev p cp]) ?_ rfl ⟨({ md with mouse := 4 } : Md), ev, p, cp, rfl, HLEN.out, YO.out.lower (by omega), Y.out.2.2⟩
          simp [results, Tryd.results15, mdV, evV, go_sem, r0, r1, r2, r3, r4, s0, s1, s2, s3, s4, s5, s6, s7]
      · go_wp2_with fail
        refine (drawEventFault_own q c l _ (HQ.out.on HX4.out.below) hl).mono ?_
        rintro e w5 ⟨ev', p', cp', rfl, hl5, ho5, hb5⟩
        have HX5 := Lib.hid (HX4.out.put (HX4.out.src.below hb5) (grown_of_below hb5 _) ho5 hl5)
        have hx4 := HX4.out.draw (HX4.out.src.below hb5) (grown_of_below hb5 _)
        obtain ⟨e0, e1, e2, e3, e4, e5, e6, e7⟩ := hx4.eight
        have hfe := hx4.e8.free
        clear hx4 ho5 hb5
        unfold evV
        unfold evC at HX5
        go_wp2_with fail
        clear e0 e1 e2 e3 e4 e5 e6 e7 hfe
        refine (l1Chance_any (w.heap.size + 2) q c _ l 16 _ HX5.out.src hl (by omega) (by omega) (by omega)).mono ?_
        rintro e w6 ⟨b16, rfl, hs6, hg6⟩
        have HX := Lib.hid (HX5.out.draw hs6 hg6)
        clear hs6 hg6
        cases b16
        · have HZ := HX
          clear HX
          go_wp2_with fail
          have D := below_drewN (Below.refl w6.heap.size w6) 1
          obtain ⟨r0, r1, r2, r3, r4⟩ := HZ.out.m4.cells.five
          obtain ⟨s0, s1, s2, s3, s4, s5, s6, s7⟩ := AtL.eightD HZ.out.e5.cells
          have hf4 := HZ.out.m4.free
          have hf5 := HZ.out.e5.free
          have k7 := HZ.out.lt7
          have k8 := HZ.out.lt8
          have x7 := HZ.out.m7.beside (c := w.heap.size) (by omega) [.bool md.cursor, .bool md.coded, .int .i64 md.mouse, .bool md.sgr, .bool md.paste] 0
          have x8 := HZ.out.e8.beside (c := w.heap.size) (by omega) [.bool md.cursor, .bool md.coded, .int .i64 md.mouse, .bool md.sgr, .bool md.paste] 0
          have xB := sets_below (B := w.heap.size) (Nat.le_refl _) [.bool md.cursor, .bool md.coded, .int .i64 md.mouse, .bool md.sgr, .bool md.paste] 0 _ _ HZ.out.below
          have xO := sets_own (show w.heap.size < w.heap.size + 3 by omega) [.bool md.cursor, .bool md.coded, .int .i64 md.mouse, .bool md.sgr, .bool md.paste] 0 _ HZ.out.own
          have y7 := x7.beside (c := w.heap.size + 1) (by omega) [.int .i64 ev'.kind, .int .i64 ev'.code, .int .i64 ev'.mods, .int .i64 ev'.button, .int .i64 ev'.act, .int .i64 ev'.col, .int .i64 ev'.row, .slice p' ev'.data.length cp'] 0
          have y8 := x8.beside (c := w.heap.size + 1) (by omega) [.int .i64 ev'.kind, .int .i64 ev'.code, .int .i64 ev'.mods, .int .i64 ev'.button, .int .i64 ev'.act, .int .i64 ev'.col, .int .i64 ev'.row, .slice p' ev'.data.length cp'] 0
          have yB := sets_below (B := w.heap.size) (Nat.le_succ _) [.int .i64 ev'.kind, .int .i64 ev'.code, .int .i64 ev'.mods, .int .i64 ev'.button, .int .i64 ev'.act, .int .i64 ev'.col, .int .i64 ev'.row, .slice p' ev'.data.length cp'] 0 _ _ xB
          have yO := sets_own (show w.heap.size + 1 < w.heap.size + 3 by omega) [.int .i64 ev'.kind, .int .i64 ev'.code, .int .i64 ev'.mods, .int .i64 ev'.button, .int .i64 ev'.act, .int .i64 ev'.col, .int .i64 ev'.row, .slice p' ev'.data.length cp'] 0 _ xO
          have X := Lib.hid (And.intro (x7.on (below_drewN (Below.refl _ _) 1)).cells (And.intro (x8.on (below_drewN (Below.refl _ _) 1)).cells (xB.trans (below_drewN (Below.refl _ _) 1))))
          have Y := Lib.hid (And.intro (y7.on (below_drewN (Below.refl _ _) 1)).cells (And.intro (y8.on (below_drewN (Below.refl _ _) 1)).cells (yB.trans (below_drewN (Below.refl _ _) 1))))
          have YO := Lib.hid (yO.on (below_drewN (Below.refl _ _) 1))
          have HLEN := Lib.hid HZ.out.len
          clear x7 x8 xB xO y7 y8 yB yO
          refine wp_region_noPanic ?_
          refine wp_region_held_drew (S := fun W' => AtL W' b7 [.bool md.cursor, .bool md.coded, .int .i64 md.mouse, .bool md.sgr, .bool md.paste] ∧ AtL W' b8 [.int .i64 ev'.kind, .int .i64 ev'.code, .int .i64 ev'.mods, .int .i64 ev'.button, .int .i64 ev'.act, .int .i64 ev'.col, .int .i64 ev'.row, .slice p' ev'.data.length cp'] ∧ Below w.heap.size w W') (by kernel_rfl) ⟨(HZ.out.m7.on D).cells, (HZ.out.e8.on D).cells, HZ.out.below.trans (D.mono HZ.out.below.size)⟩ (fun hHeld => ?_)
          clear D k7 k8 HZ HL HQ hl Z
          refine takeR 0 35 (.agg #[.bool md.cursor, .bool md.coded, .int .i64 md.mouse, .bool md.sgr, .bool md.paste]) (by kernel_rfl) (by kernel_rfl) (by kernel_rfl) (by kernel_rfl) (fun _ _ _ h => h) (by kernel_rfl) (fun w o hSw ho => ?_) hHeld ?_
          · obtain rfl := Option.some.inj ho; obtain ⟨z0, z1, z2, z3, z4⟩ := hSw.1.five; go_simp
          simp only [Act.put, List.setIfInBounds_toArray, List.set_cons_zero, List.set_cons_succ]
          refine takeR 1 36 (.agg #[.int .i64 ev'.kind, .int .i64 ev'.code, .int .i64 ev'.mods, .int .i64 ev'.button, .int .i64 ev'.act, .int .i64 ev'.col, .int .i64 ev'.row, .slice p' ev'.data.length cp']) (by kernel_rfl) (by kernel_rfl) (by kernel_rfl) (by kernel_rfl) (fun _ _ _ h => h) (by kernel_rfl) (fun w o hSw ho => ?_) hHeld ?_
          · obtain rfl := Option.some.inj ho; obtain ⟨z0, z1, z2, z3, z4, z5, z6, z7⟩ := AtL.eightD hSw.2.1; go_simp
          simp only [Act.put, List.setIfInBounds_toArray, List.set_cons_zero, List.set_cons_succ]
          refine oneR 2 (by kernel_rfl) (by kernel_rfl) (fun o ho K' hK => ?_)
          obtain rfl := Option.some.inj ho
          clear ho
          go_simp
          refine hK.out _ _ (X.out) (fun hHeld => ?_)
          clear hK K'
          try simp only [Act.put, List.setIfInBounds_toArray, List.set_cons_zero, List.set_cons_succ]
          refine oneR 3 (by kernel_rfl) (by kernel_rfl) (fun o ho K' hK => ?_)
          obtain rfl := Option.some.inj ho
          clear ho
          go_simp
          refine hK.out _ _ (Y.out) (fun hHeld => ?_)
          clear hK K'
          try simp only [Act.put, List.setIfInBounds_toArray, List.set_cons_zero, List.set_cons_succ]
          refine wpAnyH_done (by kernel_rfl) ?_ _
          refine NoPanic.normal ?_
          go_wp2_with fail
          refine bodyPost_ret (v := .tuple #[mdV md, evV ev' p' cp']) ?_ rfl ⟨md, ev', p', cp', rfl, HLEN.out, YO.out.lower (by omega), Y.out.2.2⟩
          simp [results, Tryd.results15, mdV, evV, go_sem, r0, r1, r2, r3, r4, s0, s1, s2, s3, s4, s5, s6, s7]
        · have HZ := Lib.hid (HX.out.mode 4)
          have m2 := HX.out.m7.cells.get 2 rfl
          have hf7 := HX.out.m7.free
          clear HX
          go_wp2_with fail
          generalize w6.setCell ⟨b7, 2, none⟩ (.int .i64 4) = W6 at *
          have D := below_drewN (Below.refl W6.heap.size W6) 1
          obtain ⟨r0, r1, r2, r3, r4⟩ := HZ.out.m4.cells.five
          obtain ⟨s0, s1, s2, s3, s4, s5, s6, s7⟩ := AtL.eightD HZ.out.e5.cells
          have hf4 := HZ.out.m4.free
          have hf5 := HZ.out.e5.free
          have k7 := HZ.out.lt7
          have k8 := HZ.out.lt8
          have x7 := HZ.out.m7.beside (c := w.heap.size) (by omega) [.bool ({ md with mouse := 4 } : Md).cursor, .bool ({ md with mouse := 4 } : Md).coded, .int .i64 ({ md with mouse := 4 } : Md).mouse, .bool ({ md with mouse := 4 } : Md).sgr, .bool ({ md with mouse := 4 } : Md).paste] 0
          have x8 := HZ.out.e8.beside (c := w.heap.size) (by omega) [.bool ({ md with mouse := 4 } : Md).cursor, .bool ({ md with mouse := 4 } : Md).coded, .int .i64 ({ md with mouse := 4 } : Md).mouse, .bool ({ md with mouse := 4 } : Md).sgr, .bool ({ md with mouse := 4 } : Md).paste] 0
          have xB := sets_below (B := w.heap.size) (Nat.le_refl _) [.bool ({ md with mouse := 4 } : Md).cursor, .bool ({ md with mouse := 4 } : Md).coded, .int .i64 ({ md with mouse := 4 } : Md).mouse, .bool ({ md with mouse := 4 } : Md).sgr, .bool ({ md with mouse := 4 } : Md).paste] 0 _ _ HZ.out.below
          have xO := sets_own (show w.heap.size < w.heap.size + 3 by omega) [.bool ({ md with mouse := 4 } : Md).cursor, .bool ({ md with mouse := 4 } : Md).coded, .int .i64 ({ md with mouse := 4 } : Md).mouse, .bool ({ md with mouse := 4 } : Md).sgr, .bool ({ md with mouse := 4 } : Md).paste] 0 _ HZ.out.own
          have y7 := x7.beside (c := w.heap.size + 1) (by omega) [.int .i64 ev'.kind, .int .i64 ev'.code, .int .i64 ev'.mods, .int .i64 ev'.button, .int .i64 ev'.act, .int .i64 ev'.col, .int .i64 ev'.row, .slice p' ev'.data.length cp'] 0
          have y8 := x8.beside (c := w.heap.size + 1) (by omega) [.int .i64 ev'.kind, .int .i64 ev'.code, .int .i64 ev'.mods, .int .i64 ev'.button, .int .i64 ev'.act, .int .i64 ev'.col, .int .i64 ev'.row, .slice p' ev'.data.length cp'] 0
          have yB := sets_below (B := w.heap.size) (Nat.le_succ _) [.int .i64 ev'.kind, .int .i64 ev'.code, .int .i64 ev'.mods, .int .i64 ev'.button, .int .i64 ev'.act, .int .i64 ev'.col, .int .i64 ev'.row, .slice p' ev'.data.length cp'] 0 _ _ xB
          have yO := sets_own (show w.heap.size + 1 < w.heap.size + 3 by omega) [.int .i64 ev'.kind, .int .i64 ev'.code, .int .i64 ev'.mods, .int .i64 ev'.button, .int .i64 ev'.act, .int .i64 ev'.col, .int .i64 ev'.row, .slice p' ev'.data.length cp'] 0 _ xO
          have X := Lib.hid (And.intro (x7.on (below_drewN (Below.refl _ _) 1)).cells (And.intro (x8.on (below_drewN (Below.refl _ _) 1)).cells (xB.trans (below_drewN (Below.refl _ _) 1))))
          have Y := Lib.hid (And.intro (y7.on (below_drewN (Below.refl _ _) 1)).cells (And.intro (y8.on (below_drewN (Below.refl _ _) 1)).cells (yB.trans (below_drewN (Below.refl _ _) 1))))
          have YO := Lib.hid (yO.on (below_drewN (Below.refl _ _) 1))
          have HLEN := Lib.hid HZ.out.len
          clear x7 x8 xB xO y7 y8 yB yO
          refine wp_region_noPanic ?_
          refine wp_region_held_drew (S := fun W' => AtL W' b7 [.bool ({ md with mouse := 4 } : Md).cursor, .bool ({ md with mouse := 4 } : Md).coded, .int .i64 ({ md with mouse := 4 } : Md).mouse, .bool ({ md with mouse := 4 } : Md).sgr, .bool ({ md with mouse := 4 } : Md).paste] ∧ AtL W' b8 [.int .i64 ev'.kind, .int .i64 ev'.code, .int .i64 ev'.mods, .int .i64 ev'.button, .int .i64 ev'.act, .int .i64 ev'.col, .int .i64 ev'.row, .slice p' ev'.data.length cp'] ∧ Below w.heap.size w W') (by kernel_rfl) ⟨(HZ.out.m7.on D).cells, (HZ.out.e8.on D).cells, HZ.out.below.trans (D.mono HZ.out.below.size)⟩ (fun hHeld => ?_)
          clear D k7 k8 HZ HL HQ hl Z
          refine takeR 0 35 (.agg #[.bool ({ md with mouse := 4 } : Md).cursor, .bool ({ md with mouse := 4 } : Md).coded, .int .i64 ({ md with mouse := 4 } : Md).mouse, .bool ({ md with mouse := 4 } : Md).sgr, .bool ({ md with mouse := 4 } : Md).paste]) (by kernel_rfl) (by kernel_rfl) (by kernel_rfl) (by kernel_rfl) (fun _ _ _ h => h) (by kernel_rfl) (fun w o hSw ho => ?_) hHeld ?_
          · obtain rfl := Option.some.inj ho; obtain ⟨z0, z1, z2, z3, z4⟩ := hSw.1.five; go_simp
          simp only [Act.put, List.setIfInBounds_toArray, List.set_cons_zero, List.set_cons_succ]
          refine takeR 1 36 (.agg #[.int .i64 ev'.kind, .int .i64 ev'.code, .int .i64 ev'.mods, .int .i64 ev'.button, .int .i64 ev'.act, .int .i64 ev'.col, .int .i64 ev'.row, .slice p' ev'.data.length cp']) (by kernel_rfl) (by kernel_rfl) (by kernel_rfl) (by kernel_rfl) (fun _ _ _ h => h) (by kernel_rfl) (fun w o hSw ho => ?_) hHeld ?_
          · obtain rfl := Option.some.inj ho; obtain ⟨z0, z1, z2, z3, z4, z5, z6, z7⟩ := AtL.eightD hSw.2.1; go_simp
          simp only [Act.put, List.setIfInBounds_toArray, List.set_cons_zero, List.set_cons_succ]
          refine oneR 2 (by kernel_rfl) (by kernel_rfl) (fun o ho K' hK => ?_)
          obtain rfl := Option.some.inj ho
          clear ho
          go_simp
          refine hK.out _ _ (X.out) (fun hHeld => ?_)
          clear hK K'
          try simp only [Act.put, List.setIfInBounds_toArray, List.set_cons_zero, List.set_cons_succ]
          refine oneR 3 (by kernel_rfl) (by kernel_rfl) (fun o ho K' hK => ?_)
          obtain rfl := Option.some.inj ho
          clear ho
          go_simp
          refine hK.out _ _ (Y.out) (fun hHeld => ?_)
          clear hK K'
          try simp only [Act.put, List.setIfInBounds_toArray, List.set_cons_zero, List.set_cons_succ]
          refine wpAnyH_done (by kernel_rfl) ?_ _
          refine NoPanic.normal ?_
          go_wp2_with fail
          refine bodyPost_ret (v := .tuple #[mdV ({ md with mouse := 4 } : Md), evV ev' p' cp']) ?_ rfl ⟨({ md with mouse := 4 } : Md), ev', p', cp', rfl, HLEN.out, YO.out.lower (by omega), Y.out.2.2⟩
          simp [results, Tryd.results15, mdV, evV, go_sem, r0, r1, r2, r3, r4, s0, s1, s2, s3, s4, s5, s6, s7]

end Go.Proofs.YtjopjddhgaiddaaDoor

/- DrawEncodeKey, DrawEncodeMouse. -/
namespace Go.Proofs.YtjopjddhgaiddaaDoor
open Go.RowKit
set_option linter.unusedVariables false
set_option linter.unusedSimpArgs false

theorem AnyMe.up {w w1 : World} {A B : Obj} {md : Md} {ev : Ev} {p : Option Addr} {cp : Nat} (us vs : List Value) (hl : ev.data.length ≤ 40) (ho : Own w1 ((w.alloc A).alloc B).heap.size (.slice p ev.data.length cp) ev.data) (hb : Below ((w.alloc A).alloc B).heap.size ((w.alloc A).alloc B) w1) :
    AnyMe w (.returned (.tuple #[mdV md, evV ev p cp])) (sets (sets w1 w.heap.size 0 us) (w.heap.size + 1) 0 vs) := by
  have hz : ((w.alloc A).alloc B).heap.size = w.heap.size + 2 := by simp
  rw [hz] at ho
  exact ⟨md, ev, p, cp, rfl, hl, (sets_own (by omega) vs 0 _ (sets_own (by omega) us 0 _ ho)).lower (by omega), sets_below (Nat.le_succ _) vs 0 _ _ (sets_below (Nat.le_refl _) us 0 _ _ (below_on (below_on (below_mk w A) (below_mk _ B)) hb))⟩

set_option maxRecDepth 100000 in
set_option maxHeartbeats 2000000 in
theorem drawEncodeKey_any (q : Option Addr) (c : Nat) (l : List UInt8) (w : World) (h : Bs w w.heap.size q l) (hl : l.length ≤ 1048576) :
    Calls Tryd.prog 7 #[.slice q l.length c] w (AnyMe w) := by
  have H := Lib.hid (fun A B => l5Draw_any q c l 1 ((w.alloc A).alloc B) ((h.alloc A).alloc B) hl)
  have R4 := Lib.hid (AtM.new w [.bool false, .bool false, .int .i64 0, .bool false, .bool false] 25)
  have R5 := Lib.hid (fun A => AtM.new (w.alloc A) [.int .i64 0, .int .i64 0, .int .i64 0, .int .i64 0, .int .i64 0, .int .i64 0, .int .i64 0, .slice none 0 0] 27)
  clear h
  go_enter Tryd.func7, Tryd.ntmps7
  go_wp2_with fail
  refine (H.out _ _).mono ?_
  rintro e w1 ⟨md, ev, p, cp, rfl, hlen, ho, hb⟩
  have m4 := (R4.out.on (below_mk _ _)).on hb
  have e5 := (R5.out _).on hb
  rw [World.size_alloc] at e5
  obtain ⟨r0, r1, r2, r3, r4⟩ := m4.cells.five
  obtain ⟨s0, s1, s2, s3, s4, s5, s6, s7⟩ := AtL.eightD e5.cells
  have hf4 := m4.free
  have hf5 := e5.free
  have HE := Lib.hid (fun us vs => AnyMe.up (md := md) us vs hlen ho hb)
  clear m4 e5 ho hb H R4 R5
  unfold mdV evV
  go_wp2_with fail
  refine bodyPost_ret (v := .tuple #[mdV md, evV ev p cp]) ?_ rfl (HE.out [.bool md.cursor, .bool md.coded, .int .i64 md.mouse, .bool md.sgr, .bool md.paste] [.int .i64 ev.kind, .int .i64 ev.code, .int .i64 ev.mods, .int .i64 ev.button, .int .i64 ev.act, .int .i64 ev.col, .int .i64 ev.row, .slice p ev.data.length cp])
  simp [results, Tryd.results7, mdV, evV, go_sem, r0, r1, r2, r3, r4, s0, s1, s2, s3, s4, s5, s6, s7]

set_option maxRecDepth 100000 in
set_option maxHeartbeats 2000000 in
theorem drawEncodeMouse_any (q : Option Addr) (c : Nat) (l : List UInt8) (w : World) (h : Bs w w.heap.size q l) (hl : l.length ≤ 1048576) :
    Calls Tryd.prog 9 #[.slice q l.length c] w (AnyMe w) := by
  have H := Lib.hid (fun A B => l5Draw_any q c l 2 ((w.alloc A).alloc B) ((h.alloc A).alloc B) hl)
  have R4 := Lib.hid (AtM.new w [.bool false, .bool false, .int .i64 0, .bool false, .bool false] 25)
  have R5 := Lib.hid (fun A => AtM.new (w.alloc A) [.int .i64 0, .int .i64 0, .int .i64 0, .int .i64 0, .int .i64 0, .int .i64 0, .int .i64 0, .slice none 0 0] 27)
  clear h
  go_enter Tryd.func9, Tryd.ntmps9
  go_wp2_with fail
  refine (H.out _ _).mono ?_
  rintro e w1 ⟨md, ev, p, cp, rfl, hlen, ho, hb⟩
  have m4 := (R4.out.on (below_mk _ _)).on hb
  have e5 := (R5.out _).on hb
  rw [World.size_alloc] at e5
  obtain ⟨r0, r1, r2, r3, r4⟩ := m4.cells.five
  obtain ⟨s0, s1, s2, s3, s4, s5, s6, s7⟩ := AtL.eightD e5.cells
  have hf4 := m4.free
  have hf5 := e5.free
  have HE := Lib.hid (fun us vs => AnyMe.up (md := md) us vs hlen ho hb)
  clear m4 e5 ho hb H R4 R5
  unfold mdV evV
  go_wp2_with fail
  refine bodyPost_ret (v := .tuple #[mdV md, evV ev p cp]) ?_ rfl (HE.out [.bool md.cursor, .bool md.coded, .int .i64 md.mouse, .bool md.sgr, .bool md.paste] [.int .i64 ev.kind, .int .i64 ev.code, .int .i64 ev.mods, .int .i64 ev.button, .int .i64 ev.act, .int .i64 ev.col, .int .i64 ev.row, .slice p ev.data.length cp])
  simp [results, Tryd.results9, mdV, evV, go_sem, r0, r1, r2, r3, r4, s0, s1, s2, s3, s4, s5, s6, s7]

end Go.Proofs.YtjopjddhgaiddaaDoor

/- l1Later, DrawEncodeEvent. -/
namespace Go.Proofs.YtjopjddhgaiddaaDoor
open Go.RowKit
set_option linter.unusedVariables false
set_option linter.unusedSimpArgs false

set_option maxRecDepth 100000 in
set_option maxHeartbeats 1000000 in
theorem l1Later_two (q : Option Addr) (c : Nat) (l : List UInt8) (w : World) (h : Bs w w.heap.size q l) :
    Calls Tryd.prog 17 #[.slice q l.length c, .int .i64 2] w fun e w' => e = .returned (.pointer (some ⟨w.heap.size, 0, none⟩)) ∧ Src w' w.heap.size q c l 19 ∧ Below w.heap.size w w' := by
  have H := Lib.hid h
  clear h
  go_enter Tryd.func17, Tryd.ntmps17
  go_wp2
  go_ret
  exact ⟨rfl, ⟨19, Nat.le_refl _, ⟨by simp, by simp [IntKind.wrap] <;> rfl, fun o => World.frozen?_alloc_at _ _ _ _ rfl, H.out.keep (Nat.le_refl _) fun a ha => World.cell?_alloc_lt w _ a ha⟩, by simp⟩, (Below.refl _ _).alloc (Nat.le_refl _) _⟩

theorem AnyMe.up3 {w w1 W : World} {md : Md} {ev : Ev} {p : Option Addr} {cp : Nat} (us vs : List Value) (hl : ev.data.length ≤ 40) (hz : w.heap.size + 2 ≤ W.heap.size) (ho : Own w1 W.heap.size (.slice p ev.data.length cp) ev.data) (hW : Below w.heap.size w W) (hb : Below W.heap.size W w1) :
    AnyMe w (.returned (.tuple #[mdV md, evV ev p cp])) (sets (sets w1 w.heap.size 0 us) (w.heap.size + 1) 0 vs) :=
  ⟨md, ev, p, cp, rfl, hl, (sets_own (by omega) vs 0 _ (sets_own (by omega) us 0 _ ho)).lower (by omega), sets_below (Nat.le_succ _) vs 0 _ _ (sets_below (Nat.le_refl _) us 0 _ _ (below_on hW hb))⟩
set_option maxRecDepth 100000 in
set_option maxHeartbeats 2000000 in
theorem drawEncodeEvent_any (q : Option Addr) (c : Nat) (l : List UInt8) (w : World) (h : Bs w w.heap.size q l) (hl : l.length ≤ 1048576) :
    Calls Tryd.prog 5 #[.slice q l.length c] w (AnyMe w) := by
  have HQ := Lib.hid h
  have R4 := Lib.hid (AtM.new w [.bool false, .bool false, .int .i64 0, .bool false, .bool false] 25)
  have R5 := Lib.hid (fun A => AtM.new (w.alloc A) [.int .i64 0, .int .i64 0, .int .i64 0, .int .i64 0, .int .i64 0, .int .i64 0, .int .i64 0, .slice none 0 0] 27)
  have B2 := Lib.hid (fun A B => below_on (below_mk w A) (below_mk (w.alloc A) B))
  clear h
  go_enter Tryd.func5, Tryd.ntmps5
  go_wp2_with fail
  refine (l1Later_two q c l _ (HQ.out.on (B2.out _ _))).mono ?_
  rintro e w1 ⟨rfl, hs1, hb1⟩
  rw [World.size_alloc, World.size_alloc] at hs1
  have m1 := (R4.out.on (below_mk _ _)).on hb1
  have e1 := (R5.out _).on hb1
  rw [World.size_alloc] at e1
  have HM1 := Lib.hid m1
  have HE1 := Lib.hid e1
  have HB1 := Lib.hid (below_on (B2.out _ _) hb1)
  have z1 := hb1.size
  rw [World.size_alloc, World.size_alloc] at z1
  clear m1 e1 hb1 R4 R5
  go_wp2_with fail
  refine (l1Next_src (w.heap.size + 1 + 1) q c 19 l 4 _ hs1 hl (by omega) (by omega) (by omega)).mono ?_
  rintro e w2 ⟨v, rfl, ⟨hv0, hv1⟩, hs2, hg2⟩
  have HM2 := Lib.hid (HM1.out.far hg2 (by intro e; injection e; omega))
  have HE2 := Lib.hid (HE1.out.far hg2 (by intro e; injection e; omega))
  have HB2 := Lib.hid (HB1.out.grown hg2 HB1.out.size (fun k hk => by cases hk; omega))
  have hz2 : w.heap.size + 2 ≤ w2.heap.size := by have := hg2.size; omega
  have hw : IntKind.i64.wrap (1 + v) = 1 + v := IntWalk.i64_in _ ⟨by omega, by omega⟩
  clear hs1 hs2 hg2 HM1 HE1 HB1 z1
  go_wp2_with fail
  refine (l5Draw_any q c l (1 + v) _ (HQ.out.on HB2.out) hl).mono ?_
  rintro e w3 ⟨md, ev, p, cp, rfl, hlen, ho, hb⟩
  have m4 := HM2.out.on hb
  have e5 := HE2.out.on hb
  obtain ⟨r0, r1, r2, r3, r4⟩ := m4.cells.five
  obtain ⟨s0, s1, s2, s3, s4, s5, s6, s7⟩ := AtL.eightD e5.cells
  have hf4 := m4.free
  have hf5 := e5.free
  have HE := Lib.hid (fun us vs => AnyMe.up3 (md := md) us vs hlen hz2 ho HB2.out hb)
  clear m4 e5 ho hb HM2 HE2 hz2
  unfold mdV evV
  go_wp2_with fail
  refine bodyPost_ret (v := .tuple #[mdV md, evV ev p cp]) ?_ rfl (HE.out [.bool md.cursor, .bool md.coded, .int .i64 md.mouse, .bool md.sgr, .bool md.paste] [.int .i64 ev.kind, .int .i64 ev.code, .int .i64 ev.mods, .int .i64 ev.button, .int .i64 ev.act, .int .i64 ev.col, .int .i64 ev.row, .slice p ev.data.length cp])
  simp [results, Tryd.results5, mdV, evV, go_sem, r0, r1, r2, r3, r4, s0, s1, s2, s3, s4, s5, s6, s7]

end Go.Proofs.YtjopjddhgaiddaaDoor
