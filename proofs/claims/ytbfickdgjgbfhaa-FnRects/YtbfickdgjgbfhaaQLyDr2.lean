/- l6Draw of the model: a layout drawn. -/
import Derived.Test.YtbfickdgjgbfhaaQLySpec4ToLyDr1
import Derived.Test.YtbfickdgjgbfhaaQLyImpl5ToLyIn
import Derived.Test.YtbfickdgjgbfhaaQDrawsToDraws3
namespace Go.Proofs.Ytbfickdgjgbfhaa
open Go.RowKit
set_option linter.unusedVariables false

theorem grown_cellY (W : World) (b i : Nat) (u : Value) : W.grownBy (W.setCell ⟨b, i, none⟩ u) (some b) := ⟨rfl, rfl, rfl, by simp, fun k _ hk => Below.heap_setCell _ _ _ _ (fun e => hk (by rw [e]))⟩
/-- what a draw of a layout leaves -/
def LyPost (w : World) (g : Nat) (q : Option Addr) (c : Nat) (l : List UInt8) (N : Nat) (e : Ending) (w' : World) : Prop :=
  ∃ (a : Ly) (v : Value), e = .returned (.agg #[.int .i64 a.wide, .int .i64 a.high, v]) ∧ 1 ≤ a.nodes.length ∧ a.nodes.length ≤ 9 ∧ OwnQ 76 w' (w.heap.size + 1) v a.nodes ∧ Src w' g q c l N ∧ w.grownBy w' (some g)

/-- at the head of l6Draw's loop: the layout lies in block b3 -/
structure DL (w : World) (g : Nat) (q : Option Addr) (c : Nat) (l : List UInt8) (N b3 : Nat) (a : Ly) (ad : Addr) (cp : Nat) (W : World) : Prop where
  src : Src W g q c l N
  r2 : AtM W w.heap.size [.int .i64 0, .int .i64 0, .slice none 0 0]
  m3 : AtM W b3 (lyL a (some ad) cp)
  own : OwnQ 76 W (w.heap.size + 1) (.slice (some ad) a.nodes.length cp) a.nodes
  ne : ad.block ≠ b3
  kept : w.grownBy W (some g)
  b3w : w.heap.size < b3
  gw : g < w.heap.size
  pos : 1 ≤ a.nodes.length
theorem DL.blk {w : World} {g : Nat} {q : Option Addr} {c : Nat} {l : List UInt8} {N b3 : Nat} {a : Ly} {ad : Addr} {cp : Nat} {W : World} (h : DL w g q c l N b3 a ad cp W) : ∃ go, ad = ⟨go, 0, none⟩ ∧ w.heap.size + 1 ≤ go ∧ go < W.heap.size := by
  rcases h.own.form with ⟨e, _⟩ | ⟨go, cap, e, h1, h2, _⟩
  · simp at e
  · simp only [Value.slice.injEq, Option.some.injEq] at e
    exact ⟨go, e.1, h1, h2⟩
theorem DL.draw {w : World} {g : Nat} {q : Option Addr} {c : Nat} {l : List UInt8} {N M b3 : Nat} {a : Ly} {ad : Addr} {cp : Nat} {W W' : World} (h : DL w g q c l N b3 a ad cp W) (hs : Src W' g q c l M) (hg : W.grownBy W' (some g)) : DL w g q c l M b3 a ad cp W' := by
  have h1 := h.b3w
  have h2 := h.gw
  exact ⟨hs, h.r2.far hg (by intro e; injection e; omega), h.m3.far hg (by intro e; injection e; omega), h.own.far hg (fun j hj e => by have := (h.own.lt j hj).1; injection e; omega), h.ne, grown_trans h.kept hg, h1, h2, h.pos⟩
theorem DL.on {w : World} {g : Nat} {q : Option Addr} {c : Nat} {l : List UInt8} {N b3 : Nat} {a : Ly} {ad : Addr} {cp : Nat} {W W' : World} (h : DL w g q c l N b3 a ad cp W) (hb : Below W.heap.size W W') : DL w g q c l N b3 a ad cp W' :=
  h.draw (h.src.below hb) (grown_of_below hb _)

/-- a block of the round's own is written -/
theorem DL.far {w : World} {g : Nat} {q : Option Addr} {c : Nat} {l : List UInt8} {N b3 : Nat} {a : Ly} {ad : Addr} {cp : Nat} {W W' : World} (h : DL w g q c l N b3 a ad cp W) {gx : Nat} (hg : W.grownBy W' (some gx)) (h1 : w.heap.size < gx) (h2 : gx ≠ b3) (h3 : gx ≠ ad.block) : DL w g q c l N b3 a ad cp W' := by
  have h4 := h.gw
  refine ⟨h.src.grown hg (by intro j hj; injection hj; omega), h.r2.far hg (by intro e; injection e; omega), h.m3.far hg (by intro e; injection e; omega), h.own.far hg (fun j hj e => ?_), h.ne, grownBy_on h.kept hg (fun j hj => by cases hj; exact .inl (by omega)), h.b3w, h.gw, h.pos⟩
  obtain ⟨go, rfl, -, -⟩ := h.blk
  simp [Value.ownBlock] at hj
  injection e with e
  exact h3 (by show gx = go; omega)
/-- the drawn layout takes the place of the old one -/
theorem DL.next {w : World} {g : Nat} {q : Option Addr} {c : Nat} {l : List UInt8} {N b3 : Nat} {a : Ly} {ad : Addr} {cp : Nat} {W : World} (h : DL w g q c l N b3 a ad cp W) {L : List Q} {gx cx : Nat} (ho : OwnQ 76 W (w.heap.size + 1) (.slice (some ⟨gx, 0, none⟩) L.length cx) L) (hgx : gx ≠ b3) (hp : 1 ≤ L.length) :
    DL w g q c l N b3 ⟨a.wide, a.high, L⟩ ⟨gx, 0, none⟩ cx (sets W b3 0 [.int .i64 a.wide, .int .i64 a.high, .slice (some ⟨gx, 0, none⟩) L.length cx]) := by
  have hg := sets_grown (b := b3) [.int .i64 a.wide, .int .i64 a.high, .slice (some ⟨gx, 0, none⟩) L.length cx] 0 W
  have h1 := h.b3w
  have h2 := h.gw
  refine ⟨h.src.grown hg (by intro j hj; injection hj; omega), h.r2.far hg (by intro e; injection e; omega), h.m3.sets _ rfl, ho.far hg (fun j hj e => ?_), hgx, grownBy_on h.kept hg (fun j hj => by cases hj; exact .inl (by omega)), h.b3w, h.gw, hp⟩
  simp [Value.ownBlock] at hj
  injection e with e
  omega

set_option maxRecDepth 100000 in
set_option maxHeartbeats 8000000 in
theorem l6Draw_any (g : Nat) (q : Option Addr) (c N : Nat) (l : List UInt8) (w : World) (h : Src w g q c l N) (hl : l.length ≤ 1048576) (hn : N ≤ 900000) :
    Calls Try.prog 92 #[.pointer (some ⟨g, 0, none⟩)] w (LyPost w g q c l (N + 40)) := by
  obtain ⟨i0, hi, hz0, hz1, hz2⟩ := info_parts Try.info_nodeD
  have HI := Lib.hid (And.intro hi (And.intro hz0 (And.intro hz1 hz2)))
  clear hi hz0 hz1 hz2
  have hgw := h.choose_spec.2.2
  have S0 := Lib.hid (h.below (below_mk w (.cells #[.int .i64 0, .int .i64 0, .slice none 0 0] 28)))
  have R0 := Lib.hid (AtM.new w [.int .i64 0, .int .i64 0, .slice none 0 0] 28)
  have K0 := Lib.hid (World.grownBy_alloc w (.cells #[.int .i64 0, .int .i64 0, .slice none 0 0] 28) (some g))
  clear h
  go_enter Try.func92, Try.ntmps92
  go_upto_region 1 with (fail)
  generalize w.alloc (.cells #[.int .i64 0, .int .i64 0, .slice none 0 0] 28) = W0 at *
  go_wp2_with fail
  refine (l1Pick_lit g q c N l _ S0.out hl (by omega) [40, 80, 20, 7] 4 rfl (fun v => 7 ≤ v ∧ v ≤ 80) (by omega) (by omega) _ rfl _ (by simp)).mono ?_
  rintro e w1 ⟨v1, rfl, _, hs1, hg1⟩
  have S1 := Lib.hid hs1
  have R1 := Lib.hid (R0.out.far hg1 (by intro e; injection e; omega))
  have K1 := Lib.hid (grown_trans K0.out hg1)
  clear S0 R0 K0 hs1 hg1
  go_wp2_with fail
  refine (l1Pick_lit g q c _ l _ S1.out hl (by omega) [20, 24, 9, 5] 4 rfl (fun v => 5 ≤ v ∧ v ≤ 24) (by omega) (by omega) _ rfl _ (by simp)).mono ?_
  rintro e w2 ⟨v2, rfl, _, hs2, hg2⟩
  have S2 := Lib.hid hs2
  have R2 := Lib.hid (R1.out.far hg2 (by intro e; injection e; omega))
  have K2 := Lib.hid (grown_trans K1.out hg2)
  clear S1 R1 K1 hs2 hg2
  go_wp2_with fail
  refine (l1Next_src g q c _ l 3 _ S2.out hl (by omega) (by omega) (by omega)).mono ?_
  rintro e w3 ⟨v3, rfl, _, hs3, hg3⟩
  have D3 : Hid (DL w g q c l (N + 1 + 1 + 1) (w3.heap.size + 1) ⟨v1, v2, [⟨1, v3, 0, 0, 0⟩]⟩ ⟨w3.heap.size, 0, none⟩ 1 ((w3.alloc (.cells #[.int .i64 1, .int .i64 v3, .int .i64 0, .int .i64 0, .int .i64 0] 76)).alloc (.cells #[.int .i64 v1, .int .i64 v2, .slice (some ⟨w3.heap.size, 0, none⟩) 1 1] 28))) := by
    have b := below_on (below_mk w3 (.cells #[.int .i64 1, .int .i64 v3, .int .i64 0, .int .i64 0, .int .i64 0] 76)) (below_mk _ (.cells #[.int .i64 v1, .int .i64 v2, .slice (some ⟨w3.heap.size, 0, none⟩) 1 1] 28))
    have k3 := grown_trans K2.out hg3
    have r3 := R2.out.far hg3 (by intro e; injection e; omega)
    have hlt := r3.cells.1
    have m := AtM.new (w3.alloc (.cells #[.int .i64 1, .int .i64 v3, .int .i64 0, .int .i64 0, .int .i64 0] 76)) [.int .i64 v1, .int .i64 v2, .slice (some ⟨w3.heap.size, 0, none⟩) 1 1] 28
    rw [World.size_alloc] at m
    exact ⟨hs3.below b, r3.on b, m, (ownQ_one 76 w3 ⟨1, v3, 0, 0, 0⟩ (by omega) rfl).on (below_mk _ _), by show w3.heap.size ≠ w3.heap.size + 1; omega, grown_trans k3 (grown_of_below b _), by omega, hgw, by simp⟩
  clear S2 R2 K2 hs3 hg3
  go_upto_region 2 with (fail)
  generalize (w3.alloc (.cells #[.int .i64 1, .int .i64 v3, .int .i64 0, .int .i64 0, .int .i64 0] 76)).alloc (.cells #[.int .i64 v1, .int .i64 v2, .slice (some ⟨w3.heap.size, 0, none⟩) 1 1] 28) = W3 at *
  go_wp2_with fail
  refine (l1Next_src g q c _ l 5 _ D3.out.src hl (by omega) (by omega) (by omega)).mono ?_
  rintro e w4 ⟨v4, rfl, ⟨hv0, hv1⟩, hs4, hg4⟩
  obtain ⟨k, rfl⟩ := Int.eq_ofNat_of_zero_le hv0
  have D4 := Lib.hid (D3.out.draw hs4 hg4)
  clear D3 hs4 hg4
  generalize hb3 : w3.heap.size + 1 = b3 at *
  clear hb3
  go_wp2_with fail
  go_loopw [4] (fun i W => ∃ (n : Nat) (a : Ly) (ad : Addr) (cp M : Nat), i = .int .i64 n ∧ n ≤ 4 ∧ a.nodes.length + 2 * n ≤ 9 ∧ M + 4 * n ≤ N + 30 ∧ DL w g q c l M b3 a ad cp W) (fun i _ => (intOf i).toNat)
  case atStart => exact ⟨k, _, _, _, _, rfl, by omega, by simp; omega, by omega, D4.out⟩
  case round =>
    obtain ⟨n, a, ad, cp, M, rfl, hn4, hlen, hM, hd⟩ := hrel
    have HD := Lib.hid hd
    have HLEN := Lib.hid hlen
    clear hlen D4
    by_cases hz : n = 0
    · subst hz
      have hi : ¬ (0 : Int) < ((0 : Nat) : Int) := by omega
      obtain ⟨x0, x1, x2⟩ := hd.m3.cells.tri
      have r0 := hd.r2.cells.get 0 rfl
      have r1 := hd.r2.cells.get 1 rfl
      have r2 := hd.r2.cells.get 2 rfl
      have hfz := hd.r2.free
      have HE : Hid (LyPost w g q c l (N + 40) (.returned (.agg #[.int .i64 a.wide, .int .i64 a.high, .slice (some ad) a.nodes.length cp])) (sets wr w.heap.size 0 [.int .i64 a.wide, .int .i64 a.high, .slice (some ad) a.nodes.length cp])) := by
        have hg := sets_grown (b := w.heap.size) [.int .i64 a.wide, .int .i64 a.high, .slice (some ad) a.nodes.length cp] 0 wr
        have h2 := hd.gw
        exact ⟨a, _, rfl, hd.pos, by have := HLEN.out; omega, hd.own.far hg (fun j hj e => by have := (hd.own.lt j hj).1; injection e; omega), (hd.src.grown hg (by intro j hj; injection hj; omega)).more (by omega), grownBy_on hd.kept hg (fun j hj => by cases hj; exact .inl (Nat.le_refl _))⟩
      clear hd HD
      go_wp2_with fail
      refine bodyPost_ret (v := .agg #[.int .i64 a.wide, .int .i64 a.high, .slice (some ad) a.nodes.length cp]) ?_ rfl HE.out
      simp [results, Try.results92, go_sem, r0, r1, r2]
    · obtain ⟨m, rfl⟩ : ∃ m, n = m + 1 := ⟨n - 1, by omega⟩
      have hi : (0 : Int) < ((m + 1 : Nat) : Int) := by omega
      obtain ⟨x0, x1, x2⟩ := hd.m3.cells.tri
      have hpos := hd.pos
      clear hd
      go_wp2_with fail
      have hlen := HLEN.out
      refine (l1Next_src g q c _ l a.nodes.length _ HD.out.src hl (by omega) (by omega) (by omega)).mono ?_
      rintro e w5 ⟨v5, rfl, ⟨h50, h51⟩, hs5, hg5⟩
      obtain ⟨i, rfl⟩ := Int.eq_ofNat_of_zero_le h50
      have D5 := Lib.hid (HD.out.draw hs5 hg5)
      clear HD hs5 hg5 x0 x1 x2
      go_wp2_with fail
      refine (l1Next_src g q c _ l 6 _ D5.out.src hl (by omega) (by omega) (by omega)).mono ?_
      rintro e w6 ⟨pane, rfl, _, hs6, hg6⟩
      have D6 := Lib.hid (D5.out.draw hs6 hg6)
      clear D5 hs6 hg6
      obtain ⟨go, rfl, hgo1, hgo2⟩ := D6.out.blk
      have hil : i < a.nodes.length := by omega
      have HROW := Lib.hid (D6.out.own.row.2.1 i hil)
      obtain ⟨x0, x1, x2⟩ := D6.out.m3.cells.tri
      obtain ⟨y0, y1, y2, y3, y4⟩ := HROW.out
      have HAS := Lib.hid (l6Has_any a pane (some ⟨go, 0, none⟩) cp b3 w6 ⟨D6.out.m3.cells, D6.out.own.bs.2⟩ (by omega))
      have HNEXT : Hid (∃ (n : Nat) (a : Ly) (ad : Addr) (cp M : Nat), Value.int .i64 (m : Int) = .int .i64 n ∧ n ≤ 4 ∧ a.nodes.length + 2 * n ≤ 9 ∧ M + 4 * n ≤ N + 30 ∧ DL w g q c l M b3 a ad cp w6) := ⟨m, a, _, cp, _, rfl, by omega, by omega, by omega, D6.out⟩
      have hlen2 : 0 ≤ (i : Int) := by omega
      clear hlen hlen2
      by_cases hk : (nth a.nodes i).x0 = 1
      · rw [hk] at y0
        go_wp2_with fail
        refine HAS.out.mono ?_
        rintro e w' ⟨rfl, rfl⟩
        cases hh : hasB a.nodes pane
        · go_wp2_with fail
          have hb3l := D6.out.m3.cells.1
          have hlen := HLEN.out
          refine (l6Copy_any b3 a ⟨go, 0, none⟩ cp w6 D6.out.m3.cells D6.out.own.bs.2 (by omega)).mono ?_
          rintro e w7 ⟨v7, rfl, ho7, hb7⟩
          rcases ho7.form with ⟨_, hnil⟩ | ⟨g7, cap7, rfl, h71, h72, _⟩
          · rw [hnil] at hil; simp at hil
          have BB := below_mk w7 (.cells #[.int .i64 a.wide, .int .i64 a.high, .slice (some ⟨g7, 0, none⟩) a.nodes.length cap7] 28)
          have D8 := Lib.hid ((D6.out.on hb7).on BB)
          have N8 := Lib.hid (AtM.new w7 [.int .i64 a.wide, .int .i64 a.high, .slice (some ⟨g7, 0, none⟩) a.nodes.length cap7] 28)
          have O8 := Lib.hid (ho7.on BB)
          have hs7 := hb7.size
          have hs8 : (w7.alloc (.cells #[.int .i64 a.wide, .int .i64 a.high, .slice (some ⟨g7, 0, none⟩) a.nodes.length cap7] 28)).heap.size = w7.heap.size + 1 := by simp
          have HS8 := Lib.hid hs8
          have HB68 := Lib.hid (below_on hb7 BB)
          clear ho7 hb7 BB HROW HAS x0 x1 x2 y0 y1 y2 y3 y4 hs8
          go_upto_region 9 with (fail)
          generalize w7.alloc (.cells #[.int .i64 a.wide, .int .i64 a.high, .slice (some ⟨g7, 0, none⟩) a.nodes.length cap7] 28) = W8 at *
          obtain ⟨x0, x1, x2⟩ := D8.out.m3.cells.tri
          go_wp2_with fail
          clear x0 x1 x2
          have X3 := Lib.hid (fun W' (hb : Below w6.heap.size W8 W') => (D8.out.m3.cells.keep hb.size (fun o => hb.cell (p := ⟨b3, o, none⟩) hb3l)).tri)
          have Y3 := Lib.hid (fun W' (hb : Below w6.heap.size W8 W') => (D8.out.own.row.2.1 i hil).below hb hgo2)
          have i0' : (0 : Int) ≤ (i : Int) := by omega
          have i1 : (i : Int) < (a.nodes.length : Int) := by omega
          go_cut [60] from 22 to 79 (fun s60 wx => ∃ gx cx, s60 = (.slice (some ⟨gx, 0, none⟩) (a.nodes.length + 2) cx) ∧ Below w6.heap.size W8 wx ∧ AtM wx w7.heap.size [.int .i64 a.wide, .int .i64 a.high, (.slice (some ⟨gx, 0, none⟩) (a.nodes.length + 2) cx)] ∧ OwnQ 76 wx w6.heap.size (.slice (some ⟨gx, 0, none⟩) (a.nodes.length + 2) cx) (a.nodes ++ ([⟨1, (nth a.nodes i).x1, 0, 0, 0⟩, ⟨1, pane, 0, 0, 0⟩] : List Q)) ∧ gx ≠ w7.heap.size)
          case rest =>
            obtain ⟨gx, cx, rfl, hB, hm7, ho7, hgx⟩ := hcut
            have D9 := Lib.hid (D6.out.on (HB68.out.trans hB))
            have M9 := Lib.hid hm7
            have el : (a.nodes ++ ([⟨1, (nth a.nodes i).x1, 0, 0, 0⟩, ⟨1, pane, 0, 0, 0⟩] : List Q)).length = a.nodes.length + 2 := by simp
            have O9 := Lib.hid ho7
            have hgxl := (ho7.lt gx rfl).1
            have hb36 := D6.out.m3.cells.1
            have hw6 := D6.out.r2.cells.1
            have hb7 : w6.heap.size ≤ w7.heap.size := hs7
            generalize a.nodes ++ ([⟨1, (nth a.nodes i).x1, 0, 0, 0⟩, ⟨1, pane, 0, 0, 0⟩] : List Q) = L at *
            have HEL := Lib.hid el
            clear hB hm7 ho7 el D6 D8 N8 O8 HB68 HS8 X3 Y3 HNEXT
            generalize w7.heap.size = b7 at *
            have hn9 := HLEN.out
            go_upto_region 11 with (fail)
            have bd := below_drewN (Below.refl wc.heap.size wc) 1
            have DD := Lib.hid (D9.out.on bd)
            have hS0 := (M9.out.on bd).cells
            refine wp_region_noPanic ?_
            refine wp_region_held_drew (S := fun W' => AtL W' b7 [.int .i64 a.wide, .int .i64 a.high, .slice (some ⟨gx, 0, none⟩) (a.nodes.length + 2) cx]) (by kernel_rfl) hS0 (fun hHeld => ?_)
            refine takeA 0 62 (.pointer (some ⟨b7, 2, none⟩)) hHeld ?_
            simp only [Act.put, sa, s0, ss]
            refine takeB 1 63 (.slice (some ⟨gx, 0, none⟩) (a.nodes.length + 2) cx) (fun w o hSw ho => ?_) hHeld ?_
            · obtain rfl := Option.some.inj ho; (obtain ⟨z0, z1, z2⟩ := AtL.tri hSw; go_simp)
            simp only [Act.put, sa, s0, ss]
            refine takeA 2 64 (.int .i64 (i : Int)) hHeld ?_
            simp only [Act.put, sa, s0, ss]
            refine takeA 3 65 (.pointer (some ⟨g, 0, none⟩)) hHeld ?_
            simp only [Act.put, sa, s0, ss]
            refine takeA 6 68 (.pointer (some ⟨g, 0, none⟩)) hHeld ?_
            simp only [Act.put, sa, s0, ss]
            refine takeA 9 71 (.int .i64 (a.nodes.length : Int)) hHeld ?_
            simp only [Act.put, sa, s0, ss]
            refine takeA 10 72 (.int .i64 (a.nodes.length : Int)) hHeld ?_
            simp only [Act.put, sa, s0, ss]
            have hw1 : IntKind.i64.wrap ((a.nodes.length : Int) + 1) = (a.nodes.length : Int) + 1 := IntWalk.i64_in _ ⟨by omega, by omega⟩
            refine takeA 11 73 (.int .i64 ((a.nodes.length : Int) + 1)) hHeld ?_
            simp only [Act.put, sa, s0, ss]
            refine oneR 4 (by kernel_rfl) (by kernel_rfl) (fun o ho K' hK => ?_)
            obtain rfl := Option.some.inj ho
            clear ho
            go_simp
            have b1 := below_drewN (below_mk wc (.cells #[.int .i64 2, .int .i64 3] 2)) 1
            have D10 := Lib.hid (D9.out.on b1)
            have M10 := Lib.hid (M9.out.on b1)
            have O10 := Lib.hid (O9.out.on b1)
            have hP : ∀ j, j < 2 → ∃ v : Int, (wc.alloc (.cells #[.int .i64 2, .int .i64 3] 2)).drew.cell? ⟨wc.heap.size, j, none⟩ = some (.int .i64 v) ∧ (v = 2 ∨ v = 3) := fun j hj => by
              have hA := (AtL.new wc [.int .i64 2, .int .i64 3] 2).on (below_drewN (Below.refl _ _) 1)
              match j, hj with
              | 0, _ => exact ⟨2, hA.get 0 rfl, .inl rfl⟩
              | 1, _ => exact ⟨3, hA.get 1 rfl, .inr rfl⟩
            have HP := Lib.hid (l1Pick_any g q c _ l _ D10.out.src hl (by omega) wc.heap.size 2 (fun v => v = 2 ∨ v = 3) (by omega) (by omega) (by have := D9.out.gw; have := D9.out.r2.cells.1; omega) (by simp) hP)
            have hS1 := M10.out.cells
            clear hHeld hS0 b1 bd hP DD D9 M9 O9
            refine hK.out _ _ (hS1) (fun hHeld => ?_)
            clear hK K'
            try simp only [Act.put, sa, s0, ss]
            refine oneR 5 (by kernel_rfl) (by kernel_rfl) (fun o ho K' hK => ?_)
            obtain rfl := Option.some.inj ho
            clear ho
            go_simp
            refine HP.out.mono ?_
            rintro e w10 ⟨v10, rfl, hv10, hs10, hg10⟩
            have D11 := Lib.hid (D10.out.draw hs10 hg10)
            have hgw := D10.out.gw
            have M11 := Lib.hid (M10.out.far hg10 (by intro e; injection e; omega))
            have O11 := Lib.hid (O10.out.far hg10 (fun j hj e => by simp [Value.ownBlock] at hj; injection e; omega))
            have hS2 := M11.out.cells
            clear hHeld hS1 hs10 hg10 HP D10 M10 O10
            go_wp2_with fail
            refine hK.out _ _ (hS2) (fun hHeld => ?_)
            clear hK K'
            try simp only [Act.put, sa, s0, ss]
            refine oneR 7 (by kernel_rfl) (by kernel_rfl) (fun o ho K' hK => ?_)
            obtain rfl := Option.some.inj ho
            clear ho
            go_simp
            refine (l1Next_src g q c _ l 9 _ D11.out.src hl (by omega) (by omega) (by omega)).mono ?_
            rintro e w11 ⟨v11, rfl, hv11, hs11, hg11⟩
            have D12 := Lib.hid (D11.out.draw hs11 hg11)
            have M12 := Lib.hid (M11.out.far hg11 (by intro e; injection e; omega))
            have O12 := Lib.hid (O11.out.far hg11 (fun j hj e => by simp [Value.ownBlock] at hj; injection e; omega))
            have hS3 := M12.out.cells
            clear hHeld hS2 hs11 hg11 D11 M11 O11
            go_wp2_with fail
            refine hK.out _ _ (hS3) (fun hHeld => ?_)
            clear hK K'
            try simp only [Act.put, sa, s0, ss]
            have hw2 : IntKind.i64.wrap (1 + v11) = 1 + v11 := IntWalk.i64_in _ ⟨by omega, by omega⟩
            refine takeA 8 70 (.int .i64 (1 + v11)) hHeld ?_
            simp only [Act.put, sa, s0, ss]
            refine takeA 12 74 (.agg #[.int .i64 v10, .int .i64 0, .int .i64 (1 + v11), .int .i64 (a.nodes.length : Int), .int .i64 ((a.nodes.length : Int) + 1)]) hHeld ?_
            simp only [Act.put, sa, s0, ss]
            have i5 : (i : Int) < (a.nodes.length : Int) + 2 := by omega
            refine takeA 13 75 (.pointer (some ⟨gx, i * 5, none⟩)) hHeld ?_
            simp only [Act.put, sa, s0, ss]
            have hil2 : i < L.length := by rw [HEL.out]; omega
            obtain ⟨-, hrow, hfz⟩ := O12.out.row
            obtain ⟨u0, u1, u2, u3, u4⟩ := hrow i hil2
            clear hrow
            refine oneR 14 (by kernel_rfl) (by kernel_rfl) (fun o ho K' hK => ?_)
            obtain rfl := Option.some.inj ho
            clear ho
            go_simp
            have hP := O12.out.put i ⟨v10, 0, 1 + v11, (a.nodes.length : Int), (a.nodes.length : Int) + 1⟩ hil2
            have hgo6 : gx ≠ go := by omega
            have D13 := Lib.hid (D12.out.far hP.2 (by omega) (by omega) hgo6)
            have M13 := Lib.hid (M12.out.far hP.2 (by intro e; injection e; omega))
            have O13 := Lib.hid hP.1
            have el2 : (L.set i ⟨v10, 0, 1 + v11, (a.nodes.length : Int), (a.nodes.length : Int) + 1⟩).length = a.nodes.length + 2 := by rw [List.length_set, HEL.out]
            have HEL2 := Lib.hid el2
            have hS4 := M13.out.cells
            clear hHeld hS3 hP D12 M12 O12 u0 u1 u2 u3 u4 hfz el2 HEL
            refine hK.out _ _ (hS4) (fun hHeld => ?_)
            clear hK K'
            try simp only [Act.put, sa, s0, ss]
            refine wpAnyH_done (by kernel_rfl) ?_ _
            refine NoPanic.normal ?_
            clear hHeld hS4
            simp only at D13 M13 O13
            generalize L.set i ⟨v10, 0, 1 + v11, (a.nodes.length : Int), (a.nodes.length : Int) + 1⟩ = L2 at *
            go_upto_region 12 with (fail)
            generalize ((((w11.setCell ⟨gx, i * 5, none⟩ (.int .i64 v10)).setCell ⟨gx, i * 5 + 1, none⟩ (.int .i64 0)).setCell ⟨gx, i * 5 + 2, none⟩ (.int .i64 (1 + v11))).setCell ⟨gx, i * 5 + 3, none⟩ (.int .i64 (a.nodes.length : Int))).setCell ⟨gx, i * 5 + 4, none⟩ (.int .i64 ((a.nodes.length : Int) + 1)) = W13 at *
            have HF : Hid (Calls Try.prog 51 #[.agg #[.int .i64 a.wide, .int .i64 a.high, .slice (some ⟨gx, 0, none⟩) (a.nodes.length + 2) cx]] W13 fun e w' => e = .returned (.int .i64 (lyFault ⟨a.wide, a.high, L2⟩)) ∧ Below W13.heap.size W13 w') := by
              have h := specLayoutFault_any ⟨a.wide, a.high, L2⟩ (some ⟨gx, 0, none⟩) cx W13 O13.out.bs.2 (by have := HEL2.out; simp only; omega)
              simp only [HEL2.out] at h
              exact h
            obtain ⟨q0, q1, q2⟩ := M13.out.cells.tri
            go_wp2_with fail
            refine HF.out.mono ?_
            rintro e w14 ⟨rfl, b14⟩
            have D14 := Lib.hid (D13.out.on b14)
            have M14 := Lib.hid (M13.out.on b14)
            have O14 := Lib.hid (O13.out.on b14)
            clear HF D13 M13 O13 b14 q0 q1 q2
            have HN : Hid (∃ (n : Nat) (a : Ly) (ad : Addr) (cp M : Nat), Value.int .i64 (m : Int) = .int .i64 n ∧ n ≤ 4 ∧ a.nodes.length + 2 * n ≤ 9 ∧ M + 4 * n ≤ N + 30 ∧ DL w g q c l M b3 a ad cp w14) := ⟨m, a, _, cp, _, rfl, by omega, by omega, by omega, D14.out⟩
            by_cases hz : lyFault ⟨a.wide, a.high, L2⟩ = 0
            · obtain ⟨q0, q1, q2⟩ := M14.out.cells.tri
              obtain ⟨x0, x1, x2⟩ := D14.out.m3.cells.tri
              have hfz := D14.out.m3.free
              obtain ⟨aw, haw⟩ : ∃ z, z = a.wide := ⟨_, rfl⟩
              obtain ⟨ah, hah⟩ : ∃ z, z = a.high := ⟨_, rfl⟩
              obtain ⟨al, hal⟩ : ∃ z, z = a.nodes.length := ⟨_, rfl⟩
              have HE : Hid (∃ (n : Nat) (a : Ly) (ad : Addr) (cp M : Nat), Value.int .i64 (m : Int) = .int .i64 n ∧ n ≤ 4 ∧ a.nodes.length + 2 * n ≤ 9 ∧ M + 4 * n ≤ N + 30 ∧ DL w g q c l M b3 a ad cp (((w14.setCell ⟨b3, 0, none⟩ (.int .i64 aw)).setCell ⟨b3, 1, none⟩ (.int .i64 ah)).setCell ⟨b3, 2, none⟩ (.slice (some ⟨gx, 0, none⟩) (al + 2) cx))) := by
                subst haw hah hal
                have h := D14.out.next (L := L2) (gx := gx) (cx := cx) (by rw [HEL2.out]; exact O14.out.lower (by omega)) (by omega) (by rw [HEL2.out]; omega)
                rw [HEL2.out] at h
                simp only [sets] at h
                exact ⟨m, ⟨a.wide, a.high, L2⟩, _, cx, M + 1 + 1 + 1 + 1, rfl, by omega, by simp only [HEL2.out]; omega, by omega, h⟩
              subst haw hah hal
              clear HN D14 M14 O14
              go_wp2_with fail
              exact ⟨HE.out, by simp [intOf]⟩
            · go_wp2_with fail
              exact ⟨HN.out, by simp [intOf]⟩
          case first =>
            refine wp_region_noPanic ?_
            refine wp_region_held_drew (S := fun W' => Below w6.heap.size W8 W') (by kernel_rfl) (below_drewN (Below.refl _ _) 1) (fun hHeld => ?_)
            refine takeA 0 48 (.pointer (some ⟨w7.heap.size, 2, none⟩)) hHeld ?_
            simp only [Act.put, sa, s0, ss]
            refine takeA 2 50 (.pointer (some ⟨b3, 2, none⟩)) hHeld ?_
            simp only [Act.put, sa, s0, ss]
            refine takeB 3 51 (.slice (some ⟨go, 0, none⟩) a.nodes.length cp) (fun w o hSw ho => ?_) hHeld ?_
            · obtain rfl := Option.some.inj ho; obtain ⟨z0, z1, z2⟩ := X3.out _ hSw; go_simp
            simp only [Act.put, sa, s0, ss]
            refine takeA 4 52 (.int .i64 (i : Int)) hHeld ?_
            simp only [Act.put, sa, s0, ss]
            refine takeA 5 53 (.pointer (some ⟨go, i * 5, none⟩)) hHeld ?_
            simp only [Act.put, sa, s0, ss]
            refine takeA 6 54 (.pointer (some ⟨go, i * 5 + 1, none⟩)) hHeld ?_
            simp only [Act.put, sa, s0, ss]
            refine takeB 7 55 (.int .i64 (nth a.nodes i).x1) (fun w o hSw ho => ?_) hHeld ?_
            · obtain rfl := Option.some.inj ho; have z := (Y3.out _ hSw).c1; go_simp
            simp only [Act.put, sa, s0, ss]
            refine takeA 8 56 (.agg #[.int .i64 1, .int .i64 (nth a.nodes i).x1, .int .i64 0, .int .i64 0, .int .i64 0]) hHeld ?_
            simp only [Act.put, sa, s0, ss]
            refine takeA 9 57 (.int .i64 pane) hHeld ?_
            simp only [Act.put, sa, s0, ss]
            refine takeA 10 58 (.agg #[.int .i64 1, .int .i64 pane, .int .i64 0, .int .i64 0, .int .i64 0]) hHeld ?_
            simp only [Act.put, sa, s0, ss]
            have DA : Hid (Below w6.heap.size W8 (W8.alloc (.cells #[.int .i64 1, .int .i64 (nth a.nodes i).x1, .int .i64 0, .int .i64 0, .int .i64 0, .int .i64 1, .int .i64 pane, .int .i64 0, .int .i64 0, .int .i64 0] 76)).drew) := below_drewN ((below_mk W8 (.cells #[.int .i64 1, .int .i64 (nth a.nodes i).x1, .int .i64 0, .int .i64 0, .int .i64 0, .int .i64 1, .int .i64 pane, .int .i64 0, .int .i64 0, .int .i64 0] 76)).mono (by have := HS8.out; omega)) 1
            have bm := below_drewN (below_mk W8 (.cells #[.int .i64 1, .int .i64 (nth a.nodes i).x1, .int .i64 0, .int .i64 0, .int .i64 0, .int .i64 1, .int .i64 pane, .int .i64 0, .int .i64 0, .int .i64 0] 76)) 1
            have OA : Hid (((W8.alloc (.cells #[.int .i64 1, .int .i64 (nth a.nodes i).x1, .int .i64 0, .int .i64 0, .int .i64 0, .int .i64 1, .int .i64 pane, .int .i64 0, .int .i64 0, .int .i64 0] 76)).drew).ownsRow w6.heap.size 76 5 (.slice (some ⟨g7, 0, none⟩) a.nodes.length cap7) a.nodes.length (a.nodes.flatMap qC)) := O8.out.on bm
            have NA := Lib.hid (N8.out.on bm)
            have LA : Hid (∀ j u, (([⟨1, (nth a.nodes i).x1, 0, 0, 0⟩, ⟨1, pane, 0, 0, 0⟩] : List Q).flatMap qC)[j]? = some u → ((W8.alloc (.cells #[.int .i64 1, .int .i64 (nth a.nodes i).x1, .int .i64 0, .int .i64 0, .int .i64 0, .int .i64 1, .int .i64 pane, .int .i64 0, .int .i64 0, .int .i64 0] 76)).drew).cell? ((⟨W8.heap.size, 0, none⟩ : Addr).add j) = some u) := fun j u hu => by
              have ea : (⟨W8.heap.size, 0, none⟩ : Addr).add j = ⟨W8.heap.size, j, none⟩ := by
                unfold Addr.add
                split
                · rename_i h0; rw [h0]
                · simp
              rw [ea]
              exact ((AtL.new W8 (([⟨1, (nth a.nodes i).x1, 0, 0, 0⟩, ⟨1, pane, 0, 0, 0⟩] : List Q).flatMap qC) 76).on (below_drewN (Below.refl _ _) 1)).get j hu
            clear bm
            have n2 := N8.out.cells.get 2 rfl
            have m2 := NA.out.cells.get 2 rfl
            have h72' : g7 < w7.heap.size := h72
            have hz68 : w6.heap.size ≤ W8.heap.size := by have := HS8.out; omega
            have hlt78 : w7.heap.size < W8.heap.size := by have := HS8.out; omega
            have m2' : (W8.alloc (.cells #[.int .i64 1, .int .i64 (nth a.nodes i).x1, .int .i64 0, .int .i64 0, .int .i64 0, .int .i64 1, .int .i64 pane, .int .i64 0, .int .i64 0, .int .i64 0] 76)).cell? ⟨w7.heap.size, 2, none⟩ = some (.slice (some ⟨g7, 0, none⟩) a.nodes.length cap7) := m2
            refine twoR 1 11 (by kernel_rfl) (by kernel_rfl) (by kernel_rfl) (fun o ho K' hK => ?_) (fun o ho K' hK => ?_)
            · obtain rfl := Option.some.inj ho
              clear ho
              go_simp
              refine hK.out _ _ (hHeld) (fun hHeld => ?_)
              clear hK K'
              try simp only [Act.put, sa, s0, ss]
              refine oneR 11 (by kernel_rfl) (by kernel_rfl) (fun o ho K' hK => ?_)
              obtain rfl := Option.some.inj ho
              clear ho
              go_simp
              refine hK.out _ _ (DA.out) (fun hHeld => ?_)
              clear hK K'
              try simp only [Act.put, sa, s0, ss]
              refine oneR 12 (by kernel_rfl) (by kernel_rfl) (fun o ho K' hK => ?_)
              obtain rfl := Option.some.inj ho
              clear ho
              refine wp_append_own _ _ _ 26 rfl w6.heap.size 76 i0 _ 5 40 Try.underlying26 HI.out.1 HI.out.2.1 HI.out.2.2.1 HI.out.2.2.2 rfl (by decide) _ _ _ rfl OA.out ⟨W8.heap.size, 0, none⟩ 2 2 (([⟨1, (nth a.nodes i).x1, 0, 0, 0⟩, ⟨1, pane, 0, 0, 0⟩] : List Q).flatMap qC) rfl rfl LA.out (flatQ_one _) (by unfold maxLen; omega) (by omega) (Nat.le_trans hz68 DA.out.size) ?_
              intro v wA hown hgrow _
              have hoA : OwnQ 76 wA w6.heap.size v (a.nodes ++ ([⟨1, (nth a.nodes i).x1, 0, 0, 0⟩, ⟨1, pane, 0, 0, 0⟩] : List Q)) := by unfold OwnQ; rw [List.length_append, List.flatMap_append]; exact hown
              have hf := hoA.form
              rw [show (a.nodes ++ ([⟨1, (nth a.nodes i).x1, 0, 0, 0⟩, ⟨1, pane, 0, 0, 0⟩] : List Q)).length = a.nodes.length + 2 from by simp] at hf
              rcases hf with ⟨_, hnil⟩ | ⟨gx, cx, rfl, hx1, hx2, _⟩
              · simp at hnil
              have NX := NA.out.far hgrow (fun e => by have e2 : some w7.heap.size = some g7 := e; injection e2; omega)
              have DX := Lib.hid (DA.out.trans (below_of_grown hgrow (Nat.le_trans hz68 DA.out.size) (fun g hg => (World.ownsRow.lt OA.out g hg).1)))
              have hgx : gx ≠ w7.heap.size := by
                rintro rfl
                have h1 := (hoA.row.2.1 0 (by simp)).c2
                have h2 := NX.cells.get 2 rfl
                simp at h1
                rw [h1] at h2
                simp at h2
              have HOA := Lib.hid hoA
              have HNX := Lib.hid NX
              clear hown hgrow hoA NX OA LA NA
              change K' (Act.put _ (some 60) _) wA
              refine hK.out _ _ (DX.out) (fun hHeld => ?_)
              clear hK K'
              try simp only [Act.put, sa, s0, ss]
              refine takeA 13 61 (.pointer (some ⟨w7.heap.size, 2, none⟩)) hHeld ?_
              simp only [Act.put, sa, s0, ss]
              have q2 := HNX.out.cells.get 2 rfl
              have hfz := HNX.out.free
              refine oneR 14 (by kernel_rfl) (by kernel_rfl) (fun o ho K' hK => ?_)
              obtain rfl := Option.some.inj ho
              clear ho
              go_simp
              have DS : Hid (Below w6.heap.size W8 (wA.setCell ⟨w7.heap.size, 2, none⟩ (.slice (some ⟨gx, 0, none⟩) (a.nodes.length + 2) cx))) := DX.out.setCell (by show w6.heap.size ≤ w7.heap.size; omega) _
              have NS : Hid (AtM (wA.setCell ⟨w7.heap.size, 2, none⟩ (.slice (some ⟨gx, 0, none⟩) (a.nodes.length + 2) cx)) w7.heap.size [.int .i64 a.wide, .int .i64 a.high, (.slice (some ⟨gx, 0, none⟩) (a.nodes.length + 2) cx)]) := HNX.out.set 2 _
              have OS : Hid (OwnQ 76 (wA.setCell ⟨w7.heap.size, 2, none⟩ (.slice (some ⟨gx, 0, none⟩) (a.nodes.length + 2) cx)) w6.heap.size (.slice (some ⟨gx, 0, none⟩) (a.nodes.length + 2) cx) (a.nodes ++ ([⟨1, (nth a.nodes i).x1, 0, 0, 0⟩, ⟨1, pane, 0, 0, 0⟩] : List Q))) := HOA.out.far (grown_cellY wA w7.heap.size 2 _) (fun j hj e => by
                have e1 : some gx = some j := hj
                injection e1 with e1
                injection e with e2
                omega)
              clear q2 hfz HNX HOA
              refine hK.out _ _ (DS.out) (fun hHeld => ?_)
              clear hK K'
              try simp only [Act.put, sa, s0, ss]
              refine wpAnyH_done (by kernel_rfl) ?_ _
              refine NoPanic.normal ?_
              go_wp2_with fail
              go_meet
              exact ⟨gx, cx, rfl, hHeld, NS.out, OS.out, hgx⟩
            · obtain rfl := Option.some.inj ho
              clear ho
              go_simp
              refine hK.out _ _ (DA.out) (fun hHeld => ?_)
              clear hK K'
              try simp only [Act.put, sa, s0, ss]
              have hne78 : ¬ w7.heap.size = W8.heap.size := by omega
              refine oneR 1 (by kernel_rfl) (by kernel_rfl) (fun o ho K' hK => ?_)
              obtain rfl := Option.some.inj ho
              clear ho
              go_simp
              refine hK.out _ _ (DA.out) (fun hHeld => ?_)
              clear hK K'
              try simp only [Act.put, sa, s0, ss]
              refine oneR 12 (by kernel_rfl) (by kernel_rfl) (fun o ho K' hK => ?_)
              obtain rfl := Option.some.inj ho
              clear ho
              refine wp_append_own _ _ _ 26 rfl w6.heap.size 76 i0 _ 5 40 Try.underlying26 HI.out.1 HI.out.2.1 HI.out.2.2.1 HI.out.2.2.2 rfl (by decide) _ _ _ rfl OA.out ⟨W8.heap.size, 0, none⟩ 2 2 (([⟨1, (nth a.nodes i).x1, 0, 0, 0⟩, ⟨1, pane, 0, 0, 0⟩] : List Q).flatMap qC) rfl rfl LA.out (flatQ_one _) (by unfold maxLen; omega) (by omega) (Nat.le_trans hz68 DA.out.size) ?_
              intro v wA hown hgrow _
              have hoA : OwnQ 76 wA w6.heap.size v (a.nodes ++ ([⟨1, (nth a.nodes i).x1, 0, 0, 0⟩, ⟨1, pane, 0, 0, 0⟩] : List Q)) := by unfold OwnQ; rw [List.length_append, List.flatMap_append]; exact hown
              have hf := hoA.form
              rw [show (a.nodes ++ ([⟨1, (nth a.nodes i).x1, 0, 0, 0⟩, ⟨1, pane, 0, 0, 0⟩] : List Q)).length = a.nodes.length + 2 from by simp] at hf
              rcases hf with ⟨_, hnil⟩ | ⟨gx, cx, rfl, hx1, hx2, _⟩
              · simp at hnil
              have NX := NA.out.far hgrow (fun e => by have e2 : some w7.heap.size = some g7 := e; injection e2; omega)
              have DX := Lib.hid (DA.out.trans (below_of_grown hgrow (Nat.le_trans hz68 DA.out.size) (fun g hg => (World.ownsRow.lt OA.out g hg).1)))
              have hgx : gx ≠ w7.heap.size := by
                rintro rfl
                have h1 := (hoA.row.2.1 0 (by simp)).c2
                have h2 := NX.cells.get 2 rfl
                simp at h1
                rw [h1] at h2
                simp at h2
              have HOA := Lib.hid hoA
              have HNX := Lib.hid NX
              clear hown hgrow hoA NX OA LA NA
              change K' (Act.put _ (some 60) _) wA
              refine hK.out _ _ (DX.out) (fun hHeld => ?_)
              clear hK K'
              try simp only [Act.put, sa, s0, ss]
              refine takeA 13 61 (.pointer (some ⟨w7.heap.size, 2, none⟩)) hHeld ?_
              simp only [Act.put, sa, s0, ss]
              have q2 := HNX.out.cells.get 2 rfl
              have hfz := HNX.out.free
              refine oneR 14 (by kernel_rfl) (by kernel_rfl) (fun o ho K' hK => ?_)
              obtain rfl := Option.some.inj ho
              clear ho
              go_simp
              have DS : Hid (Below w6.heap.size W8 (wA.setCell ⟨w7.heap.size, 2, none⟩ (.slice (some ⟨gx, 0, none⟩) (a.nodes.length + 2) cx))) := DX.out.setCell (by show w6.heap.size ≤ w7.heap.size; omega) _
              have NS : Hid (AtM (wA.setCell ⟨w7.heap.size, 2, none⟩ (.slice (some ⟨gx, 0, none⟩) (a.nodes.length + 2) cx)) w7.heap.size [.int .i64 a.wide, .int .i64 a.high, (.slice (some ⟨gx, 0, none⟩) (a.nodes.length + 2) cx)]) := HNX.out.set 2 _
              have OS : Hid (OwnQ 76 (wA.setCell ⟨w7.heap.size, 2, none⟩ (.slice (some ⟨gx, 0, none⟩) (a.nodes.length + 2) cx)) w6.heap.size (.slice (some ⟨gx, 0, none⟩) (a.nodes.length + 2) cx) (a.nodes ++ ([⟨1, (nth a.nodes i).x1, 0, 0, 0⟩, ⟨1, pane, 0, 0, 0⟩] : List Q))) := HOA.out.far (grown_cellY wA w7.heap.size 2 _) (fun j hj e => by
                have e1 : some gx = some j := hj
                injection e1 with e1
                injection e with e2
                omega)
              clear q2 hfz HNX HOA
              refine hK.out _ _ (DS.out) (fun hHeld => ?_)
              clear hK K'
              try simp only [Act.put, sa, s0, ss]
              refine wpAnyH_done (by kernel_rfl) ?_ _
              refine NoPanic.normal ?_
              go_wp2_with fail
              go_meet
              exact ⟨gx, cx, rfl, hHeld, NS.out, OS.out, hgx⟩
        · go_wp2_with fail
          exact ⟨HNEXT.out, by simp [intOf]⟩
      · go_wp2_with fail
        exact ⟨HNEXT.out, by simp [intOf]⟩

end Go.Proofs.Ytbfickdgjgbfhaa
