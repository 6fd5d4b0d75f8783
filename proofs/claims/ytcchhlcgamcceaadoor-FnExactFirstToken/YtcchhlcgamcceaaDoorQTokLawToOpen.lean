/- What the laws over tokens share: a token in a block, and the helpers at a token without data. -/
import Derived.Test.YtcchhlcgamcceaaDoorQTokSpec4ToTokRes
import Derived.Test.YtcchhlcgamcceaaDoorQNumsToBytes
import Derived.ProofKit
import Derived.OpenShut
import Derived.Lib.SmallJoins
namespace Go.Proofs.YtcchhlcgamcceaaDoor
open Go.RowKit

/-- the twelve cells of a token in a block -/
structure TkAt (w : World) (b : Nat) (t : Tk) (v : Value) : Prop where
  c0 : w.cell? ⟨b, 0, none⟩ = some (.int .i64 t.code)
  c1 : w.cell? ⟨b, 1, none⟩ = some (.int .i64 t.ev.kind)
  c2 : w.cell? ⟨b, 2, none⟩ = some (.int .i64 t.ev.code)
  c3 : w.cell? ⟨b, 3, none⟩ = some (.int .i64 t.ev.mods)
  c4 : w.cell? ⟨b, 4, none⟩ = some (.int .i64 t.ev.button)
  c5 : w.cell? ⟨b, 5, none⟩ = some (.int .i64 t.ev.act)
  c6 : w.cell? ⟨b, 6, none⟩ = some (.int .i64 t.ev.col)
  c7 : w.cell? ⟨b, 7, none⟩ = some (.int .i64 t.ev.row)
  c8 : w.cell? ⟨b, 8, none⟩ = some v
  c9 : w.cell? ⟨b, 9, none⟩ = some (.int .i64 t.size)
  c10 : w.cell? ⟨b, 10, none⟩ = some (.bool t.paste)
  c11 : w.cell? ⟨b, 11, none⟩ = some (.bool t.none)
theorem AtL.tk {w : World} {b : Nat} {t : Tk} {v : Value} (h : AtL w b (tkL t v)) : TkAt w b t v :=
  ⟨h.get 0 rfl, h.get 1 rfl, h.get 2 rfl, h.get 3 rfl, h.get 4 rfl, h.get 5 rfl, h.get 6 rfl, h.get 7 rfl, h.get 8 rfl, h.get 9 rfl, h.get 10 rfl, h.get 11 rfl⟩

theorem eqTok_plain (t : Tk) (hd : t.ev.data = []) (w : World) :
    Calls Tryd.prog 8 #[tkV t (.slice none 0 0), tkV t (.slice none 0 0)] w fun en w' => en = .returned (.bool true) ∧ Below w.heap.size w w' := by
  have h := eqTokenResult_same t none none 0 0 w (fun h => absurd hd h) (fun h => absurd hd h) (by simp [hd])
  rw [hd] at h
  exact h

theorem markTok_plain (t : Tk) (hd : t.ev.data = []) (w : World) :
    Calls Tryd.prog 11 #[tkV t (.slice none 0 0), .int .i64 1] w fun en w' => en = .returned (.int .i64 1) ∧ Below w.heap.size w w' := by
  have h := markTokenResult_any w w.heap.size 1 t none 0 (by rw [hd]; exact own_nil _ _) (by simp [hd]) (by omega)
  rw [hd] at h
  refine h.mono ?_
  rintro e w' ⟨he, _, hg⟩
  exact ⟨by rw [he]; rfl, below_of_grown hg (Nat.le_refl _) (fun g hg => by simp [Value.ownBlock] at hg)⟩

theorem heldTok_plain (t : Tk) (w : World) :
    Calls Tryd.prog 12 #[tkV t (.slice none 0 0), .int .i64 1] w fun en w' => en = .returned (.int .i64 1) ∧ Below w.heap.size w w' :=
  heldTokenResult_any w 1 0 t none 0 (fun h => absurd rfl h) (by omega) (by omega)

end Go.Proofs.YtcchhlcgamcceaaDoor

/- What the laws over tokens of bytes share: the argument's copy as a slice of the call's own. -/
namespace Go.Proofs.YtcchhlcgamcceaaDoor
open Go.RowKit

/-- toByteS: a slice of the call's own -/
def NewXb (w : World) (l : List UInt8) (e : Ending) (w' : World) : Prop :=
  ∃ g, e = .returned (.slice (some ⟨g, 0, none⟩) l.length l.length) ∧ g = w.heap.size ∧ Own w' w.heap.size (.slice (some ⟨g, 0, none⟩) l.length l.length) l ∧ Below w.heap.size w w'
theorem toByteS_x (p : Option Addr) (c : Nat) (l : List UInt8) (w : World) (h : Bs w w.heap.size p l) (hl : l.length ≤ 1048576) :
    Calls Tryd.prog 6 #[.slice p l.length c] w (NewXb w l) :=
  (toByteS_any p c l w h hl).mono fun _ _ ⟨he, hw⟩ => ⟨_, he, rfl, by subst hw; exact own_lit w l _ _ _ rfl rfl rfl hl, by subst hw; exact below_mk _ _⟩

end Go.Proofs.YtcchhlcgamcceaaDoor

/- The walk of the law over FirstToken. -/
namespace Go.Proofs.YtcchhlcgamcceaaDoor
open Go.RowKit

set_option maxRecDepth 100000 in
set_option maxHeartbeats 4000000 in
theorem lawFirstToken_any (p : Option Addr) (c : Nat) (a : List UInt8) (w : World) (h : Bs w w.heap.size p a) (hT : Tabs w) :
    Calls Tryd.prog 3 #[.slice p a.length c] w fun e w' => e = .returned (.bool true) ∧ Below w.heap.size w w' := by
  by_cases ha1 : (1048576 : Int) < (a.length : Int)
  · go_enter Tryd.func3, Tryd.ntmps3
    go_wp2
    go_ret
    exact ⟨rfl, Below.refl _ _⟩
  have hal : a.length ≤ 1048576 := by omega
  have hsm := firstTok_small a
  have SP := Lib.hid (fun p c w h hc => specFirstToken_any p c a w h hc hal)
  have IP := Lib.hid (fun p c W h hc (hW : Below w.heap.size w W) => implFirstToken_any p c a W h (hT.on hW) hc hal)
  generalize firstTok a = r at *
  go_enter Tryd.func3, Tryd.ntmps3
  go_wp2_with fail
  refine (toByteS_new _ _ _ _ h hal).mono ?_
  rintro e w1 ⟨p1, rfl, n1, b1⟩
  go_wp2_with fail
  refine (SP.out _ _ _ n1 (Nat.le_refl _)).mono ?_
  rintro e w2 ⟨v, rfl, o2, b2⟩
  obtain ⟨p2, c2, hv⟩ := o2.slice
  subst hv
  unfold tkV
  have B2 := below_mk w2 (.cells #[.int .i64 r.code, .int .i64 r.ev.kind, .int .i64 r.ev.code, .int .i64 r.ev.mods, .int .i64 r.ev.button, .int .i64 r.ev.act, .int .i64 r.ev.col, .int .i64 r.ev.row, .slice p2 r.ev.data.length c2, .int .i64 r.size, .bool r.paste, .bool r.none] 28)
  have X2 := AtL.new w2 (tkL r (.slice p2 r.ev.data.length c2)) 28
  have D2 := below_on (below_on b1 b2) B2
  have O2 := o2.on B2
  have r2 : ∀ g, (Value.slice p2 r.ev.data.length c2).ownBlock = some g → g < w2.heap.size := fun g hg => (o2.lt g hg).2
  clear o2 n1
  go_wp2_with fail
  refine (toByteS_x _ _ _ _ (h.on D2) hal).mono ?_
  rintro e w3 ⟨g3, rfl, hg3, o3, b3⟩
  have HG3 := Lib.hid hg3
  clear hg3
  have r3 := o3.lt g3 rfl
  rw [World.size_alloc] at r3
  have D3 := below_on D2 b3
  have X3 := X2.on b3
  have O3 := O2.on b3
  clear X2 O2
  go_wp2_with fail
  refine (IP.out _ _ _ o3.bs.2 (Nat.le_refl _) D3).mono ?_
  rintro e w4 ⟨v, rfl, o4, b4⟩
  obtain ⟨p4, c4, hv⟩ := o4.slice
  subst hv
  unfold tkV
  have B4 := below_mk w4 (.cells #[.int .i64 r.code, .int .i64 r.ev.kind, .int .i64 r.ev.code, .int .i64 r.ev.mods, .int .i64 r.ev.button, .int .i64 r.ev.act, .int .i64 r.ev.col, .int .i64 r.ev.row, .slice p4 r.ev.data.length c4, .int .i64 r.size, .bool r.paste, .bool r.none] 28)
  have Y4 := AtL.new w4 (tkL r (.slice p4 r.ev.data.length c4)) 28
  have D4 := below_on (below_on D3 b4) B4
  have X4 := (X3.on b4).on B4
  have O4 := (O3.on b4).on B4
  have x4 := (o3.on b4).on B4
  have G4 := o4.on B4
  have r4 : ∀ g, (Value.slice p4 r.ev.data.length c4).ownBlock = some g → w3.heap.size ≤ g ∧ g < w4.heap.size := o4.lt
  clear X3 O3 o3 o4
  obtain ⟨y0, y1, y2, y3, y4, y5, y6, y7, y8, y9, y10, y11⟩ := X4.tk
  go_wp2_with fail
  refine (eqTokenResult_same r p4 p2 c4 c2 _ G4.bs.2 O4.bs.2 (by omega)).mono ?_
  rintro e w5 ⟨rfl, b5⟩
  clear y0 y1 y2 y3 y4 y5 y6 y7 y8 y9 y10 y11
  have D5 := below_on D4 b5
  go_wp2_with fail
  refine (toByteS_new _ _ _ _ (h.on D5) hal).mono ?_
  rintro e w6 ⟨p6, rfl, n6, b6⟩
  go_wp2_with fail
  refine (eqByteS_same _ _ _ _ _ _ ((x4.on b5).on b6).bs.2 n6 hal).mono ?_
  rintro e w7 ⟨rfl, b7⟩
  have D7 := below_on (below_on D5 b6) b7
  have X7 := ((X4.on b5).on b6).on b7
  have Y7 := ((Y4.on b5).on b6).on b7
  have O7 := ((O4.on b5).on b6).on b7
  have G7 := ((G4.on b5).on b6).on b7
  have x7 := ((x4.on b5).on b6).on b7
  clear X4 Y4 O4 G4 x4 n6
  go_wp2_with fail
  refine (markByteS_any _ _ 1 _ a x7 hal (by omega)).mono ?_
  rintro e w8 ⟨rfl, x8, g8⟩
  have X8 := X7.far g8 (fun e => by have e' : w2.heap.size = g3 := by simpa [Value.ownBlock] using e
                                    omega)
  have Y8 := Y7.far g8 (fun e => by have e' : w4.heap.size = g3 := by simpa [Value.ownBlock] using e
                                    have := b4.size; omega)
  have O8 := O7.far g8 (fun g hg e => by have h1 := r2 g hg; have e' : g = g3 := by simpa [Value.ownBlock] using e
                                         omega)
  have G8 := G7.far g8 (fun g hg e => by have h1 := r4 g hg; have e' : g = g3 := by simpa [Value.ownBlock] using e
                                         omega)
  have D8 : Below w.heap.size w w8 := D7.trans (below_of_grown g8 D7.size (fun g hg => by have e' : g3 = g := by simpa [Value.ownBlock] using hg
                                                                                          have := b1.size; have := b2.size; omega))
  clear X7 Y7 O7 G7 x7 x8
  obtain ⟨y0, y1, y2, y3, y4, y5, y6, y7, y8, y9, y10, y11⟩ := X8.tk
  obtain ⟨z0, z1, z2, z3, z4, z5, z6, z7, z8, z9, z10, z11⟩ := Y8.tk
  go_wp2_with fail
  refine (eqTokenResult_same r p4 p2 c4 c2 _ G8.bs.2 O8.bs.2 (by omega)).mono ?_
  rintro e w9 ⟨rfl, b9⟩
  clear y0 y1 y2 y3 y4 y5 y6 y7 y8 y9 y10 y11 z0 z1 z2 z3 z4 z5 z6 z7 z8 z9 z10 z11
  have Y9 := Y8.on b9
  obtain ⟨z0, z1, z2, z3, z4, z5, z6, z7, z8, z9, z10, z11⟩ := Y9.tk
  go_wp2_with fail
  refine (markTokenResult_any _ _ 1 r p4 c4 (G8.on b9) (by omega) (by omega)).mono ?_
  rintro e w10 ⟨rfl, G10, g10⟩
  clear z0 z1 z2 z3 z4 z5 z6 z7 z8 z9 z10 z11
  have X10 := (X8.on b9).far g10 (fun e => by have := r4 _ e.symm; have := b3.size; simp at this; omega)
  have Y10 := Y9.far g10 (fun e => by have := r4 _ e.symm; omega)
  have O10 := (O8.on b9).far g10 (fun g hg e => by have h1 := r2 g hg; have := r4 _ e.symm; have := b3.size; simp at this; omega)
  have D10 : Below w.heap.size w w10 := (below_on D8 b9).trans (below_of_grown g10 (below_on D8 b9).size (fun g hg => by have := r4 g hg; have := D3.size; omega))
  clear X8 Y8 O8 Y9
  obtain ⟨z0, z1, z2, z3, z4, z5, z6, z7, z8, z9, z10, z11⟩ := Y10.tk
  go_wp2_with fail
  refine (heldTokenResult_any _ 1 r.ev.data.length r p4 c4 G10.bs.2 (by omega) (by omega)).mono ?_
  rintro e w11 ⟨rfl, b11⟩
  clear z0 z1 z2 z3 z4 z5 z6 z7 z8 z9 z10 z11
  have D11 := below_on D10 b11
  go_wp2_with fail
  refine (toByteS_new _ _ _ _ (h.on D11) hal).mono ?_
  rintro e w12 ⟨p12, rfl, n12, b12⟩
  go_wp2_with fail
  refine (IP.out _ _ _ n12 (Nat.le_refl _) (below_on D11 b12)).mono ?_
  rintro e w13 ⟨v, rfl, o13, b13⟩
  obtain ⟨p13, c13, hv⟩ := o13.slice
  subst hv
  unfold tkV
  have B13 := below_mk w13 (.cells #[.int .i64 r.code, .int .i64 r.ev.kind, .int .i64 r.ev.code, .int .i64 r.ev.mods, .int .i64 r.ev.button, .int .i64 r.ev.act, .int .i64 r.ev.col, .int .i64 r.ev.row, .slice p13 r.ev.data.length c13, .int .i64 r.size, .bool r.paste, .bool r.none] 28)
  have X13 := (((X10.on b11).on b12).on b13).on B13
  have Y13 := (((Y10.on b11).on b12).on b13).on B13
  have O13 := (((O10.on b11).on b12).on b13).on B13
  have G13 := (((G10.on b11).on b12).on b13).on B13
  have P13 := o13.on B13
  have D13 := below_on (below_on (below_on D11 b12) b13) B13
  clear X10 Y10 O10 G10 o13 n12
  obtain ⟨y0, y1, y2, y3, y4, y5, y6, y7, y8, y9, y10, y11⟩ := X13.tk
  go_wp2_with fail
  refine (eqTokenResult_same r p13 p2 c13 c2 _ P13.bs.2 O13.bs.2 (by omega)).mono ?_
  rintro e w14 ⟨rfl, b14⟩
  clear y0 y1 y2 y3 y4 y5 y6 y7 y8 y9 y10 y11
  obtain ⟨z0, z1, z2, z3, z4, z5, z6, z7, z8, z9, z10, z11⟩ := (Y13.on b14).tk
  go_wp2_with fail
  refine (heldTokenResult_any _ 1 r.ev.data.length r p4 c4 (G13.on b14).bs.2 (by omega) (by omega)).mono ?_
  rintro e w15 ⟨rfl, b15⟩
  go_wp2_with fail
  go_ret
  exact ⟨rfl, below_on (below_on D13 b14) b15⟩

end Go.Proofs.YtcchhlcgamcceaaDoor

/- Opening arguments of a row: a slice of bytes, in one word. -/
namespace Go.Proofs.YtcchhlcgamcceaaDoor
open Go.ChangeShapes Go.WideShapes Go.ChangeAt Go.RowKit Go.Deep

theorem byte_range {x : Int} (h : (Lit.int .u8 x).wf = true) : 0 ≤ x ∧ x < 256 := by
  have h1 : IntKind.u8.min = 0 := rfl
  have h2 : IntKind.u8.max = 255 := rfl
  simp only [Lit.wf, Bool.and_eq_true, decide_eq_true_eq] at h
  omega

/-- an argument of type []byte, nil or not: it holds some bytes -/
theorem open_bs {H : Type} {enc : TypeId × Value → H} {P : Program} {t e : TypeId} (ht : P.underlying t = some (.slice e)) (he : P.underlying e = some (.int .u8)) (hc : P.cellsOf e = 1) {W : World} {a0 : Option Addr} {len cap : Nat} {d0 : DataW H} {p : List MemPlace}
    (h0 : DataW.Trod enc P W 0 (fun _ => true) true t (.slice a0 len cap) d0 p) : ∃ l : List UInt8, l.length = len ∧ Bs W W.heap.size a0 l := by
  obtain ⟨fuel, hf⟩ := h0
  rcases open_ints ht he hc hf with ⟨hcs, hx⟩ | ⟨a, len', cap', zs, hcs, _, hl, hm, hz, hx, hcell, hwz⟩
  · simp [Value.cells] at hcs
    obtain ⟨rfl, rfl, rfl⟩ := hcs
    exact ⟨[], rfl, fun h => absurd rfl h⟩
  · simp [Value.cells] at hcs
    obtain ⟨rfl, rfl, rfl⟩ := hcs
    simp only [if_true] at hz
    refine ⟨(zs.take len).map fun x => UInt8.ofNat x.toNat, by simp; omega, fun hne => ?_⟩
    have hpos : 0 < zs.length := by
      rcases Nat.eq_zero_or_pos zs.length with h | h
      · exact absurd (by simp [List.eq_nil_of_length_eq_zero h]) hne
      · exact h
    obtain ⟨b, off, s⟩ := a
    have h00 := hcell 0 hpos
    obtain rfl : s = none := by simpa [Addr.add] using World.cell?_spot h00
    have hadd : ∀ i, (⟨b, off, none⟩ : Addr).add i = ⟨b, off + i, none⟩ := fun i => by unfold Addr.add; split <;> simp_all
    refine ⟨b, off, rfl, ?_, fun i hi => ?_⟩
    · have := World.block_lt_of_cell? _ _ h00
      rw [hadd] at this
      exact this
    · simp at hi
      have hiz : i < zs.length := by omega
      have hb := byte_range (hwz zs[i] (List.getElem_mem hiz))
      rw [← hadd, hcell i hiz]
      simp [List.getD_eq_getElem?_getD, List.getElem?_eq_getElem hiz, hi]
      omega

/-- the same of a reading by cells -/
theorem open_bs_cell {H : Type} {enc : TypeId × Value → H} {P : Program} {t e : TypeId} (ht : P.underlying t = some (.slice e)) (he : P.underlying e = some (.int .u8)) (hc : P.cellsOf e = 1) {W : World} {v : Value} {fuel : Nat} {y : DataW H × List MemPlace}
    (h0 : DataW.trod enc P W 0 (fun _ => true) true fuel t [v] = some y) : ∃ (p : Option Addr) (c : Nat) (l : List UInt8), v = .slice p l.length c ∧ Bs W W.heap.size p l ∧ l.length ≤ maxLen := by
  have hv : ∃ p n c, v = .slice p n c ∧ n ≤ maxLen := by
    rcases open_ints ht he hc h0 with ⟨hcs, _⟩ | ⟨a, len', cap', zs, hcs, _, hl, hm, _⟩
    · exact ⟨_, _, _, by simpa using hcs, Nat.zero_le _⟩
    · exact ⟨_, _, _, by simpa using hcs, by omega⟩
  obtain ⟨p, n, c, rfl, hn⟩ := hv
  obtain ⟨l, rfl, hb⟩ := open_bs (d0 := y.1) (p := y.2) ht he hc ⟨fuel, by simpa [Value.cells] using h0⟩
  exact ⟨p, c, l, rfl, hb, hn⟩

/-- a struct of one-cell fields, by its cells: each field's own reading -/
theorem trod_fields {H : Type} {enc : TypeId × Value → H} {P : Program} {W : World} {base : Nat} {spare : Nat → Bool} {held : Bool} {t : TypeId} {fs : Array Field} {fuel : Nat} {cs : List Value} {x : DataW H × List MemPlace}
    (hs : P.underlying t = some (.struct fs)) (hone : oneCellFields P fs = true) (hC : P.cellsOf t = fs.size) (h : DataW.trod enc P W base spare held fuel t cs = some x) :
    ∃ n, cs.length = fs.size ∧ ∀ (j : Nat) (f : Field) (c : Value), fs[j]? = some f → cs[j]? = some c → ∃ y, DataW.trod enc P W base spare held n f.type [c] = some y := by
  obtain ⟨xs, n, _, _, hl, hlen, hf⟩ := DataW.trod_struct hs h
  refine ⟨n, hl.trans hC, fun j f c hj hcj => ?_⟩
  obtain ⟨ho, hk⟩ := hone_of hone j f hj
  have h1 := hf j f hj
  have hjl : j < cs.length := (List.getElem?_eq_some_iff.1 hcj).1
  have hxl : j < xs.length := by have := (Array.getElem?_eq_some_iff.1 hj).1; omega
  rw [ho, hk, List.drop_eq_getElem_cons hjl, List.getElem?_eq_getElem hxl] at h1
  rw [List.getElem?_eq_getElem hjl] at hcj
  injection hcj with hcj
  exact ⟨_, by simpa [hcj] using h1⟩

/-- .. and by value -/
theorem open_fields {H : Type} {enc : TypeId × Value → H} {P : Program} {W : World} {base b0 : Nat} {r : Reach} {spare : Nat → Bool} {held : Bool} {t : TypeId} {fs : Array Field} {v : Value} {d : DataW H} {p : List MemPlace}
    (hs : P.underlying t = some (.struct fs)) (hone : oneCellFields P fs = true) (hC : P.cellsOf t = fs.size) (hv : Value.okWide P W r b0 t v) (h : DataW.Trod enc P W base spare held t v d p) :
    ∃ (cs : List Value) (n : Nat), v = .agg cs.toArray ∧ cs.length = fs.size ∧ ∀ (j : Nat) (f : Field) (c : Value), fs[j]? = some f → cs[j]? = some c → ∃ y, DataW.trod enc P W base spare held n f.type [c] = some y := by
  obtain ⟨cs, rfl, hsz⟩ := okWide_struct hs hv
  obtain ⟨fuel, hf⟩ := h
  obtain ⟨n, hl, hg⟩ := trod_fields hs hone hC hf
  refine ⟨cs.toList, n, rfl, by simpa using hsz.trans hC, fun j f c hj hcj => hg j f c hj (by simpa [Value.cells] using hcj)⟩

end Go.Proofs.YtcchhlcgamcceaaDoor
