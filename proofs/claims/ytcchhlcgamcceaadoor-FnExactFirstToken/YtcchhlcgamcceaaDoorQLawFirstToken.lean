/- The walk of the law over FirstToken. -/
import Derived.Test.YtcchhlcgamcceaaDoorQTokSpec4ToTokSmall
import Derived.Test.YtcchhlcgamcceaaDoorQTokToTokLaw2
namespace Go.Proofs.YtcchhlcgamcceaaDoor
open Go.RowKit

set_option maxRecDepth 100000 in
set_option maxHeartbeats 4000000 in
theorem lawFirstToken_any (p : Option Addr) (c : Nat) (a : List UInt8) (w : World) (h : Bs w w.heap.size p a) (hT : Tabs w) :
    Calls Tryd.prog 3 #[.slice p a.length c] w fun e w' => e = .returned (.bool true) ∧ Below w.heap.size w w' := by
  by_cases ha1 : (1048576 : Int) < (a.length : Int)
  · go_enter Tryd.func3, Tryd.ntmps3
    go_wp2
    go_ret
    exact ⟨rfl, Below.refl _ _⟩
  have hal : a.length ≤ 1048576 := by omega
  have hsm := firstTok_small a
  have SP := Lib.hid (fun p c w h hc => specFirstToken_any p c a w h hc hal)
  have IP := Lib.hid (fun p c W h hc (hW : Below w.heap.size w W) => implFirstToken_any p c a W h (hT.on hW) hc hal)
  generalize firstTok a = r at *
  go_enter Tryd.func3, Tryd.ntmps3
  go_wp2_with fail
  refine (toByteS_new _ _ _ _ h hal).mono ?_
  rintro e w1 ⟨p1, rfl, n1, b1⟩
  go_wp2_with fail
  refine (SP.out _ _ _ n1 (Nat.le_refl _)).mono ?_
  rintro e w2 ⟨v, rfl, o2, b2⟩
  obtain ⟨p2, c2, hv⟩ := o2.slice
  subst hv
  unfold tkV
  have B2 := below_mk w2 (.cells #[.int .i64 r.code, .int .i64 r.ev.kind, .int .i64 r.ev.code, .int .i64 r.ev.mods, .int .i64 r.ev.button, .int .i64 r.ev.act, .int .i64 r.ev.col, .int .i64 r.ev.row, .slice p2 r.ev.data.length c2, .int .i64 r.size, .bool r.paste, .bool r.none] 28)
  have X2 := AtL.new w2 (tkL r (.slice p2 r.ev.data.length c2)) 28
  have D2 := below_on (below_on b1 b2) B2
  have O2 := o2.on B2
  have r2 : ∀ g, (Value.slice p2 r.ev.data.length c2).ownBlock = some g → g < w2.heap.size := fun g hg => (o2.lt g hg).2
  clear o2 n1
  go_wp2_with fail
  refine (toByteS_x _ _ _ _ (h.on D2) hal).mono ?_
  rintro e w3 ⟨g3, rfl, hg3, o3, b3⟩
  have HG3 := Lib.hid hg3
  clear hg3
  have r3 := o3.lt g3 rfl
  rw [World.size_alloc] at r3
  have D3 := below_on D2 b3
  have X3 := X2.on b3
  have O3 := O2.on b3
  clear X2 O2
  go_wp2_with fail
  refine (IP.out _ _ _ o3.bs.2 (Nat.le_refl _) D3).mono ?_
  rintro e w4 ⟨v, rfl, o4, b4⟩
  obtain ⟨p4, c4, hv⟩ := o4.slice
  subst hv
  unfold tkV
  have B4 := below_mk w4 (.cells #[.int .i64 r.code, .int .i64 r.ev.kind, .int .i64 r.ev.code, .int .i64 r.ev.mods, .int .i64 r.ev.button, .int .i64 r.ev.act, .int .i64 r.ev.col, .int .i64 r.ev.row, .slice p4 r.ev.data.length c4, .int .i64 r.size, .bool r.paste, .bool r.none] 28)
  have Y4 := AtL.new w4 (tkL r (.slice p4 r.ev.data.length c4)) 28
  have D4 := below_on (below_on D3 b4) B4
  have X4 := (X3.on b4).on B4
  have O4 := (O3.on b4).on B4
  have x4 := (o3.on b4).on B4
  have G4 := o4.on B4
  have r4 : ∀ g, (Value.slice p4 r.ev.data.length c4).ownBlock = some g → w3.heap.size ≤ g ∧ g < w4.heap.size := o4.lt
  clear X3 O3 o3 o4
  obtain ⟨y0, y1, y2, y3, y4, y5, y6, y7, y8, y9, y10, y11⟩ := X4.tk
  go_wp2_with fail
  refine (eqTokenResult_same r p4 p2 c4 c2 _ G4.bs.2 O4.bs.2 (by omega)).mono ?_
  rintro e w5 ⟨rfl, b5⟩
  clear y0 y1 y2 y3 y4 y5 y6 y7 y8 y9 y10 y11
  have D5 := below_on D4 b5
  go_wp2_with fail
  refine (toByteS_new _ _ _ _ (h.on D5) hal).mono ?_
  rintro e w6 ⟨p6, rfl, n6, b6⟩
  go_wp2_with fail
  refine (eqByteS_same _ _ _ _ _ _ ((x4.on b5).on b6).bs.2 n6 hal).mono ?_
  rintro e w7 ⟨rfl, b7⟩
  have D7 := below_on (below_on D5 b6) b7
  have X7 := ((X4.on b5).on b6).on b7
  have Y7 := ((Y4.on b5).on b6).on b7
  have O7 := ((O4.on b5).on b6).on b7
  have G7 := ((G4.on b5).on b6).on b7
  have x7 := ((x4.on b5).on b6).on b7
  clear X4 Y4 O4 G4 x4 n6
  go_wp2_with fail
  refine (markByteS_any _ _ 1 _ a x7 hal (by omega)).mono ?_
  rintro e w8 ⟨rfl, x8, g8⟩
  have X8 := X7.far g8 (fun e => by have e' : w2.heap.size = g3 := by simpa [Value.ownBlock] using e
                                    omega)
  have Y8 := Y7.far g8 (fun e => by have e' : w4.heap.size = g3 := by simpa [Value.ownBlock] using e
                                    have := b4.size; omega)
  have O8 := O7.far g8 (fun g hg e => by have h1 := r2 g hg; have e' : g = g3 := by simpa [Value.ownBlock] using e
                                         omega)
  have G8 := G7.far g8 (fun g hg e => by have h1 := r4 g hg; have e' : g = g3 := by simpa [Value.ownBlock] using e
                                         omega)
  have D8 : Below w.heap.size w w8 := D7.trans (below_of_grown g8 D7.size (fun g hg => by have e' : g3 = g := by simpa [Value.ownBlock] using hg
                                                                                          have := b1.size; have := b2.size; omega))
  clear X7 Y7 O7 G7 x7 x8
  obtain ⟨y0, y1, y2, y3, y4, y5, y6, y7, y8, y9, y10, y11⟩ := X8.tk
  obtain ⟨z0, z1, z2, z3, z4, z5, z6, z7, z8, z9, z10, z11⟩ := Y8.tk
  go_wp2_with fail
  refine (eqTokenResult_same r p4 p2 c4 c2 _ G8.bs.2 O8.bs.2 (by omega)).mono ?_
  rintro e w9 ⟨rfl, b9⟩
  clear y0 y1 y2 y3 y4 y5 y6 y7 y8 y9 y10 y11 z0 z1 z2 z3 z4 z5 z6 z7 z8 z9 z10 z11
  have Y9 := Y8.on b9
  obtain ⟨z0, z1, z2, z3, z4, z5, z6, z7, z8, z9, z10, z11⟩ := Y9.tk
  go_wp2_with fail
  refine (markTokenResult_any _ _ 1 r p4 c4 (G8.on b9) (by omega) (by omega)).mono ?_
  rintro e w10 ⟨rfl, G10, g10⟩
  clear z0 z1 z2 z3 z4 z5 z6 z7 z8 z9 z10 z11
  have X10 := (X8.on b9).far g10 (fun e => by have := r4 _ e.symm; have := b3.size; simp at this; omega)
  have Y10 := Y9.far g10 (fun e => by have := r4 _ e.symm; omega)
  have O10 := (O8.on b9).far g10 (fun g hg e => by have h1 := r2 g hg; have := r4 _ e.symm; have := b3.size; simp at this; omega)
  have D10 : Below w.heap.size w w10 := (below_on D8 b9).trans (below_of_grown g10 (below_on D8 b9).size (fun g hg => by have := r4 g hg; have := D3.size; omega))
  clear X8 Y8 O8 Y9
  obtain ⟨z0, z1, z2, z3, z4, z5, z6, z7, z8, z9, z10, z11⟩ := Y10.tk
  go_wp2_with fail
  refine (heldTokenResult_any _ 1 r.ev.data.length r p4 c4 G10.bs.2 (by omega) (by omega)).mono ?_
  rintro e w11 ⟨rfl, b11⟩
  clear z0 z1 z2 z3 z4 z5 z6 z7 z8 z9 z10 z11
  have D11 := below_on D10 b11
  go_wp2_with fail
  refine (toByteS_new _ _ _ _ (h.on D11) hal).mono ?_
  rintro e w12 ⟨p12, rfl, n12, b12⟩
  go_wp2_with fail
  refine (IP.out _ _ _ n12 (Nat.le_refl _) (below_on D11 b12)).mono ?_
  rintro e w13 ⟨v, rfl, o13, b13⟩
  obtain ⟨p13, c13, hv⟩ := o13.slice
  subst hv
  unfold tkV
  have B13 := below_mk w13 (.cells #[.int .i64 r.code, .int .i64 r.ev.kind, .int .i64 r.ev.code, .int .i64 r.ev.mods, .int .i64 r.ev.button, .int .i64 r.ev.act, .int .i64 r.ev.col, .int .i64 r.ev.row, .slice p13 r.ev.data.length c13, .int .i64 r.size, .bool r.paste, .bool r.none] 28)
  have X13 := (((X10.on b11).on b12).on b13).on B13
  have Y13 := (((Y10.on b11).on b12).on b13).on B13
  have O13 := (((O10.on b11).on b12).on b13).on B13
  have G13 := (((G10.on b11).on b12).on b13).on B13
  have P13 := o13.on B13
  have D13 := below_on (below_on (below_on D11 b12) b13) B13
  clear X10 Y10 O10 G10 o13 n12
  obtain ⟨y0, y1, y2, y3, y4, y5, y6, y7, y8, y9, y10, y11⟩ := X13.tk
  go_wp2_with fail
  refine (eqTokenResult_same r p13 p2 c13 c2 _ P13.bs.2 O13.bs.2 (by omega)).mono ?_
  rintro e w14 ⟨rfl, b14⟩
  clear y0 y1 y2 y3 y4 y5 y6 y7 y8 y9 y10 y11
  obtain ⟨z0, z1, z2, z3, z4, z5, z6, z7, z8, z9, z10, z11⟩ := (Y13.on b14).tk
  go_wp2_with fail
  refine (heldTokenResult_any _ 1 r.ev.data.length r p4 c4 (G13.on b14).bs.2 (by omega) (by omega)).mono ?_
  rintro e w15 ⟨rfl, b15⟩
  go_wp2_with fail
  go_ret
  exact ⟨rfl, below_on (below_on D13 b14) b15⟩

end Go.Proofs.YtcchhlcgamcceaaDoor
