/- The walk of the law over KeyOfByte. -/
import Derived.Test.YtcchhlcgamcceaaKeyByte
import Derived.Test.YtcchhlcgamcceaaTokLaw
namespace Go.Proofs.Ytcchhlcgamcceaa
open Go.RowKit

set_option maxRecDepth 100000 in
set_option maxHeartbeats 4000000 in
theorem lawKeyOfByte_tk (b : Int) (t : Tk) (w : World) (hd : t.ev.data = []) (HS : Hid (∀ W, Calls Try.prog 15 #[.int .u8 b] W (PlainTk W t))) (HI : Hid (∀ W, Calls Try.prog 9 #[.int .u8 b] W (PlainTk W t))) :
    Calls Try.prog 4 #[.int .u8 b] w fun en w' => en = .returned (.bool true) ∧ Below w.heap.size w w' := by
  have HE := Lib.hid (eqTok_plain t hd)
  have HM := Lib.hid (markTok_plain t hd)
  have HH := Lib.hid (heldTok_plain t)
  clear hd
  obtain ⟨code, ⟨e1, e2, e3, e4, e5, e6, e7, ed⟩, s, pa, no⟩ := t
  unfold PlainTk at HS HI
  unfold tkV at HS HI HE HM HH
  dsimp only at HS HI HE HM HH
  go_enter Try.func4, Try.ntmps4
  go_wp2_with fail
  refine (HS.out _).mono ?_
  rintro e w1 ⟨rfl, b1⟩
  have X1 := AtL.new w1 (tkL ⟨code, ⟨e1, e2, e3, e4, e5, e6, e7, ed⟩, s, pa, no⟩ (.slice none 0 0)) 30
  unfold tkL at X1
  have B1 := below_mk w1 (.cells #[.int .i64 code, .int .i64 e1, .int .i64 e2, .int .i64 e3, .int .i64 e4, .int .i64 e5, .int .i64 e6, .int .i64 e7, .slice none 0 0, .int .i64 s, .bool pa, .bool no] 30)
  go_wp2_with fail
  refine (HI.out _).mono ?_
  rintro e w2 ⟨rfl, b2⟩
  have X2 := AtL.new w2 (tkL ⟨code, ⟨e1, e2, e3, e4, e5, e6, e7, ed⟩, s, pa, no⟩ (.slice none 0 0)) 30
  unfold tkL at X2
  have B2 := below_mk w2 (.cells #[.int .i64 code, .int .i64 e1, .int .i64 e2, .int .i64 e3, .int .i64 e4, .int .i64 e5, .int .i64 e6, .int .i64 e7, .slice none 0 0, .int .i64 s, .bool pa, .bool no] 30)
  have Y1 := (X1.on b2).on B2
  have D := below_on (below_on (below_on b1 B1) b2) B2
  clear X1 b1 B1 b2 B2
  obtain ⟨y0, y1, y2, y3, y4, y5, y6, y7, y8, y9, y10, y11⟩ := AtL.tk (t := ⟨code, ⟨e1, e2, e3, e4, e5, e6, e7, ed⟩, s, pa, no⟩) Y1
  dsimp only at y0 y1 y2 y3 y4 y5 y6 y7 y8 y9 y10 y11
  go_wp2_with fail
  refine (HE.out _).mono ?_
  rintro e w3 ⟨rfl, b3⟩
  clear y0 y1 y2 y3 y4 y5 y6 y7 y8 y9 y10 y11
  have Z1 := Y1.on b3
  have Z2 := X2.on b3
  have D3 := below_on D b3
  clear Y1 X2 D b3
  obtain ⟨y0, y1, y2, y3, y4, y5, y6, y7, y8, y9, y10, y11⟩ := AtL.tk (t := ⟨code, ⟨e1, e2, e3, e4, e5, e6, e7, ed⟩, s, pa, no⟩) Z2
  dsimp only at y0 y1 y2 y3 y4 y5 y6 y7 y8 y9 y10 y11
  go_wp2_with fail
  refine (HM.out _).mono ?_
  rintro e w4 ⟨rfl, b4⟩
  clear y0 y1 y2 y3 y4 y5 y6 y7 y8 y9 y10 y11
  replace Z1 := Z1.on b4
  replace Z2 := Z2.on b4
  have D4 := below_on D3 b4
  clear D3 b4
  obtain ⟨y0, y1, y2, y3, y4, y5, y6, y7, y8, y9, y10, y11⟩ := AtL.tk (t := ⟨code, ⟨e1, e2, e3, e4, e5, e6, e7, ed⟩, s, pa, no⟩) Z2
  dsimp only at y0 y1 y2 y3 y4 y5 y6 y7 y8 y9 y10 y11
  go_wp2_with fail
  refine (HH.out _).mono ?_
  rintro e w5 ⟨rfl, b5⟩
  clear y0 y1 y2 y3 y4 y5 y6 y7 y8 y9 y10 y11
  replace Z1 := Z1.on b5
  replace Z2 := Z2.on b5
  have D5 := below_on D4 b5
  clear D4 b5
  go_wp2_with fail
  refine (HI.out _).mono ?_
  rintro e w6 ⟨rfl, b6⟩
  have B6 := below_mk w6 (.cells #[.int .i64 code, .int .i64 e1, .int .i64 e2, .int .i64 e3, .int .i64 e4, .int .i64 e5, .int .i64 e6, .int .i64 e7, .slice none 0 0, .int .i64 s, .bool pa, .bool no] 30)
  replace Z1 := (Z1.on b6).on B6
  replace Z2 := (Z2.on b6).on B6
  have D6 := below_on (below_on D5 b6) B6
  clear D5 b6 B6
  obtain ⟨y0, y1, y2, y3, y4, y5, y6, y7, y8, y9, y10, y11⟩ := AtL.tk (t := ⟨code, ⟨e1, e2, e3, e4, e5, e6, e7, ed⟩, s, pa, no⟩) Z1
  dsimp only at y0 y1 y2 y3 y4 y5 y6 y7 y8 y9 y10 y11
  go_wp2_with fail
  refine (HE.out _).mono ?_
  rintro e w7 ⟨rfl, b7⟩
  clear y0 y1 y2 y3 y4 y5 y6 y7 y8 y9 y10 y11
  replace Z2 := Z2.on b7
  have D7 := below_on D6 b7
  clear D6 b7 Z1
  obtain ⟨y0, y1, y2, y3, y4, y5, y6, y7, y8, y9, y10, y11⟩ := AtL.tk (t := ⟨code, ⟨e1, e2, e3, e4, e5, e6, e7, ed⟩, s, pa, no⟩) Z2
  dsimp only at y0 y1 y2 y3 y4 y5 y6 y7 y8 y9 y10 y11
  go_wp2_with fail
  refine (HH.out _).mono ?_
  rintro e w8 ⟨rfl, b8⟩
  go_wp2_with fail
  go_ret
  exact ⟨rfl, below_on D7 b8⟩

theorem lawKeyOfByte_any (b : Int) (w : World) (h0 : 0 ≤ b) :
    Calls Try.prog 4 #[.int .u8 b] w fun en w' => en = .returned (.bool true) ∧ Below w.heap.size w w' :=
  lawKeyOfByte_tk b (keyB b) w (keyB_data b) (Lib.hid fun W => specKeyOfByte_any b W h0) (Lib.hid fun W => implKeyOfByte_any b W h0)

theorem lawKeyOfByte_w (x : Int) (w : World) (hx : (Lit.int .u8 x).wf = true) :
    Calls Try.prog 4 #[.int .u8 x] w fun en w' => en = .returned (.bool true) ∧ Below w.heap.size w w' := by
  have hr : 0 ≤ x := by
    have h1 : IntKind.u8.min = 0 := rfl
    simp only [Lit.wf, Bool.and_eq_true, decide_eq_true_eq] at hx
    omega
  exact lawKeyOfByte_any x w hr

end Go.Proofs.Ytcchhlcgamcceaa
