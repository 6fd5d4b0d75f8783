/- MouseOfParts of the program. -/
import Derived.Test.YtnmnklilmcpkaaaQSpecKey3
namespace Go.Proofs.Ytnmnklilmcpkaaa
open Go.RowKit

/-- the act of a number and a final byte -/
def actT (n f : Int) : Int × Bool :=
  if f = 109 ∧ 0 ≤ n ∧ n ≤ 31 then (2, true) else if f = 77 ∧ 0 ≤ n ∧ n ≤ 31 then (1, true) else if f = 77 ∧ 32 ≤ n ∧ n ≤ 63 then (3, true) else (0, false)
def mouseEv (n a c r : Int) : Ev := ⟨2, 0, (n.tdiv 4).tmod 8, n.tmod 4, a, c - 1, r - 1, []⟩
def mouseTk (n a c r s : Int) : Tk := ⟨0, mouseEv n a c r, s, false, false⟩
def mouse3 (n c r f s : Int) : Tk := if (actT n f).2 = true ∧ ¬ n.tmod 4 = 3 ∧ inR c 1 200 = true ∧ inR r 1 200 = true then mouseTk n (actT n f).1 c r s else badTk 5
/-- the mouse of parts -/
def mouseP (r : Pt) : Tk := if r.code = 0 ∧ r.priv = true then (match r.nums with
  | [n, c, w] => mouse3 n c w r.fin r.size
  | _ => badTk 5) else badTk 5
theorem mouseP_data (r : Pt) : (mouseP r).ev.data = [] := by
  unfold mouseP
  split
  · split
    · unfold mouse3; split <;> rfl
    · rfl
  · rfl

set_option maxRecDepth 100000 in
set_option maxHeartbeats 2000000 in
theorem actOfNumber_any (n f : Int) (w : World) : Calls Try.prog 31 #[.int .i64 n, .int .u8 f] w fun e w' => e = .returned (.tuple #[.int .i64 (actT n f).1, .bool (actT n f).2]) ∧ Below w.heap.size w w' := by
  unfold actT
  by_cases h1 : f = 109
  · subst h1
    cases hi : inR n 0 31
    · rw [if_neg (by simp [inR] at hi; omega), if_neg (by omega), if_neg (by omega)]
      go_enter Try.func31, Try.ntmps31
      go_wp2_with (go_at_call 32; refine (isWithin_two _ _ _ _ _ _ (by simp)).mono ?_; rintro e w' ⟨rfl, rfl⟩; rw [hi])
      go_ret2
      exact ⟨rfl, below_mk _ _⟩
    · rw [if_pos (by simp [inR] at hi; omega)]
      go_enter Try.func31, Try.ntmps31
      go_wp2_with (go_at_call 32; refine (isWithin_two _ _ _ _ _ _ (by simp)).mono ?_; rintro e w' ⟨rfl, rfl⟩; rw [hi])
      go_ret2
      exact ⟨rfl, below_mk _ _⟩
  by_cases h2 : f = 77
  · subst h2
    rw [if_neg (by omega)]
    cases hi : inR n 0 31
    · rw [if_neg (by simp [inR] at hi; omega)]
      cases hj : inR n 32 63
      · rw [if_neg (by simp [inR] at hj; omega)]
        go_enter Try.func31, Try.ntmps31
        go_wp2_with (go_at_call 32; refine (isWithin_two _ _ _ _ _ _ (by simp)).mono ?_; rintro e w' ⟨rfl, rfl⟩; first | rw [hi] | rw [hj])
        go_ret2
        exact ⟨rfl, below_on (below_mk _ _) (below_mk _ _)⟩
      · rw [if_pos (by simp [inR] at hj; omega)]
        go_enter Try.func31, Try.ntmps31
        go_wp2_with (go_at_call 32; refine (isWithin_two _ _ _ _ _ _ (by simp)).mono ?_; rintro e w' ⟨rfl, rfl⟩; first | rw [hi] | rw [hj])
        go_ret2
        exact ⟨rfl, below_on (below_mk _ _) (below_mk _ _)⟩
    · rw [if_pos (by simp [inR] at hi; omega)]
      go_enter Try.func31, Try.ntmps31
      go_wp2_with (go_at_call 32; refine (isWithin_two _ _ _ _ _ _ (by simp)).mono ?_; rintro e w' ⟨rfl, rfl⟩; rw [hi])
      go_ret2
      exact ⟨rfl, below_mk _ _⟩
  · rw [if_neg (by omega), if_neg (by omega), if_neg (by omega)]
    go_enter Try.func31, Try.ntmps31
    go_wp2
    go_ret2
    exact ⟨rfl, Below.refl _ _⟩

set_option maxRecDepth 100000 in
set_option maxHeartbeats 4000000 in
theorem implMouseOfParts_bad (p : Option Addr) (c n : Nat) (code size fin : Int) (priv : Bool) (w : World) (hn : n ≤ 4) (hb : (code == 0) = false ∨ ((code == 0) = true ∧ priv = false) ∨ ((code == 0) = true ∧ priv = true ∧ n ≠ 3)) :
    Calls Try.prog 11 #[.agg #[.int .i64 code, .bool priv, .slice p n c, .int .u8 fin, .int .i64 size]] w (PlainTk w (badTk 5)) := by
  have hx : (code != 0) = !(code == 0) := rfl
  have HE : ∀ (A : Obj), Hid (PlainTk w (badTk 5) (.returned (tkV (badTk 5) (.slice none 0 0))) ((w.alloc A).alloc (.cells (tkL (badTk 5) (.slice none 0 0)).toArray 30))) := fun A => ⟨rfl, below_on (below_mk _ _) (below_mk _ _)⟩
  rcases hb with h1 | ⟨h1, h2⟩ | ⟨h1, h2, h3⟩
  · rw [h1] at hx
    go_enter Try.func11, Try.ntmps11
    go_wp2
    refine bodyPost_ret (v := tkV (badTk 5) (.slice none 0 0)) ?_ rfl (HE _).out
    simp [results, Try.results11, tkV, badTk, noEv, go_sem]
  · rw [h1] at hx
    subst h2
    go_enter Try.func11, Try.ntmps11
    go_wp2
    refine bodyPost_ret (v := tkV (badTk 5) (.slice none 0 0)) ?_ rfl (HE _).out
    simp [results, Try.results11, tkV, badTk, noEv, go_sem]
  · rw [h1] at hx
    subst h2
    have : n = 0 ∨ n = 1 ∨ n = 2 ∨ n = 4 := by omega
    rcases this with rfl | rfl | rfl | rfl
    all_goals
      go_enter Try.func11, Try.ntmps11
      go_wp2
      refine bodyPost_ret (v := tkV (badTk 5) (.slice none 0 0)) ?_ rfl (HE _).out
      simp [results, Try.results11, tkV, badTk, noEv, go_sem]

theorem below_undrewM {W w1 : World} {n : Nat} (h : Below (W.drewN n).heap.size (W.drewN n) w1) : Below W.heap.size W w1 := Below.trans (B := W.heap.size) (below_drewN (Below.refl _ _) n) h

set_option maxRecDepth 100000 in
set_option maxHeartbeats 4000000 in
theorem implMouseOfParts_x (b off c : Nat) (n x y a : Int) (d : Bool) (size fin : Int) (w : World) (hb : b < w.heap.size) (hc0 : w.cell? ⟨b, off, none⟩ = some (.int .i64 n)) (hc1 : w.cell? ⟨b, off + 1, none⟩ = some (.int .i64 x)) (hc2 : w.cell? ⟨b, off + 2, none⟩ = some (.int .i64 y)) (HA : Hid (∀ w, Calls Try.prog 31 #[.int .i64 n, .int .u8 fin] w fun e w' => e = .returned (.tuple #[.int .i64 a, .bool d]) ∧ Below w.heap.size w w')) (hd : d = false ∨ (d = true ∧ (n.tmod 4 == 3) = true) ∨ (d = true ∧ (n.tmod 4 == 3) = false ∧ inR x 1 200 = false) ∨ (d = true ∧ (n.tmod 4 == 3) = false ∧ inR x 1 200 = true ∧ inR y 1 200 = false)) :
    Calls Try.prog 11 #[.agg #[.int .i64 0, .bool true, .slice (some ⟨b, off, none⟩) 3 c, .int .u8 fin, .int .i64 size]] w (PlainTk w (badTk 5)) := by
  rcases hd with rfl | ⟨rfl, h1⟩ | ⟨rfl, h1, h2⟩ | ⟨rfl, h1, h2, h3⟩
  · go_enter Try.func11, Try.ntmps11
    go_wp2_with fail
    go_quiet (fail)
    go_wp2_with fail
    refine (HA.out _).mono ?_
    rintro e w1 ⟨rfl, hb1⟩
    replace hb1 := below_undrewM hb1
    have HB1 := Lib.hid hb1
    obtain ⟨hcc, hf⟩ := bcell hb1
    clear hb1
    have HE : Hid (PlainTk w (badTk 5) (.returned (tkV (badTk 5) (.slice none 0 0))) (sets w1 (w.heap.size + 1) 0 (tkL (badTk 5) (.slice none 0 0)))) := tk_end_plain2 (tkL (badTk 5) (.slice none 0 0)) HB1.out
    go_wp2_with fail
    refine bodyPost_ret (v := tkV (badTk 5) (.slice none 0 0)) ?_ rfl HE.out
    simp [results, Try.results11, tkV, badTk, noEv, go_sem, hcc]
  · go_enter Try.func11, Try.ntmps11
    go_wp2_with fail
    go_quiet (fail)
    go_wp2_with fail
    refine (HA.out _).mono ?_
    rintro e w1 ⟨rfl, hb1⟩
    replace hb1 := below_undrewM hb1
    have HB1 := Lib.hid hb1
    obtain ⟨hcc, hf⟩ := bcell hb1
    clear hb1
    have HE : Hid (PlainTk w (badTk 5) (.returned (tkV (badTk 5) (.slice none 0 0))) (sets w1 (w.heap.size + 1) 0 (tkL (badTk 5) (.slice none 0 0)))) := tk_end_plain2 (tkL (badTk 5) (.slice none 0 0)) HB1.out
    go_wp2_with fail
    refine bodyPost_ret (v := tkV (badTk 5) (.slice none 0 0)) ?_ rfl HE.out
    simp [results, Try.results11, tkV, badTk, noEv, go_sem, hcc]
  · go_enter Try.func11, Try.ntmps11
    go_wp2_with fail
    go_quiet (fail)
    go_wp2_with fail
    refine (HA.out _).mono ?_
    rintro e w1 ⟨rfl, hb1⟩
    replace hb1 := below_undrewM hb1
    have HB1 := Lib.hid hb1
    obtain ⟨hcc, hf⟩ := bcell hb1
    clear hb1
    go_wp2_with fail
    refine (isWithin_two x 1 200 w1 _ _ (by simp)).mono ?_
    rintro e w2 ⟨rfl, hw2⟩
    rw [h2]
    have HB2 := Lib.hid (HB1.out.trans ((show Below w1.heap.size w1 w2 by rw [← hw2]; exact below_mk _ _).mono HB1.out.size))
    clear hcc hf hw2
    obtain ⟨hcc, hf⟩ := bcell HB2.out
    have HE : Hid (PlainTk w (badTk 5) (.returned (tkV (badTk 5) (.slice none 0 0))) (sets w2 (w.heap.size + 1) 0 (tkL (badTk 5) (.slice none 0 0)))) := tk_end_plain2 (tkL (badTk 5) (.slice none 0 0)) HB2.out
    go_wp2_with fail
    refine bodyPost_ret (v := tkV (badTk 5) (.slice none 0 0)) ?_ rfl HE.out
    simp [results, Try.results11, tkV, badTk, noEv, go_sem, hcc]
  · go_enter Try.func11, Try.ntmps11
    go_wp2_with fail
    go_quiet (fail)
    go_wp2_with fail
    refine (HA.out _).mono ?_
    rintro e w1 ⟨rfl, hb1⟩
    replace hb1 := below_undrewM hb1
    have HB1 := Lib.hid hb1
    obtain ⟨hcc, hf⟩ := bcell hb1
    clear hb1
    go_wp2_with fail
    refine (isWithin_two x 1 200 w1 _ _ (by simp)).mono ?_
    rintro e w2 ⟨rfl, hw2⟩
    rw [h2]
    have HB2 := Lib.hid (HB1.out.trans ((show Below w1.heap.size w1 w2 by rw [← hw2]; exact below_mk _ _).mono HB1.out.size))
    clear hcc hf hw2
    obtain ⟨hcc, hf⟩ := bcell HB2.out
    go_wp2_with fail
    refine (isWithin_two y 1 200 w2 _ _ (by simp)).mono ?_
    rintro e w3 ⟨rfl, hw3⟩
    rw [h3]
    have HB3 := Lib.hid (HB2.out.trans ((show Below w2.heap.size w2 w3 by rw [← hw3]; exact below_mk _ _).mono HB2.out.size))
    clear hcc hf hw3
    obtain ⟨hcc, hf⟩ := bcell HB3.out
    have HE : Hid (PlainTk w (badTk 5) (.returned (tkV (badTk 5) (.slice none 0 0))) (sets w3 (w.heap.size + 1) 0 (tkL (badTk 5) (.slice none 0 0)))) := tk_end_plain2 (tkL (badTk 5) (.slice none 0 0)) HB3.out
    go_wp2_with fail
    refine bodyPost_ret (v := tkV (badTk 5) (.slice none 0 0)) ?_ rfl HE.out
    simp [results, Try.results11, tkV, badTk, noEv, go_sem, hcc]

end Go.Proofs.Ytnmnklilmcpkaaa
