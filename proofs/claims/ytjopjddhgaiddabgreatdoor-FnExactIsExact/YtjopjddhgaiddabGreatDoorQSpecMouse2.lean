/- MouseOfParts of the model, and that it is the program's. -/
import Derived.Test.YtjopjddhgaiddabGreatDoorQSpecMouse
namespace Go.Proofs.YtjopjddhgaiddabGreatDoor
open Go.RowKit

theorem l3Mouse_any (n x y : Int) (rel : Bool) (w : World) (hn : 0 ≤ n ∧ n ≤ 9999999) (hx : 0 ≤ x ∧ x ≤ 9999999) (hy : 0 ≤ y ∧ y ≤ 9999999) :
    Calls Tryz.prog 145 #[.int .i64 n, .int .i64 x, .int .i64 y, .bool rel] w fun e w' => e = .returned (.tuple #[.agg #[.int .i64 2, .int .i64 0, .int .i64 ((n.tdiv 4).tmod 8), .int .i64 (n.tmod 4), .int .i64 (actS n rel), .int .i64 (x - 1), .int .i64 (y - 1), .slice none 0 0], .bool (mouseOK n x y rel)]) ∧ Below w.heap.size w w' := by
  have hm : n.tmod 4 = n % 4 := Int.tmod_eq_emod_of_nonneg hn.1
  unfold mouseOK actS
  cases rel
  · simp only [Bool.false_eq_true, if_false, Bool.false_and, Bool.not_false, Bool.true_and]
    by_cases hq : (n.tdiv 32).tmod 2 = 1
    · rw [if_pos hq]
      have hq' : ((n.tdiv 32).tmod 2 == 1) = true := by simp [hq]
      by_cases h64 : n < 64
      · simp only [h64, decide_true, Bool.true_and]
        exact l3Mouse_b n x y w hn hx hy h64 hq'
      · simp only [h64, decide_false, Bool.false_and]
        rw [hm]
        exact l3Mouse_f n x y w hn hx hy h64 hq'
    · rw [if_neg hq]
      have hq' : ((n.tdiv 32).tmod 2 == 1) = false := by simp [hq]
      by_cases h64 : n < 64
      · simp only [h64, decide_true, Bool.true_and]
        exact l3Mouse_a n x y w hn hx hy h64 hq'
      · simp only [h64, decide_false, Bool.false_and]
        rw [hm]
        exact l3Mouse_e n x y w hn hx hy h64 hq'
  · simp only [if_true, Bool.true_and]
    by_cases h64 : n < 64
    · simp only [h64, decide_true, Bool.true_and]
      by_cases h32 : 32 ≤ n
      · simp only [h32, decide_true, Bool.not_true, Bool.false_and]
        rw [hm]
        exact l3Mouse_d n x y w hn hx hy h64 h32
      · simp only [h32, decide_false, Bool.not_false, Bool.true_and]
        exact l3Mouse_c n x y w hn hx hy h64 (by omega)
    · simp only [h64, decide_false, Bool.false_and]
      rw [hm]
      exact l3Mouse_g n x y w hn hx hy h64

theorem l3Token_m (n a x y s : Int) (w : World) : Calls Tryz.prog 114 #[.agg #[.int .i64 2, .int .i64 0, .int .i64 ((n.tdiv 4).tmod 8), .int .i64 (n.tmod 4), .int .i64 a, .int .i64 (x - 1), .int .i64 (y - 1), .slice none 0 0], .int .i64 s] w (PlainTk w (mouseTk n a x y s)) :=
  l3Token_any (mouseEv n a x y) none 0 s w

set_option maxRecDepth 100000 in
set_option maxHeartbeats 4000000 in
theorem specMouseOfParts_bad (p : Option Addr) (c n : Nat) (code size fin : Int) (priv : Bool) (w : World) (hn : n ≤ 4) (hb : priv = false ∨ (priv = true ∧ (fin == 77) = false ∧ (fin == 109) = false) ∨ (priv = true ∧ (fin = 77 ∨ fin = 109) ∧ n ≠ 3)) :
    Calls Tryz.prog 131 #[.agg #[.int .i64 code, .bool priv, .slice p n c, .int .u8 fin, .int .i64 size]] w (PlainTk w (badTk 5)) := by
  have e77 : (fin != 77) = !(fin == 77) := rfl
  have e109 : (fin != 109) = !(fin == 109) := rfl
  have hx : n = 0 ∨ n = 1 ∨ n = 2 ∨ n = 3 ∨ n = 4 := by omega
  rcases hb with rfl | ⟨rfl, h1, h2⟩ | ⟨rfl, h1, h2⟩
  · clear hx e77 e109 hn
    go_enter Tryz.func131, Tryz.ntmps131
    go_wp2_with fail
    refine (l3Bad_any _ _).mono ?_
    rintro e w1 ⟨rfl, hb⟩
    obtain ⟨hcc, hf⟩ := bcell hb
    have HE : Hid (PlainTk w (badTk 5) (.returned (tkV (badTk 5) (.slice none 0 0))) (sets w1 (w.heap.size + 1) 0 (tkL (badTk 5) (.slice none 0 0)))) := tk_end_plain2 (tkL (badTk 5) (.slice none 0 0)) hb
    clear hb
    unfold tkV badTk noEv
    go_wp2_with fail
    refine bodyPost_ret (v := tkV (badTk 5) (.slice none 0 0)) ?_ rfl HE.out
    simp [results, Tryz.results131, tkV, badTk, noEv, go_sem, hcc]
  · clear hx hn
    rw [h1] at e77
    rw [h2] at e109
    go_enter Tryz.func131, Tryz.ntmps131
    go_wp2_with fail
    refine (l3Bad_any _ _).mono ?_
    rintro e w1 ⟨rfl, hb⟩
    obtain ⟨hcc, hf⟩ := bcell hb
    have HE : Hid (PlainTk w (badTk 5) (.returned (tkV (badTk 5) (.slice none 0 0))) (sets w1 (w.heap.size + 1) 0 (tkL (badTk 5) (.slice none 0 0)))) := tk_end_plain2 (tkL (badTk 5) (.slice none 0 0)) hb
    clear hb
    unfold tkV badTk noEv
    go_wp2_with fail
    refine bodyPost_ret (v := tkV (badTk 5) (.slice none 0 0)) ?_ rfl HE.out
    simp [results, Tryz.results131, tkV, badTk, noEv, go_sem, hcc]
  · rcases hx with rfl | rfl | rfl | rfl | rfl
    · rcases h1 with rfl | rfl
      all_goals
        clear h2 hn e77 e109
        go_enter Tryz.func131, Tryz.ntmps131
        go_wp2_with fail
        refine (l3Bad_any _ _).mono ?_
        rintro e w1 ⟨rfl, hb⟩
        obtain ⟨hcc, hf⟩ := bcell hb
        have HE : Hid (PlainTk w (badTk 5) (.returned (tkV (badTk 5) (.slice none 0 0))) (sets w1 (w.heap.size + 1) 0 (tkL (badTk 5) (.slice none 0 0)))) := tk_end_plain2 (tkL (badTk 5) (.slice none 0 0)) hb
        clear hb
        unfold tkV badTk noEv
        go_wp2_with fail
        refine bodyPost_ret (v := tkV (badTk 5) (.slice none 0 0)) ?_ rfl HE.out
        simp [results, Tryz.results131, tkV, badTk, noEv, go_sem, hcc]
    · rcases h1 with rfl | rfl
      all_goals
        clear h2 hn e77 e109
        go_enter Tryz.func131, Tryz.ntmps131
        go_wp2_with fail
        refine (l3Bad_any _ _).mono ?_
        rintro e w1 ⟨rfl, hb⟩
        obtain ⟨hcc, hf⟩ := bcell hb
        have HE : Hid (PlainTk w (badTk 5) (.returned (tkV (badTk 5) (.slice none 0 0))) (sets w1 (w.heap.size + 1) 0 (tkL (badTk 5) (.slice none 0 0)))) := tk_end_plain2 (tkL (badTk 5) (.slice none 0 0)) hb
        clear hb
        unfold tkV badTk noEv
        go_wp2_with fail
        refine bodyPost_ret (v := tkV (badTk 5) (.slice none 0 0)) ?_ rfl HE.out
        simp [results, Tryz.results131, tkV, badTk, noEv, go_sem, hcc]
    · rcases h1 with rfl | rfl
      all_goals
        clear h2 hn e77 e109
        go_enter Tryz.func131, Tryz.ntmps131
        go_wp2_with fail
        refine (l3Bad_any _ _).mono ?_
        rintro e w1 ⟨rfl, hb⟩
        obtain ⟨hcc, hf⟩ := bcell hb
        have HE : Hid (PlainTk w (badTk 5) (.returned (tkV (badTk 5) (.slice none 0 0))) (sets w1 (w.heap.size + 1) 0 (tkL (badTk 5) (.slice none 0 0)))) := tk_end_plain2 (tkL (badTk 5) (.slice none 0 0)) hb
        clear hb
        unfold tkV badTk noEv
        go_wp2_with fail
        refine bodyPost_ret (v := tkV (badTk 5) (.slice none 0 0)) ?_ rfl HE.out
        simp [results, Tryz.results131, tkV, badTk, noEv, go_sem, hcc]
    · exact absurd rfl h2
    · rcases h1 with rfl | rfl
      all_goals
        clear h2 hn e77 e109
        go_enter Tryz.func131, Tryz.ntmps131
        go_wp2_with fail
        refine (l3Bad_any _ _).mono ?_
        rintro e w1 ⟨rfl, hb⟩
        obtain ⟨hcc, hf⟩ := bcell hb
        have HE : Hid (PlainTk w (badTk 5) (.returned (tkV (badTk 5) (.slice none 0 0))) (sets w1 (w.heap.size + 1) 0 (tkL (badTk 5) (.slice none 0 0)))) := tk_end_plain2 (tkL (badTk 5) (.slice none 0 0)) hb
        clear hb
        unfold tkV badTk noEv
        go_wp2_with fail
        refine bodyPost_ret (v := tkV (badTk 5) (.slice none 0 0)) ?_ rfl HE.out
        simp [results, Tryz.results131, tkV, badTk, noEv, go_sem, hcc]

end Go.Proofs.YtjopjddhgaiddabGreatDoor
