/- MouseOfParts of the program: the way on which it is a mouse. -/
import Derived.Test.YtnmnklilmcpkaaaQMouse
namespace Go.Proofs.Ytnmnklilmcpkaaa
open Go.RowKit

set_option maxRecDepth 100000 in
set_option maxHeartbeats 4000000 in
theorem implMouseOfParts_y (b off c : Nat) (n x y a : Int) (d : Bool) (size fin : Int) (w : World) (hb : b < w.heap.size) (hc0 : w.cell? ⟨b, off, none⟩ = some (.int .i64 n)) (hc1 : w.cell? ⟨b, off + 1, none⟩ = some (.int .i64 x)) (hc2 : w.cell? ⟨b, off + 2, none⟩ = some (.int .i64 y)) (HA : Hid (∀ w, Calls Try.prog 31 #[.int .i64 n, .int .u8 fin] w fun e w' => e = .returned (.tuple #[.int .i64 a, .bool d]) ∧ Below w.heap.size w w')) (hd : d = true) (h1 : (n.tmod 4 == 3) = false) (h2 : inR x 1 200 = true) (h3 : inR y 1 200 = true) (hn : 0 ≤ n) (hn2 : n ≤ 9999999) :
    Calls Try.prog 11 #[.agg #[.int .i64 0, .bool true, .slice (some ⟨b, off, none⟩) 3 c, .int .u8 fin, .int .i64 size]] w (PlainTk w (mouseTk n a x y size)) := by
  have hx : 1 ≤ x ∧ x ≤ 200 := by simpa [inR] using h2
  have hy : 1 ≤ y ∧ y ≤ 200 := by simpa [inR] using h3
  subst hd
  have hwr : IntKind.i64.wrap (n.tdiv 4) = n.tdiv 4 := by
    rw [Int.tdiv_eq_ediv_of_nonneg hn]
    exact IntWalk.i64_in _ ⟨by omega, by omega⟩
  clear hn hn2
  go_enter Try.func11, Try.ntmps11
  go_wp2_with fail
  go_quiet (fail)
  go_wp2_with fail
  refine (HA.out _).mono ?_
  rintro e w1 ⟨rfl, hb1⟩
  replace hb1 := below_undrewM hb1
  have HB1 := Lib.hid hb1
  obtain ⟨hcc, hf⟩ := bcell hb1
  clear hb1
  go_wp2_with fail
  refine (isWithin_two x 1 200 w1 _ _ (by simp)).mono ?_
  rintro e w2 ⟨rfl, hw2⟩
  rw [h2]
  have HB2 := Lib.hid (HB1.out.trans ((show Below w1.heap.size w1 w2 by rw [← hw2]; exact below_mk _ _).mono HB1.out.size))
  clear hcc hf hw2
  obtain ⟨hcc, hf⟩ := bcell HB2.out
  go_wp2_with fail
  refine (isWithin_two y 1 200 w2 _ _ (by simp)).mono ?_
  rintro e w3 ⟨rfl, hw3⟩
  rw [h3]
  have HB3 := Lib.hid (HB2.out.trans ((show Below w2.heap.size w2 w3 by rw [← hw3]; exact below_mk _ _).mono HB2.out.size))
  clear hcc hf hw3
  obtain ⟨hcc, hf⟩ := bcell HB3.out
  have hs3 := HB3.out.size
  simp only [World.size_alloc] at hs3
  have l0 : w.heap.size < w3.heap.size := by omega
  have l1 : w.heap.size + 1 < w3.heap.size := by omega
  have n0 : ¬ w.heap.size = w3.heap.size := by omega
  have n1 : ¬ w.heap.size + 1 = w3.heap.size := by omega
  clear hs3
  go_wp2_with fail
  have HE : ∀ A : Obj, Hid (PlainTk w (mouseTk n a x y size) (.returned (tkV (mouseTk n a x y size) (.slice none 0 0))) ((sets w3 (w.heap.size + 1) 0 (tkL (mouseTk n a x y size) (.slice none 0 0))).alloc A)) := fun A => ⟨rfl, below_on (tk_end_plain2 (t := mouseTk n a x y size) (tkL (mouseTk n a x y size) (.slice none 0 0)) HB3.out).2 (below_mk _ A)⟩
  refine bodyPost_ret (v := tkV (mouseTk n a x y size) (.slice none 0 0)) ?_ rfl (HE _).out
  simp [results, Try.results11, tkV, mouseTk, mouseEv, go_sem, hcc, l1]

theorem implMouseOfParts_any (r : Pt) (p : Option Addr) (c : Nat) (w : World) (h : Is w w.heap.size p r.nums) (hl : r.nums.length ≤ 4) (hN : ∀ x ∈ r.nums, 0 ≤ x ∧ x ≤ 9999999) :
    Calls Try.prog 11 #[ptV r (.slice p r.nums.length c)] w (PlainTk w (mouseP r)) := by
  obtain ⟨code, priv, nums, fin, size⟩ := r
  dsimp only at *
  unfold ptV mouseP
  dsimp only
  by_cases h1 : code = 0
  · by_cases h2 : priv = true
    · rw [if_pos ⟨h1, h2⟩]
      subst h1 h2
      match nums, h, hl, hN with
      | [], _, _, _ => exact implMouseOfParts_bad p c 0 0 size fin true w (by omega) (.inr (.inr ⟨rfl, rfl, by omega⟩))
      | [_], _, _, _ => exact implMouseOfParts_bad p c 1 0 size fin true w (by omega) (.inr (.inr ⟨rfl, rfl, by omega⟩))
      | [_, _], _, _, _ => exact implMouseOfParts_bad p c 2 0 size fin true w (by omega) (.inr (.inr ⟨rfl, rfl, by omega⟩))
      | [n, x, y], h, _, hN =>
        obtain ⟨g, off, rfl, hg, hc⟩ := h.cons
        have hc0 := hc 0 (by simp)
        have hc1 := hc 1 (by simp)
        have hc2 := hc 2 (by simp)
        have hn := hN n (by simp)
        show Calls _ _ _ _ (PlainTk w (mouse3 n x y fin size))
        unfold mouse3
        have HA : Hid (∀ w, Calls Try.prog 31 #[.int .i64 n, .int .u8 fin] w fun e w' => e = .returned (.tuple #[.int .i64 (actT n fin).1, .bool (actT n fin).2]) ∧ Below w.heap.size w w') := Lib.hid (fun w => actOfNumber_any n fin w)
        by_cases d1 : (actT n fin).2 = true
        · by_cases d2 : n.tmod 4 = 3
          · rw [if_neg (by simp [d2])]
            exact implMouseOfParts_x g off c n x y _ _ size fin w hg hc0 hc1 hc2 HA (.inr (.inl ⟨d1, by simp [d2]⟩))
          · by_cases d3 : inR x 1 200 = true
            · by_cases d4 : inR y 1 200 = true
              · rw [if_pos ⟨d1, d2, d3, d4⟩]
                exact implMouseOfParts_y g off c n x y _ _ size fin w hg hc0 hc1 hc2 HA d1 (by simp [d2]) d3 d4 hn.1 hn.2
              · rw [if_neg (fun hh => d4 hh.2.2.2)]
                exact implMouseOfParts_x g off c n x y _ _ size fin w hg hc0 hc1 hc2 HA (.inr (.inr (.inr ⟨d1, by simp [d2], d3, by simpa using d4⟩)))
            · rw [if_neg (fun hh => d3 hh.2.2.1)]
              exact implMouseOfParts_x g off c n x y _ _ size fin w hg hc0 hc1 hc2 HA (.inr (.inr (.inl ⟨d1, by simp [d2], by simpa using d3⟩)))
        · rw [if_neg (fun hh => d1 hh.1)]
          exact implMouseOfParts_x g off c n x y _ _ size fin w hg hc0 hc1 hc2 HA (.inl (by simpa using d1))
      | [_, _, _, _], _, _, _ => exact implMouseOfParts_bad p c 4 0 size fin true w (by omega) (.inr (.inr ⟨rfl, rfl, by omega⟩))
      | _ :: _ :: _ :: _ :: _ :: _, _, hl, _ => exact absurd hl (by simp)
    · rw [if_neg (fun hh => h2 hh.2)]
      exact implMouseOfParts_bad p c nums.length code size fin priv w hl (.inr (.inl ⟨by simp [h1], by simpa using h2⟩))
  · rw [if_neg (fun hh => h1 hh.1)]
    exact implMouseOfParts_bad p c nums.length code size fin priv w hl (.inl (by simpa using h1))

end Go.Proofs.Ytnmnklilmcpkaaa
