/- MouseOfParts of the model is the program's. -/
import Derived.Test.YtcchhlcgamcceaaDoorQSpecMouse3
namespace Go.Proofs.YtcchhlcgamcceaaDoor
open Go.RowKit
set_option linter.unusedVariables false

theorem mouse_fault (n a x y : Int) (hn : 0 ≤ n) (ha : 1 ≤ a ∧ a ≤ 3) : ((mouseEv n a x y).fault == 0) = true ↔ (¬ n.tmod 4 = 3 ∧ inR x 1 200 = true ∧ inR y 1 200 = true) := by
  have h4 : n.tmod 4 = n % 4 := Int.tmod_eq_emod_of_nonneg hn
  have h8 : (n.tdiv 4).tmod 8 = (n / 4) % 8 := by
    rw [Int.tdiv_eq_ediv_of_nonneg hn]
    exact Int.tmod_eq_emod_of_nonneg (by omega)
  have hf : (mouseEv n a x y).form = true := rfl
  have ht : (mouseEv n a x y).fits = true := rfl
  have hm : (mouseEv n a x y).nums = (inR (n.tmod 4) 0 2 && (inR a 1 3 && (inR ((n.tdiv 4).tmod 8) 0 7 && (inR (x - 1) 0 199 && inR (y - 1) 0 199)))) := rfl
  unfold Ev.fault
  rw [hf, ht, hm, h4, h8]
  simp only [Bool.true_eq_false, if_false]
  by_cases hc : ¬ n % 4 = 3 ∧ inR x 1 200 = true ∧ inR y 1 200 = true
  · have : (inR (n % 4) 0 2 && (inR a 1 3 && (inR ((n / 4) % 8) 0 7 && (inR (x - 1) 0 199 && inR (y - 1) 0 199)))) = true := by
      simp only [inR, Bool.and_eq_true, decide_eq_true_eq] at *
      omega
    rw [this]
    simp [hc]
  · have : (inR (n % 4) 0 2 && (inR a 1 3 && (inR ((n / 4) % 8) 0 7 && (inR (x - 1) 0 199 && inR (y - 1) 0 199)))) = false := by
      rw [← Bool.not_eq_true]
      intro hh
      apply hc
      simp only [inR, Bool.and_eq_true, decide_eq_true_eq] at *
      omega
    rw [this]
    simp only [if_true]
    constructor
    · intro h; simp at h
    · intro h; exact absurd h hc

theorem actS_range (n : Int) (rel : Bool) : 1 ≤ actS n rel ∧ actS n rel ≤ 3 := by
  unfold actS
  split
  · omega
  · split <;> omega

theorem mouse3_same (n x y fin s : Int) (rel : Bool) (hn : 0 ≤ n) (hf : (fin = 77 ∧ rel = false) ∨ (fin = 109 ∧ rel = true)) :
    mouse3 n x y fin s = if mouseOK n x y rel = true then mouseTk n (actS n rel) x y s else badTk 5 := by
  have hF := mouse_fault n (actS n rel) x y hn (actS_range n rel)
  have h32 : (n.tdiv 32).tmod 2 = (n / 32) % 2 := by
    rw [Int.tdiv_eq_ediv_of_nonneg hn]
    exact Int.tmod_eq_emod_of_nonneg (by omega)
  unfold mouse3 mouseOK
  rcases hf with ⟨rfl, rfl⟩ | ⟨rfl, rfl⟩
  · simp only [Bool.false_and, Bool.not_false, Bool.true_and]
    by_cases h64 : n < 64
    · have hA : (actT n 77) = (actS n false, true) := by
        unfold actT actS
        rw [if_neg (by omega), h32]
        by_cases h : n ≤ 31
        · rw [if_pos (by omega), if_neg (by simp), if_neg (by omega)]
        · rw [if_neg (by omega), if_pos (by omega), if_neg (by simp), if_pos (by omega)]
      rw [hA]
      simp only [h64, decide_true, Bool.true_and, true_and]
      by_cases hc : ¬ n.tmod 4 = 3 ∧ inR x 1 200 = true ∧ inR y 1 200 = true
      · rw [if_pos hc, if_pos (hF.2 hc)]
      · rw [if_neg hc, if_neg (fun h => hc (hF.1 h))]
    · have hA : (actT n 77).2 = false := by
        unfold actT
        rw [if_neg (by omega), if_neg (by omega), if_neg (by omega)]
      rw [if_neg (by simp [hA]), if_neg (by simp [h64])]
  · simp only [Bool.true_and]
    by_cases h3 : n ≤ 31
    · have hA : (actT n 109) = (actS n true, true) := by
        unfold actT actS
        rw [if_pos (by omega), if_pos rfl]
      have e1 : decide (n < 64) = true := by simp; omega
      have e2 : decide (32 ≤ n) = false := by simp; omega
      rw [hA, e1, e2]
      simp only [Bool.not_false, Bool.true_and, true_and]
      by_cases hc : ¬ n.tmod 4 = 3 ∧ inR x 1 200 = true ∧ inR y 1 200 = true
      · rw [if_pos hc, if_pos (hF.2 hc)]
      · rw [if_neg hc, if_neg (fun h => hc (hF.1 h))]
    · have hA : (actT n 109).2 = false := by
        unfold actT
        rw [if_neg (by omega), if_neg (by omega), if_neg (by omega)]
      have e2 : decide (32 ≤ n) = true := by simp; omega
      rw [if_neg (by simp [hA]), if_neg (by simp [e2])]

theorem mouse3_off (n x y fin s : Int) (h1 : ¬ fin = 77) (h2 : ¬ fin = 109) : mouse3 n x y fin s = badTk 5 := by
  have hA : (actT n fin).2 = false := by
    unfold actT
    rw [if_neg (by omega), if_neg (by omega), if_neg (by omega)]
  unfold mouse3
  rw [if_neg (by simp [hA])]

theorem mouseP_off (code fin size : Int) (nums : List Int) (h1 : ¬ fin = 77) (h2 : ¬ fin = 109) : mouseP ⟨code, true, nums, fin, size⟩ = badTk 5 := by
  unfold mouseP
  dsimp only
  by_cases hc : code = 0
  · rw [if_pos ⟨hc, rfl⟩]
    match nums with
    | [] => rfl
    | [_] => rfl
    | [_, _] => rfl
    | [n, c, w] => exact mouse3_off n c w fin size h1 h2
    | _ :: _ :: _ :: _ :: _ => rfl
  · rw [if_neg (fun h => hc h.1)]

set_option maxRecDepth 100000 in
theorem specMouseOfParts_any (r : Pt) (p : Option Addr) (c : Nat) (w : World) (h : Is w w.heap.size p r.nums) (hl : r.nums.length ≤ 4) (hN : ∀ x ∈ r.nums, 0 ≤ x ∧ x ≤ 9999999) (hr : r.code = 0 ∨ (r.nums = [] ∧ r.fin = 0)) :
    Calls Tryd.prog 51 #[ptV r (.slice p r.nums.length c)] w (PlainTk w (mouseP r)) := by
  obtain ⟨code, priv, nums, fin, size⟩ := r
  dsimp only at *
  unfold ptV mouseP
  dsimp only
  cases priv
  · rw [if_neg (by simp)]
    exact specMouseOfParts_bad p c nums.length code size fin false w hl (.inl rfl)
  by_cases h77 : fin = 77 ∨ fin = 109
  · have hc : code = 0 := by
      rcases hr with hr | hr
      · exact hr
      · omega
    rw [if_pos ⟨hc, rfl⟩]
    match nums, h, hl, hN with
    | [], _, _, _ => exact specMouseOfParts_bad p c 0 code size fin true w (by omega) (.inr (.inr ⟨rfl, h77, by omega⟩))
    | [_], _, _, _ => exact specMouseOfParts_bad p c 1 code size fin true w (by omega) (.inr (.inr ⟨rfl, h77, by omega⟩))
    | [_, _], _, _, _ => exact specMouseOfParts_bad p c 2 code size fin true w (by omega) (.inr (.inr ⟨rfl, h77, by omega⟩))
    | [n, x, y], h, _, hN =>
      obtain ⟨g, off, rfl, hg, hc⟩ := h.cons
      have hc0 := hc 0 (by simp)
      have hc1 := hc 1 (by simp)
      have hc2 := hc 2 (by simp)
      have hn := hN n (by simp)
      have hx := hN x (by simp)
      have hy := hN y (by simp)
      show Calls _ _ _ _ (PlainTk w (mouse3 n x y fin size))
      rcases h77 with rfl | rfl
      · rw [mouse3_same n x y 77 size false hn.1 (.inl ⟨rfl, rfl⟩)]
        have HA := fun w => l3Mouse_any n x y false w hn hx hy
        cases hk : mouseOK n x y false
        · rw [hk] at HA
          exact specMouseOfParts_a g off c n x y _ code size w hg hc0 hc1 hc2 (Lib.hid HA)
        · rw [hk] at HA
          exact specMouseOfParts_b g off c n x y _ code size w hg hc0 hc1 hc2 (Lib.hid HA)
      · rw [mouse3_same n x y 109 size true hn.1 (.inr ⟨rfl, rfl⟩)]
        have HA := fun w => l3Mouse_any n x y true w hn hx hy
        cases hk : mouseOK n x y true
        · rw [hk] at HA
          exact specMouseOfParts_c g off c n x y _ code size w hg hc0 hc1 hc2 (Lib.hid HA)
        · rw [hk] at HA
          exact specMouseOfParts_d g off c n x y _ code size w hg hc0 hc1 hc2 (Lib.hid HA)
    | [_, _, _, _], _, _, _ => exact specMouseOfParts_bad p c 4 code size fin true w (by omega) (.inr (.inr ⟨rfl, h77, by omega⟩))
    | _ :: _ :: _ :: _ :: _ :: _, _, hl, _ => exact absurd hl (by simp)
  · have e := specMouseOfParts_bad p c nums.length code size fin true w hl (.inr (.inl ⟨rfl, by simp; omega, by simp; omega⟩))
    have hq := mouseP_off code fin size nums (by omega) (by omega)
    show Calls _ _ _ _ (PlainTk w (mouseP ⟨code, true, nums, fin, size⟩))
    rw [hq]
    exact e

end Go.Proofs.YtcchhlcgamcceaaDoor
