/- Facts on tokens as plain data: their events are events, their sizes lie within the data. -/
import Derived.Test.YtjopjddhgaiddabGreatDoorQFlush3ToFlush4
import Derived.Test.YtjopjddhgaiddabGreatDoorQFirstPureToFirstBack
namespace Go.Proofs.YtjopjddhgaiddabGreatDoor
open Go.RowKit
set_option linter.unusedVariables false

theorem keyEv_fault {c m : Int} (hc : keyCode c = true) (h0 : 0 ≤ m) (h7 : m ≤ 7) : (keyEv c m).fault = 0 := by
  have hf : (keyEv c m).form = true := rfl
  have ht : (keyEv c m).fits = true := rfl
  have hn : (keyEv c m).nums = true := by
    show (keyCode c && inR m 0 7) = true
    rw [hc]
    simp [inR, h0, h7]
  exact fault_0 hf hn ht
theorem rawEv_fault {d : List UInt8} (h0 : 1 ≤ d.length) (h1 : d.length ≤ 24) : (rawEv d).fault = 0 := by
  have hf : (rawEv d).form = true := rfl
  have hn : (rawEv d).nums = true := rfl
  have ht : (rawEv d).fits = true := by
    show inR (d.length : Int) 1 24 = true
    simp [inR]; omega
  exact fault_0 hf hn ht
theorem pasteEv_fault {d : List UInt8} (h0 : 1 ≤ d.length) (h1 : d.length ≤ 32) : (pasteEv d).fault = 0 := by
  have hf : (pasteEv d).form = true := rfl
  have hn : (pasteEv d).nums = true := rfl
  have ht : (pasteEv d).fits = true := by
    show inR (d.length : Int) 1 32 = true
    simp [inR]; omega
  exact fault_0 hf hn ht
theorem keyCode_special {c : Int} (h : 2000001 ≤ c ∧ c ≤ 2000014) : keyCode c = true := by
  unfold keyCode special inR
  simp [h]
theorem keyCode_point {c : Int} (hp : point c = true) (h : 32 ≤ c) (h7 : ¬ c = 127) : keyCode c = true := by
  unfold keyCode
  simp [hp, h, h7]
theorem point_small {c : Int} (h0 : 0 ≤ c) (h1 : c ≤ 255) : point c = true := by
  simp [point, inR]
  omega
theorem letterK_special (c : Int) (h : ¬ letterK c = 0) : 2000001 ≤ letterK c ∧ letterK c ≤ 2000014 := by
  revert h
  unfold letterK
  repeat' split
  all_goals simp
theorem tildeK_special (c : Int) (h : ¬ tildeK c = 0) : 2000001 ≤ tildeK c ∧ tildeK c ≤ 2000014 := by
  revert h
  unfold tildeK
  repeat' split
  all_goals simp
theorem pointT_key (n : Int) (h : (pointT n).2 = true) : keyCode (pointT n).1 = true := by
  revert h
  unfold pointT
  by_cases hx : n = 13 ∨ n = 9 ∨ n = 127 ∨ n = 27
  · rw [if_pos hx]
    intro _
    rcases hx with rfl | rfl | rfl | rfl <;> rfl
  · rw [if_neg hx]
    intro h
    simp only [Bool.and_eq_true, decide_eq_true_eq] at h
    exact keyCode_point h.1 h.2 (by omega)
theorem partsT_key (l : List Int) (f : Int) (h : (partsT l f).2 = true) : keyCode (partsT l f).1 = true := by
  revert h
  unfold partsT
  split
  · split
    · simp
    · split
      · intro h
        exact keyCode_special (tildeK_special _ (by simpa using h))
      · exact pointT_key _
  · intro h
    simp only [Bool.and_eq_true, bne_iff_ne] at h
    exact keyCode_special (letterK_special _ h.1)
theorem modsT_range (l : List Int) (h : (modsT l).2 = true) : 0 ≤ (modsT l).1 ∧ (modsT l).1 ≤ 7 := by
  revert h
  unfold modsT
  split
  · simp
  · simp
  · split
    · intro _; dsimp only; omega
    · simp
  · simp
theorem keyP_event (r : Pt) (h : (keyP r).code = 0) : (keyP r).ev.fault = 0 ∧ (keyP r).ev.kind = 1 := by
  revert h
  unfold keyP
  split
  · rename_i hh
    intro _
    have hm := modsT_range _ hh.2.2.1
    exact ⟨keyEv_fault (partsT_key _ _ hh.2.2.2) hm.1 hm.2, rfl⟩
  · intro h; exact absurd h (by simp [badTk])
theorem actT_range (n f : Int) (h : (actT n f).2 = true) : 1 ≤ (actT n f).1 ∧ (actT n f).1 ≤ 3 := by
  revert h
  unfold actT
  repeat' split
  all_goals simp
theorem mouse3_event (n x y f s : Int) (hn : 0 ≤ n) (h : (mouse3 n x y f s).code = 0) : (mouse3 n x y f s).ev.fault = 0 ∧ (mouse3 n x y f s).ev.kind = 2 := by
  revert h
  unfold mouse3
  split
  · rename_i hh
    intro _
    have := (mouse_fault n (actT n f).1 x y hn (actT_range n f hh.1)).2 hh.2
    have e : (mouseEv n (actT n f).1 x y).fault = 0 := by simpa using this
    exact ⟨e, rfl⟩
  · intro h; exact absurd h (by simp [badTk])
theorem mouseP_event (r : Pt) (hN : ∀ x ∈ r.nums, 0 ≤ x ∧ x ≤ 9999999) (h : (mouseP r).code = 0) : (mouseP r).ev.fault = 0 ∧ (mouseP r).ev.kind = 2 := by
  obtain ⟨code, priv, nums, fin, size⟩ := r
  revert h
  unfold mouseP
  dsimp only at *
  split
  · split
    · intro h
      exact mouse3_event _ _ _ _ _ (hN _ (by simp)).1 h
    · intro h; exact absurd h (by simp [badTk])
  · intro h; exact absurd h (by simp [badTk])
theorem keyB_event (b : Int) (h0 : 0 ≤ b) (h : (keyB b).code = 0) : (keyB b).ev.fault = 0 ∧ (keyB b).ev.kind = 1 := by
  revert h
  unfold keyB
  repeat' split
  all_goals intro h
  · exact ⟨rfl, rfl⟩
  · exact ⟨rfl, rfl⟩
  · exact ⟨rfl, rfl⟩
  · exact ⟨rfl, rfl⟩
  · exact ⟨rfl, rfl⟩
  · exact ⟨keyEv_fault (keyCode_point (by simp [point, inR]; omega) (by omega) (by omega)) (by omega) (by omega), rfl⟩
  · exact ⟨keyEv_fault (keyCode_point (by simp [point, inR]; omega) (by omega) (by omega)) (by omega) (by omega), rfl⟩
  · exact absurd h (by simp [badTk])

/-- what a good token of n bytes of data is -/
def GoodTk (t : Tk) (n : Nat) : Prop := (∃ k : Nat, t.size = (k : Int) ∧ 1 ≤ k ∧ k ≤ n) ∧ (t.none = true ∨ t.ev.fault = 0)

theorem rawTk_good {l : List UInt8} {k n : Nat} (h0 : 1 ≤ k) (hk : k ≤ l.length) (h24 : k ≤ 24) (hn : k ≤ n) : GoodTk (rawTk (l.take k)) n := by
  have e : (l.take k).length = k := by simp; omega
  refine ⟨⟨k, by show ((l.take k).length : Int) = k; rw [e], h0, hn⟩, .inr (rawEv_fault (by omega) (by omega))⟩
theorem keyTk_good {c m : Int} {k n : Nat} (hc : keyCode c = true) (h0 : 0 ≤ m) (h7 : m ≤ 7) (hk : 1 ≤ k) (hn : k ≤ n) : GoodTk (keyTk c m k) n :=
  ⟨⟨k, rfl, hk, hn⟩, .inr (keyEv_fault hc h0 h7)⟩
theorem keyP_size (r : Pt) (h : (keyP r).code = 0) : (keyP r).size = r.size := by
  revert h
  unfold keyP
  split
  · intro _; rfl
  · intro h; exact absurd h (by simp [badTk])
theorem mouseP_size (r : Pt) (h : (mouseP r).code = 0) : (mouseP r).size = r.size := by
  revert h
  unfold mouseP
  split
  · split
    · unfold mouse3
      split
      · intro _; rfl
      · intro h; exact absurd h (by simp [badTk])
    · intro h; exact absurd h (by simp [badTk])
  · intro h; exact absurd h (by simp [badTk])

theorem seqTok_good (l : List UInt8) (h2 : 2 ≤ l.length) (h : (seqTok l).code = 0) : GoodTk (seqTok l) l.length := by
  revert h
  unfold seqTok
  have hkinds := ptOf_kinds ((l.take 24).drop 2)
  have hnums := ptOf_nums ((l.take 24).drop 2)
  have hdl : ((l.take 24).drop 2).length ≤ l.length - 2 ∧ ((l.take 24).drop 2).length ≤ 22 := by simp; omega
  generalize ptOf ((l.take 24).drop 2) = r at *
  split
  · split
    · intro h; exact absurd h (by simp [badTk])
    · intro _
      have := @rawTk_good l 24 l.length (by omega) (by omega) (by omega) (by omega)
      exact this
  · rename_i h6
    intro _
    rcases hkinds with hk | ⟨_, s, hs, hs1, hs2⟩
    · rw [hk] at h6; exact absurd rfl h6
    have hsz : (grow2 r).size = ((s + 2 : Nat) : Int) := by unfold grow2; rw [hs]; simp
    unfold seqOf
    split
    · exact ⟨⟨s + 2, hsz, by omega, by omega⟩, .inl rfl⟩
    split
    · rename_i hk
      exact ⟨⟨s + 2, (keyP_size _ hk).trans hsz, by omega, by omega⟩, .inr (keyP_event _ hk).1⟩
    split
    · rename_i hm
      exact ⟨⟨s + 2, (mouseP_size _ hm).trans hsz, by omega, by omega⟩, .inr (mouseP_event (grow2 r) hnums hm).1⟩
    · have e1 : (grow2 r).size.toNat = s + 2 := by rw [hsz]; exact Int.toNat_natCast _
      have e2 : ((l.take 24).take (s + 2)) = l.take (s + 2) := by rw [List.take_take]; congr 1; omega
      rw [e1, e2]
      exact rawTk_good (by omega) (by omega) (by omega) (by omega)
theorem letTok_good (l : List UInt8) (h : (letTok l).code = 0) : GoodTk (letTok l) l.length := by
  revert h
  unfold letTok
  split
  · intro h; exact absurd h (by simp [badTk])
  split
  · intro _; exact rawTk_good (by omega) (by omega) (by omega) (by omega)
  · rename_i h3 hl
    intro _
    exact keyTk_good (k := 3) (keyCode_special (letterK_special _ hl)) (by omega) (by omega) (by omega) (by omega)
theorem escTok_good (l : List UInt8) (h : (escTok l).code = 0) : GoodTk (escTok l) l.length := by
  revert h
  unfold escTok
  split
  · intro h; exact absurd h (by simp [badTk])
  rename_i h2
  split
  · exact seqTok_good l (by omega)
  split
  · exact letTok_good l
  split
  · rename_i hp
    simp only [inR, Bool.and_eq_true, decide_eq_true_eq] at hp
    intro _
    exact keyTk_good (k := 2) (keyCode_point (point_small (by omega) (by omega)) (by omega) (by omega)) (by omega) (by omega) (by omega) (by omega)
  · intro _
    exact keyTk_good (k := 1) (keyCode_special (by omega)) (by omega) (by omega) (by omega) (by omega)
theorem implFP_back (l : List UInt8) (h : (implFP l).1 = 0) (hne : l ≠ []) : point (implFP l).2.1 = true ∧ 1 ≤ (implFP l).2.2 ∧ (implFP l).2.2 ≤ (l.length : Int) := by
  rw [same_point] at *
  match l, hne with
  | a :: r, _ =>
    obtain ⟨h1, h2, h3, h4⟩ := first_back a r (p := (specFirst a r).2.1) (s := (specFirst a r).2.2) (by rw [← show (specFirst a r).1 = 0 from h])
    refine ⟨h1, h3, ?_⟩
    show (specFirst a r).2.2 ≤ (((a :: r).length : Nat) : Int)
    rw [List.length_cons]
    omega
theorem ptTok_good (l : List UInt8) (hne : l ≠ []) (h : (ptTok l).code = 0) : GoodTk (ptTok l) l.length := by
  have hpos : 0 < l.length := List.length_pos_iff.2 hne
  revert h
  unfold ptTok
  split
  · intro h; exact absurd h (by simp [badTk])
  split
  · intro _; exact rawTk_good (by omega) (by omega) (by omega) (by omega)
  · rename_i h6 h0
    intro _
    obtain ⟨h1, h3, h4⟩ := implFP_back l (by omega) hne
    generalize implFP l = z at *
    obtain ⟨k, hk⟩ : ∃ k : Nat, z.2.2 = (k : Int) := ⟨z.2.2.toNat, by omega⟩
    rw [hk]
    exact keyTk_good (keyCode_point h1 (by omega) (by omega)) (by omega) (by omega) (by omega) (by omega)
theorem keyB_size (b : Int) (h : (keyB b).code = 0) : (keyB b).size = 1 := by
  revert h
  unfold keyB
  repeat' split
  all_goals first | (intro _; rfl) | (intro h; exact absurd h (by simp [badTk]))
theorem firstTok_good (l : List UInt8) (h : (firstTok l).code = 0) : GoodTk (firstTok l) l.length := by
  revert h
  unfold firstTok
  split
  · intro h; exact absurd h (by simp [badTk])
  rename_i hne
  have hpos : 0 < l.length := List.length_pos_iff.2 hne
  unfold outTok
  split
  · exact escTok_good l
  split
  · exact ptTok_good l hne
  split
  · rename_i hk
    intro _
    exact ⟨⟨1, keyB_size _ hk, by omega, by omega⟩, .inr (keyB_event _ (by omega) hk).1⟩
  · intro _; exact rawTk_good (by omega) (by omega) (by omega) (by omega)
theorem flushTok_good (l : List UInt8) (q : Bool) (hne : l ≠ []) : (flushTok l q).code = 0 ∧ GoodTk (flushTok l q) l.length := by
  have hpos : 0 < l.length := List.length_pos_iff.2 hne
  unfold flushTok
  rw [if_neg hne]
  split
  · refine ⟨rfl, ⟨(l.take 32).length, rfl, by simp; omega, by simp; omega⟩, .inr (pasteEv_fault (by simp; omega) (by simp; omega))⟩
  split
  · refine ⟨asTok_code l, ?_⟩
    rename_i h6
    unfold asTok
    split
    · exact keyTk_good (k := 1) (keyCode_special (by omega)) (by omega) (by omega) (by omega) (by omega)
    split
    · rename_i h1 h2
      have hx : ((l.getD 1 0).toNat : Int) = 91 ∨ ((l.getD 1 0).toNat : Int) = 79 := by
        unfold firstTok outTok escTok at h6
        rw [if_neg hne, if_pos h2.1, if_neg (by omega)] at h6
        by_cases e1 : ((l.getD 1 0).toNat : Int) = 91
        · exact .inl e1
        · rw [if_neg e1] at h6
          by_cases e2 : ((l.getD 1 0).toNat : Int) = 79
          · exact .inr e2
          · rw [if_neg e2] at h6
            split at h6 <;> exact absurd h6 (by simp [keyTk])
      exact keyTk_good (k := 2) (keyCode_point (point_small (by omega) (by omega)) (by omega) (by omega)) (by omega) (by omega) (by omega) (by omega)
    · have e : l.take 24 = l.take (l.take 24).length := by rw [List.length_take]; rw [← List.take_take]; simp
      rw [e]
      exact rawTk_good (by simp; omega) (by simp; omega) (by simp; omega) (by simp; omega)
  · rename_i h6
    have h0 : (firstTok l).code = 0 := by
      have := outTok_two l
      unfold firstTok at h6 ⊢
      rw [if_neg hne] at h6 ⊢
      omega
    exact ⟨h0, firstTok_good l h0⟩

end Go.Proofs.YtjopjddhgaiddabGreatDoor

/- What comes later does not change a token that is there: sequences and letters. -/
namespace Go.Proofs.YtjopjddhgaiddabGreatDoor
open Go.RowKit
set_option linter.unusedVariables false

theorem getD_more (l m : List UInt8) (i : Nat) (h : i < l.length) : (l ++ m).getD i 0 = l.getD i 0 := by
  simp [List.getD_eq_getElem?_getD, List.getElem?_append_left h]
theorem take_more (l m : List UInt8) (k : Nat) (h : k ≤ l.length) : (l ++ m).take k = l.take k := List.take_append_of_le_length h
theorem bsz_more : ∀ (l m : List UInt8), bsz l < l.length → bsz (l ++ m) = bsz l
  | [], _, h => by simp [bsz] at h
  | c :: r, m, h => by
    show (if bod c = true then bsz (r ++ m) + 1 else 0) = (if bod c = true then bsz r + 1 else 0)
    by_cases hc : bod c = true
    · rw [if_pos hc, if_pos hc]
      have hr : bsz r < r.length := by
        have : bsz (c :: r) = bsz r + 1 := if_pos hc
        rw [this] at h
        simpa using h
      rw [bsz_more r m hr]
    · rw [if_neg hc, if_neg hc]
theorem ptAt_more (x y : List UInt8) (s : Nat) (hs : s ≤ x.length) (h : ¬ (ptAt x s).code = 6) : ptAt (x ++ y) s = ptAt x s := by
  have hb := bsz_drop x s hs
  have hne : ¬ s + bsz (x.drop s) = x.length := by
    intro e
    exact h (by rw [ptAt_full e])
  have hlt : bsz (x.drop s) < (x.drop s).length := by rw [List.length_drop]; omega
  have e0 : (x ++ y).drop s = x.drop s ++ y := List.drop_append_of_le_length hs
  have e1 : bsz ((x ++ y).drop s) = bsz (x.drop s) := by rw [e0, bsz_more _ _ hlt]
  unfold ptAt
  rw [e1, if_neg hne, if_neg (show ¬ s + bsz (x.drop s) = (x ++ y).length by simp; omega), getD_more _ _ _ (by omega), take_more _ _ _ (by omega)]
theorem ptOf_more (x y : List UInt8) (h : ¬ (ptOf x).code = 6) : ptOf (x ++ y) = ptOf x := by
  have hpos : 0 < x.length := by
    cases x with
    | nil => exact absurd rfl h
    | cons _ _ => simp
  revert h
  unfold ptOf
  rw [getD_more x y 0 hpos]
  split
  · exact ptAt_more x y 1 (by omega)
  · exact ptAt_more x y 0 (by omega)
theorem seqTok_more (l m : List UInt8) (h2 : 2 ≤ l.length) (h : (seqTok l).code = 0) : seqTok (l ++ m) = seqTok l := by
  by_cases h24 : 24 ≤ l.length
  · unfold seqTok
    rw [take_more l m 24 h24, if_neg (show ¬ (l ++ m).length < 24 by simp; omega), if_neg (show ¬ l.length < 24 by omega)]
  · have hw : (ptOf ((l.take 24).drop 2)).code ≠ 6 := by
      intro e
      unfold seqTok at h
      rw [if_pos e, if_pos (by omega)] at h
      exact absurd h (by simp [badTk])
    have e1 : l.take 24 = l := List.take_of_length_le (by omega)
    have e2 : (l ++ m).take 24 = l ++ m.take (24 - l.length) := by rw [List.take_append, e1]
    have e3 : ((l ++ m).take 24).drop 2 = (l.take 24).drop 2 ++ m.take (24 - l.length) := by
      rw [e2, e1]
      exact List.drop_append_of_le_length h2
    have e4 := ptOf_more ((l.take 24).drop 2) (m.take (24 - l.length)) hw
    have hk := ptOf_kinds ((l.take 24).drop 2)
    have hdl : ((l.take 24).drop 2).length = l.length - 2 := by rw [e1]; simp
    unfold seqTok
    rw [e3, e4, if_neg hw, if_neg hw]
    rw [hdl] at hk
    generalize ptOf ((l.take 24).drop 2) = r at *
    rcases hk with rfl | ⟨_, s, hs, hs1, hs2⟩
    · exact absurd rfl hw
    unfold seqOf
    have hs0 : (grow2 r).size = (s : Int) + 2 := by unfold grow2; rw [hs]
    have hsz : (grow2 r).size.toNat = s + 2 := by rw [hs0]; omega
    rw [hsz, e2, e1, take_more l _ (s + 2) (by omega)]
theorem letTok_more (l m : List UInt8) (h : (letTok l).code = 0) : letTok (l ++ m) = letTok l := by
  by_cases h3 : l.length < 3
  · unfold letTok at h
    rw [if_pos h3] at h
    exact absurd h (by simp [badTk])
  · unfold letTok
    rw [if_neg h3, if_neg (show ¬ (l ++ m).length < 3 by simp; omega), getD_more _ _ _ (by omega), take_more _ _ _ (by omega)]
theorem escTok_more (l m : List UInt8) (h : (escTok l).code = 0) : escTok (l ++ m) = escTok l := by
  by_cases h2 : l.length < 2
  · unfold escTok at h
    rw [if_pos h2] at h
    exact absurd h (by simp [badTk])
  · revert h
    unfold escTok
    rw [if_neg h2, if_neg (show ¬ (l ++ m).length < 2 by simp; omega), getD_more _ _ _ (by omega)]
    split
    · exact seqTok_more l m (by omega)
    split
    · exact letTok_more l m
    · intro _; rfl

end Go.Proofs.YtjopjddhgaiddabGreatDoor

/- What comes later does not change a token that is there: code points, and the first token whole. -/
namespace Go.Proofs.YtjopjddhgaiddabGreatDoor
open Go.RowKit
set_option linter.unusedVariables false

theorem full2_more (lo hi : Int) (a : UInt8) (r m : List UInt8) (h : full2 r = true) : full2 (r ++ m) = true ∧ slow2 lo hi a (r ++ m) = slow2 lo hi a r := by
  match r, h with
  | b :: t, _ => exact ⟨rfl, rfl⟩
theorem full3_more (lo hi : Int) (a : UInt8) (r m : List UInt8) (h : full3 lo hi r = true) : full3 lo hi (r ++ m) = true ∧ slow3 lo hi a (r ++ m) = slow3 lo hi a r := by
  match r, h with
  | [b], h =>
    have hb : mid lo hi b = false := by simpa [full3] using h
    match m with
    | [] => exact ⟨h, rfl⟩
    | c :: t => exact ⟨rfl, by simp [slow3, hb]⟩
  | b :: c :: t, _ => exact ⟨rfl, rfl⟩
theorem full4_more (lo hi : Int) (a : UInt8) (r m : List UInt8) (h : full4 lo hi r = true) : full4 lo hi (r ++ m) = true ∧ slow4 lo hi a (r ++ m) = slow4 lo hi a r := by
  match r, h with
  | [b], h =>
    have hb : mid lo hi b = false := by simpa [full4] using h
    match m with
    | [] => exact ⟨h, rfl⟩
    | [c] => exact ⟨by simp [full4, hb], by simp [slow4]⟩
    | c :: d :: t => exact ⟨rfl, by simp [slow4, hb]⟩
  | [b, c], h =>
    have hb : (mid lo hi b && mid 128 191 c) = false := by
      have hh : (!(mid lo hi b && mid 128 191 c)) = true := h
      cases hq : (mid lo hi b && mid 128 191 c)
      · rfl
      · rw [hq] at hh; simp at hh
    match m with
    | [] => exact ⟨h, rfl⟩
    | d :: t => exact ⟨rfl, by simp only [List.cons_append, List.nil_append, slow4]; rw [hb]; simp⟩
  | b :: c :: d :: t, _ => exact ⟨rfl, rfl⟩

theorem full_more (a : UInt8) (r m : List UInt8) (h : fullZ a r = true) : fullZ a (r ++ m) = true ∧ decZ a (r ++ m) = decZ a r := by
  have key : fullZ a (r ++ m) = true ∧ slowZ a (r ++ m) = slowZ a r := by
    revert h
    unfold fullZ slowZ
    split
    · exact full2_more _ _ _ r m
    split
    · exact full3_more _ _ _ r m
    split
    · exact full3_more _ _ _ r m
    split
    · exact full3_more _ _ _ r m
    split
    · exact full4_more _ _ _ r m
    split
    · exact full4_more _ _ _ r m
    split
    · exact full4_more _ _ _ r m
    · intro _; exact ⟨rfl, rfl⟩
  refine ⟨key.1, ?_⟩
  unfold decZ
  rw [key.2]
theorem implFP_more (l m : List UInt8) (hne : l ≠ []) (h : ¬ (implFP l).1 = 6) : implFP (l ++ m) = implFP l := by
  match l, hne with
  | a :: r, _ =>
    have hf : fullZ a r = true := by
      cases hz : fullZ a r
      · exact absurd (by show (implFP (a :: r)).1 = 6; unfold implFP; dsimp only; rw [if_pos hz]) h
      · rfl
    obtain ⟨h1, h2⟩ := full_more a r m hf
    show implFP (a :: (r ++ m)) = implFP (a :: r)
    unfold implFP
    dsimp only
    rw [h1, h2, hf]
theorem ptTok_more (l m : List UInt8) (hne : l ≠ []) (h : (ptTok l).code = 0) : ptTok (l ++ m) = ptTok l := by
  have hpos : 0 < l.length := List.length_pos_iff.2 hne
  have h6 : ¬ (implFP l).1 = 6 := by
    intro e
    unfold ptTok at h
    rw [if_pos e] at h
    exact absurd h (by simp [badTk])
  unfold ptTok
  rw [implFP_more l m hne h6, take_more l m 1 (by omega)]
theorem firstTok_more (l m : List UInt8) (h : (firstTok l).code = 0) : firstTok (l ++ m) = firstTok l := by
  have hne : l ≠ [] := by
    intro e
    rw [e] at h
    exact absurd h (by simp [firstTok, badTk])
  have hpos : 0 < l.length := List.length_pos_iff.2 hne
  revert h
  unfold firstTok
  rw [if_neg hne, if_neg (show ¬ l ++ m = [] by simp [hne])]
  unfold outTok
  rw [getD_more l m 0 hpos, take_more l m 1 (by omega)]
  split
  · exact escTok_more l m
  split
  · exact ptTok_more l m hne
  · intro _; rfl
theorem firstTok_six_len (l : List UInt8) (h : (firstTok l).code = 6) : l.length < 24 := by
  have hS : (seqTok l).code = 6 → l.length < 24 := by
    unfold seqTok
    split
    · split
      · intro _; assumption
      · intro h; exact absurd h (by simp [rawTk, rTk])
    · intro h; rw [seqOf_code] at h; omega
  have hP : (ptTok l).code = 6 → l.length < 24 := by
    unfold ptTok
    split
    · rename_i h6
      intro _
      rw [same_point] at h6
      match l with
      | [] => simp
      | a :: r =>
        have hle := leadN_le a.toNat
        revert h6
        show (specFirst a r).1 = 6 → _
        unfold specFirst
        repeat' split
        all_goals (intro h6; first | (simp only [List.length_cons]; omega) | (exact absurd h6 (by simp)))
    · split
      · intro h; exact absurd h (by simp [rawTk, rTk])
      · intro h; exact absurd h (by simp [keyTk])
  revert h
  unfold firstTok
  split
  · intro h; exact absurd h (by simp [badTk])
  unfold outTok
  split
  · unfold escTok
    split
    · intro _; omega
    split
    · exact hS
    split
    · unfold letTok
      split
      · intro _; omega
      split
      · intro h; exact absurd h (by simp [rawTk, rTk])
      · intro h; exact absurd h (by simp [keyTk])
    split
    · intro h; exact absurd h (by simp [keyTk])
    · intro h; exact absurd h (by simp [keyTk])
  split
  · exact hP
  split
  · intro h; omega
  · intro h; exact absurd h (by simp [rawTk, rTk])

end Go.Proofs.YtjopjddhgaiddabGreatDoor

/- What comes later does not change a token of a paste that is there. -/
namespace Go.Proofs.YtjopjddhgaiddabGreatDoor
open Go.RowKit
set_option linter.unusedVariables false

theorem pre_iff' : ∀ (a b : List UInt8), pre a b = true ↔ a <+: b := by
  intro a b
  unfold pre
  rw [beq_iff_eq, List.prefix_iff_eq_take]
  exact eq_comm
theorem stops_more (l m : List UInt8) (h : stops l = false) : stops (l ++ m) = false := by
  unfold stops at *
  rw [Bool.or_eq_false_iff] at h ⊢
  obtain ⟨h1, h2⟩ := h
  have n1 : ¬ endB <+: l := fun e => by rw [(pre_iff' _ _).2 e] at h1; simp at h1
  have n2 : ¬ l <+: endB := fun e => by rw [(pre_iff' _ _).2 e] at h2; simp at h2
  constructor
  · rw [← Bool.not_eq_true]
    intro e
    have e' := (pre_iff' _ _).1 e
    by_cases hl : endB.length ≤ l.length
    · exact n1 (List.prefix_of_prefix_length_le e' (List.prefix_append l m) hl)
    · exact n2 (List.prefix_of_prefix_length_le (List.prefix_append l m) e' (by omega))
  · rw [← Bool.not_eq_true]
    intro e
    have e' := (pre_iff' _ _).1 e
    exact n2 ((List.prefix_append l m).trans e')
theorem unt_more : ∀ (l m : List UInt8), unt l ≤ unt (l ++ m) ∧ (unt l + 6 ≤ l.length → unt (l ++ m) = unt l)
  | [], m => ⟨by simp [unt], by simp [unt]⟩
  | x :: r, m => by
    by_cases hs : stops (x :: r) = true
    · have e0 : unt (x :: r) = 0 := by unfold unt; rw [if_pos hs]
      rw [e0]
      refine ⟨Nat.zero_le _, fun h6 => ?_⟩
      have hp := ends_iff (x :: r)
      rw [e0, List.drop_zero] at hp
      have hp1 : pre endB (x :: r) = true := by rw [hp]; simpa using h6
      have hp2 : pre endB (x :: (r ++ m)) = true := (pre_iff' _ _).2 (((pre_iff' _ _).1 hp1).trans (List.prefix_append (x :: r) m))
      show unt (x :: (r ++ m)) = 0
      unfold unt
      rw [if_pos (by unfold stops; rw [hp2]; rfl)]
    · have hs' : stops (x :: r) = false := by simpa using hs
      have hm := stops_more (x :: r) m hs'
      have e0 : unt (x :: r) = unt r + 1 := by
        conv => lhs; unfold unt
        rw [if_neg hs]
      have e1 : unt (x :: r ++ m) = unt (r ++ m) + 1 := by
        show unt (x :: (r ++ m)) = _
        conv => lhs; unfold unt
        rw [if_neg (by rw [show x :: (r ++ m) = x :: r ++ m from rfl, hm]; simp)]
      obtain ⟨i1, i2⟩ := unt_more r m
      rw [e0, e1]
      refine ⟨by omega, fun h6 => ?_⟩
      rw [i2 (by simp at h6; omega)]
theorem firstPaste_more (l m : List UInt8) (h : (firstPaste l).code = 0) : firstPaste (l ++ m) = firstPaste l := by
  have hne : l ≠ [] := by
    intro e
    rw [e] at h
    exact absurd h (by simp [firstPaste, badTk])
  have hne2 : l ++ m ≠ [] := by simp [hne]
  obtain ⟨i1, i2⟩ := unt_more l m
  have hle := unt_le l
  by_cases h32 : 32 ≤ unt l
  · rw [firstPaste_long hne h32, firstPaste_long hne2 (by omega), take_more l m 32 (by omega)]
  · by_cases h6 : l.length < unt l + 6
    · rw [firstPaste_full hne h32 h6] at h
      exact absurd h (by simp [badTk])
    · have e := i2 (by omega)
      by_cases hp : 0 < unt l
      · rw [firstPaste_some hne h32 h6 hp, firstPaste_some hne2 (by omega) (by simp; omega) (by omega), e, take_more l m _ hle]
      · rw [firstPaste_end hne h32 h6 hp, firstPaste_end hne2 (by omega) (by simp; omega) (by omega)]
theorem firstPaste_good (l : List UInt8) (h : (firstPaste l).code = 0) : GoodTk (firstPaste l) l.length := by
  have hne : l ≠ [] := by
    intro e
    rw [e] at h
    exact absurd h (by simp [firstPaste, badTk])
  have hle := unt_le l
  have gp : ∀ k, 1 ≤ k → k ≤ 32 → k ≤ l.length → GoodTk (pasteTk (l.take k)) l.length := fun k h0 h1 h2 => by
    have e : (l.take k).length = k := by simp; omega
    exact ⟨⟨k, by show ((l.take k).length : Int) = k; rw [e], h0, h2⟩, .inr (pasteEv_fault (by omega) (by omega))⟩
  by_cases h32 : 32 ≤ unt l
  · rw [firstPaste_long hne h32]
    exact gp 32 (by omega) (by omega) (by omega)
  · by_cases h6 : l.length < unt l + 6
    · rw [firstPaste_full hne h32 h6] at h
      exact absurd h (by simp [badTk])
    · by_cases hp : 0 < unt l
      · rw [firstPaste_some hne h32 h6 hp]
        exact gp (unt l) (by omega) (by omega) hle
      · rw [firstPaste_end hne h32 h6 hp]
        exact ⟨⟨6, rfl, by omega, by omega⟩, .inl rfl⟩
theorem firstPaste_two (l : List UInt8) (hne : l ≠ []) : (firstPaste l).code = 0 ∨ (firstPaste l).code = 6 := by
  unfold firstPaste
  rw [if_neg hne]
  split
  · exact .inl rfl
  split
  · exact .inr rfl
  split
  · exact .inl rfl
  · exact .inl rfl

end Go.Proofs.YtjopjddhgaiddabGreatDoor
