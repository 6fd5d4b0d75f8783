/- Facts on tokens as plain data: their events are events, their sizes lie within the data. -/
import Derived.Test.YtbnpodledgaipaaGreatDoorQFlush4
import Derived.Test.YtbnpodledgaipaaGreatDoorQFirstPureToFirstBack
namespace Go.Proofs.YtbnpodledgaipaaGreatDoor
open Go.RowKit
set_option linter.unusedVariables false

theorem keyEv_fault {c m : Int} (hc : keyCode c = true) (h0 : 0 ≤ m) (h7 : m ≤ 7) : (keyEv c m).fault = 0 := by
  have hf : (keyEv c m).form = true := rfl
  have ht : (keyEv c m).fits = true := rfl
  have hn : (keyEv c m).nums = true := by
    show (keyCode c && inR m 0 7) = true
    rw [hc]
    simp [inR, h0, h7]
  exact fault_0 hf hn ht
theorem rawEv_fault {d : List UInt8} (h0 : 1 ≤ d.length) (h1 : d.length ≤ 24) : (rawEv d).fault = 0 := by
  have hf : (rawEv d).form = true := rfl
  have hn : (rawEv d).nums = true := rfl
  have ht : (rawEv d).fits = true := by
    show inR (d.length : Int) 1 24 = true
    simp [inR]; omega
  exact fault_0 hf hn ht
theorem pasteEv_fault {d : List UInt8} (h0 : 1 ≤ d.length) (h1 : d.length ≤ 32) : (pasteEv d).fault = 0 := by
  have hf : (pasteEv d).form = true := rfl
  have hn : (pasteEv d).nums = true := rfl
  have ht : (pasteEv d).fits = true := by
    show inR (d.length : Int) 1 32 = true
    simp [inR]; omega
  exact fault_0 hf hn ht
theorem keyCode_special {c : Int} (h : 2000001 ≤ c ∧ c ≤ 2000014) : keyCode c = true := by
  unfold keyCode special inR
  simp [h]
theorem keyCode_point {c : Int} (hp : point c = true) (h : 32 ≤ c) (h7 : ¬ c = 127) : keyCode c = true := by
  unfold keyCode
  simp [hp, h, h7]
theorem point_small {c : Int} (h0 : 0 ≤ c) (h1 : c ≤ 255) : point c = true := by
  simp [point, inR]
  omega
theorem letterK_special (c : Int) (h : ¬ letterK c = 0) : 2000001 ≤ letterK c ∧ letterK c ≤ 2000014 := by
  revert h
  unfold letterK
  repeat' split
  all_goals simp
theorem tildeK_special (c : Int) (h : ¬ tildeK c = 0) : 2000001 ≤ tildeK c ∧ tildeK c ≤ 2000014 := by
  revert h
  unfold tildeK
  repeat' split
  all_goals simp
theorem pointT_key (n : Int) (h : (pointT n).2 = true) : keyCode (pointT n).1 = true := by
  revert h
  unfold pointT
  by_cases hx : n = 13 ∨ n = 9 ∨ n = 127 ∨ n = 27
  · rw [if_pos hx]
    intro _
    rcases hx with rfl | rfl | rfl | rfl <;> rfl
  · rw [if_neg hx]
    intro h
    simp only [Bool.and_eq_true, decide_eq_true_eq] at h
    exact keyCode_point h.1 h.2 (by omega)
theorem partsT_key (l : List Int) (f : Int) (h : (partsT l f).2 = true) : keyCode (partsT l f).1 = true := by
  revert h
  unfold partsT
  split
  · split
    · simp
    · split
      · intro h
        exact keyCode_special (tildeK_special _ (by simpa using h))
      · exact pointT_key _
  · intro h
    simp only [Bool.and_eq_true, bne_iff_ne] at h
    exact keyCode_special (letterK_special _ h.1)
theorem modsT_range (l : List Int) (h : (modsT l).2 = true) : 0 ≤ (modsT l).1 ∧ (modsT l).1 ≤ 7 := by
  revert h
  unfold modsT
  split
  · simp
  · simp
  · split
    · intro _; dsimp only; omega
    · simp
  · simp
theorem keyP_event (r : Pt) (h : (keyP r).code = 0) : (keyP r).ev.fault = 0 ∧ (keyP r).ev.kind = 1 := by
  revert h
  unfold keyP
  split
  · rename_i hh
    intro _
    have hm := modsT_range _ hh.2.2.1
    exact ⟨keyEv_fault (partsT_key _ _ hh.2.2.2) hm.1 hm.2, rfl⟩
  · intro h; exact absurd h (by simp [badTk])
theorem actT_range (n f : Int) (h : (actT n f).2 = true) : 1 ≤ (actT n f).1 ∧ (actT n f).1 ≤ 3 := by
  revert h
  unfold actT
  repeat' split
  all_goals simp
theorem mouse3_event (n x y f s : Int) (hn : 0 ≤ n) (h : (mouse3 n x y f s).code = 0) : (mouse3 n x y f s).ev.fault = 0 ∧ (mouse3 n x y f s).ev.kind = 2 := by
  revert h
  unfold mouse3
  split
  · rename_i hh
    intro _
    have := (mouse_fault n (actT n f).1 x y hn (actT_range n f hh.1)).2 hh.2
    have e : (mouseEv n (actT n f).1 x y).fault = 0 := by simpa using this
    exact ⟨e, rfl⟩
  · intro h; exact absurd h (by simp [badTk])
theorem mouseP_event (r : Pt) (hN : ∀ x ∈ r.nums, 0 ≤ x ∧ x ≤ 9999999) (h : (mouseP r).code = 0) : (mouseP r).ev.fault = 0 ∧ (mouseP r).ev.kind = 2 := by
  obtain ⟨code, priv, nums, fin, size⟩ := r
  revert h
  unfold mouseP
  dsimp only at *
  split
  · split
    · intro h
      exact mouse3_event _ _ _ _ _ (hN _ (by simp)).1 h
    · intro h; exact absurd h (by simp [badTk])
  · intro h; exact absurd h (by simp [badTk])
theorem keyB_event (b : Int) (h0 : 0 ≤ b) (h : (keyB b).code = 0) : (keyB b).ev.fault = 0 ∧ (keyB b).ev.kind = 1 := by
  revert h
  unfold keyB
  repeat' split
  all_goals intro h
  · exact ⟨rfl, rfl⟩
  · exact ⟨rfl, rfl⟩
  · exact ⟨rfl, rfl⟩
  · exact ⟨rfl, rfl⟩
  · exact ⟨rfl, rfl⟩
  · exact ⟨keyEv_fault (keyCode_point (by simp [point, inR]; omega) (by omega) (by omega)) (by omega) (by omega), rfl⟩
  · exact ⟨keyEv_fault (keyCode_point (by simp [point, inR]; omega) (by omega) (by omega)) (by omega) (by omega), rfl⟩
  · exact absurd h (by simp [badTk])

/-- what a good token of n bytes of data is -/
def GoodTk (t : Tk) (n : Nat) : Prop := (∃ k : Nat, t.size = (k : Int) ∧ 1 ≤ k ∧ k ≤ n) ∧ (t.none = true ∨ t.ev.fault = 0)

theorem rawTk_good {l : List UInt8} {k n : Nat} (h0 : 1 ≤ k) (hk : k ≤ l.length) (h24 : k ≤ 24) (hn : k ≤ n) : GoodTk (rawTk (l.take k)) n := by
  have e : (l.take k).length = k := by simp; omega
  refine ⟨⟨k, by show ((l.take k).length : Int) = k; rw [e], h0, hn⟩, .inr (rawEv_fault (by omega) (by omega))⟩
theorem keyTk_good {c m : Int} {k n : Nat} (hc : keyCode c = true) (h0 : 0 ≤ m) (h7 : m ≤ 7) (hk : 1 ≤ k) (hn : k ≤ n) : GoodTk (keyTk c m k) n :=
  ⟨⟨k, rfl, hk, hn⟩, .inr (keyEv_fault hc h0 h7)⟩
theorem keyP_size (r : Pt) (h : (keyP r).code = 0) : (keyP r).size = r.size := by
  revert h
  unfold keyP
  split
  · intro _; rfl
  · intro h; exact absurd h (by simp [badTk])
theorem mouseP_size (r : Pt) (h : (mouseP r).code = 0) : (mouseP r).size = r.size := by
  revert h
  unfold mouseP
  split
  · split
    · unfold mouse3
      split
      · intro _; rfl
      · intro h; exact absurd h (by simp [badTk])
    · intro h; exact absurd h (by simp [badTk])
  · intro h; exact absurd h (by simp [badTk])

theorem seqTok_good (l : List UInt8) (h2 : 2 ≤ l.length) (h : (seqTok l).code = 0) : GoodTk (seqTok l) l.length := by
  revert h
  unfold seqTok
  have hkinds := ptOf_kinds ((l.take 24).drop 2)
  have hnums := ptOf_nums ((l.take 24).drop 2)
  have hdl : ((l.take 24).drop 2).length ≤ l.length - 2 ∧ ((l.take 24).drop 2).length ≤ 22 := by simp; omega
  generalize ptOf ((l.take 24).drop 2) = r at *
  split
  · split
    · intro h; exact absurd h (by simp [badTk])
    · intro _
      have := @rawTk_good l 24 l.length (by omega) (by omega) (by omega) (by omega)
      exact this
  · rename_i h6
    intro _
    rcases hkinds with hk | ⟨_, s, hs, hs1, hs2⟩
    · rw [hk] at h6; exact absurd rfl h6
    have hsz : (grow2 r).size = ((s + 2 : Nat) : Int) := by unfold grow2; rw [hs]; simp
    unfold seqOf
    split
    · exact ⟨⟨s + 2, hsz, by omega, by omega⟩, .inl rfl⟩
    split
    · rename_i hk
      exact ⟨⟨s + 2, (keyP_size _ hk).trans hsz, by omega, by omega⟩, .inr (keyP_event _ hk).1⟩
    split
    · rename_i hm
      exact ⟨⟨s + 2, (mouseP_size _ hm).trans hsz, by omega, by omega⟩, .inr (mouseP_event (grow2 r) hnums hm).1⟩
    · have e1 : (grow2 r).size.toNat = s + 2 := by rw [hsz]; exact Int.toNat_natCast _
      have e2 : ((l.take 24).take (s + 2)) = l.take (s + 2) := by rw [List.take_take]; congr 1; omega
      rw [e1, e2]
      exact rawTk_good (by omega) (by omega) (by omega) (by omega)
theorem letTok_good (l : List UInt8) (h : (letTok l).code = 0) : GoodTk (letTok l) l.length := by
  revert h
  unfold letTok
  split
  · intro h; exact absurd h (by simp [badTk])
  split
  · intro _; exact rawTk_good (by omega) (by omega) (by omega) (by omega)
  · rename_i h3 hl
    intro _
    exact keyTk_good (k := 3) (keyCode_special (letterK_special _ hl)) (by omega) (by omega) (by omega) (by omega)
theorem escTok_good (l : List UInt8) (h : (escTok l).code = 0) : GoodTk (escTok l) l.length := by
  revert h
  unfold escTok
  split
  · intro h; exact absurd h (by simp [badTk])
  rename_i h2
  split
  · exact seqTok_good l (by omega)
  split
  · exact letTok_good l
  split
  · rename_i hp
    simp only [inR, Bool.and_eq_true, decide_eq_true_eq] at hp
    intro _
    exact keyTk_good (k := 2) (keyCode_point (point_small (by omega) (by omega)) (by omega) (by omega)) (by omega) (by omega) (by omega) (by omega)
  · intro _
    exact keyTk_good (k := 1) (keyCode_special (by omega)) (by omega) (by omega) (by omega) (by omega)
theorem implFP_back (l : List UInt8) (h : (implFP l).1 = 0) (hne : l ≠ []) : point (implFP l).2.1 = true ∧ 1 ≤ (implFP l).2.2 ∧ (implFP l).2.2 ≤ (l.length : Int) := by
  rw [same_point] at *
  match l, hne with
  | a :: r, _ =>
    obtain ⟨h1, h2, h3, h4⟩ := first_back a r (p := (specFirst a r).2.1) (s := (specFirst a r).2.2) (by rw [← show (specFirst a r).1 = 0 from h])
    refine ⟨h1, h3, ?_⟩
    show (specFirst a r).2.2 ≤ (((a :: r).length : Nat) : Int)
    rw [List.length_cons]
    omega
theorem ptTok_good (l : List UInt8) (hne : l ≠ []) (h : (ptTok l).code = 0) : GoodTk (ptTok l) l.length := by
  have hpos : 0 < l.length := List.length_pos_iff.2 hne
  revert h
  unfold ptTok
  split
  · intro h; exact absurd h (by simp [badTk])
  split
  · intro _; exact rawTk_good (by omega) (by omega) (by omega) (by omega)
  · rename_i h6 h0
    intro _
    obtain ⟨h1, h3, h4⟩ := implFP_back l (by omega) hne
    generalize implFP l = z at *
    obtain ⟨k, hk⟩ : ∃ k : Nat, z.2.2 = (k : Int) := ⟨z.2.2.toNat, by omega⟩
    rw [hk]
    exact keyTk_good (keyCode_point h1 (by omega) (by omega)) (by omega) (by omega) (by omega) (by omega)
theorem keyB_size (b : Int) (h : (keyB b).code = 0) : (keyB b).size = 1 := by
  revert h
  unfold keyB
  repeat' split
  all_goals first | (intro _; rfl) | (intro h; exact absurd h (by simp [badTk]))
theorem firstTok_good (l : List UInt8) (h : (firstTok l).code = 0) : GoodTk (firstTok l) l.length := by
  revert h
  unfold firstTok
  split
  · intro h; exact absurd h (by simp [badTk])
  rename_i hne
  have hpos : 0 < l.length := List.length_pos_iff.2 hne
  unfold outTok
  split
  · exact escTok_good l
  split
  · exact ptTok_good l hne
  split
  · rename_i hk
    intro _
    exact ⟨⟨1, keyB_size _ hk, by omega, by omega⟩, .inr (keyB_event _ (by omega) hk).1⟩
  · intro _; exact rawTk_good (by omega) (by omega) (by omega) (by omega)
theorem flushTok_good (l : List UInt8) (q : Bool) (hne : l ≠ []) : (flushTok l q).code = 0 ∧ GoodTk (flushTok l q) l.length := by
  have hpos : 0 < l.length := List.length_pos_iff.2 hne
  unfold flushTok
  rw [if_neg hne]
  split
  · refine ⟨rfl, ⟨(l.take 32).length, rfl, by simp; omega, by simp; omega⟩, .inr (pasteEv_fault (by simp; omega) (by simp; omega))⟩
  split
  · refine ⟨asTok_code l, ?_⟩
    rename_i h6
    unfold asTok
    split
    · exact keyTk_good (k := 1) (keyCode_special (by omega)) (by omega) (by omega) (by omega) (by omega)
    split
    · rename_i h1 h2
      have hx : ((l.getD 1 0).toNat : Int) = 91 ∨ ((l.getD 1 0).toNat : Int) = 79 := by
        unfold firstTok outTok escTok at h6
        rw [if_neg hne, if_pos h2.1, if_neg (by omega)] at h6
        by_cases e1 : ((l.getD 1 0).toNat : Int) = 91
        · exact .inl e1
        · rw [if_neg e1] at h6
          by_cases e2 : ((l.getD 1 0).toNat : Int) = 79
          · exact .inr e2
          · rw [if_neg e2] at h6
            split at h6 <;> exact absurd h6 (by simp [keyTk])
      exact keyTk_good (k := 2) (keyCode_point (point_small (by omega) (by omega)) (by omega) (by omega)) (by omega) (by omega) (by omega) (by omega)
    · have e : l.take 24 = l.take (l.take 24).length := by rw [List.length_take]; rw [← List.take_take]; simp
      rw [e]
      exact rawTk_good (by simp; omega) (by simp; omega) (by simp; omega) (by simp; omega)
  · rename_i h6
    have h0 : (firstTok l).code = 0 := by
      have := outTok_two l
      unfold firstTok at h6 ⊢
      rw [if_neg hne] at h6 ⊢
      omega
    exact ⟨h0, firstTok_good l h0⟩

end Go.Proofs.YtbnpodledgaipaaGreatDoor
