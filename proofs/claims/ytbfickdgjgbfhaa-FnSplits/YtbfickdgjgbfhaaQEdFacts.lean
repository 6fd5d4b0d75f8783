/- What the law over the layout edits asks of the trees: what fits goes on to fit. Plain facts. -/
import Derived.Test.YtbfickdgjgbfhaaQEdDataToEdKill
import Derived.Test.YtbfickdgjgbfhaaQLyHitToLyHit2
namespace Go.Proofs.Ytbfickdgjgbfhaa
open Go.RowKit
set_option linter.unusedVariables false
set_option linter.unusedSimpArgs false

/-- a place at least as wide and as high -/
def Wider (r s : Q) : Prop := r.x3 ≤ s.x3 ∧ r.x4 ≤ s.x4
theorem Wider.partA {k : Bool} {f : Int} {r s : Q} (h : Wider r s) : Wider (partA ⟨kd k, 0, f, 0, 0⟩ r) (partA ⟨kd k, 0, f, 0, 0⟩ s) := by
  unfold Wider at *
  cases k <;> simp [Go.Proofs.Ytbfickdgjgbfhaa.partA, kd] <;> omega
theorem Wider.partB {k : Bool} {f : Int} {r s : Q} (h : Wider r s) : Wider (partB ⟨kd k, 0, f, 0, 0⟩ r) (partB ⟨kd k, 0, f, 0, 0⟩ s) := by
  unfold Wider at *
  cases k <;> simp [Go.Proofs.Ytbfickdgjgbfhaa.partB, kd] <;> omega
theorem rcT_node {k : Bool} {f : Int} {a b : Tr} {r : Q} (h : (rcT (.node k f a b) r).2 = true) :
    ¬ (r.x3 < 1 ∨ r.x4 < 1) ∧ inR f 0 200 = true ∧ (rcT a (partA ⟨kd k, 0, f, 0, 0⟩ r)).2 = true ∧ (rcT b (partB ⟨kd k, 0, f, 0, 0⟩ r)).2 = true := by
  by_cases hr : r.x3 < 1 ∨ r.x4 < 1
  · rw [rcT, if_pos hr] at h; simp at h
  · by_cases hz : inR f 0 200 = true
    · rw [rcT, if_neg hr, if_pos hz] at h
      simp only [Bool.and_eq_true] at h
      exact ⟨hr, hz, h.1, h.2⟩
    · rw [rcT, if_neg hr, if_neg hz] at h; simp at h
theorem rcT_mk {k : Bool} {f : Int} {a b : Tr} {r : Q} (hr : ¬ (r.x3 < 1 ∨ r.x4 < 1)) (hz : inR f 0 200 = true) (ha : (rcT a (partA ⟨kd k, 0, f, 0, 0⟩ r)).2 = true) (hb : (rcT b (partB ⟨kd k, 0, f, 0, 0⟩ r)).2 = true) :
    (rcT (.node k f a b) r).2 = true := by
  rw [rcT, if_neg hr, if_pos hz]
  simp only [ha, hb]; rfl
theorem rcT_wider (t : Tr) : ∀ r s, Wider r s → (rcT t r).2 = true → (rcT t s).2 = true := by
  induction t with
  | leaf p =>
    intro r s hw h
    have hr : ¬ (r.x3 < 1 ∨ r.x4 < 1) := fun hr => by rw [rcT, if_pos hr] at h; simp at h
    unfold Wider at hw
    have hs : ¬ (s.x3 < 1 ∨ s.x4 < 1) := by omega
    rw [rcT, if_neg hs]
  | node k f a b ia ib =>
    intro r s hw h
    obtain ⟨hr, hz, ha, hb⟩ := rcT_node h
    have hs : ¬ (s.x3 < 1 ∨ s.x4 < 1) := by unfold Wider at hw; omega
    exact rcT_mk hs hz (ia _ _ hw.partA ha) (ib _ _ hw.partB hb)
/-- a part is no wider than the whole -/
theorem part_wider {k : Bool} {f : Int} {a b : Tr} {r : Q} (h : (rcT (.node k f a b) r).2 = true) : Wider (partA ⟨kd k, 0, f, 0, 0⟩ r) r ∧ Wider (partB ⟨kd k, 0, f, 0, 0⟩ r) r := by
  obtain ⟨hr, hz, ha, hb⟩ := rcT_node h
  obtain ⟨h0, h1⟩ := inR_iff.1 hz
  have hsm : ∀ (t : Tr) (s : Q), (rcT t s).2 = true → 1 ≤ s.x3 ∧ 1 ≤ s.x4 := by
    intro t s ht
    have : ¬ (s.x3 < 1 ∨ s.x4 < 1) := fun hs => by
      cases t
      · rw [rcT, if_pos hs] at ht; simp at ht
      · rw [rcT, if_pos hs] at ht; simp at ht
    omega
  have hb2 := hsm _ _ hb
  unfold Wider
  cases k <;> simp [partA, partB, kd] at hb2 ⊢ <;> omega
/-- the pane gone: what is left fits -/
theorem kill_fits (p : Int) (t : Tr) : ∀ r, (rcT t r).2 = true → (rcT (kill p t) r).2 = true := by
  induction t with
  | leaf q => intro r h; exact h
  | node k f a b ia ib =>
    intro r h
    obtain ⟨hr, hz, ha, hb⟩ := rcT_node h
    have hw := part_wider h
    unfold kill
    split
    · exact rcT_wider b _ _ hw.2 hb
    · split
      · exact rcT_wider a _ _ hw.1 ha
      · exact rcT_mk hr hz (ia _ ha) (ib _ hb)
theorem findQ_append (p : Int) (l m : List Q) : findQ p (l ++ m) = if (l.map Q.x0).contains p = true then findQ p l else findQ p m := by
  induction l with
  | nil => rfl
  | cons q t ih =>
    simp only [List.cons_append, findQ, List.map_cons, List.contains_cons]
    by_cases h : q.x0 = p
    · simp [h]
    · have h2 : (p == q.x0) = false := by simp; omega
      rw [ih, h2]
      simp [h]
/-- a pane with room for it split: it fits -/
theorem sub_fits (p fr k : Int) (hk : k = 2 ∨ k = 3) (q : Q) (hq : Good q) (h3 : 3 ≤ roomQ q k) (t : Tr) :
    ∀ r, (rcT t r).2 = true → t.panes.Nodup → p ∈ t.panes → findQ p (rcT t r).1 = [q] → (rcT (sub p (.node (decide (k = 2)) (Int.tdiv (roomQ q k - 1) 2) (.leaf p) (.leaf fr)) t) r).2 = true := by
  have hroom : roomQ q k ≤ 200 := by unfold Good at hq; unfold roomQ; split <;> omega
  have ht : Int.tdiv (roomQ q k - 1) 2 = (roomQ q k - 1) / 2 := Int.tdiv_eq_ediv_of_nonneg (by omega)
  rw [ht]
  induction t with
  | leaf z =>
    intro r h hn hm hf
    simp [Tr.panes] at hm
    subst hm
    have hr : ¬ (r.x3 < 1 ∨ r.x4 < 1) := fun hr => by rw [rcT, if_pos hr] at h; simp at h
    rw [rcT, if_neg hr] at hf
    simp [findQ] at hf
    subst hf
    simp only [sub, if_true]
    refine rcT_mk hr (inR_iff.2 ⟨by omega, by omega⟩) ?_ ?_
    · unfold roomQ at *
      rcases hk with rfl | rfl
      · simp [partA, kd] at h3 hroom ⊢
        rw [rcT, if_neg (by simp only; omega)]
      · simp [partA, kd] at h3 hroom ⊢
        rw [rcT, if_neg (by simp only; omega)]
    · unfold roomQ at *
      rcases hk with rfl | rfl
      · simp [partB, kd] at h3 hroom ⊢
        rw [rcT, if_neg (by simp only; omega)]
      · simp [partB, kd] at h3 hroom ⊢
        rw [rcT, if_neg (by simp only; omega)]
  | node k' f a b ia ib =>
    intro r h hn hm hf
    obtain ⟨hr, hz, ha, hb⟩ := rcT_node h
    simp only [Tr.panes, List.mem_append] at hm hn
    rw [List.nodup_append] at hn
    rw [rcT, if_neg hr, if_pos hz] at hf
    simp only [findQ_append, rcT_panes a _ ha] at hf
    simp only [sub]
    rcases hm with hm | hm
    · have hb' : p ∉ b.panes := fun h => hn.2.2 p hm p h rfl
      rw [if_pos (by simpa using hm)] at hf
      rw [sub_none hb']
      exact rcT_mk hr hz (ia _ ha hn.1 hm hf) hb
    · have ha' : p ∉ a.panes := fun h => hn.2.2 p h p hm rfl
      rw [if_neg (by simpa using ha')] at hf
      rw [sub_none ha']
      exact rcT_mk hr hz ha (ib _ hb hn.2.1 hm hf)

theorem sub_nodup {p q f : Int} {k : Bool} {t : Tr} (hq : q ∉ t.panes) (hm : p ∈ t.panes) (hn : t.panes.Nodup) : (sub p (.node k f (.leaf p) (.leaf q)) t).panes.Nodup := by
  have hpq : p ≠ q := fun e => hq (e ▸ hm)
  induction t with
  | leaf r =>
    simp [Tr.panes] at hm
    subst hm
    simp [sub, Tr.panes, hpq]
  | node k' f' a b ia ib =>
    simp only [Tr.panes, List.mem_append, not_or] at hm hn hq
    rw [List.nodup_append] at hn
    simp only [sub, Tr.panes]
    rw [List.nodup_append]
    rcases hm with hm | hm
    · have hb : p ∉ b.panes := fun h => hn.2.2 p hm p h rfl
      rw [sub_none hb]
      refine ⟨ia hq.1 hm hn.1, hn.2.1, fun x hx y hy e => ?_⟩
      subst e
      rcases (sub_panes x).1 hx with h | ⟨_, h⟩
      · exact hn.2.2 x h.1 x hy rfl
      · simp [Tr.panes] at h
        rcases h with rfl | rfl
        · exact hb hy
        · exact hq.2 hy
    · have ha : p ∉ a.panes := fun h => hn.2.2 p h p hm rfl
      rw [sub_none ha]
      refine ⟨hn.1, ib hq.2 hm hn.2.1, fun x hx y hy e => ?_⟩
      subst e
      rcases (sub_panes x).1 hy with h | ⟨_, h⟩
      · exact hn.2.2 x hx x h.1 rfl
      · simp [Tr.panes] at h
        rcases h with rfl | rfl
        · exact ha hx
        · exact hq.1 hx

/-! what the law asks -/

theorem Tree.fits {x : Ly} (h : lyFault x = 0) : (rcT x.tr (whole x.wide x.high)).2 = true := by
  obtain ⟨ht, hf⟩ := tree_of_fault h
  unfold lyFits at hf
  rwa [ht.rc] at hf
theorem num_fault {t : Tr} {wide high : Int} (hn : t.panes.Nodup) (hp : InP t) (hw : inR wide 1 200 = true) (hh : inR high 1 200 = true) (hf : (rcT t (whole wide high)).2 = true) : lyFault ⟨wide, high, num t 0⟩ = 0 := by
  have ht := num_tree hn hp hw hh
  have e := ht.rc
  rw [tr_num] at e
  rw [ht.fault]
  unfold lyFits
  rw [e]
  simp only [hf]; rfl
theorem tidy_law {x : Ly} (h : lyFault x = 0) : lyFault x.tidy = 0 ∧ lyRects x.tidy = lyRects x ∧ x.tidy.tidy = x.tidy := by
  obtain ⟨ht, hf⟩ := tree_of_fault h
  exact ⟨by rw [ht.tidy_fault, h], ht.tidy_rc.1, Tree.tidy_tidy⟩
theorem kill_law {x : Ly} {p : Int} (h : partC x p = 0) : lyFault (killR x p).2 = 0 ∧ lyHas (killR x p).2 p = false ∧ (killR x p).2.nodes.length + 2 = x.nodes.length := by
  obtain ⟨hf, hh, hl⟩ := partC_zero h
  obtain ⟨ht, -⟩ := tree_of_fault hf
  have hm := (has_tr ht p).1 hh
  have hn := ht.nodup
  have hil : isL p x.tr = false := by rw [isL_size hm, ht.size]; simp [hl]
  obtain ⟨k1, k2⟩ := kill_panes hm hn hil
  have hn2 : (kill p x.tr).panes.Nodup := by rw [k1]; exact hn.erase _
  have hp2 : InP (kill p x.tr) := fun q hq => by rw [k1] at hq; exact ht.inp q (List.mem_of_mem_erase hq)
  have h0 : lyFault ⟨x.wide, x.high, num (kill p x.tr) 0⟩ = 0 := num_fault hn2 hp2 ht.wide ht.high (kill_fits p _ _ (Tree.fits hf))
  unfold killR
  rw [if_pos h]
  refine ⟨h0, ?_, ?_⟩
  · have ht2 := (tree_of_fault h0).1
    have e := has_tr ht2 p
    rw [tr_num, k1] at e
    have hnot : ¬ p ∈ x.tr.panes.erase p := fun hq => (List.Nodup.mem_erase_iff hn).1 hq |>.1 rfl
    unfold lyHas
    have : hasB (num (kill p x.tr) 0) p = false := by
      cases hb : hasB (num (kill p x.tr) 0) p
      · rfl
      · exact absurd (e.1 hb) hnot
    simp [this]
  · simp only [num_len]; rw [k2, ht.size]
theorem resize_law {x : Ly} {p y : Int} (h : (resizeR x p y).1 = 0) : lyFault (resizeR x p y).2 = 0 := by
  unfold resizeR at h ⊢
  split at h
  · split at h
    · split at h
      · rw [if_pos ‹_›, if_pos ‹_›, if_pos ‹_›]; assumption
      · simp at h
    · simp at h
  · rename_i hp; exact absurd h hp
theorem split_law {x : Ly} {p k fr : Int} (h : (splitR x p k fr).1 = 0) :
    lyFault (splitR x p k fr).2 = 0 ∧ lyHas (splitR x p k fr).2 fr = true ∧ killR (splitR x p k fr).2 fr = (0, x.tidy) ∧ tidyR x = (0, x.tidy) := by
  by_cases hc : splitC x p k fr = 0
  · by_cases h3 : roomL x p k < 3
    · unfold splitR at h; rw [if_pos hc, if_pos h3] at h; simp at h
    · have e : splitR x p k fr = (0, ⟨x.wide, x.high, num (splitT x p k fr) 0⟩) := by unfold splitR; rw [if_pos hc, if_neg h3]
      rw [e]
      clear h e
      have hz : lyFault x = 0 ∧ inR k 2 3 = true ∧ inR fr 0 5 = true ∧ hasB x.nodes p = true ∧ hasB x.nodes fr = false := by
        unfold splitC at hc
        split at hc
        · split at hc
          · split at hc
            · split at hc
              · simp at hc
              · rename_i h1 h2 h3 h4; exact ⟨h1, h2.1, h2.2, h3, by simpa using h4⟩
            · simp at hc
          · simp at hc
        · exact absurd hc ‹_›
      obtain ⟨hf, hk, hfr, hhp, hhf⟩ := hz
      obtain ⟨ht, -⟩ := tree_of_fault hf
      have hm := (has_tr ht p).1 hhp
      have hnf : fr ∉ x.tr.panes := fun hq => by have := (has_tr ht fr).2 hq; rw [hhf] at this; cases this
      have hn := ht.nodup
      have hpc : paneC x p = 0 := by unfold paneC; rw [if_pos hf, if_pos hhp]
      obtain ⟨r1, r2, r3⟩ := ro_one hpc
      obtain ⟨q, hq, -, -⟩ := ro_hit r1
      have hfind : findQ p (lyRects x) = [q] := by
        unfold roOf at hq
        rw [if_pos hf] at hq
        split at hq
        · simp at hq
        · exact hq
      have hroom : roomL x p k = roomQ q k := by unfold roomL; rw [hq]; rfl
      have hgq : Good q := by rw [hq] at r3; exact r3
      rw [hroom] at h3
      obtain ⟨k0, k1⟩ := inR_iff.1 hk
      have hk2 : k = 2 ∨ k = 3 := by omega
      have hfit : (rcT (splitT x p k fr) (whole x.wide x.high)).2 = true := by
        unfold splitT
        rw [hroom]
        refine sub_fits p fr k hk2 q hgq (by omega) x.tr _ (Tree.fits hf) hn hm ?_
        unfold lyRects at hfind
        rwa [ht.rc] at hfind
      have hpn : ∀ z, z ∈ (splitT x p k fr).panes → z ∈ x.tr.panes ∨ z = fr := by
        intro z hz
        unfold splitT at hz
        rw [sub_panes] at hz
        rcases hz with hz | ⟨_, hz⟩
        · exact .inl hz.1
        · simp [Tr.panes] at hz
          rcases hz with rfl | rfl
          · exact .inl hm
          · exact .inr rfl
      have hp2 : InP (splitT x p k fr) := fun z hz => by
        rcases hpn z hz with h | rfl
        · exact ht.inp z h
        · obtain ⟨a, b⟩ := inR_iff.1 hfr; exact ⟨a, b⟩
      have hn2 : (splitT x p k fr).panes.Nodup := by unfold splitT; exact sub_nodup hnf hm hn
      have h0 : lyFault ⟨x.wide, x.high, num (splitT x p k fr) 0⟩ = 0 := num_fault hn2 hp2 ht.wide ht.high hfit
      have ht2 := (tree_of_fault h0).1
      have hin : fr ∈ (splitT x p k fr).panes := by unfold splitT; rw [sub_panes]; exact .inr ⟨hm, by simp [Tr.panes]⟩
      have hhas : hasB (num (splitT x p k fr) 0) fr = true := (has_tr ht2 fr).2 (by rw [tr_num]; exact hin)
      obtain ⟨ks1, ks2⟩ := kill_sub (k := decide (k = 2)) (f := Int.tdiv (roomL x p k - 1) 2) hnf hm hn
      have hkl : partC ⟨x.wide, x.high, num (splitT x p k fr) 0⟩ fr = 0 := by
        unfold partC paneC
        have hlen : ¬ (num (splitT x p k fr) 0).length = 1 := by
          intro hl
          rw [num_len] at hl
          have := isL_size hin
          rw [hl] at this
          unfold splitT at this
          rw [ks2] at this
          simp at this
        simp [h0, hhas, hlen]
      refine ⟨h0, by unfold lyHas; simp [h0, hhas], ?_, by unfold tidyR; rw [if_pos hf]⟩
      unfold killR
      rw [if_pos hkl, tr_num]
      unfold splitT
      rw [ks1]
      rfl
  · unfold splitR at h
    rw [if_neg hc] at h
    exact absurd h hc
theorem split_none {x : Ly} {p k fr : Int} (h : (splitR x p k fr).1 ≠ 0) : (splitR x p k fr).2.nodes.length = 0 := by
  unfold splitR at h ⊢
  split at h
  · split at h
    · rw [if_pos ‹_›, if_pos ‹_›]; rfl
    · simp at h
  · rw [if_neg ‹_›]; rfl

end Go.Proofs.Ytbfickdgjgbfhaa
