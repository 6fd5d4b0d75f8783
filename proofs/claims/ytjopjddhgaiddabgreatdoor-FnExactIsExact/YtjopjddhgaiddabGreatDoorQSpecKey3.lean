/- KeyOfParts of the model, and that it is the program's. -/
import Derived.Test.YtjopjddhgaiddabGreatDoorQSpecKey2
namespace Go.Proofs.YtjopjddhgaiddabGreatDoor
open Go.RowKit

theorem l3Named_any (b c : Nat) (p : Option Addr) (r : Pt) (w : World) (hA : AtL w b (ptL r (.slice p r.nums.length c))) (h : Is w w.heap.size p r.nums) (hl : r.nums.length ≤ 4) :
    Calls Tryz.prog 143 #[.pointer (some ⟨b, 0, none⟩)] w fun e w' => e = .returned (.int .i64 (namedK r.nums r.fin)) ∧ Below w.heap.size w w' := by
  obtain ⟨code, priv, nums, fin, size⟩ := r
  unfold ptL at hA
  dsimp only at *
  match nums, h, hl, hA with
  | [], _, _, hA => exact l3Named_e b c p code size fin priv w hA
  | [x], h, _, hA =>
    obtain ⟨g, off, rfl, _, hc⟩ := h.cons
    have hc0 := hc 0 (by simp)
    by_cases h1 : fin = 126
    · rw [show namedK [x] fin = tildeK x from if_pos h1]
      exact l3Named_tu b c g off 1 x _ code size fin priv w hA (.inl rfl) hc0 (.inl ⟨h1, rfl⟩)
    by_cases h2 : fin = 117
    · rw [show namedK [x] fin = codedK x from (if_neg h1).trans (if_pos h2)]
      exact l3Named_tu b c g off 1 x _ code size fin priv w hA (.inl rfl) hc0 (.inr ⟨h2, rfl⟩)
    · rw [show namedK [x] fin = 0 from (if_neg h1).trans (if_neg h2)]
      have := l3Named_l b c g off 1 x code size fin priv w hA (.inl rfl) hc0 h1 h2
      rw [if_neg (by omega)] at this
      exact this
  | [x, m], h, _, hA =>
    obtain ⟨g, off, rfl, _, hc⟩ := h.cons
    have hc0 := hc 0 (by simp)
    by_cases h1 : fin = 126
    · rw [show namedK [x, m] fin = tildeK x from if_pos h1]
      exact l3Named_tu b c g off 2 x _ code size fin priv w hA (.inr rfl) hc0 (.inl ⟨h1, rfl⟩)
    by_cases h2 : fin = 117
    · rw [show namedK [x, m] fin = codedK x from (if_neg h1).trans (if_pos h2)]
      exact l3Named_tu b c g off 2 x _ code size fin priv w hA (.inr rfl) hc0 (.inr ⟨h2, rfl⟩)
    · rw [show namedK [x, m] fin = (if x = 1 then letterK fin else 0) from (if_neg h1).trans (if_neg h2)]
      have := l3Named_l b c g off 2 x code size fin priv w hA (.inr rfl) hc0 h1 h2
      simp only [true_and] at this
      exact this
  | [_, _, _], _, _, hA => exact l3Named_more b c 3 p code size fin priv w hA (.inl rfl)
  | [_, _, _, _], _, _, hA => exact l3Named_more b c 4 p code size fin priv w hA (.inr rfl)
  | _ :: _ :: _ :: _ :: _ :: _, _, hl, _ => exact absurd hl (by simp)

def specKeyT (r : Pt) : Tk := if r.priv = true ∨ modsS r.nums < 0 ∨ namedK r.nums r.fin = 0 then badTk 5 else keyTk (namedK r.nums r.fin) (modsS r.nums) r.size

set_option maxRecDepth 100000 in
set_option maxHeartbeats 4000000 in
theorem specKeyOfParts_T (r : Pt) (p : Option Addr) (c : Nat) (w : World) (h : Is w w.heap.size p r.nums) (hl : r.nums.length ≤ 4) (hN : ∀ x ∈ r.nums, 0 ≤ x ∧ x ≤ 9999999) :
    Calls Tryz.prog 130 #[ptV r (.slice p r.nums.length c)] w (PlainTk w (specKeyT r)) := by
  have HN := Lib.hid (fun (t1 t2 : TypeId) => l3Named_any w.heap.size c p r ((w.alloc (.cells (ptL r (.slice p r.nums.length c)).toArray t1)).alloc (.cells (tkL (badTk 0) (.slice none 0 0)).toArray t2)) ((AtL.new w _ t1).on (below_mk _ _)) ((h.alloc _).alloc _) hl)
  have HM := Lib.hid (fun (t1 t2 : TypeId) w1 (hb : Below ((w.alloc (.cells (ptL r (.slice p r.nums.length c)).toArray t1)).alloc (.cells (tkL (badTk 0) (.slice none 0 0)).toArray t2)).heap.size ((w.alloc (.cells (ptL r (.slice p r.nums.length c)).toArray t1)).alloc (.cells (tkL (badTk 0) (.slice none 0 0)).toArray t2)) w1) => l3Mods_any w.heap.size c p r w1 (((AtL.new w _ t1).on (below_mk _ _)).on hb) (((h.alloc _).alloc _).on hb) hl hN)
  clear h hN
  unfold specKeyT
  unfold ptL tkL badTk noEv at HN HM
  obtain ⟨code, priv, nums, fin, size⟩ := r
  dsimp only at *
  clear hl
  unfold ptV
  dsimp only
  generalize namedK nums fin = k at *
  generalize modsS nums = m at *
  by_cases h1 : priv = true
  · rw [if_pos (.inl h1)]
    subst h1
    go_enter Tryz.func130, Tryz.ntmps130
    go_wp2_with fail
    refine (HN.out _ _).mono ?_
    rintro e w1 ⟨rfl, hb⟩
    have HB := Lib.hid hb
    have HD := Lib.hid (HM.out _ _ _ hb)
    obtain ⟨hcc, hf⟩ := bcell hb
    clear hb HM
    go_wp2_with fail
    refine HD.out.mono ?_
    rintro e w2 ⟨rfl, hb2⟩
    have HB2 := Lib.hid (HB.out.trans (hb2.mono HB.out.size))
    clear hcc hf hb2
    obtain ⟨hcc, hf⟩ := bcell HB2.out
    go_wp2_with fail
    refine (l3Bad_any _ _).mono ?_
    rintro e w3 ⟨rfl, hb3⟩
    have hb := HB2.out.trans (hb3.mono HB2.out.size)
    clear hcc hf
    obtain ⟨hcc, hf⟩ := bcell hb
    have HE : Hid (PlainTk w (badTk 5) (.returned (tkV (badTk 5) (.slice none 0 0))) (sets w3 (w.heap.size + 1) 0 (tkL (badTk 5) (.slice none 0 0)))) := tk_end_plain2 (tkL (badTk 5) (.slice none 0 0)) hb
    clear hb hb3
    unfold tkV badTk noEv
    go_wp2_with fail
    refine bodyPost_ret (v := tkV (badTk 5) (.slice none 0 0)) ?_ rfl HE.out
    simp [results, Tryz.results130, tkV, badTk, noEv, go_sem, hcc]
  have h1' : priv = false := by simpa using h1
  subst h1'
  by_cases h2 : m < 0
  · rw [if_pos (.inr (.inl h2))]
    go_enter Tryz.func130, Tryz.ntmps130
    go_wp2_with fail
    refine (HN.out _ _).mono ?_
    rintro e w1 ⟨rfl, hb⟩
    have HB := Lib.hid hb
    have HD := Lib.hid (HM.out _ _ _ hb)
    obtain ⟨hcc, hf⟩ := bcell hb
    clear hb HM
    go_wp2_with fail
    refine HD.out.mono ?_
    rintro e w2 ⟨rfl, hb2⟩
    have HB2 := Lib.hid (HB.out.trans (hb2.mono HB.out.size))
    clear hcc hf hb2
    obtain ⟨hcc, hf⟩ := bcell HB2.out
    go_wp2_with fail
    refine (l3Bad_any _ _).mono ?_
    rintro e w3 ⟨rfl, hb3⟩
    have hb := HB2.out.trans (hb3.mono HB2.out.size)
    clear hcc hf
    obtain ⟨hcc, hf⟩ := bcell hb
    have HE : Hid (PlainTk w (badTk 5) (.returned (tkV (badTk 5) (.slice none 0 0))) (sets w3 (w.heap.size + 1) 0 (tkL (badTk 5) (.slice none 0 0)))) := tk_end_plain2 (tkL (badTk 5) (.slice none 0 0)) hb
    clear hb hb3
    unfold tkV badTk noEv
    go_wp2_with fail
    refine bodyPost_ret (v := tkV (badTk 5) (.slice none 0 0)) ?_ rfl HE.out
    simp [results, Tryz.results130, tkV, badTk, noEv, go_sem, hcc]
  by_cases h3 : k = 0
  · rw [if_pos (.inr (.inr h3))]
    subst h3
    go_enter Tryz.func130, Tryz.ntmps130
    go_wp2_with fail
    refine (HN.out _ _).mono ?_
    rintro e w1 ⟨rfl, hb⟩
    have HB := Lib.hid hb
    have HD := Lib.hid (HM.out _ _ _ hb)
    obtain ⟨hcc, hf⟩ := bcell hb
    clear hb HM
    go_wp2_with fail
    refine HD.out.mono ?_
    rintro e w2 ⟨rfl, hb2⟩
    have HB2 := Lib.hid (HB.out.trans (hb2.mono HB.out.size))
    clear hcc hf hb2
    obtain ⟨hcc, hf⟩ := bcell HB2.out
    go_wp2_with fail
    refine (l3Bad_any _ _).mono ?_
    rintro e w3 ⟨rfl, hb3⟩
    have hb := HB2.out.trans (hb3.mono HB2.out.size)
    clear hcc hf
    obtain ⟨hcc, hf⟩ := bcell hb
    have HE : Hid (PlainTk w (badTk 5) (.returned (tkV (badTk 5) (.slice none 0 0))) (sets w3 (w.heap.size + 1) 0 (tkL (badTk 5) (.slice none 0 0)))) := tk_end_plain2 (tkL (badTk 5) (.slice none 0 0)) hb
    clear hb hb3
    unfold tkV badTk noEv
    go_wp2_with fail
    refine bodyPost_ret (v := tkV (badTk 5) (.slice none 0 0)) ?_ rfl HE.out
    simp [results, Tryz.results130, tkV, badTk, noEv, go_sem, hcc]
  · rw [if_neg (by simp [h2, h3])]
    have h3' : (k == 0) = false := by simp [h3]
    go_enter Tryz.func130, Tryz.ntmps130
    go_wp2_with fail
    refine (HN.out _ _).mono ?_
    rintro e w1 ⟨rfl, hb⟩
    have HB := Lib.hid hb
    have HD := Lib.hid (HM.out _ _ _ hb)
    obtain ⟨hcc, hf⟩ := bcell hb
    clear hb HM
    go_wp2_with fail
    refine HD.out.mono ?_
    rintro e w2 ⟨rfl, hb2⟩
    have HB2 := Lib.hid (HB.out.trans (hb2.mono HB.out.size))
    clear hcc hf hb2
    obtain ⟨hcc, hf⟩ := bcell HB2.out
    go_wp2_with fail
    refine (l3Key_any _ _ _ _).mono ?_
    rintro e w3 ⟨rfl, hb3⟩
    have hb := HB2.out.trans (hb3.mono HB2.out.size)
    clear hcc hf
    obtain ⟨hcc, hf⟩ := bcell hb
    have HE : Hid (PlainTk w (keyTk k m size) (.returned (tkV (keyTk k m size) (.slice none 0 0))) (sets w3 (w.heap.size + 1) 0 (tkL (keyTk k m size) (.slice none 0 0)))) := tk_end_plain2 (tkL (keyTk k m size) (.slice none 0 0)) hb
    clear hb hb3
    unfold tkV keyTk keyEv
    go_wp2_with fail
    refine bodyPost_ret (v := tkV (keyTk k m size) (.slice none 0 0)) ?_ rfl HE.out
    simp [results, Tryz.results130, tkV, keyTk, keyEv, go_sem, hcc]

theorem pointT_iff (x : Int) : (pointT x).2 = true ↔ codedK x ≠ 0 := by
  unfold pointT codedK
  by_cases h : x = 13 ∨ x = 9 ∨ x = 127 ∨ x = 27
  · rw [if_pos h]
    rcases h with rfl | rfl | rfl | rfl <;> simp
  · rw [if_neg h, if_neg (by omega), if_neg (by omega), if_neg (by omega), if_neg (by omega)]
    constructor
    · intro hp
      rw [if_pos hp]
      simp at hp
      omega
    · intro hp
      by_cases hq : (point x && decide (32 ≤ x)) = true
      · exact hq
      · rw [if_neg hq] at hp
        exact absurd rfl hp
theorem pointT_val (x : Int) (h : (pointT x).2 = true) : (pointT x).1 = codedK x := by
  unfold pointT codedK at *
  by_cases hx : x = 13 ∨ x = 9 ∨ x = 127 ∨ x = 27
  · rw [if_pos hx]
  · rw [if_neg hx] at h ⊢
    rw [if_neg (by omega), if_neg (by omega), if_neg (by omega), if_neg (by omega), if_pos h]

theorem letterK_126 : letterK 126 = 0 := rfl
theorem letterK_117 : letterK 117 = 0 := rfl

theorem key_same (r : Pt) (hr : r.code = 0 ∨ (r.nums = [] ∧ r.fin = 0)) : specKeyT r = keyP r := by
  obtain ⟨code, priv, nums, fin, size⟩ := r
  dsimp only at hr
  rcases hr with rfl | ⟨rfl, rfl⟩
  · unfold specKeyT keyP
    dsimp only
    by_cases hp : priv = true
    · rw [if_pos (.inl hp), if_neg (by simp [hp])]
    have hp' : priv = false := by simpa using hp
    by_cases hf : fin = 126 ∨ fin = 117
    · match nums with
      | [] => rw [if_pos (.inr (.inr (by rcases hf with rfl | rfl <;> rfl))), if_neg (by rw [partsT_e hf]; simp)]
      | [x] =>
        rcases hf with rfl | rfl
        · rw [partsT_t]
          by_cases ht : tildeK x = 0
          · rw [if_pos (.inr (.inr ht)), if_neg (by simp [ht])]
          · rw [if_neg (by simp [hp, modsS, namedK, ht]), if_pos (by simp [hp', modsT, ht])]; rfl
        · rw [partsT_u]
          by_cases ht : codedK x = 0
          · rw [if_pos (.inr (.inr ht)), if_neg (fun hh => (pointT_iff x).1 hh.2.2.2 ht)]
          · have hq := (pointT_iff x).2 ht
            rw [if_neg (by simp [hp, modsS, namedK, ht]), if_pos ⟨rfl, hp', rfl, hq⟩, pointT_val x hq]; rfl
      | [x, m] =>
        by_cases hm : 1 ≤ m ∧ m ≤ 8
        · have e1 : modsS [x, m] = m - 1 := if_pos hm
          have e2 : modsT [x, m] = (m - 1, true) := if_pos hm
          rw [e1, e2]
          rcases hf with rfl | rfl
          · rw [partsT_t]
            by_cases ht : tildeK x = 0
            · rw [if_pos (.inr (.inr ht)), if_neg (by simp [ht])]
            · rw [if_neg (by simp [hp, namedK, ht]; omega), if_pos (by simp [hp', ht])]; rfl
          · rw [partsT_u]
            by_cases ht : codedK x = 0
            · rw [if_pos (.inr (.inr ht)), if_neg (fun hh => (pointT_iff x).1 hh.2.2.2 ht)]
            · have hq := (pointT_iff x).2 ht
              rw [if_neg (by simp [hp, namedK, ht]; omega), if_pos ⟨rfl, hp', rfl, hq⟩, pointT_val x hq]; rfl
        · have e1 : modsS [x, m] = -1 := if_neg hm
          have e2 : modsT [x, m] = (0, false) := if_neg hm
          rw [e1, e2, if_pos (.inr (.inl (by omega))), if_neg (by simp)]
      | _ :: _ :: _ :: _ => rw [if_pos (.inr (.inl (by simp [modsS]))), if_neg (by simp [modsT])]
    · rw [partsT_l _ hf]
      have h1 : ¬ fin = 126 := fun e => hf (.inl e)
      have h2 : ¬ fin = 117 := fun e => hf (.inr e)
      match nums with
      | [] =>
        by_cases ht : letterK fin = 0
        · rw [if_pos (.inr (.inr ht)), if_neg (by simp [ht])]
        · rw [if_neg (by simp [hp, modsS, namedK, ht]), if_pos (by simp [hp', modsT, ht, lettersOK])]; rfl
      | [x] => rw [if_pos (.inr (.inr ((if_neg h1).trans (if_neg h2)))), if_neg (by simp [lettersOK])]
      | [x, m] =>
        have e3 : namedK [x, m] fin = (if x = 1 then letterK fin else 0) := (if_neg h1).trans (if_neg h2)
        rw [e3]
        by_cases hm : 1 ≤ m ∧ m ≤ 8
        · have e1 : modsS [x, m] = m - 1 := if_pos hm
          have e2 : modsT [x, m] = (m - 1, true) := if_pos hm
          rw [e1, e2]
          by_cases hx : x = 1
          · rw [if_pos hx]
            by_cases ht : letterK fin = 0
            · rw [if_pos (.inr (.inr ht)), if_neg (by simp [ht])]
            · rw [if_neg (by simp [hp, ht]; omega), if_pos (by simp [hp', ht, lettersOK, hx])]
          · rw [if_neg hx, if_pos (.inr (.inr rfl)), if_neg (by simp [lettersOK, hx])]
        · have e1 : modsS [x, m] = -1 := if_neg hm
          have e2 : modsT [x, m] = (0, false) := if_neg hm
          rw [e1, e2, if_pos (.inr (.inl (by omega))), if_neg (by simp)]
      | _ :: _ :: _ :: _ => rw [if_pos (.inr (.inl (by simp [modsS]))), if_neg (by simp [modsT])]
  · unfold specKeyT keyP
    rw [if_pos (.inr (.inr rfl)), if_neg (by rw [partsT_l _ (show ¬ ((0 : Int) = 126 ∨ (0 : Int) = 117) by omega)]; simp [show letterK 0 = 0 from rfl])]

theorem specKeyOfParts_any (r : Pt) (p : Option Addr) (c : Nat) (w : World) (h : Is w w.heap.size p r.nums) (hl : r.nums.length ≤ 4) (hN : ∀ x ∈ r.nums, 0 ≤ x ∧ x ≤ 9999999) (hr : r.code = 0 ∨ (r.nums = [] ∧ r.fin = 0)) :
    Calls Tryz.prog 130 #[ptV r (.slice p r.nums.length c)] w (PlainTk w (keyP r)) := by
  rw [← key_same r hr]
  exact specKeyOfParts_T r p c w h hl hN

end Go.Proofs.YtjopjddhgaiddabGreatDoor
