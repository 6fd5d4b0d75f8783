/- utf8.FullRune, DecodeRune and the program's FirstPoint, whole. -/
import Derived.Test.YtbnpodledgaipaaGreatDoorQFaultToSpecFault
import Derived.Test.YtbnpodledgaipaaGreatDoorQFirstPureToFirstBack
namespace Go.Proofs.YtbnpodledgaipaaGreatDoor
open Go.RowKit

theorem full_of {w w' : World} {e : Ending} {x y : Bool} (h : e = .returned (.bool x) ∧ Below w.heap.size w w') (k : y = x) : e = .returned (.bool y) ∧ Below w.heap.size w w' := ⟨by rw [h.1, k], h.2⟩

theorem fullRune_any (a : UInt8) (r : List UInt8) (q : Option Addr) (cap : Nat) (w : World) (h : Bs w w.heap.size q (a :: r)) (ht : Tabs w) :
    Calls Tryz.prog 146 #[.slice q (r.length + 1) cap] w fun e w' => e = .returned (.bool (fullZ a r)) ∧ Below w.heap.size w w' := by
  rcases firstX_all a.toNat with x | x | x | x | x | x | x | x | x
  · exact (fullLong_240 a r q cap w h ht x).mono fun _ _ hh => full_of hh (by unfold fullZ; rw [x]; rfl)
  · exact (fullLong_241 a r q cap w h ht x (by omega)).mono fun _ _ hh => full_of hh (by unfold fullZ; rw [x]; rfl)
  · match r, h with
    | [], h => exact (fullShort_2_1 a  q cap w h ht x).mono fun _ _ hh => full_of hh (by unfold fullZ; rw [x]; rfl)
    | b :: r, h => exact (fullLong_2 a (b :: r) q cap w h ht x (by simp)).mono fun _ _ hh => full_of hh (by unfold fullZ; rw [x]; rfl)
  · match r, h with
    | [], h => exact (fullShort_19_1 a  q cap w h ht x).mono fun _ _ hh => full_of hh (by unfold fullZ; rw [x]; rfl)
    | [b], h => exact (fullShort_19_2 a b q cap w h ht x).mono fun _ _ hh => full_of hh (by unfold fullZ; rw [x]; rfl)
    | b :: c :: r, h => exact (fullLong_19 a (b :: c :: r) q cap w h ht x (by simp)).mono fun _ _ hh => full_of hh (by unfold fullZ; rw [x]; rfl)
  · match r, h with
    | [], h => exact (fullShort_3_1 a  q cap w h ht x).mono fun _ _ hh => full_of hh (by unfold fullZ; rw [x]; rfl)
    | [b], h => exact (fullShort_3_2 a b q cap w h ht x).mono fun _ _ hh => full_of hh (by unfold fullZ; rw [x]; rfl)
    | b :: c :: r, h => exact (fullLong_3 a (b :: c :: r) q cap w h ht x (by simp)).mono fun _ _ hh => full_of hh (by unfold fullZ; rw [x]; rfl)
  · match r, h with
    | [], h => exact (fullShort_35_1 a  q cap w h ht x).mono fun _ _ hh => full_of hh (by unfold fullZ; rw [x]; rfl)
    | [b], h => exact (fullShort_35_2 a b q cap w h ht x).mono fun _ _ hh => full_of hh (by unfold fullZ; rw [x]; rfl)
    | b :: c :: r, h => exact (fullLong_35 a (b :: c :: r) q cap w h ht x (by simp)).mono fun _ _ hh => full_of hh (by unfold fullZ; rw [x]; rfl)
  · match r, h with
    | [], h => exact (fullShort_52_1 a  q cap w h ht x).mono fun _ _ hh => full_of hh (by unfold fullZ; rw [x]; rfl)
    | [b], h => exact (fullShort_52_2 a b q cap w h ht x).mono fun _ _ hh => full_of hh (by unfold fullZ; rw [x]; rfl)
    | [b, c], h => exact (fullShort_52_3 a b c q cap w h ht x).mono fun _ _ hh => full_of hh (by unfold fullZ; rw [x]; rfl)
    | b :: c :: d :: r, h => exact (fullLong_52 a (b :: c :: d :: r) q cap w h ht x (by simp)).mono fun _ _ hh => full_of hh (by unfold fullZ; rw [x]; rfl)
  · match r, h with
    | [], h => exact (fullShort_4_1 a  q cap w h ht x).mono fun _ _ hh => full_of hh (by unfold fullZ; rw [x]; rfl)
    | [b], h => exact (fullShort_4_2 a b q cap w h ht x).mono fun _ _ hh => full_of hh (by unfold fullZ; rw [x]; rfl)
    | [b, c], h => exact (fullShort_4_3 a b c q cap w h ht x).mono fun _ _ hh => full_of hh (by unfold fullZ; rw [x]; rfl)
    | b :: c :: d :: r, h => exact (fullLong_4 a (b :: c :: d :: r) q cap w h ht x (by simp)).mono fun _ _ hh => full_of hh (by unfold fullZ; rw [x]; rfl)
  · match r, h with
    | [], h => exact (fullShort_68_1 a  q cap w h ht x).mono fun _ _ hh => full_of hh (by unfold fullZ; rw [x]; rfl)
    | [b], h => exact (fullShort_68_2 a b q cap w h ht x).mono fun _ _ hh => full_of hh (by unfold fullZ; rw [x]; rfl)
    | [b, c], h => exact (fullShort_68_3 a b c q cap w h ht x).mono fun _ _ hh => full_of hh (by unfold fullZ; rw [x]; rfl)
    | b :: c :: d :: r, h => exact (fullLong_68 a (b :: c :: d :: r) q cap w h ht x (by simp)).mono fun _ _ hh => full_of hh (by unfold fullZ; rw [x]; rfl)

theorem slow_of {w w' : World} {e : Ending} {v s : Int} {d : Int × Int} (h : e = .returned (.tuple #[.int .i32 v, .int .i64 s]) ∧ Below w.heap.size w w') (k : d = (v, s)) : e = .returned (.tuple #[.int .i32 d.1, .int .i64 d.2]) ∧ Below w.heap.size w w' := by
  subst k; exact h
theorem pick_of {w w' : World} {e : Ending} {c : Bool} {v s : Int} {d : Int × Int} (h : e = .returned (pickT c (.tuple #[.int .i32 v, .int .i64 s]) (.tuple #[.int .i32 65533, .int .i64 1])) ∧ Below w.heap.size w w') (k : d = if c = true then (v, s) else (65533, 1)) :
    e = .returned (.tuple #[.int .i32 d.1, .int .i64 d.2]) ∧ Below w.heap.size w w' := by
  subst k
  cases c
  · exact ⟨h.1.trans rfl, h.2⟩
  · exact ⟨h.1.trans rfl, h.2⟩

theorem slowRune_any (a : UInt8) (r : List UInt8) (q : Option Addr) (cap : Nat) (w : World) (h : Bs w w.heap.size q (a :: r)) (ht : Tabs w) (hx : 128 ≤ a.toNat) :
    Calls Tryz.prog 159 #[.slice q (r.length + 1) cap] w fun e w' => e = .returned (.tuple #[.int .i32 (slowZ a r).1, .int .i64 (slowZ a r).2]) ∧ Below w.heap.size w w' := by
  rcases firstX_all a.toNat with x | x | x | x | x | x | x | x | x
  · exact absurd (firstX_240.1 x) (by omega)
  · exact (slowBad a r q cap w h ht x).mono fun _ _ hh => slow_of hh (by unfold slowZ; rw [x]; rfl)
  · match r, h with
    | [], h => exact (slowShort_2 a [] q cap w h ht x (by simp)).mono fun _ _ hh => slow_of hh (by unfold slowZ; rw [x]; rfl)
    | b :: r, h => exact (slow_2 a b r q cap w h ht x).mono fun _ _ hh => pick_of hh (by unfold slowZ; rw [x]; rfl)
  · match r, h with
    | [], h => exact (slowShort_19 a [] q cap w h ht x (by simp)).mono fun _ _ hh => slow_of hh (by unfold slowZ; rw [x]; rfl)
    | [b], h => exact (slowShort_19 a [b] q cap w h ht x (by simp)).mono fun _ _ hh => slow_of hh (by unfold slowZ; rw [x]; rfl)
    | b :: c :: r, h => exact (slow_19 a b c r q cap w h ht x).mono fun _ _ hh => pick_of hh (by unfold slowZ; rw [x]; rfl)
  · match r, h with
    | [], h => exact (slowShort_3 a [] q cap w h ht x (by simp)).mono fun _ _ hh => slow_of hh (by unfold slowZ; rw [x]; rfl)
    | [b], h => exact (slowShort_3 a [b] q cap w h ht x (by simp)).mono fun _ _ hh => slow_of hh (by unfold slowZ; rw [x]; rfl)
    | b :: c :: r, h => exact (slow_3 a b c r q cap w h ht x).mono fun _ _ hh => pick_of hh (by unfold slowZ; rw [x]; rfl)
  · match r, h with
    | [], h => exact (slowShort_35 a [] q cap w h ht x (by simp)).mono fun _ _ hh => slow_of hh (by unfold slowZ; rw [x]; rfl)
    | [b], h => exact (slowShort_35 a [b] q cap w h ht x (by simp)).mono fun _ _ hh => slow_of hh (by unfold slowZ; rw [x]; rfl)
    | b :: c :: r, h => exact (slow_35 a b c r q cap w h ht x).mono fun _ _ hh => pick_of hh (by unfold slowZ; rw [x]; rfl)
  · match r, h with
    | [], h => exact (slowShort_52 a [] q cap w h ht x (by simp)).mono fun _ _ hh => slow_of hh (by unfold slowZ; rw [x]; rfl)
    | [b], h => exact (slowShort_52 a [b] q cap w h ht x (by simp)).mono fun _ _ hh => slow_of hh (by unfold slowZ; rw [x]; rfl)
    | [b, c], h => exact (slowShort_52 a [b, c] q cap w h ht x (by simp)).mono fun _ _ hh => slow_of hh (by unfold slowZ; rw [x]; rfl)
    | b :: c :: d :: r, h => exact (slow_52 a b c d r q cap w h ht x).mono fun _ _ hh => pick_of hh (by unfold slowZ; rw [x]; rfl)
  · match r, h with
    | [], h => exact (slowShort_4 a [] q cap w h ht x (by simp)).mono fun _ _ hh => slow_of hh (by unfold slowZ; rw [x]; rfl)
    | [b], h => exact (slowShort_4 a [b] q cap w h ht x (by simp)).mono fun _ _ hh => slow_of hh (by unfold slowZ; rw [x]; rfl)
    | [b, c], h => exact (slowShort_4 a [b, c] q cap w h ht x (by simp)).mono fun _ _ hh => slow_of hh (by unfold slowZ; rw [x]; rfl)
    | b :: c :: d :: r, h => exact (slow_4 a b c d r q cap w h ht x).mono fun _ _ hh => pick_of hh (by unfold slowZ; rw [x]; rfl)
  · match r, h with
    | [], h => exact (slowShort_68 a [] q cap w h ht x (by simp)).mono fun _ _ hh => slow_of hh (by unfold slowZ; rw [x]; rfl)
    | [b], h => exact (slowShort_68 a [b] q cap w h ht x (by simp)).mono fun _ _ hh => slow_of hh (by unfold slowZ; rw [x]; rfl)
    | [b, c], h => exact (slowShort_68 a [b, c] q cap w h ht x (by simp)).mono fun _ _ hh => slow_of hh (by unfold slowZ; rw [x]; rfl)
    | b :: c :: d :: r, h => exact (slow_68 a b c d r q cap w h ht x).mono fun _ _ hh => pick_of hh (by unfold slowZ; rw [x]; rfl)

set_option maxRecDepth 100000 in
set_option maxHeartbeats 1000000 in
theorem decodeRune_any (a : UInt8) (r : List UInt8) (q : Option Addr) (cap : Nat) (w : World) (h : Bs w w.heap.size q (a :: r)) (ht : Tabs w) (hl : r.length + 1 ≤ 1048576) :
    Calls Tryz.prog 147 #[.slice q (r.length + 1) cap] w fun e w' => e = .returned (.tuple #[.int .i32 (decZ a r).1, .int .i64 (decZ a r).2]) ∧ Below w.heap.size w w' := by
  have H := Lib.hid h
  obtain ⟨bl, off, rfl, _, hc⟩ := h (by simp)
  have e0 := hc 0 (by simp)
  simp at e0
  clear hc
  have ha := byte_lt a
  have i0 : (0 : Int) < (r.length : Int) + 1 := by omega
  by_cases hx : a.toNat < 128
  · have HD : Hid (decZ a r = ((a.toNat : Int), 1)) := by unfold decZ; rw [if_pos hx]; rfl
    have hx' : (a.toNat : Int) < 128 := by omega
    clear hx
    go_enter Tryz.func147, Tryz.ntmps147
    go_wp2
    go_loop [2, 3, 5, 8] (fun _ _ _ i => i = .int .i64 0) (fun _ _ _ _ => 0)
    case atStart => rfl
    case round =>
      obtain rfl := hrel
      go_wp2
      go_ret2
      rw [HD.out]
      exact ⟨rfl, Below.refl _ _⟩
  · have HD : Hid (decZ a r = slowZ a r) := by unfold decZ; rw [if_neg hx]; rfl
    have hx' : ¬ (a.toNat : Int) < 128 := by omega
    go_enter Tryz.func147, Tryz.ntmps147
    go_wp2
    go_loop [2, 3, 5, 8] (fun _ _ _ i => i = .int .i64 0) (fun _ _ _ _ => 0)
    case atStart => rfl
    case round =>
      obtain rfl := hrel
      go_wp2_with (go_at_call 159; refine (slowRune_any a r _ _ _ H.out ht (by omega)).mono ?_; rintro e w1 ⟨rfl, hb1⟩)
      go_ret2
      rw [HD.out]
      exact ⟨rfl, hb1⟩

theorem slow_bd (a : UInt8) (r : List UInt8) : 0 ≤ (slowZ a r).1 ∧ (slowZ a r).1 ≤ 2097151 ∧ 0 ≤ (slowZ a r).2 ∧ (slowZ a r).2 ≤ 4 := by
  have h2 : ∀ lo hi, 0 ≤ (slow2 lo hi a r).1 ∧ (slow2 lo hi a r).1 ≤ 2097151 ∧ 0 ≤ (slow2 lo hi a r).2 ∧ (slow2 lo hi a r).2 ≤ 4 := fun lo hi => by
    unfold slow2
    repeat (first | (split <;> omega) | split | omega)
  have h3 : ∀ lo hi, 0 ≤ (slow3 lo hi a r).1 ∧ (slow3 lo hi a r).1 ≤ 2097151 ∧ 0 ≤ (slow3 lo hi a r).2 ∧ (slow3 lo hi a r).2 ≤ 4 := fun lo hi => by
    unfold slow3
    repeat (first | (split <;> omega) | split | omega)
  have h4 : ∀ lo hi, 0 ≤ (slow4 lo hi a r).1 ∧ (slow4 lo hi a r).1 ≤ 2097151 ∧ 0 ≤ (slow4 lo hi a r).2 ∧ (slow4 lo hi a r).2 ≤ 4 := fun lo hi => by
    unfold slow4
    repeat (first | (split <;> omega) | split | omega)
  unfold slowZ
  repeat (first | exact h2 _ _ | exact h3 _ _ | exact h4 _ _ | (split; exact h2 _ _) | (split; exact h3 _ _) | (split; exact h4 _ _) | decide)
theorem dec_bd (a : UInt8) (r : List UInt8) : 0 ≤ (decZ a r).1 ∧ (decZ a r).1 ≤ 2097151 ∧ 0 ≤ (decZ a r).2 ∧ (decZ a r).2 ≤ 4 := by
  have ha := byte_lt a
  have h := slow_bd a r
  unfold decZ
  split
  · dsimp only; omega
  · exact h

set_option maxRecDepth 100000 in
set_option maxHeartbeats 2000000 in
/-- the program's FirstPoint -/
theorem implFirstPoint_any (q : Option Addr) (c : Nat) (l : List UInt8) (w : World) (h : Bs w w.heap.size q l) (ht : Tabs w) (hl : l.length ≤ 1048576) :
    Calls Tryz.prog 133 #[.slice q l.length c] w fun e w' => e = .returned (prV (implFP l)) ∧ Below w.heap.size w w' := by
  cases l with
  | nil =>
    go_enter Tryz.func133, Tryz.ntmps133
    go_wp2
    exact bodyPost_ret (v := prV (4, 0, 0)) (by simp [results, Tryz.results133, prV, go_sem]) rfl ⟨rfl, (Below.refl _ _).alloc (Nat.le_refl _) _⟩
  | cons a r =>
    have hl' : r.length + 1 ≤ 1048576 := hl
    have hne : ((r.length : Int) + 1 == 0) = false := by simp; omega
    have B0 := (Below.refl w.heap.size w).alloc (Nat.le_refl _) (.cells #[.int .i64 0, .int .i64 0, .int .i64 0] 128)
    clear hl
    show Calls Tryz.prog 133 #[.slice q (r.length + 1) c] w _
    cases hf : fullZ a r
    · have HD : Hid (implFP (a :: r) = (6, 0, 0)) := by rw [implFP_cons, hf]; rfl
      go_enter Tryz.func133, Tryz.ntmps133
      go_wp2_with (go_at_call 146; refine (fullRune_any a r q c _ (h.on B0) (ht.on B0)).mono ?_; rintro e w1 ⟨rfl, hb1⟩; obtain ⟨hc1, hf1⟩ := bcell hb1)
      rw [HD.out]
      refine bodyPost_ret (v := prV (6, 0, 0)) (by simp [results, Tryz.results133, prV, go_sem, hc1]) rfl ⟨rfl, ?_⟩
      exact ((((below_on B0 hb1).setCell (Nat.le_refl _) _).setCell (Nat.le_refl _) _).setCell (Nat.le_refl _) _)
    · have hbd := dec_bd a r
      have HI : Hid (implFP (a :: r) = fin true (decZ a r)) := by rw [implFP_cons, hf]; rfl
      generalize hd : decZ a r = d at *
      obtain ⟨d1, d2⟩ := d
      have HDe := Lib.hid (fun w0 h0 t0 => decodeRune_any a r q c w0 h0 t0 hl')
      rw [hd] at HDe
      clear hd
      simp only at hbd HDe
      cases g1 : (d1 == 65533)
      · have HF : Hid (implFP (a :: r) = (0, d1, d2)) := by rw [HI.out, fin_ok (.inl (by simpa using g1))]; rfl
        go_enter Tryz.func133, Tryz.ntmps133
        go_wp2_with (first
          | (go_at_call 146; refine (fullRune_any a r q c _ (h.on B0) (ht.on B0)).mono ?_; rintro e w1 ⟨rfl, hb1⟩; obtain ⟨hc1, hf1⟩ := bcell hb1)
          | (go_at_call 147; refine (HDe.out _ ((h.on B0).on hb1) ((ht.on B0).on hb1)).mono ?_; rintro e w2 ⟨rfl, hb2⟩; have hc2 := bcell_at hb2 w.heap.size (by have := hb1.size; simp at this; omega); have hf2 := bfrozen_at hb2 w.heap.size (by have := hb1.size; simp at this; omega)))
        rw [HF.out]
        refine bodyPost_ret (v := prV (0, d1, d2)) (by simp [results, Tryz.results133, prV, go_sem, hc1, hc2]) rfl ⟨rfl, ?_⟩
        exact ((((below_on (below_on B0 hb1) hb2).setCell (Nat.le_refl _) _).setCell (Nat.le_refl _) _).setCell (Nat.le_refl _) _)
      cases g2 : (d2 == 1)
      · have HF : Hid (implFP (a :: r) = (0, d1, d2)) := by rw [HI.out, fin_ok (.inr (by simpa using g2))]; rfl
        go_enter Tryz.func133, Tryz.ntmps133
        go_wp2_with (first
          | (go_at_call 146; refine (fullRune_any a r q c _ (h.on B0) (ht.on B0)).mono ?_; rintro e w1 ⟨rfl, hb1⟩; obtain ⟨hc1, hf1⟩ := bcell hb1)
          | (go_at_call 147; refine (HDe.out _ ((h.on B0).on hb1) ((ht.on B0).on hb1)).mono ?_; rintro e w2 ⟨rfl, hb2⟩; have hc2 := bcell_at hb2 w.heap.size (by have := hb1.size; simp at this; omega); have hf2 := bfrozen_at hb2 w.heap.size (by have := hb1.size; simp at this; omega)))
        rw [HF.out]
        refine bodyPost_ret (v := prV (0, d1, d2)) (by simp [results, Tryz.results133, prV, go_sem, hc1, hc2]) rfl ⟨rfl, ?_⟩
        exact ((((below_on (below_on B0 hb1) hb2).setCell (Nat.le_refl _) _).setCell (Nat.le_refl _) _).setCell (Nat.le_refl _) _)
      · have HF : Hid (implFP (a :: r) = (5, 0, 0)) := by
          have e1 : d1 = 65533 := by simpa using g1
          have e2 : d2 = 1 := by simpa using g2
          rw [HI.out, e1, e2]; rfl
        go_enter Tryz.func133, Tryz.ntmps133
        go_wp2_with (first
          | (go_at_call 146; refine (fullRune_any a r q c _ (h.on B0) (ht.on B0)).mono ?_; rintro e w1 ⟨rfl, hb1⟩; obtain ⟨hc1, hf1⟩ := bcell hb1)
          | (go_at_call 147; refine (HDe.out _ ((h.on B0).on hb1) ((ht.on B0).on hb1)).mono ?_; rintro e w2 ⟨rfl, hb2⟩; have hc2 := bcell_at hb2 w.heap.size (by have := hb1.size; simp at this; omega); have hf2 := bfrozen_at hb2 w.heap.size (by have := hb1.size; simp at this; omega)))
        rw [HF.out]
        refine bodyPost_ret (v := prV (5, 0, 0)) (by simp [results, Tryz.results133, prV, go_sem, hc1, hc2]) rfl ⟨rfl, ?_⟩
        exact ((((below_on (below_on B0 hb1) hb2).setCell (Nat.le_refl _) _).setCell (Nat.le_refl _) _).setCell (Nat.le_refl _) _)

end Go.Proofs.YtbnpodledgaipaaGreatDoor
