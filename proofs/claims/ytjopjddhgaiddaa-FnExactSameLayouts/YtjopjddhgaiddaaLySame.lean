/- SameLayouts of the model and of the program. -/
import Derived.Test.YtjopjddhgaiddaaQOps
import Derived.BigGuardPart
import Derived.Laws.StructEq
import Derived.Deep.DeepCutAuto
namespace Go.Proofs.Ytjopjddhgaiddaa
open Go.RowKit
set_option linter.unusedVariables false

def qEq (a b : Q) : Bool := (((a.x0 == b.x0 && a.x1 == b.x1) && a.x2 == b.x2) && a.x3 == b.x3) && a.x4 == b.x4
/-- two lists of rows are the same -/
def sameQ : List Q → List Q → Bool
  | [], [] => true
  | a :: x, b :: y => qEq a b && sameQ x y
  | _, _ => false
theorem sameQ_len : ∀ (x y : List Q), x.length ≠ y.length → sameQ x y = false
  | [], [], h => absurd rfl h
  | [], _ :: _, _ => rfl
  | _ :: _, [], _ => rfl
  | a :: x, b :: y, h => by
    simp only [sameQ]
    rw [sameQ_len x y (by simp at h; exact h)]
    simp
theorem sameQ_drop (x y : List Q) (k : Nat) (hx : k < x.length) (hy : k < y.length) : sameQ (x.drop k) (y.drop k) = (qEq (nth x k) (nth y k) && sameQ (x.drop (k + 1)) (y.drop (k + 1))) := by
  rw [List.drop_eq_getElem_cons hx, List.drop_eq_getElem_cons hy, sameQ, nth_eq hx, nth_eq hy]
theorem sameQ_end (x y : List Q) (h : x.length = y.length) : sameQ (x.drop x.length) (y.drop x.length) = true := by
  rw [List.drop_length, h, List.drop_length, sameQ]
def lyEq (a b : Ly) : Bool := (a.wide == b.wide && a.high == b.high) && sameQ a.nodes b.nodes

theorem nodeGuard : Try.prog.eqGuardType Try.prog.depth 62 = false := by kernel_rfl
theorem run_neq_node (a b : Q) (w : World) : (binOp .neq 62 (.agg #[.int .i64 a.x0, .int .i64 a.x1, .int .i64 a.x2, .int .i64 a.x3, .int .i64 a.x4]) (.agg #[.int .i64 b.x0, .int .i64 b.x1, .int .i64 b.x2, .int .i64 b.x3, .int .i64 b.x4])).run Try.prog w = .ok (.bool (!qEq a b)) w := by
  have hS : Try.prog.underlying 62 = some (.struct (Try.prog.fieldsOf 62)) := by kernel_rfl
  have hp : Try.prog.stoodInHeld 62 = false := by kernel_rfl
  have u3 := Try.underlying2
  have a3 := Try.isAgg2
  have z3 := Try.sizeOf2
  rw [run_neq_struct, show (10000 : Nat) = 9999 + 1 from rfl, run_equalIn_agg w 9999 62 _ _ hS hp]
  simp only [Program.fieldsOf, Try.underlying62]
  go_simp
  simp only [qEq]
  by_cases h0 : a.x0 = b.x0 <;> by_cases h1 : a.x1 = b.x1 <;> by_cases h2 : a.x2 = b.x2 <;> by_cases h3 : a.x3 = b.x3 <;> by_cases h4 : a.x4 = b.x4 <;> simp [h0, h1, h2, h3, h4]

set_option maxRecDepth 100000 in
set_option maxHeartbeats 4000000 in
theorem equalNodes_any (p q : Option Addr) (c d : Nat) (x y : List Q) (w : World) (h : Qs w w.heap.size p x) (k : Qs w w.heap.size q y) (hx : x.length ≤ 1048576) :
    Calls Try.prog 38 #[.slice p x.length c, .slice q y.length d] w fun e w' => e = .returned (.bool (sameQ x y)) ∧ Below w.heap.size w w' := by
  cases hne : ((x.length : Int) != (y.length : Int))
  · have HL : Hid (x.length = y.length) := by simp at hne; exact Int.ofNat.inj hne
    have hly : x.length ≤ y.length := Nat.le_of_eq HL.out
    have hly2 : y.length ≤ x.length := Nat.le_of_eq HL.out.symm
    have H := Lib.hid h
    have K := Lib.hid k
    clear h k
    go_enter Try.func38, Try.ntmps38
    go_wp2
    go_loopw [5, 13] (fun _ i wr => ∃ j : Nat, j ≤ x.length ∧ i = .int .i64 j ∧ sameQ x y = sameQ (x.drop j) (y.drop j) ∧ Below w.heap.size w wr) (fun _ i _ => x.length - (intOf i).toNat)
    case atStart => exact ⟨0, by omega, rfl, rfl, Below.refl _ _⟩
    case round =>
      obtain ⟨j, hj, rfl, hs, hb⟩ := hrel
      have HS := Lib.hid hs
      clear hs
      by_cases hlt : j < x.length
      · have hlt' : j < y.length := by omega
        obtain ⟨b, off, rfl, _, _, hc⟩ := (H.out.on hb) (by intro e; simp [e] at hlt)
        obtain ⟨b', off', rfl, _, _, hc'⟩ := (K.out.on hb) (by intro e; simp [e] at hlt')
        obtain ⟨c0, c1, c2, c3, c4⟩ := hc j hlt
        obtain ⟨e0, e1, e2, e3, e4⟩ := hc' j hlt'
        have HD := Lib.hid (sameQ_drop x y j hlt hlt')
        have i1 : (j : Int) < (x.length : Int) := by omega
        have i2 : (j : Int) < (y.length : Int) := by omega
        have i0 : (0 : Int) ≤ (j : Int) := by omega
        clear hc hc'
        have hg := nodeGuard
        have HN : ∀ w, (binOp .neq 62 (.agg #[.int .i64 (nth x j).x0, .int .i64 (nth x j).x1, .int .i64 (nth x j).x2, .int .i64 (nth x j).x3, .int .i64 (nth x j).x4]) (.agg #[.int .i64 (nth y j).x0, .int .i64 (nth y j).x1, .int .i64 (nth y j).x2, .int .i64 (nth y j).x3, .int .i64 (nth y j).x4])).run Try.prog w = .ok (.bool (!qEq (nth x j) (nth y j))) w := run_neq_node _ _
        cases hq : qEq (nth x j) (nth y j)
        all_goals rw [hq] at HN
        · go_wp2
          go_quiet (fail)
          clear HN hg
          go_wp2
          go_ret
          exact ⟨ret_bool (by rw [HS.out, HD.out, hq]; rfl), below_drewN hb _⟩
        · go_wp2
          go_quiet (fail)
          clear HN hg
          go_wp2
          exact ⟨⟨j + 1, by omega, by go_num, by rw [HS.out, HD.out, hq]; rfl, below_drewN hb _⟩, by simp [intOf]; omega⟩
      · obtain rfl : j = x.length := by omega
        have HE := Lib.hid (sameQ_end x y HL.out)
        go_wp2
        go_ret
        exact ⟨ret_bool (by rw [HS.out, HE.out]), hb⟩
  · have HE := Lib.hid (sameQ_len x y (by simp at hne; omega))
    go_enter Try.func38, Try.ntmps38
    go_wp2
    go_ret
    exact ⟨ret_bool (by rw [HE.out]), Below.refl _ _⟩

set_option maxRecDepth 100000 in
set_option maxHeartbeats 4000000 in
theorem implSameLayouts_any (a b : Ly) (p q : Option Addr) (c d : Nat) (w : World) (h : Qs w w.heap.size p a.nodes) (k : Qs w w.heap.size q b.nodes) (hl : a.nodes.length ≤ 1048576) :
    Calls Try.prog 13 #[lyV a p c, lyV b q d] w fun en w' => en = .returned (.bool (lyEq a b)) ∧ Below w.heap.size w w' := by
  have H := Lib.hid h
  have K := Lib.hid k
  clear h k
  unfold lyV
  cases k0 : (a.wide == b.wide)
  all_goals cases k1 : (a.high == b.high)
  all_goals
    go_enter Try.func13, Try.ntmps13
    go_wp2_with (go_at_call 38; refine (equalNodes_any _ _ _ _ _ _ _ ((H.out.alloc _).alloc _) ((K.out.alloc _).alloc _) hl).mono ?_; rintro en w1 ⟨rfl, hb⟩)
    go_ret
    exact ⟨ret_bool (by simp [lyEq, *]), by first | exact below_on (below_on (below_mk _ _) (below_mk _ _)) hb | exact below_on (below_mk _ _) (below_mk _ _)⟩

set_option maxRecDepth 100000 in
set_option maxHeartbeats 4000000 in
theorem specSameLayouts_any (a b : Ly) (p q : Option Addr) (c d : Nat) (w : World) (h : Qs w w.heap.size p a.nodes) (k : Qs w w.heap.size q b.nodes) (hl : a.nodes.length ≤ 1048576) :
    Calls Try.prog 11 #[lyV a p c, lyV b q d] w fun en w' => en = .returned (.bool (lyEq a b)) ∧ Below w.heap.size w w' := by
  have A0 := (AtL.new w (lyL a p c) 29).on (below_mk _ (.cells (lyL b q d).toArray 29))
  have B0 := AtL.new (w.alloc (.cells (lyL a p c).toArray 29)) (lyL b q d) 29
  have b0 := below_on (below_mk w (.cells (lyL a p c).toArray 29)) (below_mk _ (.cells (lyL b q d).toArray 29))
  unfold lyL at A0 B0 b0
  rw [World.size_alloc] at B0
  have H := Lib.hid (h.on b0)
  have K := Lib.hid (k.on b0)
  have HB0 := Lib.hid b0
  have HA := Lib.hid A0
  have HB := Lib.hid B0
  clear h k b0 A0 B0
  unfold lyV
  cases k0 : (a.wide != b.wide)
  rotate_left
  · go_enter Try.func11, Try.ntmps11
    go_wp2
    go_ret
    exact ⟨ret_bool (by simp at k0; simp [lyEq, k0]), HB0.out⟩
  cases k1 : (a.high != b.high)
  rotate_left
  · go_enter Try.func11, Try.ntmps11
    go_wp2
    go_ret
    exact ⟨ret_bool (by simp at k1; simp [lyEq, k1]), HB0.out⟩
  cases hne : ((a.nodes.length : Int) != (b.nodes.length : Int))
  rotate_left
  · have HE := Lib.hid (sameQ_len a.nodes b.nodes (by simp at hne; omega))
    go_enter Try.func11, Try.ntmps11
    go_wp2
    go_ret
    exact ⟨ret_bool (by simp [lyEq, HE.out]), HB0.out⟩
  obtain ⟨wa, ha, x⟩ := a
  obtain ⟨wb, hb, y⟩ := b
  dsimp only at *
  have E0 := Lib.hid (eq_of_beq (by simpa using k0) : wa = wb)
  have E1 := Lib.hid (eq_of_beq (by simpa using k1) : ha = hb)
  have HL : Hid (x.length = y.length) := by simp at hne; exact Int.ofNat.inj hne
  have hly : x.length ≤ y.length := Nat.le_of_eq HL.out
  have hly2 : y.length ≤ x.length := Nat.le_of_eq HL.out.symm
  have HRES : Hid (∀ r, sameQ x y = r → lyEq ⟨wa, ha, x⟩ ⟨wb, hb, y⟩ = r) := Lib.hid (fun r hr => by simp [lyEq, E0.out, E1.out, hr])
  clear E0 E1
  go_enter Try.func11, Try.ntmps11
  go_wp2
  go_loopw [5, 30] (fun _ i wr => ∃ j : Nat, j ≤ x.length ∧ i = .int .i64 j ∧ sameQ x y = sameQ (x.drop j) (y.drop j) ∧ Below (w.heap.size + 1 + 1) ((w.alloc (.cells #[.int .i64 wa, .int .i64 ha, .slice p x.length c] 29)).alloc (.cells #[.int .i64 wb, .int .i64 hb, .slice q y.length d] 29)) wr) (fun _ i _ => x.length - (intOf i).toNat)
  case atStart => exact ⟨0, by omega, rfl, rfl, Below.refl _ _⟩
  case round =>
    obtain ⟨j, hj, rfl, hs, hbl⟩ := hrel
    have HS := Lib.hid hs
    clear hs
    by_cases hlt : j < x.length
    · have hlt' : j < y.length := by omega
      have hbb := hbl.mono (B' := w.heap.size + 1 + 1) (Nat.le_refl _)
      have e2 : ((w.alloc (.cells #[.int .i64 wa, .int .i64 ha, .slice p x.length c] 29)).alloc (.cells #[.int .i64 wb, .int .i64 hb, .slice q y.length d] 29)).heap.size = w.heap.size + 1 + 1 := by simp
      have hb2 : Below ((w.alloc (.cells #[.int .i64 wa, .int .i64 ha, .slice p x.length c] 29)).alloc (.cells #[.int .i64 wb, .int .i64 hb, .slice q y.length d] 29)).heap.size ((w.alloc (.cells #[.int .i64 wa, .int .i64 ha, .slice p x.length c] 29)).alloc (.cells #[.int .i64 wb, .int .i64 hb, .slice q y.length d] 29)) wr := by rw [e2]; exact hbl
      obtain ⟨b, off, rfl, _, _, hc⟩ := (H.out.on hb2) (by intro e; simp [e] at hlt)
      obtain ⟨b', off', rfl, _, _, hc'⟩ := (K.out.on hb2) (by intro e; simp [e] at hlt')
      obtain ⟨c0, c1, c2, c3, c4⟩ := hc j hlt
      obtain ⟨e0, e1, e2', e3, e4⟩ := hc' j hlt'
      obtain ⟨-, -, x2⟩ := (HA.out.on hb2).tri
      obtain ⟨-, -, y2⟩ := (HB.out.on hb2).tri
      have HD := Lib.hid (sameQ_drop x y j hlt hlt')
      have i1 : (j : Int) < (x.length : Int) := by omega
      have i2 : (j : Int) < (y.length : Int) := by omega
      have i0 : (0 : Int) ≤ (j : Int) := by omega
      have HBB := Lib.hid (below_on HB0.out hb2)
      clear hc hc' e2 hb2 hbb
      have hg := nodeGuard
      have HN : ∀ w, (binOp .neq 62 (.agg #[.int .i64 (nth x j).x0, .int .i64 (nth x j).x1, .int .i64 (nth x j).x2, .int .i64 (nth x j).x3, .int .i64 (nth x j).x4]) (.agg #[.int .i64 (nth y j).x0, .int .i64 (nth y j).x1, .int .i64 (nth y j).x2, .int .i64 (nth y j).x3, .int .i64 (nth y j).x4])).run Try.prog w = .ok (.bool (!qEq (nth x j) (nth y j))) w := run_neq_node _ _
      cases hq : qEq (nth x j) (nth y j)
      all_goals rw [hq] at HN
      · go_wp2
        go_quiet (fail)
        clear HN hg
        go_wp2
        go_ret
        exact ⟨ret_bool (HRES.out _ (by rw [HS.out, HD.out, hq]; rfl)).symm, below_drewN HBB.out _⟩
      · go_wp2
        go_quiet (fail)
        clear HN hg
        go_wp2
        exact ⟨⟨j + 1, by omega, by go_num, by rw [HS.out, HD.out, hq]; rfl, below_drewN hbl _⟩, by simp [intOf]; omega⟩
    · obtain rfl : j = x.length := by omega
      have HE := Lib.hid (sameQ_end x y HL.out)
      have HBB := Lib.hid (HB0.out.trans (hbl.mono (by omega)))
      go_wp2
      go_ret
      exact ⟨ret_bool (HRES.out _ (by rw [HS.out, HE.out])).symm, HBB.out⟩

end Go.Proofs.Ytjopjddhgaiddaa
