/- The laws' own helpers over layouts: szLayout, toLayout, eqLayout; a layout as a value. -/
import Derived.Test.YtbfickdgjgbfhaaQQMemToLyTal
import Derived.Test.YtbfickdgjgbfhaaQFaultToLws
import Derived.StillTailTactics
import Derived.Deep.QuietTactic
import Derived.BigQuiet
import Derived.Deep.Cut
import Derived.Deep.DeepCutAuto
import Derived.BigGuardPart
import Derived.Laws.StructEq
namespace Go.Proofs.Ytbfickdgjgbfhaa
open Go.RowKit
set_option linter.unusedVariables false

/-- a layout as a value: its nodes lie at p -/
def lyV (x : Ly) (p : Option Addr) (c : Nat) : Value := .agg #[.int .i64 x.wide, .int .i64 x.high, .slice p x.nodes.length c]
def lyL (x : Ly) (p : Option Addr) (c : Nat) : List Value := [.int .i64 x.wide, .int .i64 x.high, .slice p x.nodes.length c]

theorem wp_genQ {P : Program} {code : Code} {Q : Exit → Act → World → Prop} {a : Act} {W : World} (C : World → Prop) (h : C W) (k : ∀ W', C W' → Code.wp P code Q a W') : Code.wp P code Q a W := k W h
theorem AtL.tri {w : World} {b : Nat} {v0 v1 v2 : Value} (h : AtL w b [v0, v1, v2]) : w.cell? ⟨b, 0, none⟩ = some v0 ∧ w.cell? ⟨b, 1, none⟩ = some v1 ∧ w.cell? ⟨b, 2, none⟩ = some v2 :=
  ⟨h.get 0 rfl, h.get 1 rfl, h.get 2 rfl⟩

set_option maxRecDepth 100000 in
set_option maxHeartbeats 400000 in
theorem szNodeS_any (p : Option Addr) (n c : Nat) (left : Int) (w : World) (hn : n ≤ 9223372036854775807) (h0 : 0 ≤ left) (h1 : left ≤ 1048576) :
    Calls Try.prog 50 #[.slice p n c, .int .i64 left] w fun e w' => e = .returned (.int .i64 (leftOf left n)) ∧ w = w' := by
  by_cases h : left - (n : Int) < 0
  · go_enter Try.func50, Try.ntmps50
    go_wp2
    go_ret
    exact ⟨ret_int (by unfold leftOf; rw [if_pos h]), rfl⟩
  · go_enter Try.func50, Try.ntmps50
    go_wp2
    go_ret
    exact ⟨ret_int (by unfold leftOf; rw [if_neg (by omega)]), rfl⟩

set_option maxRecDepth 100000 in
set_option maxHeartbeats 800000 in
theorem szLayout_any (x : Ly) (p : Option Addr) (c : Nat) (left : Int) (w : World) (hn : x.nodes.length ≤ 9223372036854775807) (h0 : 0 ≤ left) (h1 : left ≤ 1048576) :
    Calls Try.prog 10 #[lyV x p c, .int .i64 left] w fun en w' => en = .returned (.int .i64 (leftOf left x.nodes.length)) ∧ Below w.heap.size w w' := by
  unfold lyV
  by_cases h : leftOf left x.nodes.length < 0
  · have HN := Lib.hid (leftOf_neg h)
    go_enter Try.func10, Try.ntmps10
    go_wp2_with (go_at_call 50; refine (szNodeS_any _ _ _ _ _ hn h0 h1).mono ?_; rintro en w1 ⟨rfl, rfl⟩)
    go_ret
    exact ⟨ret_int HN.out.symm, (Below.refl _ _).alloc (Nat.le_refl _) _⟩
  · go_enter Try.func10, Try.ntmps10
    go_wp2_with (go_at_call 50; refine (szNodeS_any _ _ _ _ _ hn h0 h1).mono ?_; rintro en w1 ⟨rfl, rfl⟩)
    go_ret
    exact ⟨rfl, (Below.refl _ _).alloc (Nat.le_refl _) _⟩

set_option maxRecDepth 100000 in
set_option maxHeartbeats 2000000 in
theorem toNode_any (q : Q) (w : World) : Calls Try.prog 98 #[.agg #[.int .i64 q.x0, .int .i64 q.x1, .int .i64 q.x2, .int .i64 q.x3, .int .i64 q.x4]] w fun e w' => e = .returned (qV q) ∧ Below w.heap.size w w' := by
  go_enter Try.func98, Try.ntmps98
  go_wp2
  refine bodyPost_ret (v := qV q) (by simp [results, Try.results98, qV, go_sem]) rfl ⟨rfl, ?_⟩
  exact (((Below.refl _ _).alloc (Nat.le_refl _) _).alloc (by simp) _).alloc (by simp; omega) _

/-- what a call that hands back a new slice of rows leaves -/
def NewQ (T : TypeId) (w : World) (l : List Q) (e : Ending) (w' : World) : Prop :=
  ∃ g, e = .returned (.slice (some ⟨g, 0, none⟩) l.length l.length) ∧ OwnQ T w' w.heap.size (.slice (some ⟨g, 0, none⟩) l.length l.length) l ∧ Below w.heap.size w w'

theorem run_make_nodes (n : Nat) (hn : n ≤ 1048576) (w : World) :
    (Instr.makeSlice 26 (.int .i64 (n : Int)) (.int .i64 (n : Int))).run Try.prog w = .ok (.slice (some ⟨w.heap.size, 0, none⟩) n n)
      (w.alloc (.cells (madeCells #[.int .i64 0, .int .i64 0, .int .i64 0, .int .i64 0, .int .i64 0] (n * 5)) 76)) := by
  have hinfo : (Try.prog.info? 76).map (fun i => (i.zero, i.size, i.bytes)) = some (some (.agg #[.int .i64 0, .int .i64 0, .int .i64 0, .int .i64 0, .int .i64 0]), 5, 40) := by kernel_rfl
  obtain ⟨i, hi, hz, hs, hby⟩ := info_parts hinfo
  have hb : (i.bytes : Int) * (n : Int) ≤ 281474976710656 := by rw [hby]; omega
  have hr := run_make (P := Try.prog) w 26 76 i _ Try.underlying26 hi hz .i64 .i64 n n (by omega) (Int.le_refl _) hb (by omega)
  simp only [Int.toNat_natCast, hs] at hr
  exact hr

set_option maxRecDepth 100000 in
set_option maxHeartbeats 4000000 in
theorem toNodeS_any (p : Option Addr) (c : Nat) (l : List Q) (w : World) (h : Qs w w.heap.size p l) (hn : l.length ≤ 1048576) :
    Calls Try.prog 57 #[.slice p l.length c] w (NewQ 76 w l) := by
  have hmk := run_make_nodes l.length hn
  have HST := Lib.hid (ownQ_made 76 w l.length hn (Nat.le_refl _))
  have H := Lib.hid h
  clear h
  go_enter Try.func57, Try.ntmps57
  go_wp2
  go_loopw [4] (fun i wr => ∃ k : Nat, k ≤ l.length ∧ i = .int .i64 k ∧ OwnQ 76 wr w.heap.size (.slice (some ⟨w.heap.size, 0, none⟩) l.length l.length) (fillQ l k) ∧ Below w.heap.size w wr) (fun i _ => l.length - (intOf i).toNat)
  case atStart => exact ⟨0, by omega, rfl, by have := HST.out; simpa [fillQ] using this, below_mk _ _⟩
  case round =>
    obtain ⟨k, hk, rfl, ho, hb⟩ := hrel
    clear hmk HST
    by_cases hlt : k < l.length
    · obtain ⟨b, off, rfl, _, hbB, hc⟩ := (H.out.on hb) (by intro e; simp [e] at hlt)
      obtain ⟨c0, c1, c2, c3, c4⟩ := hc k hlt
      have HO := Lib.hid ho
      have HL := Lib.hid (fillQ_len l k hk)
      have HS := Lib.hid (fillQ_set l k hlt)
      clear hc ho
      go_wp2_with fail
      refine (toNode_any (nth l k) _).mono ?_
      rintro en w1 ⟨rfl, hb1⟩
      have HP := Lib.hid ((HO.out.on hb1).put k (nth l k) (by rw [HL.out]; exact hlt))
      obtain ⟨-, hrow, hfz⟩ := (HO.out.on hb1).row
      obtain ⟨f0, f1, f2, f3, f4⟩ := hrow k (by rw [HL.out]; exact hlt)
      have hbb := below_on hb hb1
      have HBB := Lib.hid hbb
      unfold qV
      clear c0 c1 c2 c3 c4 hrow hbb hb1
      go_wp2
      exact ⟨⟨k + 1, by omega, by go_num, by rw [← HS.out]; exact HP.out.1, HBB.out.trans (below_of_grown HP.out.2 HBB.out.size (fun g hg => by cases hg; exact Nat.le_refl _))⟩, by simp [intOf]; omega⟩
    · obtain rfl : k = l.length := by omega
      go_wp2
      go_ret
      rw [fillQ_all] at ho
      exact ⟨_, rfl, ho, hb⟩

/-- what a call leaves that hands back a layout of its own -/
def NewLy (w : World) (x : Ly) (en : Ending) (w' : World) : Prop :=
  ∃ p, en = .returned (lyV x p x.nodes.length) ∧ OwnQ 76 w' w.heap.size (.slice p x.nodes.length x.nodes.length) x.nodes ∧ Below w.heap.size w w'

set_option maxRecDepth 100000 in
set_option maxHeartbeats 2000000 in
theorem toLayout_any (x : Ly) (p : Option Addr) (c : Nat) (w : World) (h : Qs w w.heap.size p x.nodes) (hl : x.nodes.length ≤ 1048576) :
    Calls Try.prog 12 #[lyV x p c] w (NewLy w x) := by
  have hb0 : ∀ o1 o2 o3, Below w.heap.size w (((w.alloc o1).alloc o2).alloc o3) := fun o1 o2 o3 => below_on (below_on (below_mk _ _) (below_mk _ _)) (below_mk _ _)
  have HB0 := Lib.hid hb0
  have H := Lib.hid h
  clear h hb0
  unfold lyV
  go_enter Try.func12, Try.ntmps12
  go_wp2_with fail
  refine (toNodeS_any _ _ _ _ (H.out.on (HB0.out _ _ _)) hl).mono ?_
  rintro en w1 ⟨g, rfl, ho, hb⟩
  have HO := Lib.hid ho
  have HB := Lib.hid (below_on (HB0.out _ _ _) hb)
  have hz := hb.size
  simp only [World.size_alloc] at hz
  obtain ⟨hc, hf⟩ := bcell hb
  clear ho hb
  go_wp2
  refine bodyPost_ret (v := lyV x (some ⟨g, 0, none⟩) x.nodes.length) (by simp [results, Try.results12, lyV, hc, go_sem]; try omega) rfl ⟨_, rfl, ?_, ?_⟩
  · refine OwnQ.lower (base := w.heap.size + 1 + 1 + 1) ?_ (by omega)
    repeat refine OwnQ.setBelow ?_ (by simp <;> omega) _
    have := HO.out
    simp only [World.size_alloc] at this
    exact this
  · repeat refine Below.setCell ?_ (by simp <;> omega) _
    exact HB.out

set_option maxRecDepth 100000 in
set_option maxHeartbeats 2000000 in
theorem eqNode_same (q : Q) (w : World) : Calls Try.prog 104 #[.agg #[.int .i64 q.x0, .int .i64 q.x1, .int .i64 q.x2, .int .i64 q.x3, .int .i64 q.x4], .agg #[.int .i64 q.x0, .int .i64 q.x1, .int .i64 q.x2, .int .i64 q.x3, .int .i64 q.x4]] w fun e w' => e = .returned (.bool true) ∧ Below w.heap.size w w' := by
  go_enter Try.func104, Try.ntmps104
  go_wp2
  go_ret
  exact ⟨rfl, below_on (below_mk _ _) (below_mk _ _)⟩

set_option maxRecDepth 100000 in
set_option maxHeartbeats 4000000 in
theorem eqNodeS_same (p q : Option Addr) (c d : Nat) (x : List Q) (w : World) (h : Qs w w.heap.size p x) (k : Qs w w.heap.size q x) (hx : x.length ≤ 1048576) :
    Calls Try.prog 65 #[.slice p x.length c, .slice q x.length d] w fun e w' => e = .returned (.bool true) ∧ Below w.heap.size w w' := by
  have H := Lib.hid h
  have K := Lib.hid k
  clear h k
  go_enter Try.func65, Try.ntmps65
  go_wp2
  go_loopw [5] (fun i wr => ∃ j : Nat, j ≤ x.length ∧ i = .int .i64 j ∧ Below w.heap.size w wr) (fun i _ => x.length - (intOf i).toNat)
  case atStart => exact ⟨0, by omega, rfl, Below.refl _ _⟩
  case round =>
    obtain ⟨j, hj, rfl, hb⟩ := hrel
    by_cases hlt : j < x.length
    · obtain ⟨b, off, rfl, _, _, hc⟩ := (H.out.on hb) (by intro e; simp [e] at hlt)
      obtain ⟨b', off', rfl, _, _, hc'⟩ := (K.out.on hb) (by intro e; simp [e] at hlt)
      obtain ⟨c0, c1, c2, c3, c4⟩ := hc j hlt
      obtain ⟨e0, e1, e2, e3, e4⟩ := hc' j hlt
      have i1 : (j : Int) < (x.length : Int) := by omega
      have i0 : (0 : Int) ≤ (j : Int) := by omega
      clear hc hc'
      go_wp2
      go_still_tail 8, (by kernel_rfl)
      change wpList _ _ _ _ _ wr.drew
      have hbd : Below wr.heap.size wr wr.drew := (Below.refl _ _).drew
      have hb2 := below_on hb hbd
      clear c0 c1 c2 c3 c4 e0 e1 e2 e3 e4 hbd
      generalize wr.drew = w2 at hb2 ⊢
      go_wp2_with (go_at_call 104; refine (eqNode_same (nth x j) _).mono ?_; rintro en w3 ⟨rfl, hb3⟩)
      exact ⟨⟨j + 1, by omega, by go_num, below_on hb2 hb3⟩, by simp [intOf]; omega⟩
    · go_wp2
      go_ret
      exact ⟨rfl, hb⟩

set_option maxRecDepth 100000 in
set_option maxHeartbeats 2000000 in
theorem eqLayout_same (x : Ly) (p q : Option Addr) (c d : Nat) (w : World) (h : Qs w w.heap.size p x.nodes) (k : Qs w w.heap.size q x.nodes) (hl : x.nodes.length ≤ 1048576) :
    Calls Try.prog 15 #[lyV x p c, lyV x q d] w fun en w' => en = .returned (.bool true) ∧ Below w.heap.size w w' := by
  unfold lyV
  go_enter Try.func15, Try.ntmps15
  go_wp2_with fail
  refine (eqNodeS_same _ _ _ _ _ _ ((h.alloc _).alloc _) ((k.alloc _).alloc _) hl).mono ?_
  rintro en w1 ⟨rfl, hb⟩
  go_wp2
  go_ret
  exact ⟨rfl, below_on (below_on (below_mk _ _) (below_mk _ _)) hb⟩

end Go.Proofs.Ytbfickdgjgbfhaa

/- SameLayouts of the model and of the program. -/
namespace Go.Proofs.Ytbfickdgjgbfhaa
open Go.RowKit
set_option linter.unusedVariables false

def qEq (a b : Q) : Bool := (((a.x0 == b.x0 && a.x1 == b.x1) && a.x2 == b.x2) && a.x3 == b.x3) && a.x4 == b.x4
/-- two lists of rows are the same -/
def sameQ : List Q → List Q → Bool
  | [], [] => true
  | a :: x, b :: y => qEq a b && sameQ x y
  | _, _ => false
theorem sameQ_len : ∀ (x y : List Q), x.length ≠ y.length → sameQ x y = false
  | [], [], h => absurd rfl h
  | [], _ :: _, _ => rfl
  | _ :: _, [], _ => rfl
  | a :: x, b :: y, h => by
    simp only [sameQ]
    rw [sameQ_len x y (by simp at h; exact h)]
    simp
theorem sameQ_drop (x y : List Q) (k : Nat) (hx : k < x.length) (hy : k < y.length) : sameQ (x.drop k) (y.drop k) = (qEq (nth x k) (nth y k) && sameQ (x.drop (k + 1)) (y.drop (k + 1))) := by
  rw [List.drop_eq_getElem_cons hx, List.drop_eq_getElem_cons hy, sameQ, nth_eq hx, nth_eq hy]
theorem sameQ_end (x y : List Q) (h : x.length = y.length) : sameQ (x.drop x.length) (y.drop x.length) = true := by
  rw [List.drop_length, h, List.drop_length, sameQ]
def lyEq (a b : Ly) : Bool := (a.wide == b.wide && a.high == b.high) && sameQ a.nodes b.nodes

theorem nodeGuard : Try.prog.eqGuardType Try.prog.depth 76 = false := by kernel_rfl
theorem run_neq_node (a b : Q) (w : World) : (binOp .neq 76 (.agg #[.int .i64 a.x0, .int .i64 a.x1, .int .i64 a.x2, .int .i64 a.x3, .int .i64 a.x4]) (.agg #[.int .i64 b.x0, .int .i64 b.x1, .int .i64 b.x2, .int .i64 b.x3, .int .i64 b.x4])).run Try.prog w = .ok (.bool (!qEq a b)) w := by
  have hS : Try.prog.underlying 76 = some (.struct (Try.prog.fieldsOf 76)) := by kernel_rfl
  have hp : Try.prog.stoodInHeld 76 = false := by kernel_rfl
  have u3 := Try.underlying2
  have a3 := Try.isAgg2
  have z3 := Try.sizeOf2
  rw [run_neq_struct, show (10000 : Nat) = 9999 + 1 from rfl, run_equalIn_agg w 9999 76 _ _ hS hp]
  simp only [Program.fieldsOf, Try.underlying76]
  go_simp
  simp only [qEq]
  by_cases h0 : a.x0 = b.x0 <;> by_cases h1 : a.x1 = b.x1 <;> by_cases h2 : a.x2 = b.x2 <;> by_cases h3 : a.x3 = b.x3 <;> by_cases h4 : a.x4 = b.x4 <;> simp [h0, h1, h2, h3, h4]

set_option maxRecDepth 100000 in
set_option maxHeartbeats 4000000 in
theorem equalNodes_any (p q : Option Addr) (c d : Nat) (x y : List Q) (w : World) (h : Qs w w.heap.size p x) (k : Qs w w.heap.size q y) (hx : x.length ≤ 1048576) :
    Calls Try.prog 84 #[.slice p x.length c, .slice q y.length d] w fun e w' => e = .returned (.bool (sameQ x y)) ∧ Below w.heap.size w w' := by
  cases hne : ((x.length : Int) != (y.length : Int))
  · have HL : Hid (x.length = y.length) := by simp at hne; exact Int.ofNat.inj hne
    have hly : x.length ≤ y.length := Nat.le_of_eq HL.out
    have hly2 : y.length ≤ x.length := Nat.le_of_eq HL.out.symm
    have H := Lib.hid h
    have K := Lib.hid k
    clear h k
    go_enter Try.func84, Try.ntmps84
    go_wp2
    go_loopw [5, 13] (fun _ i wr => ∃ j : Nat, j ≤ x.length ∧ i = .int .i64 j ∧ sameQ x y = sameQ (x.drop j) (y.drop j) ∧ Below w.heap.size w wr) (fun _ i _ => x.length - (intOf i).toNat)
    case atStart => exact ⟨0, by omega, rfl, rfl, Below.refl _ _⟩
    case round =>
      obtain ⟨j, hj, rfl, hs, hb⟩ := hrel
      have HS := Lib.hid hs
      clear hs
      by_cases hlt : j < x.length
      · have hlt' : j < y.length := by omega
        obtain ⟨b, off, rfl, _, _, hc⟩ := (H.out.on hb) (by intro e; simp [e] at hlt)
        obtain ⟨b', off', rfl, _, _, hc'⟩ := (K.out.on hb) (by intro e; simp [e] at hlt')
        obtain ⟨c0, c1, c2, c3, c4⟩ := hc j hlt
        obtain ⟨e0, e1, e2, e3, e4⟩ := hc' j hlt'
        have HD := Lib.hid (sameQ_drop x y j hlt hlt')
        have i1 : (j : Int) < (x.length : Int) := by omega
        have i2 : (j : Int) < (y.length : Int) := by omega
        have i0 : (0 : Int) ≤ (j : Int) := by omega
        clear hc hc'
        have hg := nodeGuard
        have HN : ∀ w, (binOp .neq 76 (.agg #[.int .i64 (nth x j).x0, .int .i64 (nth x j).x1, .int .i64 (nth x j).x2, .int .i64 (nth x j).x3, .int .i64 (nth x j).x4]) (.agg #[.int .i64 (nth y j).x0, .int .i64 (nth y j).x1, .int .i64 (nth y j).x2, .int .i64 (nth y j).x3, .int .i64 (nth y j).x4])).run Try.prog w = .ok (.bool (!qEq (nth x j) (nth y j))) w := run_neq_node _ _
        cases hq : qEq (nth x j) (nth y j)
        all_goals rw [hq] at HN
        · go_wp2
          go_quiet (fail)
          clear HN hg
          go_wp2
          go_ret
          exact ⟨ret_bool (by rw [HS.out, HD.out, hq]; rfl), below_drewN hb _⟩
        · go_wp2
          go_quiet (fail)
          clear HN hg
          go_wp2
          exact ⟨⟨j + 1, by omega, by go_num, by rw [HS.out, HD.out, hq]; rfl, below_drewN hb _⟩, by simp [intOf]; omega⟩
      · obtain rfl : j = x.length := by omega
        have HE := Lib.hid (sameQ_end x y HL.out)
        go_wp2
        go_ret
        exact ⟨ret_bool (by rw [HS.out, HE.out]), hb⟩
  · have HE := Lib.hid (sameQ_len x y (by simp at hne; omega))
    go_enter Try.func84, Try.ntmps84
    go_wp2
    go_ret
    exact ⟨ret_bool (by rw [HE.out]), Below.refl _ _⟩

set_option maxRecDepth 100000 in
set_option maxHeartbeats 4000000 in
theorem implSameLayouts_any (a b : Ly) (p q : Option Addr) (c d : Nat) (w : World) (h : Qs w w.heap.size p a.nodes) (k : Qs w w.heap.size q b.nodes) (hl : a.nodes.length ≤ 1048576) :
    Calls Try.prog 34 #[lyV a p c, lyV b q d] w fun en w' => en = .returned (.bool (lyEq a b)) ∧ Below w.heap.size w w' := by
  have H := Lib.hid h
  have K := Lib.hid k
  clear h k
  unfold lyV
  cases k0 : (a.wide == b.wide)
  all_goals cases k1 : (a.high == b.high)
  all_goals
    go_enter Try.func34, Try.ntmps34
    go_wp2_with (go_at_call 84; refine (equalNodes_any _ _ _ _ _ _ _ ((H.out.alloc _).alloc _) ((K.out.alloc _).alloc _) hl).mono ?_; rintro en w1 ⟨rfl, hb⟩)
    go_ret
    exact ⟨ret_bool (by simp [lyEq, *]), by first | exact below_on (below_on (below_mk _ _) (below_mk _ _)) hb | exact below_on (below_mk _ _) (below_mk _ _)⟩

set_option maxRecDepth 100000 in
set_option maxHeartbeats 4000000 in
theorem specSameLayouts_any (a b : Ly) (p q : Option Addr) (c d : Nat) (w : World) (h : Qs w w.heap.size p a.nodes) (k : Qs w w.heap.size q b.nodes) (hl : a.nodes.length ≤ 1048576) :
    Calls Try.prog 49 #[lyV a p c, lyV b q d] w fun en w' => en = .returned (.bool (lyEq a b)) ∧ Below w.heap.size w w' := by
  have A0 := (AtL.new w (lyL a p c) 28).on (below_mk _ (.cells (lyL b q d).toArray 28))
  have B0 := AtL.new (w.alloc (.cells (lyL a p c).toArray 28)) (lyL b q d) 28
  have b0 := below_on (below_mk w (.cells (lyL a p c).toArray 28)) (below_mk _ (.cells (lyL b q d).toArray 28))
  unfold lyL at A0 B0 b0
  rw [World.size_alloc] at B0
  have H := Lib.hid (h.on b0)
  have K := Lib.hid (k.on b0)
  have HB0 := Lib.hid b0
  have HA := Lib.hid A0
  have HB := Lib.hid B0
  clear h k b0 A0 B0
  unfold lyV
  cases k0 : (a.wide != b.wide)
  rotate_left
  · go_enter Try.func49, Try.ntmps49
    go_wp2
    go_ret
    exact ⟨ret_bool (by simp at k0; simp [lyEq, k0]), HB0.out⟩
  cases k1 : (a.high != b.high)
  rotate_left
  · go_enter Try.func49, Try.ntmps49
    go_wp2
    go_ret
    exact ⟨ret_bool (by simp at k1; simp [lyEq, k1]), HB0.out⟩
  cases hne : ((a.nodes.length : Int) != (b.nodes.length : Int))
  rotate_left
  · have HE := Lib.hid (sameQ_len a.nodes b.nodes (by simp at hne; omega))
    go_enter Try.func49, Try.ntmps49
    go_wp2
    go_ret
    exact ⟨ret_bool (by simp [lyEq, HE.out]), HB0.out⟩
  obtain ⟨wa, ha, x⟩ := a
  obtain ⟨wb, hb, y⟩ := b
  dsimp only at *
  have E0 := Lib.hid (eq_of_beq (by simpa using k0) : wa = wb)
  have E1 := Lib.hid (eq_of_beq (by simpa using k1) : ha = hb)
  have HL : Hid (x.length = y.length) := by simp at hne; exact Int.ofNat.inj hne
  have hly : x.length ≤ y.length := Nat.le_of_eq HL.out
  have hly2 : y.length ≤ x.length := Nat.le_of_eq HL.out.symm
  have HRES : Hid (∀ r, sameQ x y = r → lyEq ⟨wa, ha, x⟩ ⟨wb, hb, y⟩ = r) := Lib.hid (fun r hr => by simp [lyEq, E0.out, E1.out, hr])
  clear E0 E1
  go_enter Try.func49, Try.ntmps49
  go_wp2
  go_loopw [5, 30] (fun _ i wr => ∃ j : Nat, j ≤ x.length ∧ i = .int .i64 j ∧ sameQ x y = sameQ (x.drop j) (y.drop j) ∧ Below (w.heap.size + 1 + 1) ((w.alloc (.cells #[.int .i64 wa, .int .i64 ha, .slice p x.length c] 28)).alloc (.cells #[.int .i64 wb, .int .i64 hb, .slice q y.length d] 28)) wr) (fun _ i _ => x.length - (intOf i).toNat)
  case atStart => exact ⟨0, by omega, rfl, rfl, Below.refl _ _⟩
  case round =>
    obtain ⟨j, hj, rfl, hs, hbl⟩ := hrel
    have HS := Lib.hid hs
    clear hs
    by_cases hlt : j < x.length
    · have hlt' : j < y.length := by omega
      have hbb := hbl.mono (B' := w.heap.size + 1 + 1) (Nat.le_refl _)
      have e2 : ((w.alloc (.cells #[.int .i64 wa, .int .i64 ha, .slice p x.length c] 28)).alloc (.cells #[.int .i64 wb, .int .i64 hb, .slice q y.length d] 28)).heap.size = w.heap.size + 1 + 1 := by simp
      have hb2 : Below ((w.alloc (.cells #[.int .i64 wa, .int .i64 ha, .slice p x.length c] 28)).alloc (.cells #[.int .i64 wb, .int .i64 hb, .slice q y.length d] 28)).heap.size ((w.alloc (.cells #[.int .i64 wa, .int .i64 ha, .slice p x.length c] 28)).alloc (.cells #[.int .i64 wb, .int .i64 hb, .slice q y.length d] 28)) wr := by rw [e2]; exact hbl
      obtain ⟨b, off, rfl, _, _, hc⟩ := (H.out.on hb2) (by intro e; simp [e] at hlt)
      obtain ⟨b', off', rfl, _, _, hc'⟩ := (K.out.on hb2) (by intro e; simp [e] at hlt')
      obtain ⟨c0, c1, c2, c3, c4⟩ := hc j hlt
      obtain ⟨e0, e1, e2', e3, e4⟩ := hc' j hlt'
      obtain ⟨-, -, x2⟩ := (HA.out.on hb2).tri
      obtain ⟨-, -, y2⟩ := (HB.out.on hb2).tri
      have HD := Lib.hid (sameQ_drop x y j hlt hlt')
      have i1 : (j : Int) < (x.length : Int) := by omega
      have i2 : (j : Int) < (y.length : Int) := by omega
      have i0 : (0 : Int) ≤ (j : Int) := by omega
      have HBB := Lib.hid (below_on HB0.out hb2)
      clear hc hc' e2 hb2 hbb
      have hg := nodeGuard
      have HN : ∀ w, (binOp .neq 76 (.agg #[.int .i64 (nth x j).x0, .int .i64 (nth x j).x1, .int .i64 (nth x j).x2, .int .i64 (nth x j).x3, .int .i64 (nth x j).x4]) (.agg #[.int .i64 (nth y j).x0, .int .i64 (nth y j).x1, .int .i64 (nth y j).x2, .int .i64 (nth y j).x3, .int .i64 (nth y j).x4])).run Try.prog w = .ok (.bool (!qEq (nth x j) (nth y j))) w := run_neq_node _ _
      cases hq : qEq (nth x j) (nth y j)
      all_goals rw [hq] at HN
      · go_wp2
        go_quiet (fail)
        clear HN hg
        go_wp2
        go_ret
        exact ⟨ret_bool (HRES.out _ (by rw [HS.out, HD.out, hq]; rfl)).symm, below_drewN HBB.out _⟩
      · go_wp2
        go_quiet (fail)
        clear HN hg
        go_wp2
        exact ⟨⟨j + 1, by omega, by go_num, by rw [HS.out, HD.out, hq]; rfl, below_drewN hbl _⟩, by simp [intOf]; omega⟩
    · obtain rfl : j = x.length := by omega
      have HE := Lib.hid (sameQ_end x y HL.out)
      have HBB := Lib.hid (HB0.out.trans (hbl.mono (by omega)))
      go_wp2
      go_ret
      exact ⟨ret_bool (HRES.out _ (by rw [HS.out, HE.out])).symm, HBB.out⟩

end Go.Proofs.Ytbfickdgjgbfhaa

/- The laws' lwRects: two lists of places are the same. -/
namespace Go.Proofs.Ytbfickdgjgbfhaa
open Go.RowKit
set_option linter.unusedVariables false

theorem rectGuard : Try.prog.eqGuardType Try.prog.depth 69 = false := by kernel_rfl
theorem run_neq_rectL (a b : Q) (w : World) : (binOp .neq 69 (.agg #[.int .i64 a.x0, .int .i64 a.x1, .int .i64 a.x2, .int .i64 a.x3, .int .i64 a.x4]) (.agg #[.int .i64 b.x0, .int .i64 b.x1, .int .i64 b.x2, .int .i64 b.x3, .int .i64 b.x4])).run Try.prog w = .ok (.bool (!qEq a b)) w := by
  have hS : Try.prog.underlying 69 = some (.struct (Try.prog.fieldsOf 69)) := by kernel_rfl
  have hp : Try.prog.stoodInHeld 69 = false := by kernel_rfl
  have u3 := Try.underlying2
  have a3 := Try.isAgg2
  have z3 := Try.sizeOf2
  rw [run_neq_struct, show (10000 : Nat) = 9999 + 1 from rfl, run_equalIn_agg w 9999 69 _ _ hS hp]
  simp only [Program.fieldsOf, Try.underlying69]
  go_simp
  simp only [qEq]
  by_cases h0 : a.x0 = b.x0 <;> by_cases h1 : a.x1 = b.x1 <;> by_cases h2 : a.x2 = b.x2 <;> by_cases h3 : a.x3 = b.x3 <;> by_cases h4 : a.x4 = b.x4 <;> simp [h0, h1, h2, h3, h4]

set_option maxRecDepth 100000 in
set_option maxHeartbeats 4000000 in
theorem lwRects_any (p q : Option Addr) (c d : Nat) (x y : List Q) (w : World) (h : Qs w w.heap.size p x) (k : Qs w w.heap.size q y) (hx : x.length ≤ 1048576) :
    Calls Try.prog 35 #[.slice p x.length c, .slice q y.length d] w fun e w' => e = .returned (.bool (sameQ x y)) ∧ Below w.heap.size w w' := by
  cases hne : ((x.length : Int) != (y.length : Int))
  · have HL : Hid (x.length = y.length) := by simp at hne; exact Int.ofNat.inj hne
    have hly : x.length ≤ y.length := Nat.le_of_eq HL.out
    have hly2 : y.length ≤ x.length := Nat.le_of_eq HL.out.symm
    have H := Lib.hid h
    have K := Lib.hid k
    clear h k
    go_enter Try.func35, Try.ntmps35
    go_wp2
    go_loopw [5] (fun i wr => ∃ j : Nat, j ≤ x.length ∧ i = .int .i64 j ∧ sameQ x y = sameQ (x.drop j) (y.drop j) ∧ Below w.heap.size w wr) (fun i _ => x.length - (intOf i).toNat)
    case atStart => exact ⟨0, by omega, rfl, rfl, Below.refl _ _⟩
    case round =>
      obtain ⟨j, hj, rfl, hs, hb⟩ := hrel
      have HS := Lib.hid hs
      clear hs
      by_cases hlt : j < x.length
      · have hlt' : j < y.length := by omega
        obtain ⟨b, off, rfl, _, _, hc⟩ := (H.out.on hb) (by intro e; simp [e] at hlt)
        obtain ⟨b', off', rfl, _, _, hc'⟩ := (K.out.on hb) (by intro e; simp [e] at hlt')
        obtain ⟨c0, c1, c2, c3, c4⟩ := hc j hlt
        obtain ⟨e0, e1, e2, e3, e4⟩ := hc' j hlt'
        have HD := Lib.hid (sameQ_drop x y j hlt hlt')
        have i1 : (j : Int) < (x.length : Int) := by omega
        have i2 : (j : Int) < (y.length : Int) := by omega
        have i0 : (0 : Int) ≤ (j : Int) := by omega
        clear hc hc'
        have hg := rectGuard
        have HN : ∀ w, (binOp .neq 69 (.agg #[.int .i64 (nth x j).x0, .int .i64 (nth x j).x1, .int .i64 (nth x j).x2, .int .i64 (nth x j).x3, .int .i64 (nth x j).x4]) (.agg #[.int .i64 (nth y j).x0, .int .i64 (nth y j).x1, .int .i64 (nth y j).x2, .int .i64 (nth y j).x3, .int .i64 (nth y j).x4])).run Try.prog w = .ok (.bool (!qEq (nth x j) (nth y j))) w := run_neq_rectL _ _
        cases hq : qEq (nth x j) (nth y j)
        all_goals rw [hq] at HN
        · go_wp2
          go_quiet (fail)
          clear HN hg
          go_wp2
          go_ret
          exact ⟨ret_bool (by rw [HS.out, HD.out, hq]; rfl), below_drewN hb _⟩
        · go_wp2
          go_quiet (fail)
          clear HN hg
          go_wp2
          exact ⟨⟨j + 1, by omega, by go_num, by rw [HS.out, HD.out, hq]; rfl, below_drewN hb _⟩, by simp [intOf]; omega⟩
      · obtain rfl : j = x.length := by omega
        have HE := Lib.hid (sameQ_end x y HL.out)
        go_wp2
        go_ret
        exact ⟨ret_bool (by rw [HS.out, HE.out]), hb⟩
  · have HE := Lib.hid (sameQ_len x y (by simp at hne; omega))
    go_enter Try.func35, Try.ntmps35
    go_wp2
    go_ret
    exact ⟨ret_bool (by rw [HE.out]), Below.refl _ _⟩


end Go.Proofs.Ytbfickdgjgbfhaa
