/- The program's iterator over the pieces between semicolons: its contract. -/
import Derived.Test.YtjmfmdebnobogaaDoorPieces
import Derived.RangeFuncNested
import Derived.RangeFuncBound
import Derived.RangeFuncCalls
import Derived.RangeFuncLeaves
import Derived.RangeFuncBox
import Derived.Shelf.Abstract
import Derived.Shelf.RegionOpen
import Derived.OwnWalkIn
import Derived.TacticsInMore
import Derived.LoopNIn
import Derived.LoopIn
import Derived.Maps.AppendAt
namespace Go.Proofs.YtjmfmdebnobogaaDoor
open Go.RowKit Go.Shelf
attribute [local go_sem] Oper.semAt_some

/-- a piece that is handed out: its address, its capacity, its bytes, as they lie in the world w0 below n₀ -/
abbrev Pc (w0 : World) (n₀ : Nat) : Type := { x : (Option Addr × Nat) × List UInt8 // Bs w0 n₀ x.1.1 x.2 ∧ x.2.length ≤ 1048576 }
def Pc.bytes {w0 : World} {n₀ : Nat} (x : Pc w0 n₀) : List UInt8 := x.1.2
def Pc.enc {w0 : World} {n₀ : Nat} (x : Pc w0 n₀) : Array Value := #[.slice x.1.1.1 x.1.2.length x.1.1.2]

/-- how much is left, read off the two slots -/
def leftOf (r m : Value) : Nat := match m, r with
  | .bool true, .slice _ n _ => n + 1
  | _, _ => 0

/-- what the loop of the iterator keeps -/
def PcRel (w0 : World) (n₀ : Nat) (body : List UInt8) (J : List (Pc w0 n₀) → World → Prop) (r m : Value) (wr : World) : Prop :=
  ∃ (pre : List (Pc w0 n₀)) (rest : List UInt8) (q : Option Addr) (c : Nat), r = .slice q rest.length c ∧ rest.length ≤ c ∧ rest.length ≤ 1048576 ∧ Bs w0 n₀ q rest ∧ J pre wr ∧ Below n₀ w0 wr ∧
    ((m = .bool true ∧ pre.map Pc.bytes ++ sp rest = pieces body) ∨ (m = .bool false ∧ pre.map Pc.bytes = pieces body))

theorem grown_drewN (W : World) (n : Nat) : W.grownBy (W.drewN n) none := ⟨rfl, rfl, rfl, Nat.le_refl _, fun _ _ _ => rfl⟩

set_option maxRecDepth 100000 in
set_option maxHeartbeats 1000000 in
theorem pieces1_in (n : Nat) (hn : 1 ≤ n) (l Bn n₀ : Nat) (w0 : World) (p : Option Addr) (c : Nat) (body : List UInt8) (hb : Bs w0 n₀ p body) (hc : body.length ≤ c) (hl : body.length ≤ 1048576) (hn0 : n₀ ≤ w0.heap.size)
    (J Jx : List (Pc w0 n₀) → World → Prop) (hJ : ∀ pre (A B : World), J pre A → A.grownBy B none → J pre B)
    (hY : ∀ pre (x : Pc w0 n₀) W, J pre W → pre.length < (pieces body).length → YieldAt Fence.wide (n - 1) Tryd.prog l x.enc W fun e W' =>
      (e = .returned (.bool true) ∧ J (pre ++ [x]) W' ∧ Below n₀ W W') ∨ (e = .returned (.bool false) ∧ Jx (pre ++ [x]) W'))
    (W : World) (hW : Below n₀ w0 W) (hBn : W.cell? ⟨Bn, 0, none⟩ = some (.slice p body.length c)) (h0 : J [] W) :
    CallsIn Fence.wide n Tryd.prog 91 #[.func (.yield l) #[] #[], .pointer (some ⟨Bn, 0, none⟩)] W fun e W' => (∃ v, e = .returned v) ∧
      ((∃ ys, ys.map Pc.bytes = pieces body ∧ J ys W') ∨ (∃ pre, pre.map Pc.bytes <+: pieces body ∧ Jx pre W')) := by
  have H0 := Lib.hid h0
  have HB := Lib.hid hb
  have HW := Lib.hid hW
  have HY := Lib.hid hY
  have HJ := Lib.hid hJ
  clear h0 hb hW hY hJ
  refine callsIn_of_wp Tryd.func91 rfl trivial ?_ rfl
  simp only [Tryd.ntmps91, List.size_toArray, List.length_cons, List.length_nil, Nat.reduceAdd, Nat.reduceSub, Array.replicate_succ, Array.replicate_zero, List.push_toArray, List.append_toArray, List.nil_append, List.cons_append]
  have hst : PcRel w0 n₀ body J (.slice p body.length c) (.bool (decide (0 < body.length))) W := by
    refine ⟨[], body, p, c, rfl, hc, hl, HB.out, H0.out, HW.out, ?_⟩
    cases body with
    | nil => exact .inr ⟨rfl, rfl⟩
    | cons x r => exact .inl ⟨by simp, by simp [pieces]⟩
  have hstart : ∀ k, PcRel w0 n₀ body J (.slice p body.length c) (.bool (decide (0 < body.length))) (W.drewN k) := fun k => by
    obtain ⟨pre, rest, q, c', e1, e2, e3, e4, e5, e6, e7⟩ := hst
    exact ⟨pre, rest, q, c', e1, e2, e3, e4, HJ.out _ _ _ e5 (grown_drewN _ _), below_drewN e6 _, e7⟩
  have HS := Lib.hid hstart
  clear hst hstart
  gi_wp2
  gi_quiet (fail)
  gi_wp2
  gi_loopw [3, 4] (fun r m wr => PcRel w0 n₀ body J r m wr) (fun r m _ => leftOf r m)
  case atStart => exact HS.out _
  case round =>
    obtain ⟨pre, rest, q, c', rfl, hrc, hrl, hrb, hJs, hB, (⟨rfl, hp⟩ | ⟨rfl, hp⟩)⟩ := hrel
    · have HRB := Lib.hid hrb
      have HJS := Lib.hid hJs
      have HBB := Lib.hid hB
      have HP := Lib.hid hp
      clear hrb hJs hB hp
      have hB1 : Below n₀ w0 (wr.alloc (.cells #[.int .u8 59] 5)) := HBB.out.alloc (Nat.le_trans hn0 HBB.out.size) _
      have HB1 := Lib.hid hB1
      clear hB1
      gi_wp2
      refine ⟨trivial, (callsIn_wide.2 (bytesCut_any _ _ _ _ _ (B := n₀) (HRB.out.below HB1.out) hrc hrl (by simp))).mono ?_⟩
      rintro e W1 (⟨hno, rfl, k, rfl⟩ | ⟨a, b, p1, p2, c2, rfl, hna, rfl, hb1, hb2, hbc, k, rfl⟩)
      · have hpl : pre.length < (pieces body).length := by rw [← HP.out]; have := List.length_pos_iff.2 (sp_ne rest); simp; omega
        have hJ1 : J pre ((wr.alloc (.cells #[.int .u8 59] 5)).drewN k) := HJ.out _ _ _ (HJ.out _ _ _ HJS.out (World.grownBy_alloc wr _ none)) (grown_drewN _ _)
        have HQ := Lib.hid hJ1
        obtain ⟨fn, tmps, assign, bodyC, hy, hR⟩ := HY.out pre ⟨((q, c'), rest), HRB.out, hrl⟩ _ hJ1 hpl
        have hps : pre.map Pc.bytes ++ [rest] = pieces body := by rw [← HP.out, sp_none rest hno]
        have HPS := Lib.hid hps
        clear hJ1 hpl hps
        dsimp only [Pc.enc] at hy
        gi_wp2
        refine hR.mono ?_
        rintro e W3 (⟨rfl, hJ3, hk3⟩ | ⟨rfl, hJx3⟩)
        · gi_wp2
          go_roundw
          case rel => exact ⟨pre ++ [⟨((q, c'), rest), HRB.out, hrl⟩], [], none, 0, rfl, by simp, by simp, fun h => absurd rfl h, hJ3, (below_drewN HB1.out k).trans hk3, .inr ⟨rfl, by rw [List.map_append]; exact HPS.out⟩⟩
          case measure => simp [leftOf]
        · gi_wp2
          refine bodyPost_ret (results_none rfl _ _ _) rfl ?_
          exact ⟨⟨_, rfl⟩, .inr ⟨_, by rw [List.map_append, ← HPS.out]; exact List.prefix_refl _, hJx3⟩⟩
      · have hpl : pre.length < (pieces body).length := by rw [← HP.out]; have := List.length_pos_iff.2 (sp_ne (a ++ 59 :: b)); simp; omega
        have hJ1 : J pre ((wr.alloc (.cells #[.int .u8 59] 5)).drewN k) := HJ.out _ _ _ (HJ.out _ _ _ HJS.out (World.grownBy_alloc wr _ none)) (grown_drewN _ _)
        have hba : Bs w0 n₀ p1 a := hb1.keep (Nat.le_refl _) fun x hx => (HB1.out.cell hx).symm
        have hbb : Bs w0 n₀ p2 b := hb2.keep (Nat.le_refl _) fun x hx => (HB1.out.cell hx).symm
        have hal : a.length ≤ 1048576 := by simp at hrl; omega
        have hbl : b.length ≤ 1048576 := by simp at hrl; omega
        obtain ⟨fn, tmps, assign, bodyC, hy, hR⟩ := HY.out pre ⟨((p1, c'), a), hba, hal⟩ _ hJ1 hpl
        have hps : pre.map Pc.bytes ++ (a :: sp b) = pieces body := by rw [← HP.out, sp_some a b hna]
        have HPS := Lib.hid hps
        have HBb := Lib.hid hbb
        have HBa := Lib.hid hba
        clear hJ1 hpl hps hb1 hb2 hbb
        dsimp only [Pc.enc] at hy
        gi_wp2
        refine hR.mono ?_
        rintro e W3 (⟨rfl, hJ3, hk3⟩ | ⟨rfl, hJx3⟩)
        · gi_wp2
          go_roundw
          case rel => exact ⟨pre ++ [⟨((p1, c'), a), HBa.out, hal⟩], b, p2, c2, rfl, hbc, hbl, HBb.out, hJ3, (below_drewN HB1.out k).trans hk3, .inl ⟨rfl, by rw [List.map_append, List.append_assoc]; exact HPS.out⟩⟩
          case measure => simp [leftOf]; omega
        · gi_wp2
          refine bodyPost_ret (results_none rfl _ _ _) rfl ?_
          exact ⟨⟨_, rfl⟩, .inr ⟨_, by rw [List.map_append, ← HPS.out]; exact ⟨sp b, by rw [List.append_assoc]; rfl⟩, hJx3⟩⟩
    · gi_wp2
      go_end0
      exact ⟨⟨_, rfl⟩, .inl ⟨pre, hp, hJs⟩⟩

set_option maxHeartbeats 1000000 in
/-- pieces(body): the body is boxed; the function value captures the box -/
theorem pieces_in (n : Nat) (p : Option Addr) (m c : Nat) (w : World) :
    CallsIn Fence.wide n Tryd.prog 86 #[.slice p m c] w fun e w' => e = .returned (.func (.func 91) #[] #[.pointer (some ⟨w.heap.size, 0, none⟩)]) ∧ w' = w.alloc (.cells #[.slice p m c] 22) := by
  refine callsIn_of_wp Tryd.func86 rfl trivial ?_ rfl
  simp only [Tryd.ntmps86, List.size_toArray, List.length_cons, List.length_nil, Nat.reduceAdd, Nat.reduceSub, Array.replicate_succ, Array.replicate_zero, List.push_toArray, List.append_toArray, List.nil_append, List.cons_append]
  gi_wp2
  go_ret
  exact ⟨rfl, rfl⟩

theorem pieces_stops (n : Nat) (hn : 1 ≤ n) (Bn n₀ : Nat) (w0 : World) (p : Option Addr) (c : Nat) (body : List UInt8) (hb : Bs w0 n₀ p body) (hc : body.length ≤ c) (hl : body.length ≤ 1048576) (hn0 : n₀ ≤ w0.heap.size)
    (w : World) (hw : Below n₀ w0 w) (hBn : Bn < w.heap.size) (hcell : w.cell? ⟨Bn, 0, none⟩ = some (.slice p body.length c)) :
    SeqStopsK Fence.wide n Tryd.prog 91 #[.pointer (some ⟨Bn, 0, none⟩)] (Pc.enc (w0 := w0) (n₀ := n₀)) (Below n₀) (fun ys => ys.map Pc.bytes = pieces body) (fun pre => pre.map Pc.bytes <+: pieces body) (pieces body).length w := fun l J Jx W hW hJ _ hY h0 =>
  pieces1_in n hn l Bn n₀ w0 p c body hb hc hl hn0 J Jx (fun pre A B h hg => hJ pre A B none h hg (fun r e => by cases e)) hY W (hw.trans (hW.mono (Nat.le_trans hn0 hw.size))) ((hW.cell (p := ⟨Bn, 0, none⟩) hBn).trans hcell) h0

end Go.Proofs.YtjmfmdebnobogaaDoor
