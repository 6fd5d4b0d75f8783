/- Pieces between semicolons: the plain facts, and the contracts of bytes.IndexByte, Index and Cut at a separator of one byte. -/
import Derived.Test.YtcchhlcgamcceaaDoorQNumbToPaste
import Derived.Test.YtcchhlcgamcceaaDoorQMarksToTok
import Derived.Lib.BytesEntry
import Derived.RangeFuncNested
import Derived.RangeFuncBound
import Derived.RangeFuncCalls
import Derived.RangeFuncLeaves
import Derived.RangeFuncBox
import Derived.Shelf.Abstract
import Derived.Shelf.RegionOpen
import Derived.OwnWalkIn
import Derived.TacticsInMore
import Derived.LoopNIn
import Derived.LoopIn
import Derived.Maps.AppendAt
namespace Go.Proofs.YtcchhlcgamcceaaDoor
open Go.RowKit

/-- what lies between the semicolons: one piece at least -/
def sp : List UInt8 → List (List UInt8)
  | [] => [[]]
  | c :: r => if c = 59 then [] :: sp r else match sp r with
    | p :: ps => (c :: p) :: ps
    | [] => [[c]]
/-- the pieces: none where there is no byte -/
def pieces (l : List UInt8) : List (List UInt8) := if l = [] then [] else sp l

theorem sp_none : ∀ (l : List UInt8), (59 : UInt8) ∉ l → sp l = [l]
  | [], _ => rfl
  | c :: r, h => by
    simp at h
    rw [sp, if_neg (fun e => h.1 e.symm), sp_none r h.2]
theorem sp_some : ∀ (a b : List UInt8), (59 : UInt8) ∉ a → sp (a ++ 59 :: b) = a :: sp b
  | [], b, _ => by simp [sp]
  | c :: a, b, h => by
    simp at h
    rw [List.cons_append, sp, if_neg (fun e => h.1 e.symm), sp_some a b h.2]
theorem sp_ne (l : List UInt8) : sp l ≠ [] := by
  cases l with
  | nil => simp [sp]
  | cons c r =>
    rw [sp]
    split
    · simp
    · split <;> simp

/-- the first semicolon -/
theorem indexByte_cases : ∀ (l : List UInt8), (Lib.indexByte l 59 = -1 ∧ (59 : UInt8) ∉ l) ∨ ∃ a b, l = a ++ 59 :: b ∧ (59 : UInt8) ∉ a ∧ Lib.indexByte l 59 = (a.length : Int)
  | [] => .inl ⟨rfl, by simp⟩
  | c :: r => by
    by_cases hc : c = 59
    · subst hc
      exact .inr ⟨[], r, rfl, by simp, by simp [Lib.indexByte]⟩
    · rcases indexByte_cases r with ⟨h1, h2⟩ | ⟨a, b, rfl, h2, h3⟩
      · refine .inl ⟨?_, ?_⟩
        · simp [Lib.indexByte, hc, h1]
        · simp [h2]; exact fun e => hc e.symm
      · refine .inr ⟨c :: a, b, rfl, ?_, ?_⟩
        · simp [h2]; exact fun e => hc e.symm
        · have : ¬ ((a.length : Int) = -1) := by omega
          simp [Lib.indexByte, hc, h3, this]

/-- a slice's address behind a cut -/
theorem Bs.cut {w : World} {B : Nat} {p : Option Addr} {l : List UInt8} (h : Bs w B p l) (k j c : Nat) (hj : j ≤ l.length) (hc : l.length ≤ c) :
    Bs w B (if c = k then p else p.map (·.add k)) ((l.take j).drop k) := by
  intro hne
  have hlen : 0 < ((l.take j).drop k).length := List.length_pos_iff.2 hne
  simp at hlen
  obtain ⟨b, off, rfl, hb, hcell⟩ := h (by intro e; simp [e] at hlen)
  rw [if_neg (by omega)]
  refine ⟨b, off + k, ?_, hb, fun i hi => ?_⟩
  · simp only [Option.map_some, Addr.add]
    split
    · rename_i e; simp [e]
    · rfl
  · simp at hi
    rw [Nat.add_assoc, hcell (k + i) (by omega)]
    simp [List.getD_eq_getElem?_getD, List.getElem?_drop, show k + i < j by omega]

theorem map_add_zero (p : Option Addr) : p.map (·.add 0) = p := by cases p <;> simp [Addr.add]
theorem Bs.sub {w : World} {B : Nat} {p : Option Addr} {l : List UInt8} (h : Bs w B p l) : Bs w B p l := h

theorem bytesOf_nums (l : List UInt8) : Lib.bytesOf (l.map fun x : UInt8 => (x.toNat : Int)) = l := by
  simp [Lib.bytesOf, List.map_map, Function.comp_def]

theorem run_indexByteNone {P : Program} (w : World) (a : Addr) (c : Nat) (cv : Int) :
    (Extern.BytealgIndexByte.indexByte #[.slice (some a) 0 c, .int .u8 cv]).run P w = .ok (.int .i64 (-1)) w := by
  have hs := Lib.run_indexByteString (P := P) .empty cv w
  exact hs

theorem run_index59 {P : Program} (w : World) {B : Nat} (p : Option Addr) (c : Nat) (l : List UInt8) (h : Bs w B p l) :
    (Extern.BytealgIndexByte.indexByte #[.slice p l.length c, .int .u8 59]).run P w = .ok (.int .i64 (Lib.indexByte l 59)) w := by
  by_cases hl : l = []
  · subst hl
    cases p with
    | none => exact Lib.run_indexByteNil w 0 c 59
    | some a => exact run_indexByteNone w a c 59
  · obtain ⟨b, off, rfl, _, hc⟩ := h hl
    have := Lib.run_indexByteSlice (P := P) w b off l.length c (l.map fun x : UInt8 => (x.toNat : Int)) (by simp) (fun i hi => by rw [hc i hi]; simp [hi]) 59
    rw [bytesOf_nums] at this
    exact this

set_option maxHeartbeats 1000000 in
set_option maxRecDepth 100000 in
theorem bytesIndexByte_any (p : Option Addr) (c : Nat) (l : List UInt8) (w : World) {B : Nat} (h : Bs w B p l) :
    Calls Tryd.prog 97 #[.slice p l.length c, .int .u8 59] w fun e w' => e = .returned (.int .i64 (Lib.indexByte l 59)) ∧ w = w' := by
  have H := Lib.hid h
  clear h
  go_enter Tryd.func97, Tryd.ntmps97
  go_wp2
  rw [run_callFunc_extern Tryd.func102 (by kernel_rfl) (by kernel_rfl) (by kernel_rfl) (e := Extern.BytealgIndexByte.indexByte) (by kernel_rfl), run_index59 w p c l H.out]
  simp only [Result.andThen]
  rw [Oper.upon_value]
  go_wp2
  go_ret
  exact ⟨rfl, rfl⟩

set_option maxHeartbeats 2000000 in
set_option maxRecDepth 1000000 in
theorem bytesIndex_one (p : Option Addr) (c b2 : Nat) (l : List UInt8) (w : World) {B : Nat} (h : Bs w B p l) (h2 : w.cell? ⟨b2, 0, none⟩ = some (.int .u8 59)) :
    Calls Tryd.prog 96 #[.slice p l.length c, .slice (some ⟨b2, 0, none⟩) 1 1] w fun e w' => e = .returned (.int .i64 (Lib.indexByte l 59)) ∧ w = w' := by
  have H := Lib.hid h
  clear h
  go_enter Tryd.func96, Tryd.ntmps96
  go_wp2_with (go_at_call 97; refine (bytesIndexByte_any _ _ _ _ H.out).mono ?_; rintro e w' ⟨rfl, rfl⟩)
  go_ret
  exact ⟨rfl, rfl⟩

theorem bytesIndex_len (p : Option Addr) (c b2 n : Nat) (l : List UInt8) (w : World) {B : Nat} (hn : n = l.length) (h : Bs w B p l) (h2 : w.cell? ⟨b2, 0, none⟩ = some (.int .u8 59)) :
    Calls Tryd.prog 96 #[.slice p n c, .slice (some ⟨b2, 0, none⟩) 1 1] w fun e w' => e = .returned (.int .i64 (Lib.indexByte l 59)) ∧ w = w' := by
  subst hn
  exact bytesIndex_one p c b2 l w h h2

/-- what bytes.Cut leaves -/
def CutPost (w : World) (B : Nat) (p : Option Addr) (c : Nat) (l : List UInt8) (e : Ending) (w' : World) : Prop :=
  ((59 : UInt8) ∉ l ∧ e = .returned (.tuple #[.slice p l.length c, .slice none 0 0, .bool false]) ∧ ∃ n, w' = w.drewN n) ∨
  ∃ (a b : List UInt8) (p1 p2 : Option Addr) (c2 : Nat), l = a ++ 59 :: b ∧ (59 : UInt8) ∉ a ∧ e = .returned (.tuple #[.slice p1 a.length c, .slice p2 b.length c2, .bool true]) ∧
    Bs w B p1 a ∧ Bs w B p2 b ∧ b.length ≤ c2 ∧ ∃ n, w' = w.drewN n

theorem cut_post {w w' : World} {B : Nat} {p : Option Addr} {c n : Nat} {a b : List UInt8} (h : Bs w B p (a ++ 59 :: b)) (hc : (a ++ 59 :: b).length ≤ c) (hn : (59 : UInt8) ∉ a) {p1 p2 : Option Addr} {n1 n2 c2 : Nat}
    (e1 : p1 = if c = 0 then p else p.map (·.add 0)) (e2 : p2 = if c = a.length + 1 then p else p.map (·.add (a.length + 1))) (en1 : n1 = a.length) (en2 : n2 = b.length) (ec2 : c2 = c - (a.length + 1)) (hw : w' = w.drewN n) :
    CutPost w B p c (a ++ 59 :: b) (.returned (.tuple #[.slice p1 n1 c, .slice p2 n2 c2, .bool true])) w' := by
  subst en1; subst en2
  refine .inr ⟨a, b, p1, p2, c2, rfl, hn, rfl, ?_, ?_, ?_, n, hw⟩
  · have := h.cut 0 a.length c (by simp) hc
    rw [e1]
    simpa using this
  · have := h.cut (a.length + 1) (a.length + (b.length + 1)) c (by simp) hc
    rw [e2]
    rw [List.take_of_length_le (by simp)] at this
    simpa using this
  · simp at hc; omega

set_option maxHeartbeats 2000000 in
theorem bytesCut_any (p : Option Addr) (c b2 : Nat) (l : List UInt8) (w : World) {B : Nat} (h : Bs w B p l) (hc : l.length ≤ c) (hl : l.length ≤ 1048576) (h2 : w.cell? ⟨b2, 0, none⟩ = some (.int .u8 59)) :
    Calls Tryd.prog 94 #[.slice p l.length c, .slice (some ⟨b2, 0, none⟩) 1 1] w (CutPost w B p c l) := by
  have H := Lib.hid h
  have H2 := Lib.hid h2
  clear h h2
  rcases indexByte_cases l with ⟨hi, hn⟩ | ⟨a, b, rfl, hn, hi⟩
  · have HI := Lib.hid hi
    have HN := Lib.hid hn
    clear hi hn
    go_enter Tryd.func94, Tryd.ntmps94
    go_wp2_with (go_at_call 96; refine (bytesIndex_one _ _ _ _ _ H.out H2.out).mono ?_; rw [HI.out]; rintro e w' ⟨rfl, rfl⟩)
    exact bodyPost_ret (v := .tuple #[.slice p l.length c, .slice none 0 0, .bool false]) (by simp [results, Tryd.results94, go_sem]) rfl (.inl ⟨HN.out, rfl, 0, rfl⟩)
  · have HI := Lib.hid hi
    have HC := Lib.hid (fun w' n p1 p2 n1 n2 c2 => cut_post (w' := w') (n := n) (p1 := p1) (p2 := p2) (n1 := n1) (n2 := n2) (c2 := c2) H.out hc hn)
    clear hi hn
    have hal : a.length + 1 ≤ (a ++ 59 :: b).length := by simp
    have HL := Lib.hid (show (a ++ 59 :: b).length = a.length + (b.length + 1) by simp)
    obtain ⟨m, hm⟩ : ∃ m, m = (a ++ 59 :: b).length := ⟨_, rfl⟩
    rw [← hm] at hal hl hc
    rw [show (a ++ 59 :: b).length = m from hm.symm]
    have HM := Lib.hid hm
    clear hm
    by_cases hcc : c = a.length + 1
    · have HCC := Lib.hid hcc
      subst hcc
      go_enter Tryd.func94, Tryd.ntmps94
      go_wp2_with (go_at_call 96; refine (bytesIndex_len _ _ _ _ _ _ HM.out H.out H2.out).mono ?_; rw [HI.out]; rintro e w' ⟨rfl, rfl⟩)
      go_quiet (fail)
      go_wp2
      refine bodyPost_ret (v := .tuple #[_, _, .bool true]) (by simp [results, Tryd.results94, go_sem]; exact ⟨rfl, rfl⟩) rfl ?_
      have hmm := HM.out
      rw [HL.out] at hmm
      exact HC.out _ nq _ _ _ _ _ (by rw [if_neg (by omega), map_add_zero]) (by rw [if_pos trivial]) rfl (by omega) (by omega) rfl
    · have hcd : ¬ (c = 0) := by omega
      go_enter Tryd.func94, Tryd.ntmps94
      go_wp2_with (go_at_call 96; refine (bytesIndex_len _ _ _ _ _ _ HM.out H.out H2.out).mono ?_; rw [HI.out]; rintro e w' ⟨rfl, rfl⟩)
      go_quiet (fail)
      go_wp2
      refine bodyPost_ret (v := .tuple #[_, _, .bool true]) (by simp [results, Tryd.results94, go_sem]; exact ⟨rfl, rfl⟩) rfl ?_
      have hmm := HM.out
      rw [HL.out] at hmm
      exact HC.out _ nq _ _ _ _ _ (by rw [if_neg (by omega), map_add_zero]) (by rw [if_neg (by omega)]; simp [Addr.add]) rfl (by omega) (by omega) rfl

end Go.Proofs.YtcchhlcgamcceaaDoor

/- The program's iterator over the pieces between semicolons: its contract. -/
namespace Go.Proofs.YtcchhlcgamcceaaDoor
open Go.RowKit Go.Shelf
attribute [local go_sem] Oper.semAt_some

/-- a piece that is handed out: its address, its capacity, its bytes, as they lie in the world w0 below n₀ -/
abbrev Pc (w0 : World) (n₀ : Nat) : Type := { x : (Option Addr × Nat) × List UInt8 // Bs w0 n₀ x.1.1 x.2 ∧ x.2.length ≤ 1048576 }
def Pc.bytes {w0 : World} {n₀ : Nat} (x : Pc w0 n₀) : List UInt8 := x.1.2
def Pc.enc {w0 : World} {n₀ : Nat} (x : Pc w0 n₀) : Array Value := #[.slice x.1.1.1 x.1.2.length x.1.1.2]

/-- how much is left, read off the two slots -/
def leftPc (r m : Value) : Nat := match m, r with
  | .bool true, .slice _ n _ => n + 1
  | _, _ => 0

/-- what the loop of the iterator keeps -/
def PcRel (w0 : World) (n₀ : Nat) (body : List UInt8) (J : List (Pc w0 n₀) → World → Prop) (r m : Value) (wr : World) : Prop :=
  ∃ (pre : List (Pc w0 n₀)) (rest : List UInt8) (q : Option Addr) (c : Nat), r = .slice q rest.length c ∧ rest.length ≤ c ∧ rest.length ≤ 1048576 ∧ Bs w0 n₀ q rest ∧ J pre wr ∧ Below n₀ w0 wr ∧
    ((m = .bool true ∧ pre.map Pc.bytes ++ sp rest = pieces body) ∨ (m = .bool false ∧ pre.map Pc.bytes = pieces body))

theorem grown_drewN (W : World) (n : Nat) : W.grownBy (W.drewN n) none := ⟨rfl, rfl, rfl, Nat.le_refl _, fun _ _ _ => rfl⟩

set_option maxRecDepth 100000 in
set_option maxHeartbeats 1000000 in
theorem pieces1_in (n : Nat) (hn : 1 ≤ n) (l Bn n₀ : Nat) (w0 : World) (p : Option Addr) (c : Nat) (body : List UInt8) (hb : Bs w0 n₀ p body) (hc : body.length ≤ c) (hl : body.length ≤ 1048576) (hn0 : n₀ ≤ w0.heap.size)
    (J Jx : List (Pc w0 n₀) → World → Prop) (hJ : ∀ pre (A B : World), J pre A → A.grownBy B none → J pre B)
    (hY : ∀ pre (x : Pc w0 n₀) W, J pre W → pre.length < (pieces body).length → YieldAt Fence.wide (n - 1) Tryd.prog l x.enc W fun e W' =>
      (e = .returned (.bool true) ∧ J (pre ++ [x]) W' ∧ Below n₀ W W') ∨ (e = .returned (.bool false) ∧ Jx (pre ++ [x]) W'))
    (W : World) (hW : Below n₀ w0 W) (hBn : W.cell? ⟨Bn, 0, none⟩ = some (.slice p body.length c)) (h0 : J [] W) :
    CallsIn Fence.wide n Tryd.prog 93 #[.func (.yield l) #[] #[], .pointer (some ⟨Bn, 0, none⟩)] W fun e W' => (∃ v, e = .returned v) ∧
      ((∃ ys, ys.map Pc.bytes = pieces body ∧ J ys W') ∨ (∃ pre, pre.map Pc.bytes <+: pieces body ∧ Jx pre W')) := by
  have H0 := Lib.hid h0
  have HB := Lib.hid hb
  have HW := Lib.hid hW
  have HY := Lib.hid hY
  have HJ := Lib.hid hJ
  clear h0 hb hW hY hJ
  refine callsIn_of_wp Tryd.func93 rfl trivial ?_ rfl
  simp only [Tryd.ntmps93, List.size_toArray, List.length_cons, List.length_nil, Nat.reduceAdd, Nat.reduceSub, Array.replicate_succ, Array.replicate_zero, List.push_toArray, List.append_toArray, List.nil_append, List.cons_append]
  have hst : PcRel w0 n₀ body J (.slice p body.length c) (.bool (decide (0 < body.length))) W := by
    refine ⟨[], body, p, c, rfl, hc, hl, HB.out, H0.out, HW.out, ?_⟩
    cases body with
    | nil => exact .inr ⟨rfl, rfl⟩
    | cons x r => exact .inl ⟨by simp, by simp [pieces]⟩
  have hstart : ∀ k, PcRel w0 n₀ body J (.slice p body.length c) (.bool (decide (0 < body.length))) (W.drewN k) := fun k => by
    obtain ⟨pre, rest, q, c', e1, e2, e3, e4, e5, e6, e7⟩ := hst
    exact ⟨pre, rest, q, c', e1, e2, e3, e4, HJ.out _ _ _ e5 (grown_drewN _ _), below_drewN e6 _, e7⟩
  have HS := Lib.hid hstart
  clear hst hstart
  gi_wp2
  gi_quiet (fail)
  gi_wp2
  gi_loopw [3, 4] (fun r m wr => PcRel w0 n₀ body J r m wr) (fun r m _ => leftPc r m)
  case atStart => exact HS.out _
  case round =>
    obtain ⟨pre, rest, q, c', rfl, hrc, hrl, hrb, hJs, hB, (⟨rfl, hp⟩ | ⟨rfl, hp⟩)⟩ := hrel
    · have HRB := Lib.hid hrb
      have HJS := Lib.hid hJs
      have HBB := Lib.hid hB
      have HP := Lib.hid hp
      clear hrb hJs hB hp
      have hB1 : Below n₀ w0 (wr.alloc (.cells #[.int .u8 59] 5)) := HBB.out.alloc (Nat.le_trans hn0 HBB.out.size) _
      have HB1 := Lib.hid hB1
      clear hB1
      gi_wp2
      refine ⟨trivial, (callsIn_wide.2 (bytesCut_any _ _ _ _ _ (B := n₀) (HRB.out.below HB1.out) hrc hrl (by simp))).mono ?_⟩
      rintro e W1 (⟨hno, rfl, k, rfl⟩ | ⟨a, b, p1, p2, c2, rfl, hna, rfl, hb1, hb2, hbc, k, rfl⟩)
      · have hpl : pre.length < (pieces body).length := by rw [← HP.out]; have := List.length_pos_iff.2 (sp_ne rest); simp; omega
        have hJ1 : J pre ((wr.alloc (.cells #[.int .u8 59] 5)).drewN k) := HJ.out _ _ _ (HJ.out _ _ _ HJS.out (World.grownBy_alloc wr _ none)) (grown_drewN _ _)
        have HQ := Lib.hid hJ1
        obtain ⟨fn, tmps, assign, bodyC, hy, hR⟩ := HY.out pre ⟨((q, c'), rest), HRB.out, hrl⟩ _ hJ1 hpl
        have hps : pre.map Pc.bytes ++ [rest] = pieces body := by rw [← HP.out, sp_none rest hno]
        have HPS := Lib.hid hps
        clear hJ1 hpl hps
        dsimp only [Pc.enc] at hy
        gi_wp2
        refine hR.mono ?_
        rintro e W3 (⟨rfl, hJ3, hk3⟩ | ⟨rfl, hJx3⟩)
        · gi_wp2
          go_roundw
          case rel => exact ⟨pre ++ [⟨((q, c'), rest), HRB.out, hrl⟩], [], none, 0, rfl, by simp, by simp, fun h => absurd rfl h, hJ3, (below_drewN HB1.out k).trans hk3, .inr ⟨rfl, by rw [List.map_append]; exact HPS.out⟩⟩
          case measure => simp [leftPc]
        · gi_wp2
          refine bodyPost_ret (results_none rfl _ _ _) rfl ?_
          exact ⟨⟨_, rfl⟩, .inr ⟨_, by rw [List.map_append, ← HPS.out]; exact List.prefix_refl _, hJx3⟩⟩
      · have hpl : pre.length < (pieces body).length := by rw [← HP.out]; have := List.length_pos_iff.2 (sp_ne (a ++ 59 :: b)); simp; omega
        have hJ1 : J pre ((wr.alloc (.cells #[.int .u8 59] 5)).drewN k) := HJ.out _ _ _ (HJ.out _ _ _ HJS.out (World.grownBy_alloc wr _ none)) (grown_drewN _ _)
        have hba : Bs w0 n₀ p1 a := hb1.keep (Nat.le_refl _) fun x hx => (HB1.out.cell hx).symm
        have hbb : Bs w0 n₀ p2 b := hb2.keep (Nat.le_refl _) fun x hx => (HB1.out.cell hx).symm
        have hal : a.length ≤ 1048576 := by simp at hrl; omega
        have hbl : b.length ≤ 1048576 := by simp at hrl; omega
        obtain ⟨fn, tmps, assign, bodyC, hy, hR⟩ := HY.out pre ⟨((p1, c'), a), hba, hal⟩ _ hJ1 hpl
        have hps : pre.map Pc.bytes ++ (a :: sp b) = pieces body := by rw [← HP.out, sp_some a b hna]
        have HPS := Lib.hid hps
        have HBb := Lib.hid hbb
        have HBa := Lib.hid hba
        clear hJ1 hpl hps hb1 hb2 hbb
        dsimp only [Pc.enc] at hy
        gi_wp2
        refine hR.mono ?_
        rintro e W3 (⟨rfl, hJ3, hk3⟩ | ⟨rfl, hJx3⟩)
        · gi_wp2
          go_roundw
          case rel => exact ⟨pre ++ [⟨((p1, c'), a), HBa.out, hal⟩], b, p2, c2, rfl, hbc, hbl, HBb.out, hJ3, (below_drewN HB1.out k).trans hk3, .inl ⟨rfl, by rw [List.map_append, List.append_assoc]; exact HPS.out⟩⟩
          case measure => simp [leftPc]; omega
        · gi_wp2
          refine bodyPost_ret (results_none rfl _ _ _) rfl ?_
          exact ⟨⟨_, rfl⟩, .inr ⟨_, by rw [List.map_append, ← HPS.out]; exact ⟨sp b, by rw [List.append_assoc]; rfl⟩, hJx3⟩⟩
    · gi_wp2
      go_end0
      exact ⟨⟨_, rfl⟩, .inl ⟨pre, hp, hJs⟩⟩

set_option maxHeartbeats 1000000 in
/-- pieces(body): the body is boxed; the function value captures the box -/
theorem pieces_in (n : Nat) (p : Option Addr) (m c : Nat) (w : World) :
    CallsIn Fence.wide n Tryd.prog 87 #[.slice p m c] w fun e w' => e = .returned (.func (.func 93) #[] #[.pointer (some ⟨w.heap.size, 0, none⟩)]) ∧ w' = w.alloc (.cells #[.slice p m c] 22) := by
  refine callsIn_of_wp Tryd.func87 rfl trivial ?_ rfl
  simp only [Tryd.ntmps87, List.size_toArray, List.length_cons, List.length_nil, Nat.reduceAdd, Nat.reduceSub, Array.replicate_succ, Array.replicate_zero, List.push_toArray, List.append_toArray, List.nil_append, List.cons_append]
  gi_wp2
  go_ret
  exact ⟨rfl, rfl⟩

theorem pieces_stops (n : Nat) (hn : 1 ≤ n) (Bn n₀ : Nat) (w0 : World) (p : Option Addr) (c : Nat) (body : List UInt8) (hb : Bs w0 n₀ p body) (hc : body.length ≤ c) (hl : body.length ≤ 1048576) (hn0 : n₀ ≤ w0.heap.size)
    (w : World) (hw : Below n₀ w0 w) (hBn : Bn < w.heap.size) (hcell : w.cell? ⟨Bn, 0, none⟩ = some (.slice p body.length c)) :
    SeqStopsK Fence.wide n Tryd.prog 93 #[.pointer (some ⟨Bn, 0, none⟩)] (Pc.enc (w0 := w0) (n₀ := n₀)) (Below n₀) (fun ys => ys.map Pc.bytes = pieces body) (fun pre => pre.map Pc.bytes <+: pieces body) (pieces body).length w := fun l J Jx W hW hJ _ hY h0 =>
  pieces1_in n hn l Bn n₀ w0 p c body hb hc hl hn0 J Jx (fun pre A B h hg => hJ pre A B none h hg (fun r e => by cases e)) hY W (hw.trans (hW.mono (Nat.le_trans hn0 hw.size))) ((hW.cell (p := ⟨Bn, 0, none⟩) hBn).trans hcell) h0

end Go.Proofs.YtcchhlcgamcceaaDoor
