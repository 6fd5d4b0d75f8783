/- The draws' source: l1Source, l1Next, l1Pick, l1Chance. -/
import Derived.Test.YtbmfdakagcbpiaaDoorQPutToMarks
import Derived.Deep.QuietTactic
import Derived.BigQuiet
import Derived.BigGuardPart
import Derived.Deep.DeepCutAuto
namespace Go.Proofs.YtbmfdakagcbpiaaDoor
open Go.RowKit

/-- block g holds a source over the bytes l, n of them read -/
structure SrcAt (w : World) (g : Nat) (q : Option Addr) (c : Nat) (l : List UInt8) (n : Nat) : Prop where
  code : w.cell? ⟨g, 0, none⟩ = some (.slice q l.length c)
  read : w.cell? ⟨g, 1, none⟩ = some (.int .i64 n)
  free : ∀ o, w.frozen? ⟨g, o, none⟩ = false
  bytes : Bs w g q l

/-- what a draw from 0 to m - 1 leaves -/
def NextPost (w : World) (g : Nat) (q : Option Addr) (c : Nat) (l : List UInt8) (n : Nat) (m : Int) (e : Ending) (w' : World) : Prop :=
  ∃ v : Int, e = .returned (.int .i64 v) ∧ 0 ≤ v ∧ v < m ∧ SrcAt w' g q c l (n + 1) ∧ w.grownBy w' (some g)

theorem SrcAt.step {w : World} {g : Nat} {q : Option Addr} {c : Nat} {l : List UInt8} {n : Nat} (h : SrcAt w g q c l n) :
    SrcAt (w.setCell ⟨g, 1, none⟩ (.int .i64 ((n : Int) + 1))) g q c l (n + 1) ∧ w.grownBy (w.setCell ⟨g, 1, none⟩ (.int .i64 ((n : Int) + 1))) (some g) := by
  refine ⟨⟨?_, ?_, ?_, ?_⟩, ⟨rfl, rfl, rfl, by simp [World.setCell], fun b _ hb => Below.heap_setCell _ _ _ _ (fun e => hb (by rw [e]))⟩⟩
  · rw [World.cell?_setCell_other _ _ _ _ (by simp)]
    exact h.code
  · exact World.cell?_setCell_same _ _ _ h.read
  · intro o
    simp [World.frozen?_setCell]
    exact h.free o
  · exact h.bytes.keep (Nat.le_refl _) fun a ha => World.cell?_setCell_other _ _ _ _ (fun e => by subst e; exact Nat.lt_irrefl _ ha)

theorem SrcAt.drew {w : World} {g : Nat} {q : Option Addr} {c : Nat} {l : List UInt8} {n : Nat} (h : SrcAt w g q c l n) (k : Nat) : SrcAt (w.drewN k) g q c l n :=
  ⟨h.code, h.read, h.free, h.bytes.keep (Nat.le_refl _) fun _ _ => rfl⟩
theorem grownBy_drewN {a w : World} {g : Option Nat} (h : a.grownBy w g) (k : Nat) : a.grownBy (w.drewN k) g := ⟨h.os, h.tape, h.output, h.size, h.block⟩









/-- block g holds a source over the bytes l, at most N of them read -/
def Src (w : World) (g : Nat) (q : Option Addr) (c : Nat) (l : List UInt8) (N : Nat) : Prop := ∃ n, n ≤ N ∧ SrcAt w g q c l n ∧ g < w.heap.size

/-- what a draw of a number leaves -/
def NumPost (w : World) (g : Nat) (q : Option Addr) (c : Nat) (l : List UInt8) (N : Nat) (X : Int → Prop) (e : Ending) (w' : World) : Prop :=
  ∃ v : Int, e = .returned (.int .i64 v) ∧ X v ∧ Src w' g q c l N ∧ w.grownBy w' (some g)



/-- what making a source leaves -/
def SrcPost (w : World) (q : Option Addr) (c : Nat) (l : List UInt8) (e : Ending) (w' : World) : Prop :=
  e = .returned (.pointer (some ⟨w.heap.size, 0, none⟩)) ∧ Src w' w.heap.size q c l 0 ∧ Below w.heap.size w w'







end Go.Proofs.YtbmfdakagcbpiaaDoor

/- The draws of stage 1 that hand back a number. -/
namespace Go.Proofs.YtbmfdakagcbpiaaDoor
open Go.RowKit

theorem Src.below {w w' : World} {g : Nat} {q : Option Addr} {c : Nat} {l : List UInt8} {N : Nat} (h : Src w g q c l N) (k : Below w.heap.size w w') : Src w' g q c l N := by
  obtain ⟨n, hn, h, hg⟩ := h
  exact ⟨n, hn, ⟨(k.cell hg).trans h.code, (k.cell hg).trans h.read, fun o => (World.frozen?_of_block (k.block g hg)).trans (h.free o), h.bytes.keep (Nat.le_refl _) fun a ha => k.cell (Nat.lt_trans ha hg)⟩, Nat.lt_of_lt_of_le hg k.size⟩







end Go.Proofs.YtbmfdakagcbpiaaDoor

/- The draws of stage 1 that hand back bytes: l1Some, l1Copy. -/
namespace Go.Proofs.YtbmfdakagcbpiaaDoor
open Go.RowKit

theorem grownBy_on {a b c : World} {g : Nat} {row : Option Nat} (h : a.grownBy b (some g)) (k : b.grownBy c row) (hr : ∀ j, row = some j → a.heap.size ≤ j ∨ j = g) : a.grownBy c (some g) := by
  refine ⟨k.os.trans h.os, k.tape.trans h.tape, k.output.trans h.output, Nat.le_trans h.size k.size, fun i hi hne => (k.block i (Nat.lt_of_lt_of_le hi h.size) ?_).trans (h.block i hi hne)⟩
  intro e
  rcases hr i e.symm with h1 | h1
  · omega
  · exact hne (by rw [h1])

theorem Src.grown {w w' : World} {g : Nat} {q : Option Addr} {c : Nat} {l : List UInt8} {N : Nat} {row : Option Nat} (h : Src w g q c l N) (k : w.grownBy w' row) (hr : ∀ j, row = some j → g < j) : Src w' g q c l N := by
  obtain ⟨n, hn, h, hg⟩ := h
  have hb : ∀ i, i ≤ g → w'.heap[i]? = w.heap[i]? := fun i hi => k.block i (by omega) (fun e => by have := hr i e.symm; omega)
  have hb0 := hb g (Nat.le_refl _)
  exact ⟨n, hn, ⟨(World.cell?_of_block hb0).trans h.code, (World.cell?_of_block hb0).trans h.read, fun o => (World.frozen?_of_block hb0).trans (h.free o), h.bytes.keep (Nat.le_refl _) fun a ha => World.cell?_of_block (hb a.block (by omega))⟩, Nat.lt_of_lt_of_le hg k.size⟩

theorem Src.more {w : World} {g : Nat} {q : Option Addr} {c : Nat} {l : List UInt8} {N M : Nat} (h : Src w g q c l N) (hm : N ≤ M) : Src w g q c l M := by
  obtain ⟨n, hn, h, hg⟩ := h
  exact ⟨n, by omega, h, hg⟩

/-- what a draw of k bytes leaves -/
def SomePost (w : World) (g : Nat) (q : Option Addr) (c : Nat) (l : List UInt8) (N : Nat) (k : Nat) (e : Ending) (w' : World) : Prop :=
  ∃ v bs, e = .returned v ∧ bs.length = k ∧ Own w' w.heap.size v bs ∧ Src w' g q c l (N + k) ∧ w.grownBy w' (some g)

/-- .. and that it is not nil -/
def SomePlus (w : World) (g : Nat) (q : Option Addr) (c : Nat) (l : List UInt8) (N : Nat) (k : Nat) (e : Ending) (w' : World) : Prop :=
  ∃ v bs, e = .returned v ∧ bs.length = k ∧ Own w' w.heap.size v bs ∧ Src w' g q c l (N + k) ∧ w.grownBy w' (some g) ∧ v ≠ .slice none 0 0

/-- the loop's relation -/
def SomeRel (w : World) (g : Nat) (q : Option Addr) (c : Nat) (l : List UInt8) (N k : Nat) (n out : Value) (wr : World) : Prop :=
  ∃ (j : Nat) (bs : List UInt8), n = .int .i64 j ∧ bs.length + j = k ∧ Own wr w.heap.size out bs ∧ Src wr g q c l (N + bs.length) ∧ w.grownBy wr (some g) ∧ out ≠ .slice none 0 0

theorem Own.next {w2 : World} {base : Nat} {v' : Value} {bs : List UInt8} {x : Nat} (hx : x < 256) (h : w2.ownsRow base 5 1 v' (bs.length + 1) (bs.map (fun x : UInt8 => Value.int .u8 (x.toNat : Int)) ++ [.int .u8 (x : Int)])) :
    Own w2 base v' (bs ++ [UInt8.ofNat x]) := by
  have e : ((UInt8.ofNat x).toNat : Int) = (x : Int) := by simp; omega
  unfold Own
  rw [List.map_append, List.length_append]
  rw [List.map_cons, List.map_nil, e]
  exact h

theorem Own.past {w : World} {base g : Nat} {v : Value} {l : List UInt8} (h : Own w base v l) (hg : g < base) : ∀ j, v.ownBlock = some j → g < j := fun j hj => Nat.lt_of_lt_of_le hg (World.ownsRow.lt h j hj).1
theorem Own.apart {w : World} {base g : Nat} {v : Value} {l : List UInt8} (h : Own w base v l) (hg : g < base) : v.ownBlock = none ∨ v.ownBlock ≠ some g :=
  .inr fun e => Nat.lt_irrefl _ (h.past hg g e)





end Go.Proofs.YtbmfdakagcbpiaaDoor

/- l1Copy, l1Event, DrawSameBytes. -/
namespace Go.Proofs.YtbmfdakagcbpiaaDoor
open Go.RowKit

set_option maxRecDepth 100000 in
set_option maxHeartbeats 2000000 in
theorem l1Copy_nil (q : Option Addr) (c : Nat) (w : World) :
    Calls Tryd.prog 33 #[.slice q 0 c] w (NewOwn w []) := by
  have HO := Lib.hid (own_lit w [] #[] w.heap.size 0 rfl rfl rfl (by simp))
  cases q
  all_goals
    go_enter Tryd.func33, Tryd.ntmps33
    go_wp2
    go_ret
    exact ⟨_, rfl, HO.out, (Below.refl _ _).alloc (Nat.le_refl _) _⟩

set_option maxRecDepth 100000 in
set_option maxHeartbeats 2000000 in
theorem l1Copy_some (b off c : Nat) (l : List UInt8) (w : World) (hb : b < w.heap.size) (hl : l.length ≤ 1048576) (hc : ∀ i, i < l.length → w.cell? ⟨b, off + i, none⟩ = some (.int .u8 ((l.getD i 0).toNat : Int))) :
    Calls Tryd.prog 33 #[.slice (some ⟨b, off, none⟩) l.length c] w (NewOwn w l) := by
  have HO := Lib.hid (own_lit w [] #[] w.heap.size 0 rfl rfl rfl (by simp))
  have HC := Lib.hid hc
  clear hc
  obtain ⟨i0, hi, hz0, hz1, hz2⟩ := info_parts Tryd.info_u8
  have HI := Lib.hid (And.intro hi (And.intro hz0 (And.intro hz1 hz2)))
  clear hi hz0 hz1 hz2
  go_enter Tryd.func33, Tryd.ntmps33
  go_wp2_with (at_builtin; refine wpList_append_own _ rfl _ _ 22 rfl w.heap.size 5 i0 (.int .u8 0) 1 1 Tryd.underlying22 HI.out.1 HI.out.2.1 HI.out.2.2.1 HI.out.2.2.2 rfl (by decide) _ _ _ rfl HO.out ⟨b, off, none⟩ l.length c (l.map fun x : UInt8 => Value.int .u8 (x.toNat : Int)) rfl (by simp) ?c1 ?c2 ?c3 ?c4 ?c5 ?_)
  case c1 =>
    intro j u hj
    have hlt : j < l.length := by
      rcases Nat.lt_or_ge j l.length with h | h
      · exact h
      · rw [List.getElem?_eq_none (by simpa using h)] at hj; cases hj
    have ea : (⟨b, off, none⟩ : Addr).add j = ⟨b, off + j, none⟩ := by simp [Addr.add]
    rw [ea]
    refine (World.cell?_alloc_lt w _ _ hb).trans ((HC.out j hlt).trans ?_)
    simp [hlt] at hj ⊢
    exact hj
  case c2 => intro u hu; simp at hu; obtain ⟨x, _, rfl⟩ := hu; rfl
  case c3 => simp [maxLen]; omega
  case c4 => simp; omega
  case c5 => simp
  intro v' w2 hown' hgrow _
  have HF := Lib.hid hown'
  have HG := Lib.hid hgrow
  clear hown' hgrow
  go_wp2
  go_ret
  exact ⟨_, rfl, by simpa [Own] using HF.out, ((Below.refl _ _).alloc (Nat.le_refl _) _).grown HG.out (by simp) (fun k hk => (HO.out.lt k hk).1)⟩

theorem l1Copy_any (q : Option Addr) (c : Nat) (l : List UInt8) (w : World) (h : Bs w w.heap.size q l) (hl : l.length ≤ 1048576) :
    Calls Tryd.prog 33 #[.slice q l.length c] w (NewOwn w l) := by
  by_cases hl0 : l = []
  · subst hl0
    exact l1Copy_nil q c w
  · obtain ⟨b, off, rfl, hb, hc⟩ := h hl0
    exact l1Copy_some b off c l w hb hl hc

end Go.Proofs.YtbmfdakagcbpiaaDoor
