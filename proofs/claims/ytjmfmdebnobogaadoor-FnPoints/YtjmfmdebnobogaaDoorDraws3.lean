/- The draws of stage 1 that hand back bytes: l1Some, l1Copy. -/
import Derived.Test.YtjmfmdebnobogaaDoorDraws2
import Derived.Test.YtjmfmdebnobogaaDoorPut
namespace Go.Proofs.YtjmfmdebnobogaaDoor
open Go.RowKit

theorem grownBy_on {a b c : World} {g : Nat} {row : Option Nat} (h : a.grownBy b (some g)) (k : b.grownBy c row) (hr : ∀ j, row = some j → a.heap.size ≤ j ∨ j = g) : a.grownBy c (some g) := by
  refine ⟨k.os.trans h.os, k.tape.trans h.tape, k.output.trans h.output, Nat.le_trans h.size k.size, fun i hi hne => (k.block i (Nat.lt_of_lt_of_le hi h.size) ?_).trans (h.block i hi hne)⟩
  intro e
  rcases hr i e.symm with h1 | h1
  · omega
  · exact hne (by rw [h1])

theorem Src.grown {w w' : World} {g : Nat} {q : Option Addr} {c : Nat} {l : List UInt8} {N : Nat} {row : Option Nat} (h : Src w g q c l N) (k : w.grownBy w' row) (hr : ∀ j, row = some j → g < j) : Src w' g q c l N := by
  obtain ⟨n, hn, h, hg⟩ := h
  have hb : ∀ i, i ≤ g → w'.heap[i]? = w.heap[i]? := fun i hi => k.block i (by omega) (fun e => by have := hr i e.symm; omega)
  have hb0 := hb g (Nat.le_refl _)
  exact ⟨n, hn, ⟨(World.cell?_of_block hb0).trans h.code, (World.cell?_of_block hb0).trans h.read, fun o => (World.frozen?_of_block hb0).trans (h.free o), h.bytes.keep (Nat.le_refl _) fun a ha => World.cell?_of_block (hb a.block (by omega))⟩, Nat.lt_of_lt_of_le hg k.size⟩

theorem Src.more {w : World} {g : Nat} {q : Option Addr} {c : Nat} {l : List UInt8} {N M : Nat} (h : Src w g q c l N) (hm : N ≤ M) : Src w g q c l M := by
  obtain ⟨n, hn, h, hg⟩ := h
  exact ⟨n, by omega, h, hg⟩

/-- what a draw of k bytes leaves -/
def SomePost (w : World) (g : Nat) (q : Option Addr) (c : Nat) (l : List UInt8) (N : Nat) (k : Nat) (e : Ending) (w' : World) : Prop :=
  ∃ v bs, e = .returned v ∧ bs.length = k ∧ Own w' w.heap.size v bs ∧ Src w' g q c l (N + k) ∧ w.grownBy w' (some g)

/-- .. and that it is not nil -/
def SomePlus (w : World) (g : Nat) (q : Option Addr) (c : Nat) (l : List UInt8) (N : Nat) (k : Nat) (e : Ending) (w' : World) : Prop :=
  ∃ v bs, e = .returned v ∧ bs.length = k ∧ Own w' w.heap.size v bs ∧ Src w' g q c l (N + k) ∧ w.grownBy w' (some g) ∧ v ≠ .slice none 0 0

/-- the loop's relation -/
def SomeRel (w : World) (g : Nat) (q : Option Addr) (c : Nat) (l : List UInt8) (N k : Nat) (n out : Value) (wr : World) : Prop :=
  ∃ (j : Nat) (bs : List UInt8), n = .int .i64 j ∧ bs.length + j = k ∧ Own wr w.heap.size out bs ∧ Src wr g q c l (N + bs.length) ∧ w.grownBy wr (some g) ∧ out ≠ .slice none 0 0

theorem Own.next {w2 : World} {base : Nat} {v' : Value} {bs : List UInt8} {x : Nat} (hx : x < 256) (h : w2.ownsRow base 5 1 v' (bs.length + 1) (bs.map (fun x : UInt8 => Value.int .u8 (x.toNat : Int)) ++ [.int .u8 (x : Int)])) :
    Own w2 base v' (bs ++ [UInt8.ofNat x]) := by
  have e : ((UInt8.ofNat x).toNat : Int) = (x : Int) := by simp; omega
  unfold Own
  rw [List.map_append, List.length_append]
  rw [List.map_cons, List.map_nil, e]
  exact h

theorem Own.past {w : World} {base g : Nat} {v : Value} {l : List UInt8} (h : Own w base v l) (hg : g < base) : ∀ j, v.ownBlock = some j → g < j := fun j hj => Nat.lt_of_lt_of_le hg (World.ownsRow.lt h j hj).1
theorem Own.apart {w : World} {base g : Nat} {v : Value} {l : List UInt8} (h : Own w base v l) (hg : g < base) : v.ownBlock = none ∨ v.ownBlock ≠ some g :=
  .inr fun e => Nat.lt_irrefl _ (h.past hg g e)

set_option maxRecDepth 100000 in
set_option maxHeartbeats 4000000 in
theorem l1Some_plus (g : Nat) (q : Option Addr) (c N : Nat) (l : List UInt8) (k : Nat) (w : World) (h : Src w g q c l N) (hl : l.length ≤ 1048576) (hn : N + k ≤ 1000000) :
    Calls Tryd.prog 47 #[.pointer (some ⟨g, 0, none⟩), .int .i64 k] w (SomePlus w g q c l N k) := by
  have H := Lib.hid h
  have hgw := h.choose_spec.2.2
  clear h
  obtain ⟨i0, hi, hz0, hz1, hz2⟩ := info_parts Tryd.info_u8
  have HI := Lib.hid (And.intro hi (And.intro hz0 (And.intro hz1 hz2)))
  clear hi hz0 hz1 hz2
  have HN := Lib.hid (fun (M : Nat) (wr : World) (hM : M ≤ 1000000) (h : Src wr g q c l M) => l1Next_src g q c M l 256 wr h hl hM (by omega) (by omega))
  go_enter Tryd.func47, Tryd.ntmps47
  go_wp2
  go_loopw [1, 5] (fun n out wr => SomeRel w g q c l N k n out wr) (fun n _ _ => (intOf n).toNat)
  case atStart => exact ⟨k, [], rfl, by simp, own_lit w [] _ _ _ rfl rfl rfl (by simp), H.out.grown (World.grownBy_alloc w _ none) (by simp), World.grownBy_alloc w _ _, by simp⟩
  case round =>
    obtain ⟨j, bs, rfl, hj, ho, hs, hw, hnn⟩ := hrel
    have HNN := Lib.hid hnn
    clear hnn
    have HO := Lib.hid ho
    have HS := Lib.hid hs
    clear ho hs
    by_cases hlt : 0 < j
    · go_wp2_with (first | (go_at_call 48; refine (HN.out _ _ (by omega) HS.out).mono ?_; rintro e w1 ⟨v, rfl, ⟨hv0, hv1⟩, hs1, hw1⟩; obtain ⟨i, rfl⟩ := Int.eq_ofNat_of_zero_le hv0; have HS1 := Lib.hid hs1; clear hs1; have HR := Lib.hid (World.ownsRow.kept HO.out hw1 (HO.out.apart hgw))) | (at_builtin; refine wpList_append_own _ rfl _ _ 22 rfl w.heap.size 5 i0 (.int .u8 0) 1 1 Tryd.underlying22 HI.out.1 HI.out.2.1 HI.out.2.2.1 HI.out.2.2.2 rfl (by decide) _ _ _ rfl (HR.out.alloc _) ⟨w1.heap.size, 0, none⟩ 1 1 [.int .u8 (i : Int)] rfl rfl ?c1 ?c2 ?c3 ?c4 ?c5 ?_))
      case c1 =>
        intro j u hj
        match j, hj with
          | 0, hj => simp at hj; subst hj; simp [Addr.add]
          | (j + 1), hj => simp at hj
      case c2 => intro u hu; simp at hu; subst hu; rfl
      case c3 => unfold maxLen; omega
      case c4 => omega
      case c5 => have := hw.size; have := hw1.size; simp; omega
      intro v' w2 hown' hgrow hnil
      have HN' := Lib.hid hnil
      clear hnil
      have HF := Lib.hid (Own.next (by omega) hown')
      have HG := Lib.hid hgrow
      clear hown' hgrow
      go_wp2
      refine ⟨⟨j - 1, bs ++ [UInt8.ofNat i], by go_num, by simp; omega, HF.out, (HS1.out.grown (World.grownBy_alloc _ _ none) (by simp)).grown HG.out (HO.out.past hgw) |>.more (by simp; omega), grownBy_on (grownBy_on (grownBy_on hw hw1 (by simp)) (World.grownBy_alloc _ _ none) (by simp)) HG.out (fun j hj => .inl (World.ownsRow.lt HO.out j hj).1), fun e => HN'.out e⟩, by simp [intOf]; omega⟩
    · go_wp2
      have : j = 0 := by omega
      subst this
      go_ret
      exact ⟨_, bs, rfl, by omega, HO.out, HS.out.more (by omega), hw, HNN.out⟩

theorem l1Some_any (g : Nat) (q : Option Addr) (c N : Nat) (l : List UInt8) (k : Nat) (w : World) (h : Src w g q c l N) (hl : l.length ≤ 1048576) (hn : N + k ≤ 1000000) :
    Calls Tryd.prog 47 #[.pointer (some ⟨g, 0, none⟩), .int .i64 k] w (SomePost w g q c l N k) :=
  (l1Some_plus g q c N l k w h hl hn).mono fun _ _ ⟨v, bs, he, hk, ho, hs, hw, _⟩ => ⟨v, bs, he, hk, ho, hs, hw⟩

end Go.Proofs.YtjmfmdebnobogaaDoor
