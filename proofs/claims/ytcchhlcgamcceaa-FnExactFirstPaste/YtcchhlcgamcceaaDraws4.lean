/- l1Copy, l1Event, DrawSameBytes. -/
import Derived.Test.YtcchhlcgamcceaaDraws3
namespace Go.Proofs.Ytcchhlcgamcceaa
open Go.RowKit

set_option maxRecDepth 100000 in
set_option maxHeartbeats 2000000 in
theorem l1Copy_nil (q : Option Addr) (c : Nat) (w : World) :
    Calls Try.prog 84 #[.slice q 0 c] w (NewOwn w []) := by
  have HO := Lib.hid (own_lit w [] #[] w.heap.size 0 rfl rfl rfl (by simp))
  cases q
  all_goals
    go_enter Try.func84, Try.ntmps84
    go_wp2
    go_ret
    exact ⟨_, rfl, HO.out, (Below.refl _ _).alloc (Nat.le_refl _) _⟩

set_option maxRecDepth 100000 in
set_option maxHeartbeats 2000000 in
theorem l1Copy_some (b off c : Nat) (l : List UInt8) (w : World) (hb : b < w.heap.size) (hl : l.length ≤ 1048576) (hc : ∀ i, i < l.length → w.cell? ⟨b, off + i, none⟩ = some (.int .u8 ((l.getD i 0).toNat : Int))) :
    Calls Try.prog 84 #[.slice (some ⟨b, off, none⟩) l.length c] w (NewOwn w l) := by
  have HO := Lib.hid (own_lit w [] #[] w.heap.size 0 rfl rfl rfl (by simp))
  have HC := Lib.hid hc
  clear hc
  obtain ⟨i0, hi, hz0, hz1, hz2⟩ := info_parts Try.info_u8
  have HI := Lib.hid (And.intro hi (And.intro hz0 (And.intro hz1 hz2)))
  clear hi hz0 hz1 hz2
  go_enter Try.func84, Try.ntmps84
  go_wp2_with (at_builtin; refine wpList_append_own _ rfl _ _ 22 rfl w.heap.size 5 i0 (.int .u8 0) 1 1 Try.underlying22 HI.out.1 HI.out.2.1 HI.out.2.2.1 HI.out.2.2.2 rfl (by decide) _ _ _ rfl HO.out ⟨b, off, none⟩ l.length c (l.map fun x : UInt8 => Value.int .u8 (x.toNat : Int)) rfl (by simp) ?c1 ?c2 ?c3 ?c4 ?c5 ?_)
  case c1 =>
    intro j u hj
    have hlt : j < l.length := by
      rcases Nat.lt_or_ge j l.length with h | h
      · exact h
      · rw [List.getElem?_eq_none (by simpa using h)] at hj; cases hj
    have ea : (⟨b, off, none⟩ : Addr).add j = ⟨b, off + j, none⟩ := by simp [Addr.add]
    rw [ea]
    refine (World.cell?_alloc_lt w _ _ hb).trans ((HC.out j hlt).trans ?_)
    simp [hlt] at hj ⊢
    exact hj
  case c2 => intro u hu; simp at hu; obtain ⟨x, _, rfl⟩ := hu; rfl
  case c3 => simp [maxLen]; omega
  case c4 => simp; omega
  case c5 => simp
  intro v' w2 hown' hgrow _
  have HF := Lib.hid hown'
  have HG := Lib.hid hgrow
  clear hown' hgrow
  go_wp2
  go_ret
  exact ⟨_, rfl, by simpa [Own] using HF.out, ((Below.refl _ _).alloc (Nat.le_refl _) _).grown HG.out (by simp) (fun k hk => (HO.out.lt k hk).1)⟩

theorem l1Copy_any (q : Option Addr) (c : Nat) (l : List UInt8) (w : World) (h : Bs w w.heap.size q l) (hl : l.length ≤ 1048576) :
    Calls Try.prog 84 #[.slice q l.length c] w (NewOwn w l) := by
  by_cases hl0 : l = []
  · subst hl0
    exact l1Copy_nil q c w
  · obtain ⟨b, off, rfl, hb, hc⟩ := h hl0
    exact l1Copy_some b off c l w hb hl hc

end Go.Proofs.Ytcchhlcgamcceaa
