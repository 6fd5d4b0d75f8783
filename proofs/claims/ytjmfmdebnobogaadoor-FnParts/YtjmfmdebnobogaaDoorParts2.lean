/- The plain facts on the parts of a control sequence; the contracts of bodySize, isFinal, l2Numbers. -/
import Derived.Test.YtjmfmdebnobogaaDoorNumbersOf
import Derived.Laws.OwnMore
namespace Go.Proofs.YtjmfmdebnobogaaDoor
open Go.RowKit

/-- a byte that may stand ahead of the final byte -/
def bod (b : UInt8) : Bool := dgt b || b == 59
/-- how many such bytes come first -/
def bsz : List UInt8 → Nat
  | [] => 0
  | c :: r => if bod c = true then bsz r + 1 else 0

theorem bsz_stop : ∀ (l : List UInt8) (k : Nat), k ≤ l.length → (∀ i, i < k → bod (l.getD i 0) = true) → (k = l.length ∨ bod (l.getD k 0) = false) → bsz l = k
  | [], k, hk, _, _ => by simp at hk; subst hk; rfl
  | c :: r, 0, _, _, h => by
    rcases h with h | h
    · simp at h
    · simp at h; simp [bsz, h]
  | c :: r, k + 1, hk, ha, h => by
    have h0 := ha 0 (by omega)
    simp at h0
    rw [bsz, if_pos h0, bsz_stop r k (by simpa using hk) (fun i hi => by have := ha (i + 1) (by omega); simpa using this) (by rcases h with h | h; exact .inl (by simpa using h); exact .inr (by simpa using h))]
theorem bsz_le : ∀ (l : List UInt8), bsz l ≤ l.length
  | [] => Nat.le_refl _
  | c :: r => by
    rw [bsz]
    split
    · have := bsz_le r; simp; omega
    · simp
theorem bsz_all : ∀ (l : List UInt8), ∀ x ∈ l.take (bsz l), bod x = true
  | [], x, hx => by simp at hx
  | c :: r, x, hx => by
    rw [bsz] at hx
    split at hx
    · rw [List.take_succ_cons] at hx
      rcases List.mem_cons.1 hx with rfl | h
      · assumption
      · exact bsz_all r x h
    · simp at hx
theorem sp_dgts : ∀ (l : List UInt8), (∀ x ∈ l, bod x = true) → ∀ q ∈ sp l, dgts q = true
  | [], _, q, hq => by simp [sp] at hq; subst hq; rfl
  | c :: r, h, q, hq => by
    have ih := sp_dgts r (fun x hx => h x (List.mem_cons_of_mem _ hx))
    rw [sp] at hq
    split at hq
    · rcases List.mem_cons.1 hq with rfl | hq
      · rfl
      · exact ih q hq
    · rename_i hc
      have hd : dgt c = true := by
        have := h c (by simp)
        simpa [bod, hc] using this
      split at hq
      · rename_i p ps he
        rcases List.mem_cons.1 hq with rfl | hq
        · have := ih p (by rw [he]; simp)
          simp only [dgts, List.all_cons, hd, Bool.true_and]
          exact this
        · exact ih q (by rw [he]; exact List.mem_cons_of_mem _ hq)
      · simp at hq; subst hq; simp [dgts, hd]
theorem numsOf_numV (l : List UInt8) (h : ∀ x ∈ l, bod x = true) : numsOf l = (pieces l).map numV := by
  unfold numsOf
  apply List.map_congr_left
  intro q hq
  have : dgts q = true := by
    unfold pieces at hq
    split at hq
    · simp at hq
    · exact sp_dgts l h q hq
  simp [numRes, this]

/-- a final byte -/
def finl (b : UInt8) : Bool := decide (64 ≤ (b.toNat : Int)) && decide ((b.toNat : Int) ≤ 126)
theorem finl_lo {x : UInt8} (h : (x.toNat : Int) < 64) : finl x = false := by simp [finl]; omega
theorem finl_hi {x : UInt8} (h : 126 < (x.toNat : Int)) : finl x = false := by simp [finl]; omega
theorem finl_in {x : UInt8} (h : ¬ (x.toNat : Int) < 64) (h2 : ¬ 126 < (x.toNat : Int)) : finl x = true := by simp [finl]; omega

set_option maxHeartbeats 400000 in
theorem implIsFinal_any (b : UInt8) (w : World) :
    Calls Tryd.prog 70 #[.int .u8 (b.toNat : Int)] w fun e w' => e = .returned (.bool (finl b)) ∧ w = w' := by
  by_cases h1 : 64 ≤ (b.toNat : Int)
  · go_enter Tryd.func70, Tryd.ntmps70
    go_wp2
    all_goals
      go_ret
      exact ⟨ret_bool (by simp [finl, *]), rfl⟩
  · go_enter Tryd.func70, Tryd.ntmps70
    go_wp2
    go_ret
    exact ⟨ret_bool (by simp [finl]; omega), rfl⟩

theorem u8_eq59 (x : UInt8) : ((x.toNat : Int) == 59) = (x == 59) := by
  rw [Bool.eq_iff_iff]
  simp [← UInt8.toNat_inj]
  omega
theorem u8_ne59 (x : UInt8) : ((x.toNat : Int) != 59) = (x != 59) := by
  simp only [bne, u8_eq59]

def BszRel (l : List UInt8) (i : Value) : Prop := ∃ k : Nat, k ≤ l.length ∧ i = .int .i64 k ∧ ∀ j, j < k → bod (l.getD j 0) = true

set_option maxHeartbeats 1000000 in
theorem bodySize_any (p : Option Addr) (c : Nat) (l : List UInt8) (w : World) {B : Nat} (h : Bs w B p l) (hl : l.length ≤ 1048576) :
    Calls Tryd.prog 69 #[.slice p l.length c] w fun e w' => e = .returned (.int .i64 (bsz l)) ∧ w = w' := by
  have H := Lib.hid h
  clear h
  go_enter Tryd.func69, Tryd.ntmps69
  go_wp2
  go_loop [3, 4, 7] (fun _ _ i => BszRel l i) (fun _ _ i => l.length - (intOf i).toNat)
  case atStart => exact ⟨0, by omega, rfl, fun j hj => by omega⟩
  case round =>
    obtain ⟨k, hk, rfl, ht⟩ := hrel
    have HT := Lib.hid ht
    clear ht
    by_cases hlt : k < l.length
    · obtain ⟨b, off, rfl, hb, hc⟩ := H.out (by intro e; simp [e] at hlt)
      have hc0 := hc k hlt
      clear hc
      have HX := Lib.hid (show bod (l.getD k 0) = (dgt (l.getD k 0) || (l.getD k 0) == 59) from rfl)
      have HS := Lib.hid (fun h => bsz_stop l k hk HT.out h)
      generalize hx : l.getD k 0 = x at *
      have HXX := Lib.hid hx
      clear hx
      cases hd : dgt x with
      | true =>
        have HD := Lib.hid hd
        go_wp2_with (go_at_call 68; refine (implIsDigit_any _ _).mono ?_; rintro e w' ⟨rfl, rfl⟩)
        refine ⟨⟨k + 1, by omega, by go_num, fun j hj => ?_⟩, by simp [intOf]; omega⟩
        rcases Nat.lt_or_ge j k with h | h
        · exact HT.out j h
        · obtain rfl : j = k := by omega
          rw [HXX.out, HX.out, HD.out]; rfl
      | false =>
        have HD := Lib.hid hd
        have h59 := u8_ne59 x
        cases he : (x == 59) with
        | true =>
          have h59' : ((x.toNat : Int) != 59) = false := by rw [h59, bne, he]; rfl
          have HE := Lib.hid he
          clear h59 he
          go_wp2_with (go_at_call 68; refine (implIsDigit_any _ _).mono ?_; rintro e w' ⟨rfl, rfl⟩)
          refine ⟨⟨k + 1, by omega, by go_num, fun j hj => ?_⟩, by simp [intOf]; omega⟩
          rcases Nat.lt_or_ge j k with h | h
          · exact HT.out j h
          · obtain rfl : j = k := by omega
            rw [HXX.out, HX.out, HE.out]; simp
        | false =>
          have h59' : ((x.toNat : Int) != 59) = true := by rw [h59, bne, he]; rfl
          have HE := Lib.hid he
          clear h59 he
          go_wp2_with (go_at_call 68; refine (implIsDigit_any _ _).mono ?_; rintro e w' ⟨rfl, rfl⟩)
          go_ret
          exact ⟨ret_int (by rw [HS.out (.inr (by rw [HX.out, HD.out, HE.out]; rfl))]), rfl⟩
    · obtain rfl : k = l.length := by omega
      go_wp2
      go_ret
      exact ⟨ret_int (by rw [bsz_stop l l.length (Nat.le_refl _) HT.out (.inl rfl)]), rfl⟩

end Go.Proofs.YtjmfmdebnobogaaDoor
