/- The contract of the model's l1Digits: a number's decimal digits. -/
import Derived.Test.YtjopjddhgaiddaaDoorQBytesToCells
import Derived.Lib.ItoaNum
import Derived.Deep.RegionWith
import Derived.IntWalk
namespace Go.Proofs.YtjopjddhgaiddaaDoor
open Go.RowKit

theorem ret_str {a b : ByteArray} (h : a = b) : Ending.returned (.string a) = .returned (.string b) := by rw [h]
/-- a digit's byte -/
def dch (x : Nat) : UInt8 := UInt8.ofNat x

theorem convert_one (w : World) (b : Nat) (x : Nat) (hx : x < 256) (hc : w.cell? ⟨b, 0, none⟩ = some (.int .u8 (x : Int))) :
    (convert 22 9 (.slice (some ⟨b, 0, none⟩) 1 1)).run Tryd.prog w = .ok (.string ⟨#[dch x]⟩) w :=
  convert_str (P := Tryd.prog) Tryd.underlying22 Tryd.underlying5 Tryd.underlying9 (some ⟨b, 0, none⟩) 1 [dch x] w (B := b + 1)
    (fun _ => ⟨b, 0, rfl, by omega, fun i hi => by
      obtain rfl : i = 0 := by simpa using hi
      rw [hc]
      simp [dch]
      omega⟩)

theorem bcellD {W w1 : World} (hb : Below W.heap.size W w1) : (∀ b o, b < W.heap.size → w1.cell? ⟨b, o, none⟩ = W.cell? ⟨b, o, none⟩) ∧ (∀ b o, b < W.heap.size → w1.frozen? ⟨b, o, none⟩ = W.frozen? ⟨b, o, none⟩) :=
  ⟨fun b o h => hb.cell (p := ⟨b, o, none⟩) h, fun b o h => hb.frozen (p := ⟨b, o, none⟩) h⟩

theorem pow_le_of (n : Nat) : 2 ≤ Lib.nDigits n → 10 ^ (Lib.nDigits n - 1) ≤ n := by
  induction n using Nat.strongRecOn with
  | _ n ih =>
    intro h
    by_cases hs : n < 10
    · rw [Lib.nDigits_small hs] at h; omega
    · rw [Lib.nDigits_big hs] at h ⊢
      rw [Nat.add_sub_cancel]
      rcases Nat.lt_or_ge (Lib.nDigits (n / 10)) 2 with h1 | h1
      · have := Lib.nDigits_pos (n / 10)
        have e : Lib.nDigits (n / 10) = 1 := by omega
        rw [e]; omega
      · have h3 := ih (n / 10) (by omega) h1
        have e : Lib.nDigits (n / 10) = (Lib.nDigits (n / 10) - 1) + 1 := by omega
        rw [e, Nat.pow_succ]
        omega
theorem dec_len (n : Nat) (h : n < 100000000) : (Lib.decDigits n).length ≤ 8 := by
  rw [Lib.decDigits_length]
  have hlt := Lib.lt_pow_nDigits n
  rcases Nat.lt_or_ge (Lib.nDigits n) 9 with h1 | h1
  · omega
  · exfalso
    have : 10 ^ (Lib.nDigits n - 1) ≤ n := pow_le_of n (by omega)
    have h2 : 10 ^ 8 ≤ 10 ^ (Lib.nDigits n - 1) := Nat.pow_le_pow_right (by omega) (by omega)
    omega

theorem below_udrew {a b : World} (h : Below a.drew.heap.size a.drew b) : Below a.heap.size a b := ⟨h.os, h.tape, h.output, h.size, h.block⟩

/-- what l1Digits leaves -/
def DigPost (w : World) (n : Nat) (e : Ending) (w' : World) : Prop := e = .returned (.string ⟨(Lib.decDigits n).toArray⟩) ∧ Below w.heap.size w w'

set_option maxHeartbeats 1000000 in
theorem l1Digits_small (n : Nat) (w : World) (h : n < 10) : Calls Tryd.prog 75 #[.int .i64 n] w (DigPost w n) := by
  have HC := Lib.hid (convert_one (w.alloc (.cells #[.int .u8 ((48 + n : Nat) : Int)] 5)) w.heap.size (48 + n) (by omega) (by simp))
  have HD := Lib.hid (show Lib.decDigits n = [dch (48 + n)] from Lib.decDigits_one h)
  have h1 : (n : Int) < 10 := by omega
  have hc := HC.out
  rw [show ((48 + n : Nat) : Int) = 48 + (n : Int) by omega] at hc
  go_enter Tryd.func75, Tryd.ntmps75
  go_wp2_with fail
  go_ret
  exact ⟨ret_str (by rw [HD.out]), below_mk _ _⟩

set_option maxRecDepth 100000 in
set_option maxHeartbeats 2000000 in
theorem l1Digits_any (n : Nat) : ∀ w : World, n ≤ 99999999 → Calls Tryd.prog 75 #[.int .i64 n] w (DigPost w n) := by
  induction n using Nat.strongRecOn with
  | _ n ih =>
    intro w hn
    by_cases h : n < 10
    · exact l1Digits_small n w h
    have h1 : ¬ (n : Int) < 10 := by omega
    have IH := Lib.hid (fun w => ih (n / 10) (by omega) w (by omega))
    have HD := Lib.hid (show Lib.decDigits n = Lib.decDigits (n / 10) ++ [dch (48 + n % 10)] by rw [Lib.decDigits, dif_neg h]; rfl)
    have hcv : ∀ (w : World) (b : Nat), w.cell? ⟨b, 0, none⟩ = some (.int .u8 (48 + (n : Int) % 10)) → (convert 22 9 (.slice (some ⟨b, 0, none⟩) 1 1)).run Tryd.prog w = .ok (.string ⟨#[dch (48 + n % 10)]⟩) w := fun w b hc =>
      convert_one w b (48 + n % 10) (by omega) (by rw [hc]; rfl)
    have IH2 : Hid (∀ w, Calls Tryd.prog 75 #[.int .i64 ((n : Int) / 10)] w (DigPost w (n / 10))) := fun w => by
      have := IH.out w
      rwa [show ((n / 10 : Nat) : Int) = (n : Int) / 10 by omega] at this
    clear ih IH
    have hlen : (Lib.decDigits (n / 10)).length ≤ 8 := dec_len _ (by omega)
    have hadd := run_string_add_lists (P := Tryd.prog) (x := Lib.decDigits (n / 10)) (y := [dch (48 + n % 10)]) (hx := by omega) (hy := by simp)
    have hw1 : IntKind.i64.wrap ((n : Int) / 10) = (n : Int) / 10 := IntWalk.i64_in _ ⟨by omega, by omega⟩
    have hw2 : IntKind.i64.wrap (48 + (n : Int) % 10) = 48 + (n : Int) % 10 := IntWalk.i64_in _ ⟨by omega, by omega⟩
    have hw3 : IntKind.u8.wrap (48 + (n : Int) % 10) = 48 + (n : Int) % 10 := IntWalk.u8_in _ ⟨by omega, by omega⟩
    have hw0 : (n : Int).tmod 10 = (n : Int) % 10 := Int.tmod_eq_emod_of_nonneg (by omega)
    go_enter Tryd.func75, Tryd.ntmps75
    go_wp2_with fail
    go_region_with (go_at_call 75; refine (IH2.out _).mono ?_; rintro e w1 ⟨rfl, hb1⟩; obtain ⟨hc1, hf1⟩ := bcellD hb1)
    all_goals
      clear hw0 hw1 hw2 hw3 hadd hcv hc1 hf1
      go_wp2_with fail
      go_ret
      refine ⟨ret_str (by rw [HD.out]), ?_⟩
    · exact (below_udrew hb1).alloc (below_udrew hb1).size _
    · exact (below_mk w _).trans ((below_udrew hb1).mono (by simp))
    · exact (below_mk w _).trans ((below_udrew hb1).mono (by simp))

end Go.Proofs.YtjopjddhgaiddaaDoor
