/- The contract of the model's l1Digits: a number's decimal digits. -/
import Derived.Test.YtjopjddhgaiddabGreatDoorQBytesToCells
import Derived.Lib.ItoaNum
import Derived.Deep.RegionWith
import Derived.IntWalk
import Derived.Lib.MinMax
import Derived.Lib.BytesEntry
namespace Go.Proofs.YtjopjddhgaiddabGreatDoor
open Go.RowKit

theorem ret_str {a b : ByteArray} (h : a = b) : Ending.returned (.string a) = .returned (.string b) := by rw [h]
/-- a digit's byte -/
def dch (x : Nat) : UInt8 := UInt8.ofNat x

theorem convert_one (w : World) (b : Nat) (x : Nat) (hx : x < 256) (hc : w.cell? ⟨b, 0, none⟩ = some (.int .u8 (x : Int))) :
    (convert 24 9 (.slice (some ⟨b, 0, none⟩) 1 1)).run Tryz.prog w = .ok (.string ⟨#[dch x]⟩) w :=
  convert_str (P := Tryz.prog) Tryz.underlying24 Tryz.underlying5 Tryz.underlying9 (some ⟨b, 0, none⟩) 1 [dch x] w (B := b + 1)
    (fun _ => ⟨b, 0, rfl, by omega, fun i hi => by
      obtain rfl : i = 0 := by simpa using hi
      rw [hc]
      simp [dch]
      omega⟩)

theorem bcellD {W w1 : World} (hb : Below W.heap.size W w1) : (∀ b o, b < W.heap.size → w1.cell? ⟨b, o, none⟩ = W.cell? ⟨b, o, none⟩) ∧ (∀ b o, b < W.heap.size → w1.frozen? ⟨b, o, none⟩ = W.frozen? ⟨b, o, none⟩) :=
  ⟨fun b o h => hb.cell (p := ⟨b, o, none⟩) h, fun b o h => hb.frozen (p := ⟨b, o, none⟩) h⟩

theorem pow_le_of (n : Nat) : 2 ≤ Lib.nDigits n → 10 ^ (Lib.nDigits n - 1) ≤ n := by
  induction n using Nat.strongRecOn with
  | _ n ih =>
    intro h
    by_cases hs : n < 10
    · rw [Lib.nDigits_small hs] at h; omega
    · rw [Lib.nDigits_big hs] at h ⊢
      rw [Nat.add_sub_cancel]
      rcases Nat.lt_or_ge (Lib.nDigits (n / 10)) 2 with h1 | h1
      · have := Lib.nDigits_pos (n / 10)
        have e : Lib.nDigits (n / 10) = 1 := by omega
        rw [e]; omega
      · have h3 := ih (n / 10) (by omega) h1
        have e : Lib.nDigits (n / 10) = (Lib.nDigits (n / 10) - 1) + 1 := by omega
        rw [e, Nat.pow_succ]
        omega
theorem dec_len (n : Nat) (h : n < 100000000) : (Lib.decDigits n).length ≤ 8 := by
  rw [Lib.decDigits_length]
  have hlt := Lib.lt_pow_nDigits n
  rcases Nat.lt_or_ge (Lib.nDigits n) 9 with h1 | h1
  · omega
  · exfalso
    have : 10 ^ (Lib.nDigits n - 1) ≤ n := pow_le_of n (by omega)
    have h2 : 10 ^ 8 ≤ 10 ^ (Lib.nDigits n - 1) := Nat.pow_le_pow_right (by omega) (by omega)
    omega

theorem below_udrew {a b : World} (h : Below a.drew.heap.size a.drew b) : Below a.heap.size a b := ⟨h.os, h.tape, h.output, h.size, h.block⟩

/-- what l1Digits leaves -/
def DigPost (w : World) (n : Nat) (e : Ending) (w' : World) : Prop := e = .returned (.string ⟨(Lib.decDigits n).toArray⟩) ∧ Below w.heap.size w w'

set_option maxHeartbeats 1000000 in
theorem l1Digits_small (n : Nat) (w : World) (h : n < 10) : Calls Tryz.prog 112 #[.int .i64 n] w (DigPost w n) := by
  have HC := Lib.hid (convert_one (w.alloc (.cells #[.int .u8 ((48 + n : Nat) : Int)] 5)) w.heap.size (48 + n) (by omega) (by simp))
  have HD := Lib.hid (show Lib.decDigits n = [dch (48 + n)] from Lib.decDigits_one h)
  have h1 : (n : Int) < 10 := by omega
  have hc := HC.out
  rw [show ((48 + n : Nat) : Int) = 48 + (n : Int) by omega] at hc
  go_enter Tryz.func112, Tryz.ntmps112
  go_wp2_with fail
  go_ret
  exact ⟨ret_str (by rw [HD.out]), below_mk _ _⟩

set_option maxRecDepth 100000 in
set_option maxHeartbeats 2000000 in
theorem l1Digits_any (n : Nat) : ∀ w : World, n ≤ 99999999 → Calls Tryz.prog 112 #[.int .i64 n] w (DigPost w n) := by
  induction n using Nat.strongRecOn with
  | _ n ih =>
    intro w hn
    by_cases h : n < 10
    · exact l1Digits_small n w h
    have h1 : ¬ (n : Int) < 10 := by omega
    have IH := Lib.hid (fun w => ih (n / 10) (by omega) w (by omega))
    have HD := Lib.hid (show Lib.decDigits n = Lib.decDigits (n / 10) ++ [dch (48 + n % 10)] by rw [Lib.decDigits, dif_neg h]; rfl)
    have hcv : ∀ (w : World) (b : Nat), w.cell? ⟨b, 0, none⟩ = some (.int .u8 (48 + (n : Int) % 10)) → (convert 24 9 (.slice (some ⟨b, 0, none⟩) 1 1)).run Tryz.prog w = .ok (.string ⟨#[dch (48 + n % 10)]⟩) w := fun w b hc =>
      convert_one w b (48 + n % 10) (by omega) (by rw [hc]; rfl)
    have IH2 : Hid (∀ w, Calls Tryz.prog 112 #[.int .i64 ((n : Int) / 10)] w (DigPost w (n / 10))) := fun w => by
      have := IH.out w
      rwa [show ((n / 10 : Nat) : Int) = (n : Int) / 10 by omega] at this
    clear ih IH
    have hlen : (Lib.decDigits (n / 10)).length ≤ 8 := dec_len _ (by omega)
    have hadd := run_string_add_lists (P := Tryz.prog) (x := Lib.decDigits (n / 10)) (y := [dch (48 + n % 10)]) (hx := by omega) (hy := by simp)
    have hw1 : IntKind.i64.wrap ((n : Int) / 10) = (n : Int) / 10 := IntWalk.i64_in _ ⟨by omega, by omega⟩
    have hw2 : IntKind.i64.wrap (48 + (n : Int) % 10) = 48 + (n : Int) % 10 := IntWalk.i64_in _ ⟨by omega, by omega⟩
    have hw3 : IntKind.u8.wrap (48 + (n : Int) % 10) = 48 + (n : Int) % 10 := IntWalk.u8_in _ ⟨by omega, by omega⟩
    have hw0 : (n : Int).tmod 10 = (n : Int) % 10 := Int.tmod_eq_emod_of_nonneg (by omega)
    go_enter Tryz.func112, Tryz.ntmps112
    go_wp2_with fail
    go_region_with (go_at_call 112; refine (IH2.out _).mono ?_; rintro e w1 ⟨rfl, hb1⟩; obtain ⟨hc1, hf1⟩ := bcellD hb1)
    all_goals
      clear hw0 hw1 hw2 hw3 hadd hcv hc1 hf1
      go_wp2_with fail
      go_ret
      refine ⟨ret_str (by rw [HD.out]), ?_⟩
    · exact (below_udrew hb1).alloc (below_udrew hb1).size _
    · exact (below_mk w _).trans ((below_udrew hb1).mono (by simp))
    · exact (below_mk w _).trans ((below_udrew hb1).mono (by simp))

end Go.Proofs.YtjopjddhgaiddabGreatDoor

/- The plain facts on decimal digits, and the contracts of NumberOf (of the model and of the program). -/
namespace Go.Proofs.YtjopjddhgaiddabGreatDoor
open Go.RowKit

/-- a byte is a decimal digit -/
def dgt (b : UInt8) : Bool := decide (48 ≤ (b.toNat : Int)) && decide ((b.toNat : Int) ≤ 57)
/-- one digit more, at most 9999999 -/
def numStep (v : Int) (b : UInt8) : Int := if v * 10 + ((b.toNat : Int) - 48) < 9999999 then v * 10 + ((b.toNat : Int) - 48) else 9999999
/-- the number of a row of digits -/
def numV (l : List UInt8) : Int := l.foldl numStep 0
def dgts (l : List UInt8) : Bool := l.all dgt

theorem dgt_range {b : UInt8} (h : dgt b = true) : 48 ≤ (b.toNat : Int) ∧ (b.toNat : Int) ≤ 57 := by
  simpa [dgt] using h
theorem numStep_range {v : Int} {b : UInt8} (h : dgt b = true) (h0 : 0 ≤ v) (h1 : v ≤ 9999999) : 0 ≤ numStep v b ∧ numStep v b ≤ 9999999 := by
  have := dgt_range h
  unfold numStep
  split <;> omega
theorem numV_snoc (l : List UInt8) (b : UInt8) : numV (l ++ [b]) = numStep (numV l) b := by simp [numV]
theorem foldl_range (l : List UInt8) (h : dgts l = true) : ∀ v : Int, 0 ≤ v → v ≤ 9999999 → 0 ≤ l.foldl numStep v ∧ l.foldl numStep v ≤ 9999999 := by
  induction l with
  | nil => intro v h0 h1; exact ⟨h0, h1⟩
  | cons b l ih =>
    intro v h0 h1
    simp only [dgts, List.all_cons, Bool.and_eq_true] at h
    have := numStep_range h.1 h0 h1
    exact ih h.2 _ this.1 this.2
theorem numV_range {l : List UInt8} (h : dgts l = true) : 0 ≤ numV l ∧ numV l ≤ 9999999 := foldl_range l h 0 (by omega) (by omega)
theorem numV_take (l : List UInt8) (k : Nat) (h : k < l.length) : numV (l.take (k + 1)) = numStep (numV (l.take k)) (l.getD k 0) := by
  rw [List.take_succ_eq_append_getElem h, numV_snoc, List.getD_eq_getElem?_getD, List.getElem?_eq_getElem h]
  rfl
theorem dgts_take (l : List UInt8) (k : Nat) (h : k < l.length) : dgts (l.take (k + 1)) = (dgts (l.take k) && dgt (l.getD k 0)) := by
  unfold dgts
  rw [List.take_succ_eq_append_getElem h, List.all_append, List.getD_eq_getElem?_getD, List.getElem?_eq_getElem h]
  simp
theorem dgts_no (l : List UInt8) (k : Nat) (h : k < l.length) (hz : dgt (l.getD k 0) = false) : dgts l = false := by
  rw [List.getD_eq_getElem?_getD, List.getElem?_eq_getElem h] at hz
  simp only [dgts, List.all_eq_false]
  exact ⟨_, List.getElem_mem h, by simpa using hz⟩
theorem dgts_at {l : List UInt8} (h : dgts l = true) (k : Nat) (hk : k < l.length) : dgt (l.getD k 0) = true := by
  rw [List.getD_eq_getElem?_getD, List.getElem?_eq_getElem hk]
  simp only [dgts, List.all_eq_true] at h
  exact h _ (List.getElem_mem hk)

set_option maxHeartbeats 400000 in
theorem implIsDigit_any (b : UInt8) (w : World) :
    Calls Tryz.prog 170 #[.int .u8 (b.toNat : Int)] w fun e w' => e = .returned (.bool (dgt b)) ∧ w = w' := by
  by_cases h1 : 48 ≤ (b.toNat : Int)
  · go_enter Tryz.func170, Tryz.ntmps170
    go_wp2
    all_goals
      go_ret
      exact ⟨ret_bool (by simp [dgt, *]), rfl⟩
  · go_enter Tryz.func170, Tryz.ntmps170
    go_wp2
    go_ret
    exact ⟨ret_bool (by simp [dgt]; omega), rfl⟩

set_option maxHeartbeats 400000 in
theorem l2Digit_any (b : UInt8) (w : World) :
    Calls Tryz.prog 141 #[.int .u8 (b.toNat : Int)] w fun e w' => e = .returned (.bool (dgt b)) ∧ w = w' := by
  by_cases h1 : 48 ≤ (b.toNat : Int)
  · go_enter Tryz.func141, Tryz.ntmps141
    go_wp2
    all_goals
      go_ret
      exact ⟨ret_bool (by simp [dgt, *]), rfl⟩
  · go_enter Tryz.func141, Tryz.ntmps141
    go_wp2
    go_ret
    exact ⟨ret_bool (by simp [dgt]; omega), rfl⟩

/-- the lesser of two numbers -/
def lesser (a b : Int) : Int := if a < b then a else b

set_option maxHeartbeats 400000 in
theorem l1Min_any (a b : Int) (w : World) :
    Calls Tryz.prog 84 #[.int .i64 a, .int .i64 b] w fun e w' => e = .returned (.int .i64 (lesser a b)) ∧ w = w' := by
  by_cases h1 : a < b
  · go_enter Tryz.func84, Tryz.ntmps84
    go_wp2
    go_ret
    exact ⟨ret_int (by simp [lesser, h1]), rfl⟩
  · go_enter Tryz.func84, Tryz.ntmps84
    go_wp2
    go_ret
    exact ⟨ret_int (by unfold lesser; rw [if_neg (by omega)]), rfl⟩

theorem numStep_lesser (v : Int) (b : UInt8) : numStep v b = lesser (v * 10 + ((b.toNat : Int) - 48)) 9999999 := rfl

set_option maxHeartbeats 1000000 in
theorem l2Number_any (p : Option Addr) (c : Nat) (l : List UInt8) (w : World) {B : Nat} (h : Bs w B p l) (hd : dgts l = true) (hl : l.length ≤ 1048576) :
    Calls Tryz.prog 153 #[.slice p l.length c] w fun e w' => e = .returned (.int .i64 (numV l)) ∧ w = w' := by
  have H := Lib.hid h
  have HD := Lib.hid hd
  clear h hd
  go_enter Tryz.func153, Tryz.ntmps153
  go_wp2
  go_loop [3, 4, 7] (fun v _ i => ∃ k : Nat, k ≤ l.length ∧ i = .int .i64 k ∧ dgts (l.take k) = true ∧ v = .int .i64 (numV (l.take k))) (fun _ _ i => l.length - (intOf i).toNat)
  case atStart => exact ⟨0, by omega, rfl, rfl, rfl⟩
  case round =>
    obtain ⟨k, hk, rfl, ht, rfl⟩ := hrel
    obtain ⟨hv0, hv1⟩ := numV_range ht
    have HT := Lib.hid ht
    clear ht
    by_cases hlt : k < l.length
    · obtain ⟨b, off, rfl, _, hc⟩ := H.out (by intro e; simp [e] at hlt)
      have hc0 := hc k hlt
      have hdk := dgts_at HD.out k hlt
      obtain ⟨hb0, hb1⟩ := dgt_range hdk
      have HS := Lib.hid (numV_take l k hlt)
      have HN := Lib.hid (dgts_take l k hlt)
      have HK := Lib.hid hdk
      clear hc hdk
      generalize l.getD k 0 = x at *
      generalize numV (l.take k) = v at *
      go_wp2_with (go_at_call 84; refine (l1Min_any _ _ _).mono ?_; rintro e w' ⟨rfl, rfl⟩)
      refine ⟨⟨k + 1, by omega, by go_num, by rw [HN.out, HT.out, HK.out]; rfl, ?_⟩, by simp [intOf]; omega⟩
      rw [HS.out, numStep_lesser]
      congr 2
      omega
    · go_wp2
      go_ret
      exact ⟨ret_int (by rw [List.take_of_length_le (by omega)]), rfl⟩

/-- an IntResult as a value -/
def irV (code v : Int) : Value := .agg #[.int .i64 code, .int .i64 v]
def numCode (l : List UInt8) : Int := if dgts l = true then 0 else 5
def numRes (l : List UInt8) : Int := if dgts l = true then numV l else 0
theorem numRes_range (l : List UInt8) : 0 ≤ numRes l ∧ numRes l ≤ 9999999 := by
  unfold numRes
  split
  · exact numV_range (by assumption)
  · omega

/-- what a call leaves that hands back a code and a number -/
def RetIr (w : World) (code v : Int) (e : Ending) (w' : World) : Prop := e = .returned (irV code v) ∧ Below w.heap.size w w'



set_option maxHeartbeats 1000000 in
theorem implNumberOf_any (p : Option Addr) (c : Nat) (l : List UInt8) (w : World) (h : Bs w w.heap.size p l) (hl : l.length ≤ 1048576) :
    Calls Tryz.prog 172 #[.slice p l.length c] w (RetIr w (numCode l) (numRes l)) := by
  have H := Lib.hid h
  clear h
  go_enter Tryz.func172, Tryz.ntmps172
  go_wp2
  go_loop [3, 5, 8] (fun v _ i => ∃ k : Nat, k ≤ l.length ∧ i = .int .i64 k ∧ dgts (l.take k) = true ∧ v = .int .i64 (numV (l.take k))) (fun _ _ i => l.length - (intOf i).toNat)
  case atStart => exact ⟨0, by omega, rfl, rfl, rfl⟩
  case round =>
    obtain ⟨k, hk, rfl, ht, rfl⟩ := hrel
    obtain ⟨hv0, hv1⟩ := numV_range ht
    have HT := Lib.hid ht
    clear ht
    by_cases hlt : k < l.length
    · obtain ⟨b, off, rfl, hb, hc⟩ := H.out (by intro e; simp [e] at hlt)
      have hc0 := hc k hlt
      have HS := Lib.hid (numV_take l k hlt)
      have HN := Lib.hid (dgts_take l k hlt)
      have HX := Lib.hid (dgts_no l k hlt)
      clear hc
      generalize l.getD k 0 = x at *
      generalize numV (l.take k) = v at *
      cases hx : dgt x with
      | true =>
        obtain ⟨hb0, hb1⟩ := dgt_range hx
        have HK := Lib.hid hx
        go_wp2_with (go_at_call 170; refine (implIsDigit_any _ _).mono ?_; rintro e w' ⟨rfl, rfl⟩)
        refine ⟨⟨k + 1, by omega, by go_num, by rw [HN.out, HT.out, HK.out]; rfl, ?_⟩, by simp [intOf]; omega⟩
        rw [HS.out, numStep]
        congr 1
        split <;> omega
      | false =>
        have HK := Lib.hid hx
        go_wp2_with (go_at_call 170; refine (implIsDigit_any _ _).mono ?_; rintro e w' ⟨rfl, rfl⟩)
        have hz := HX.out HK.out
        refine bodyPost_ret (v := irV 5 0) (by simp [results, Tryz.results172, irV, go_sem]) rfl ⟨by simp [numCode, numRes, hz], (Below.refl _ _).alloc (Nat.le_refl _) _⟩
    · have hz : dgts l = true := by have := HT.out; rwa [List.take_of_length_le (by omega)] at this
      have HZ := Lib.hid hz
      clear hz
      go_wp2
      refine bodyPost_ret (v := irV 0 (numV l)) (by simp [results, Tryz.results172, irV, go_sem]; rw [List.take_of_length_le (by omega)]) rfl ⟨by simp [numCode, numRes, HZ.out], (Below.refl _ _).alloc (Nat.le_refl _) _⟩



end Go.Proofs.YtjopjddhgaiddabGreatDoor

/- Pieces between semicolons: the plain facts, and the contracts of bytes.IndexByte, Index and Cut at a separator of one byte. -/
namespace Go.Proofs.YtjopjddhgaiddabGreatDoor
open Go.RowKit

/-- what lies between the semicolons: one piece at least -/
def sp : List UInt8 → List (List UInt8)
  | [] => [[]]
  | c :: r => if c = 59 then [] :: sp r else match sp r with
    | p :: ps => (c :: p) :: ps
    | [] => [[c]]
/-- the pieces: none where there is no byte -/
def pieces (l : List UInt8) : List (List UInt8) := if l = [] then [] else sp l

theorem sp_none : ∀ (l : List UInt8), (59 : UInt8) ∉ l → sp l = [l]
  | [], _ => rfl
  | c :: r, h => by
    simp at h
    rw [sp, if_neg (fun e => h.1 e.symm), sp_none r h.2]
theorem sp_some : ∀ (a b : List UInt8), (59 : UInt8) ∉ a → sp (a ++ 59 :: b) = a :: sp b
  | [], b, _ => by simp [sp]
  | c :: a, b, h => by
    simp at h
    rw [List.cons_append, sp, if_neg (fun e => h.1 e.symm), sp_some a b h.2]
theorem sp_ne (l : List UInt8) : sp l ≠ [] := by
  cases l with
  | nil => simp [sp]
  | cons c r =>
    rw [sp]
    split
    · simp
    · split <;> simp

/-- the first semicolon -/
theorem indexByte_cases : ∀ (l : List UInt8), (Lib.indexByte l 59 = -1 ∧ (59 : UInt8) ∉ l) ∨ ∃ a b, l = a ++ 59 :: b ∧ (59 : UInt8) ∉ a ∧ Lib.indexByte l 59 = (a.length : Int)
  | [] => .inl ⟨rfl, by simp⟩
  | c :: r => by
    by_cases hc : c = 59
    · subst hc
      exact .inr ⟨[], r, rfl, by simp, by simp [Lib.indexByte]⟩
    · rcases indexByte_cases r with ⟨h1, h2⟩ | ⟨a, b, rfl, h2, h3⟩
      · refine .inl ⟨?_, ?_⟩
        · simp [Lib.indexByte, hc, h1]
        · simp [h2]; exact fun e => hc e.symm
      · refine .inr ⟨c :: a, b, rfl, ?_, ?_⟩
        · simp [h2]; exact fun e => hc e.symm
        · have : ¬ ((a.length : Int) = -1) := by omega
          simp [Lib.indexByte, hc, h3, this]

/-- a slice's address behind a cut -/
theorem Bs.cut {w : World} {B : Nat} {p : Option Addr} {l : List UInt8} (h : Bs w B p l) (k j c : Nat) (hj : j ≤ l.length) (hc : l.length ≤ c) :
    Bs w B (if c = k then p else p.map (·.add k)) ((l.take j).drop k) := by
  intro hne
  have hlen : 0 < ((l.take j).drop k).length := List.length_pos_iff.2 hne
  simp at hlen
  obtain ⟨b, off, rfl, hb, hcell⟩ := h (by intro e; simp [e] at hlen)
  rw [if_neg (by omega)]
  refine ⟨b, off + k, ?_, hb, fun i hi => ?_⟩
  · simp only [Option.map_some, Addr.add]
    split
    · rename_i e; simp [e]
    · rfl
  · simp at hi
    rw [Nat.add_assoc, hcell (k + i) (by omega)]
    simp [List.getD_eq_getElem?_getD, List.getElem?_drop, show k + i < j by omega]

theorem map_add_zero (p : Option Addr) : p.map (·.add 0) = p := by cases p <;> simp [Addr.add]
theorem Bs.sub {w : World} {B : Nat} {p : Option Addr} {l : List UInt8} (h : Bs w B p l) : Bs w B p l := h

theorem bytesOf_nums (l : List UInt8) : Lib.bytesOf (l.map fun x : UInt8 => (x.toNat : Int)) = l := by
  simp [Lib.bytesOf, List.map_map, Function.comp_def]

theorem run_indexByteNone {P : Program} (w : World) (a : Addr) (c : Nat) (cv : Int) :
    (Extern.BytealgIndexByte.indexByte #[.slice (some a) 0 c, .int .u8 cv]).run P w = .ok (.int .i64 (-1)) w := by
  have hs := Lib.run_indexByteString (P := P) .empty cv w
  exact hs

theorem run_index59 {P : Program} (w : World) {B : Nat} (p : Option Addr) (c : Nat) (l : List UInt8) (h : Bs w B p l) :
    (Extern.BytealgIndexByte.indexByte #[.slice p l.length c, .int .u8 59]).run P w = .ok (.int .i64 (Lib.indexByte l 59)) w := by
  by_cases hl : l = []
  · subst hl
    cases p with
    | none => exact Lib.run_indexByteNil w 0 c 59
    | some a => exact run_indexByteNone w a c 59
  · obtain ⟨b, off, rfl, _, hc⟩ := h hl
    have := Lib.run_indexByteSlice (P := P) w b off l.length c (l.map fun x : UInt8 => (x.toNat : Int)) (by simp) (fun i hi => by rw [hc i hi]; simp [hi]) 59
    rw [bytesOf_nums] at this
    exact this

set_option maxHeartbeats 1000000 in
set_option maxRecDepth 100000 in
theorem bytesIndexByte_any (p : Option Addr) (c : Nat) (l : List UInt8) (w : World) {B : Nat} (h : Bs w B p l) :
    Calls Tryz.prog 181 #[.slice p l.length c, .int .u8 59] w fun e w' => e = .returned (.int .i64 (Lib.indexByte l 59)) ∧ w = w' := by
  have H := Lib.hid h
  clear h
  go_enter Tryz.func181, Tryz.ntmps181
  go_wp2
  rw [run_callFunc_extern Tryz.func185 (by kernel_rfl) (by kernel_rfl) (by kernel_rfl) (e := Extern.BytealgIndexByte.indexByte) (by kernel_rfl), run_index59 w p c l H.out]
  simp only [Result.andThen]
  rw [Oper.upon_value]
  go_wp2
  go_ret
  exact ⟨rfl, rfl⟩

set_option maxHeartbeats 2000000 in
set_option maxRecDepth 1000000 in
theorem bytesIndex_one (p : Option Addr) (c b2 : Nat) (l : List UInt8) (w : World) {B : Nat} (h : Bs w B p l) (h2 : w.cell? ⟨b2, 0, none⟩ = some (.int .u8 59)) :
    Calls Tryz.prog 180 #[.slice p l.length c, .slice (some ⟨b2, 0, none⟩) 1 1] w fun e w' => e = .returned (.int .i64 (Lib.indexByte l 59)) ∧ w = w' := by
  have H := Lib.hid h
  clear h
  go_enter Tryz.func180, Tryz.ntmps180
  go_wp2_with (go_at_call 181; refine (bytesIndexByte_any _ _ _ _ H.out).mono ?_; rintro e w' ⟨rfl, rfl⟩)
  go_ret
  exact ⟨rfl, rfl⟩

theorem bytesIndex_len (p : Option Addr) (c b2 n : Nat) (l : List UInt8) (w : World) {B : Nat} (hn : n = l.length) (h : Bs w B p l) (h2 : w.cell? ⟨b2, 0, none⟩ = some (.int .u8 59)) :
    Calls Tryz.prog 180 #[.slice p n c, .slice (some ⟨b2, 0, none⟩) 1 1] w fun e w' => e = .returned (.int .i64 (Lib.indexByte l 59)) ∧ w = w' := by
  subst hn
  exact bytesIndex_one p c b2 l w h h2

/-- what bytes.Cut leaves -/
def CutPost (w : World) (B : Nat) (p : Option Addr) (c : Nat) (l : List UInt8) (e : Ending) (w' : World) : Prop :=
  ((59 : UInt8) ∉ l ∧ e = .returned (.tuple #[.slice p l.length c, .slice none 0 0, .bool false]) ∧ ∃ n, w' = w.drewN n) ∨
  ∃ (a b : List UInt8) (p1 p2 : Option Addr) (c2 : Nat), l = a ++ 59 :: b ∧ (59 : UInt8) ∉ a ∧ e = .returned (.tuple #[.slice p1 a.length c, .slice p2 b.length c2, .bool true]) ∧
    Bs w B p1 a ∧ Bs w B p2 b ∧ b.length ≤ c2 ∧ ∃ n, w' = w.drewN n

theorem cut_post {w w' : World} {B : Nat} {p : Option Addr} {c n : Nat} {a b : List UInt8} (h : Bs w B p (a ++ 59 :: b)) (hc : (a ++ 59 :: b).length ≤ c) (hn : (59 : UInt8) ∉ a) {p1 p2 : Option Addr} {n1 n2 c2 : Nat}
    (e1 : p1 = if c = 0 then p else p.map (·.add 0)) (e2 : p2 = if c = a.length + 1 then p else p.map (·.add (a.length + 1))) (en1 : n1 = a.length) (en2 : n2 = b.length) (ec2 : c2 = c - (a.length + 1)) (hw : w' = w.drewN n) :
    CutPost w B p c (a ++ 59 :: b) (.returned (.tuple #[.slice p1 n1 c, .slice p2 n2 c2, .bool true])) w' := by
  subst en1; subst en2
  refine .inr ⟨a, b, p1, p2, c2, rfl, hn, rfl, ?_, ?_, ?_, n, hw⟩
  · have := h.cut 0 a.length c (by simp) hc
    rw [e1]
    simpa using this
  · have := h.cut (a.length + 1) (a.length + (b.length + 1)) c (by simp) hc
    rw [e2]
    rw [List.take_of_length_le (by simp)] at this
    simpa using this
  · simp at hc; omega

set_option maxHeartbeats 2000000 in
theorem bytesCut_any (p : Option Addr) (c b2 : Nat) (l : List UInt8) (w : World) {B : Nat} (h : Bs w B p l) (hc : l.length ≤ c) (hl : l.length ≤ 1048576) (h2 : w.cell? ⟨b2, 0, none⟩ = some (.int .u8 59)) :
    Calls Tryz.prog 179 #[.slice p l.length c, .slice (some ⟨b2, 0, none⟩) 1 1] w (CutPost w B p c l) := by
  have H := Lib.hid h
  have H2 := Lib.hid h2
  clear h h2
  rcases indexByte_cases l with ⟨hi, hn⟩ | ⟨a, b, rfl, hn, hi⟩
  · have HI := Lib.hid hi
    have HN := Lib.hid hn
    clear hi hn
    go_enter Tryz.func179, Tryz.ntmps179
    go_wp2_with (go_at_call 180; refine (bytesIndex_one _ _ _ _ _ H.out H2.out).mono ?_; rw [HI.out]; rintro e w' ⟨rfl, rfl⟩)
    exact bodyPost_ret (v := .tuple #[.slice p l.length c, .slice none 0 0, .bool false]) (by simp [results, Tryz.results179, go_sem]) rfl (.inl ⟨HN.out, rfl, 0, rfl⟩)
  · have HI := Lib.hid hi
    have HC := Lib.hid (fun w' n p1 p2 n1 n2 c2 => cut_post (w' := w') (n := n) (p1 := p1) (p2 := p2) (n1 := n1) (n2 := n2) (c2 := c2) H.out hc hn)
    clear hi hn
    have hal : a.length + 1 ≤ (a ++ 59 :: b).length := by simp
    have HL := Lib.hid (show (a ++ 59 :: b).length = a.length + (b.length + 1) by simp)
    obtain ⟨m, hm⟩ : ∃ m, m = (a ++ 59 :: b).length := ⟨_, rfl⟩
    rw [← hm] at hal hl hc
    rw [show (a ++ 59 :: b).length = m from hm.symm]
    have HM := Lib.hid hm
    clear hm
    by_cases hcc : c = a.length + 1
    · have HCC := Lib.hid hcc
      subst hcc
      go_enter Tryz.func179, Tryz.ntmps179
      go_wp2_with (go_at_call 180; refine (bytesIndex_len _ _ _ _ _ _ HM.out H.out H2.out).mono ?_; rw [HI.out]; rintro e w' ⟨rfl, rfl⟩)
      go_quiet (fail)
      go_wp2
      refine bodyPost_ret (v := .tuple #[_, _, .bool true]) (by simp [results, Tryz.results179, go_sem]; exact ⟨rfl, rfl⟩) rfl ?_
      have hmm := HM.out
      rw [HL.out] at hmm
      exact HC.out _ nq _ _ _ _ _ (by rw [if_neg (by omega), map_add_zero]) (by rw [if_pos trivial]) rfl (by omega) (by omega) rfl
    · have hcd : ¬ (c = 0) := by omega
      go_enter Tryz.func179, Tryz.ntmps179
      go_wp2_with (go_at_call 180; refine (bytesIndex_len _ _ _ _ _ _ HM.out H.out H2.out).mono ?_; rw [HI.out]; rintro e w' ⟨rfl, rfl⟩)
      go_quiet (fail)
      go_wp2
      refine bodyPost_ret (v := .tuple #[_, _, .bool true]) (by simp [results, Tryz.results179, go_sem]; exact ⟨rfl, rfl⟩) rfl ?_
      have hmm := HM.out
      rw [HL.out] at hmm
      exact HC.out _ nq _ _ _ _ _ (by rw [if_neg (by omega), map_add_zero]) (by rw [if_neg (by omega)]; simp [Addr.add]) rfl (by omega) (by omega) rfl

end Go.Proofs.YtjopjddhgaiddabGreatDoor
