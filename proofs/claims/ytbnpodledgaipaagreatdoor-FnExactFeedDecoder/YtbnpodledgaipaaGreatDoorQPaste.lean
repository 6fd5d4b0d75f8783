/- Pastes: where a paste may end; certainSize, the model's l3Until; pasteToken, the model's l3Pasted. -/
import Derived.Test.YtbnpodledgaipaaGreatDoorQCut0
import Derived.Test.YtbnpodledgaipaaGreatDoorQDrawsToDraws7
import Derived.Test.YtbnpodledgaipaaGreatDoorQNumb
import Derived.Lib.SlBytesConst
import Derived.Deep.QuietTactic
import Derived.BigQuiet
namespace Go.Proofs.YtbnpodledgaipaaGreatDoor
open Go.RowKit

theorem Bs.tail_lt {w : World} {B : Nat} {p : Option Addr} {l : List UInt8} (h : Bs w B p l) (k : Nat) (hk : k < l.length) : Bs w B (p.map (·.add k)) (l.drop k) := by
  have := h.tail k l.length (Nat.le_refl _)
  rwa [if_neg (by omega)] at this

def endB : List UInt8 := [27, 91, 50, 48, 49, 126]
/-- the end of a paste stands here, or a beginning of it that is the last of all -/
def stops (r : List UInt8) : Bool := pre endB r || pre r endB
/-- the first such place -/
def unt : List UInt8 → Nat
  | [] => 0
  | x :: r => if stops (x :: r) = true then 0 else unt r + 1

theorem unt_le : ∀ l : List UInt8, unt l ≤ l.length
  | [] => Nat.le_refl _
  | x :: r => by
    unfold unt
    split
    · exact Nat.zero_le _
    · have := unt_le r; simp; omega
theorem unt_at : ∀ (l : List UInt8) (j : Nat), j < l.length → (∀ i, i < j → stops (l.drop i) = false) → stops (l.drop j) = true → unt l = j
  | [], j, h, _, _ => by simp at h
  | x :: r, 0, _, _, hs => by unfold unt; rw [if_pos (by simpa using hs)]
  | x :: r, j + 1, h, hn, hs => by
    have h0 := hn 0 (by omega)
    unfold unt
    rw [if_neg (by simp at h0; simp [h0]), unt_at r j (by simpa using h) (fun i hi => by simpa using hn (i + 1) (by omega)) (by simpa using hs)]
theorem unt_all : ∀ (l : List UInt8), (∀ i, i < l.length → stops (l.drop i) = false) → unt l = l.length
  | [], _ => rfl
  | x :: r, hn => by
    have h0 := hn 0 (by simp)
    unfold unt
    rw [if_neg (by simp at h0; simp [h0]), unt_all r (fun i hi => by simpa using hn (i + 1) (by simpa using hi))]
    simp
theorem unt_stops : ∀ (l : List UInt8), unt l < l.length → stops (l.drop (unt l)) = true
  | [], h => by simp at h
  | x :: r, h => by
    by_cases hs : stops (x :: r) = true
    · rw [show unt (x :: r) = 0 by unfold unt; rw [if_pos hs]]
      simpa using hs
    · have e : unt (x :: r) = unt r + 1 := by
        rw [unt]; rw [if_neg hs]
      rw [e] at h ⊢
      simp at h
      simpa using unt_stops r h

/-- the end sequence as the text lays it -/
def endC : Array Value := #[.int .u8 27, .int .u8 91, .int .u8 50, .int .u8 48, .int .u8 49, .int .u8 126]
theorem end_bs (w : World) : Bs (w.alloc (.cells endC 5 (6, 7))) (w.heap.size + 1) (some ⟨w.heap.size, 0, none⟩) endB := by
  intro _
  refine ⟨w.heap.size, 0, rfl, by omega, fun i hi => ?_⟩
  have h6 : i < 6 := hi
  have : i = 0 ∨ i = 1 ∨ i = 2 ∨ i = 3 ∨ i = 4 ∨ i = 5 := by omega
  rcases this with rfl | rfl | rfl | rfl | rfl | rfl <;> exact (cell_of_row _ w.heap.size _ _ _ _ (heap_alloc_new w _)).trans rfl
theorem conv_end (w : World) : (convert 22 22 (.slice (some ⟨w.heap.size, 0, none⟩) 6 6)).run Tryz.prog (w.alloc (.cells endC 5)) = .ok (.slice (some ⟨w.heap.size, 0, none⟩) 6 6) (w.alloc (.cells endC 5 (6, 7))) :=
  Lib.run_convert_bytes_const (P := Tryz.prog) w 22 5 endC 6 6 Tryz.underlying22 Tryz.underlying5

set_option maxRecDepth 100000 in
set_option maxHeartbeats 4000000 in
theorem certainSize_any (p : Option Addr) (c : Nat) (l : List UInt8) (w : World) (h : Bs w w.heap.size p l) (hc : l.length ≤ c) (hl : l.length ≤ 1048576) :
    Calls Tryz.prog 111 #[.slice p l.length c] w fun e w' => e = .returned (.int .i64 (unt l)) ∧ Below w.heap.size w w' := by
  have hb1 : Below w.heap.size w (w.alloc (.cells endC 5 (6, 7))) := below_mk _ _
  have hrun := conv_end w
  have hbs := end_bs w
  have HU := Lib.hid (unt_at l)
  have HV := Lib.hid (unt_all l)
  have HP1 := Lib.hid (fun j (hj : j < l.length) => hasPrefix_any (p.map (·.add j)) (some ⟨w.heap.size, 0, none⟩) (c - j) 6 (l.drop j) endB _ ((h.on hb1).tail_lt j hj) hbs (by simp; omega) (by simp; omega) (by simp [endB]))
  have HP2 := Lib.hid (fun j (hj : j < l.length) => hasPrefix_any (some ⟨w.heap.size, 0, none⟩) (p.map (·.add j)) 6 (c - j) endB (l.drop j) _ hbs ((h.on hb1).tail_lt j hj) (by simp [endB]) (by simp [endB]) (by simp; omega))
  have HB := Lib.hid hb1
  clear h hbs hb1
  rw [show endB.length = 6 from rfl] at HP1 HP2
  simp only [List.length_drop] at HP1 HP2
  unfold endC at hrun HP1 HP2 HB
  generalize hw1 : w.alloc (.cells #[.int .u8 27, .int .u8 91, .int .u8 50, .int .u8 48, .int .u8 49, .int .u8 126] 5 (6, 7)) = w1 at *
  clear hw1
  go_enter Tryz.func111, Tryz.ntmps111
  go_wp2
  go_loop [4, 5, 10] (fun _ _ i => ∃ j : Nat, j ≤ l.length ∧ i = .int .i64 j ∧ ∀ k, k < j → stops (l.drop k) = false) (fun _ _ i => l.length - (intOf i).toNat)
  case atStart => exact ⟨0, by omega, rfl, fun k hk => by omega⟩
  case round =>
    obtain ⟨j, hj, rfl, hn⟩ := hrel
    have HN := Lib.hid hn
    clear hn
    by_cases hlt : j < l.length
    · cases h1 : pre endB (l.drop j)
      · cases h2 : pre (l.drop j) endB
        · have HS : Hid (stops (l.drop j) = false) := by unfold Hid stops; rw [h1, h2]; rfl
          go_wp2_with fail
          refine (HP1.out j hlt).mono ?_
          rintro e w' ⟨rfl, rfl⟩
          rw [h1]
          go_wp2_with fail
          refine (HP2.out j hlt).mono ?_
          rintro e w' ⟨rfl, rfl⟩
          rw [h2]
          go_wp2_with fail
          refine ⟨⟨j + 1, by omega, by go_num, fun k hk => ?_⟩, by simp [intOf]; omega⟩
          rcases Nat.lt_or_eq_of_le (Nat.le_of_lt_succ hk) with hk | rfl
          · exact HN.out k hk
          · exact HS.out
        · have HS : Hid (stops (l.drop j) = true) := by unfold Hid stops; rw [h1, h2]; rfl
          go_wp2_with fail
          refine (HP1.out j hlt).mono ?_
          rintro e w' ⟨rfl, rfl⟩
          rw [h1]
          go_wp2_with fail
          refine (HP2.out j hlt).mono ?_
          rintro e w' ⟨rfl, rfl⟩
          rw [h2]
          go_wp2_with fail
          go_ret
          exact ⟨ret_int (by rw [HU.out j hlt HN.out HS.out]), HB.out⟩
      · have HS : Hid (stops (l.drop j) = true) := by unfold Hid stops; rw [h1]; rfl
        go_wp2_with fail
        refine (HP1.out j hlt).mono ?_
        rintro e w' ⟨rfl, rfl⟩
        rw [h1]
        go_wp2_with fail
        go_ret
        exact ⟨ret_int (by rw [HU.out j hlt HN.out HS.out]), HB.out⟩
    · obtain rfl : j = l.length := by omega
      go_wp2
      go_ret
      exact ⟨ret_int (by rw [HV.out HN.out]), HB.out⟩

theorem Bs.drewN {w : World} {B : Nat} {p : Option Addr} {l : List UInt8} (h : Bs w B p l) (n : Nat) : Bs (w.drewN n) B p l := h.keep (Nat.le_refl _) fun _ _ => rfl

theorem stops_ge (r : List UInt8) (h : 6 ≤ r.length) : stops r = (r.take 6 == [27, 91, 50, 48, 49, 126]) := by
  unfold stops
  have e : pre endB r = (r.take 6 == [27, 91, 50, 48, 49, 126]) := rfl
  rw [e]
  cases hq : (r.take 6 == [27, 91, 50, 48, 49, 126])
  · cases hp : pre r endB
    · rfl
    · exfalso
      unfold pre at hp
      rw [List.take_of_length_le (by simpa [endB] using h)] at hp
      rw [← eq_of_beq hp] at hq
      simp [endB] at hq
  · rfl
theorem extract_end (n : Nat) (h : n < 6) : (ByteArray.extract { data := #[27, 91, 50, 48, 49, 126] } 0 n).toList = endB.take n := by
  have : n = 0 ∨ n = 1 ∨ n = 2 ∨ n = 3 ∨ n = 4 ∨ n = 5 := by omega
  rcases this with rfl | rfl | rfl | rfl | rfl | rfl <;> first | decide +kernel | kernel_rfl | simp [endB]
theorem stops_lt (r : List UInt8) (h : r.length < 6) : stops r = (r == (ByteArray.extract { data := #[27, 91, 50, 48, 49, 126] } 0 r.length).toList) := by
  rw [extract_end _ h]
  unfold stops
  rw [pre_long (show r.length < endB.length from h), Bool.false_or]
  unfold pre
  exact Bool.beq_comm

set_option maxRecDepth 100000 in
set_option maxHeartbeats 4000000 in
theorem l3Until_any (p : Option Addr) (c : Nat) (l : List UInt8) (w : World) (h : Bs w w.heap.size p l) (hc : l.length ≤ c) (hl : l.length ≤ 1048576) :
    Calls Tryz.prog 71 #[.slice p l.length c] w fun e w' => e = .returned (.int .i64 (unt l)) ∧ Below w.heap.size w w' := by
  have HU := Lib.hid (unt_at l)
  have HV := Lib.hid (unt_all l)
  have HC1 := Lib.hid (fun j (hj : j < l.length) n c' => convert_str (P := Tryz.prog) Tryz.underlying22 Tryz.underlying5 Tryz.underlying9 (p.map (·.add j)) c' ((l.drop j).take 6) (w.drewN n) (((h.tail_lt j hj).head 6).drewN n))
  have HC2 := Lib.hid (fun j (hj : j < l.length) n c' => convert_str (P := Tryz.prog) Tryz.underlying22 Tryz.underlying5 Tryz.underlying9 (p.map (·.add j)) c' (l.drop j) (w.drewN n) ((h.tail_lt j hj).drewN n))
  clear h
  go_enter Tryz.func71, Tryz.ntmps71
  go_wp2
  go_loopw [3, 4, 7] (fun _ _ i wr => ∃ j n : Nat, j ≤ l.length ∧ i = .int .i64 j ∧ wr = w.drewN n ∧ ∀ k, k < j → stops (l.drop k) = false) (fun _ _ i _ => l.length - (intOf i).toNat)
  case atStart => exact ⟨0, 0, by omega, rfl, rfl, fun k hk => by omega⟩
  case round =>
    obtain ⟨j, n, hj, rfl, rfl, hn⟩ := hrel
    have HN := Lib.hid hn
    clear hn
    by_cases hlt : j < l.length
    · by_cases h6 : j + 6 ≤ l.length
      · have hcv := HC1.out j hlt
        rw [show ((l.drop j).take 6).length = 6 by simp; omega] at hcv
        have g1 : (6 : Int) ≤ (l.length : Int) - (j : Int) := by omega
        have g2 : decide ((l.length : Int) - (j : Int) < 6) = false := by simp; omega
        have hwr : IntKind.i64.wrap ((j : Int) + 6) = (j : Int) + 6 := IntWalk.i64_in _ ⟨by omega, by omega⟩
        have b1 : (j : Int) ≤ (j : Int) + 6 := by omega
        have b2 : (j : Int) + 6 ≤ (c : Int) := by omega
        have b3 : ((j : Int) + 6).toNat - j = 6 := by omega
        have b4 : ¬ (c = j) := by omega
        have HX := Lib.hid (stops_ge (l.drop j) (by simp; omega))
        generalize (l.drop j).take 6 = X at hcv HX
        cases hq : (X == [27, 91, 50, 48, 49, 126])
        · have HS := Lib.hid (HX.out.trans hq)
          go_wp2_with fail
          go_quiet (fail)
          go_wp2
          refine ⟨⟨j + 1, n + nq, by omega, by go_num, rfl, fun k hk => ?_⟩, by simp [intOf]; omega⟩
          rcases Nat.lt_or_eq_of_le (Nat.le_of_lt_succ hk) with hk | rfl
          · exact HN.out k hk
          · exact HS.out
        · have HS := Lib.hid (HX.out.trans hq)
          go_wp2_with fail
          go_quiet (fail)
          go_wp2
          go_ret
          exact ⟨ret_int (by rw [HU.out j hlt HN.out HS.out]), below_drewN (below_drewN (Below.refl _ _) n) nq⟩
      · have hcv := HC2.out j hlt
        rw [List.length_drop] at hcv
        have g1 : decide ((6 : Int) ≤ (l.length : Int) - (j : Int)) = false := by simp; omega
        have g2 : (l.length : Int) - (j : Int) < 6 := by omega
        have HX := Lib.hid (stops_lt (l.drop j) (by simp; omega))
        rw [List.length_drop] at HX
        cases hq : (List.drop j l == (ByteArray.extract { data := #[27, 91, 50, 48, 49, 126] } 0 (l.length - j)).toList)
        · have HS := Lib.hid (HX.out.trans hq)
          go_wp2_with fail
          go_quiet (fail)
          go_wp2
          refine ⟨⟨j + 1, n + nq, by omega, by go_num, rfl, fun k hk => ?_⟩, by simp [intOf]; omega⟩
          rcases Nat.lt_or_eq_of_le (Nat.le_of_lt_succ hk) with hk | rfl
          · exact HN.out k hk
          · exact HS.out
        · have HS := Lib.hid (HX.out.trans hq)
          go_wp2_with fail
          go_quiet (fail)
          go_wp2
          go_ret
          exact ⟨ret_int (by rw [HU.out j hlt HN.out HS.out]), below_drewN (below_drewN (Below.refl _ _) n) nq⟩
    · obtain rfl : j = l.length := by omega
      go_wp2
      go_ret
      exact ⟨ret_int (by rw [HV.out HN.out]), below_drewN (Below.refl _ _) n⟩

end Go.Proofs.YtbnpodledgaipaaGreatDoor
