/- Pastes: where a paste may end; certainSize, the model's l3Until; pasteToken, the model's l3Pasted. -/
import Derived.Test.YtcchhlcgamcceaaDoorQCut0
import Derived.Test.YtcchhlcgamcceaaDoorQDrawsToDraws4
import Derived.Test.YtcchhlcgamcceaaDoorQNumb
import Derived.Lib.SlBytesConst
import Derived.Deep.QuietTactic
import Derived.BigQuiet
namespace Go.Proofs.YtcchhlcgamcceaaDoor
open Go.RowKit

theorem Bs.tail_lt {w : World} {B : Nat} {p : Option Addr} {l : List UInt8} (h : Bs w B p l) (k : Nat) (hk : k < l.length) : Bs w B (p.map (·.add k)) (l.drop k) := by
  have := h.tail k l.length (Nat.le_refl _)
  rwa [if_neg (by omega)] at this

def endB : List UInt8 := [27, 91, 50, 48, 49, 126]
/-- the end of a paste stands here, or a beginning of it that is the last of all -/
def stops (r : List UInt8) : Bool := pre endB r || pre r endB
/-- the first such place -/
def unt : List UInt8 → Nat
  | [] => 0
  | x :: r => if stops (x :: r) = true then 0 else unt r + 1

theorem unt_le : ∀ l : List UInt8, unt l ≤ l.length
  | [] => Nat.le_refl _
  | x :: r => by
    unfold unt
    split
    · exact Nat.zero_le _
    · have := unt_le r; simp; omega
theorem unt_at : ∀ (l : List UInt8) (j : Nat), j < l.length → (∀ i, i < j → stops (l.drop i) = false) → stops (l.drop j) = true → unt l = j
  | [], j, h, _, _ => by simp at h
  | x :: r, 0, _, _, hs => by unfold unt; rw [if_pos (by simpa using hs)]
  | x :: r, j + 1, h, hn, hs => by
    have h0 := hn 0 (by omega)
    unfold unt
    rw [if_neg (by simp at h0; simp [h0]), unt_at r j (by simpa using h) (fun i hi => by simpa using hn (i + 1) (by omega)) (by simpa using hs)]
theorem unt_all : ∀ (l : List UInt8), (∀ i, i < l.length → stops (l.drop i) = false) → unt l = l.length
  | [], _ => rfl
  | x :: r, hn => by
    have h0 := hn 0 (by simp)
    unfold unt
    rw [if_neg (by simp at h0; simp [h0]), unt_all r (fun i hi => by simpa using hn (i + 1) (by simpa using hi))]
    simp
theorem unt_stops : ∀ (l : List UInt8), unt l < l.length → stops (l.drop (unt l)) = true
  | [], h => by simp at h
  | x :: r, h => by
    by_cases hs : stops (x :: r) = true
    · rw [show unt (x :: r) = 0 by unfold unt; rw [if_pos hs]]
      simpa using hs
    · have e : unt (x :: r) = unt r + 1 := by
        rw [unt]; rw [if_neg hs]
      rw [e] at h ⊢
      simp at h
      simpa using unt_stops r h

/-- the end sequence as the text lays it -/
def endC : Array Value := #[.int .u8 27, .int .u8 91, .int .u8 50, .int .u8 48, .int .u8 49, .int .u8 126]
theorem end_bs (w : World) : Bs (w.alloc (.cells endC 5 (6, 7))) (w.heap.size + 1) (some ⟨w.heap.size, 0, none⟩) endB := by
  intro _
  refine ⟨w.heap.size, 0, rfl, by omega, fun i hi => ?_⟩
  have h6 : i < 6 := hi
  have : i = 0 ∨ i = 1 ∨ i = 2 ∨ i = 3 ∨ i = 4 ∨ i = 5 := by omega
  rcases this with rfl | rfl | rfl | rfl | rfl | rfl <;> exact (cell_of_row _ w.heap.size _ _ _ _ (heap_alloc_new w _)).trans rfl
theorem conv_end (w : World) : (convert 22 22 (.slice (some ⟨w.heap.size, 0, none⟩) 6 6)).run Tryd.prog (w.alloc (.cells endC 5)) = .ok (.slice (some ⟨w.heap.size, 0, none⟩) 6 6) (w.alloc (.cells endC 5 (6, 7))) :=
  Lib.run_convert_bytes_const (P := Tryd.prog) w 22 5 endC 6 6 Tryd.underlying22 Tryd.underlying5


theorem Bs.drewN {w : World} {B : Nat} {p : Option Addr} {l : List UInt8} (h : Bs w B p l) (n : Nat) : Bs (w.drewN n) B p l := h.keep (Nat.le_refl _) fun _ _ => rfl

theorem stops_ge (r : List UInt8) (h : 6 ≤ r.length) : stops r = (r.take 6 == [27, 91, 50, 48, 49, 126]) := by
  unfold stops
  have e : pre endB r = (r.take 6 == [27, 91, 50, 48, 49, 126]) := rfl
  rw [e]
  cases hq : (r.take 6 == [27, 91, 50, 48, 49, 126])
  · cases hp : pre r endB
    · rfl
    · exfalso
      unfold pre at hp
      rw [List.take_of_length_le (by simpa [endB] using h)] at hp
      rw [← eq_of_beq hp] at hq
      simp [endB] at hq
  · rfl
theorem extract_end (n : Nat) (h : n < 6) : (ByteArray.extract { data := #[27, 91, 50, 48, 49, 126] } 0 n).toList = endB.take n := by
  have : n = 0 ∨ n = 1 ∨ n = 2 ∨ n = 3 ∨ n = 4 ∨ n = 5 := by omega
  rcases this with rfl | rfl | rfl | rfl | rfl | rfl <;> first | decide +kernel | kernel_rfl | simp [endB]
theorem stops_lt (r : List UInt8) (h : r.length < 6) : stops r = (r == (ByteArray.extract { data := #[27, 91, 50, 48, 49, 126] } 0 r.length).toList) := by
  rw [extract_end _ h]
  unfold stops
  rw [pre_long (show r.length < endB.length from h), Bool.false_or]
  unfold pre
  exact Bool.beq_comm


end Go.Proofs.YtcchhlcgamcceaaDoor
