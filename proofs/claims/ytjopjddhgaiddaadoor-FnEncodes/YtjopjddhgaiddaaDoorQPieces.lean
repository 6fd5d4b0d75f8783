/- Pieces between semicolons: the plain facts, and the contracts of bytes.IndexByte, Index and Cut at a separator of one byte. -/
import Derived.Test.YtjopjddhgaiddaaDoorQNumb
import Derived.Test.YtjopjddhgaiddaaDoorQBytesToCells
import Derived.Lib.BytesEntry
namespace Go.Proofs.YtjopjddhgaiddaaDoor
open Go.RowKit

/-- what lies between the semicolons: one piece at least -/
def sp : List UInt8 → List (List UInt8)
  | [] => [[]]
  | c :: r => if c = 59 then [] :: sp r else match sp r with
    | p :: ps => (c :: p) :: ps
    | [] => [[c]]
/-- the pieces: none where there is no byte -/
def pieces (l : List UInt8) : List (List UInt8) := if l = [] then [] else sp l

theorem sp_none : ∀ (l : List UInt8), (59 : UInt8) ∉ l → sp l = [l]
  | [], _ => rfl
  | c :: r, h => by
    simp at h
    rw [sp, if_neg (fun e => h.1 e.symm), sp_none r h.2]
theorem sp_some : ∀ (a b : List UInt8), (59 : UInt8) ∉ a → sp (a ++ 59 :: b) = a :: sp b
  | [], b, _ => by simp [sp]
  | c :: a, b, h => by
    simp at h
    rw [List.cons_append, sp, if_neg (fun e => h.1 e.symm), sp_some a b h.2]
theorem sp_ne (l : List UInt8) : sp l ≠ [] := by
  cases l with
  | nil => simp [sp]
  | cons c r =>
    rw [sp]
    split
    · simp
    · split <;> simp

/-- the first semicolon -/
theorem indexByte_cases : ∀ (l : List UInt8), (Lib.indexByte l 59 = -1 ∧ (59 : UInt8) ∉ l) ∨ ∃ a b, l = a ++ 59 :: b ∧ (59 : UInt8) ∉ a ∧ Lib.indexByte l 59 = (a.length : Int)
  | [] => .inl ⟨rfl, by simp⟩
  | c :: r => by
    by_cases hc : c = 59
    · subst hc
      exact .inr ⟨[], r, rfl, by simp, by simp [Lib.indexByte]⟩
    · rcases indexByte_cases r with ⟨h1, h2⟩ | ⟨a, b, rfl, h2, h3⟩
      · refine .inl ⟨?_, ?_⟩
        · simp [Lib.indexByte, hc, h1]
        · simp [h2]; exact fun e => hc e.symm
      · refine .inr ⟨c :: a, b, rfl, ?_, ?_⟩
        · simp [h2]; exact fun e => hc e.symm
        · have : ¬ ((a.length : Int) = -1) := by omega
          simp [Lib.indexByte, hc, h3, this]

/-- a slice's address behind a cut -/
theorem Bs.cut {w : World} {B : Nat} {p : Option Addr} {l : List UInt8} (h : Bs w B p l) (k j c : Nat) (hj : j ≤ l.length) (hc : l.length ≤ c) :
    Bs w B (if c = k then p else p.map (·.add k)) ((l.take j).drop k) := by
  intro hne
  have hlen : 0 < ((l.take j).drop k).length := List.length_pos_iff.2 hne
  simp at hlen
  obtain ⟨b, off, rfl, hb, hcell⟩ := h (by intro e; simp [e] at hlen)
  rw [if_neg (by omega)]
  refine ⟨b, off + k, ?_, hb, fun i hi => ?_⟩
  · simp only [Option.map_some, Addr.add]
    split
    · rename_i e; simp [e]
    · rfl
  · simp at hi
    rw [Nat.add_assoc, hcell (k + i) (by omega)]
    simp [List.getD_eq_getElem?_getD, List.getElem?_drop, show k + i < j by omega]

theorem map_add_zero (p : Option Addr) : p.map (·.add 0) = p := by cases p <;> simp [Addr.add]
theorem Bs.sub {w : World} {B : Nat} {p : Option Addr} {l : List UInt8} (h : Bs w B p l) : Bs w B p l := h

theorem bytesOf_nums (l : List UInt8) : Lib.bytesOf (l.map fun x : UInt8 => (x.toNat : Int)) = l := by
  simp [Lib.bytesOf, List.map_map, Function.comp_def]

theorem run_indexByteNone {P : Program} (w : World) (a : Addr) (c : Nat) (cv : Int) :
    (Extern.BytealgIndexByte.indexByte #[.slice (some a) 0 c, .int .u8 cv]).run P w = .ok (.int .i64 (-1)) w := by
  have hs := Lib.run_indexByteString (P := P) .empty cv w
  exact hs

theorem run_index59 {P : Program} (w : World) {B : Nat} (p : Option Addr) (c : Nat) (l : List UInt8) (h : Bs w B p l) :
    (Extern.BytealgIndexByte.indexByte #[.slice p l.length c, .int .u8 59]).run P w = .ok (.int .i64 (Lib.indexByte l 59)) w := by
  by_cases hl : l = []
  · subst hl
    cases p with
    | none => exact Lib.run_indexByteNil w 0 c 59
    | some a => exact run_indexByteNone w a c 59
  · obtain ⟨b, off, rfl, _, hc⟩ := h hl
    have := Lib.run_indexByteSlice (P := P) w b off l.length c (l.map fun x : UInt8 => (x.toNat : Int)) (by simp) (fun i hi => by rw [hc i hi]; simp [hi]) 59
    rw [bytesOf_nums] at this
    exact this







/-- what bytes.Cut leaves -/
def CutPost (w : World) (B : Nat) (p : Option Addr) (c : Nat) (l : List UInt8) (e : Ending) (w' : World) : Prop :=
  ((59 : UInt8) ∉ l ∧ e = .returned (.tuple #[.slice p l.length c, .slice none 0 0, .bool false]) ∧ ∃ n, w' = w.drewN n) ∨
  ∃ (a b : List UInt8) (p1 p2 : Option Addr) (c2 : Nat), l = a ++ 59 :: b ∧ (59 : UInt8) ∉ a ∧ e = .returned (.tuple #[.slice p1 a.length c, .slice p2 b.length c2, .bool true]) ∧
    Bs w B p1 a ∧ Bs w B p2 b ∧ b.length ≤ c2 ∧ ∃ n, w' = w.drewN n

theorem cut_post {w w' : World} {B : Nat} {p : Option Addr} {c n : Nat} {a b : List UInt8} (h : Bs w B p (a ++ 59 :: b)) (hc : (a ++ 59 :: b).length ≤ c) (hn : (59 : UInt8) ∉ a) {p1 p2 : Option Addr} {n1 n2 c2 : Nat}
    (e1 : p1 = if c = 0 then p else p.map (·.add 0)) (e2 : p2 = if c = a.length + 1 then p else p.map (·.add (a.length + 1))) (en1 : n1 = a.length) (en2 : n2 = b.length) (ec2 : c2 = c - (a.length + 1)) (hw : w' = w.drewN n) :
    CutPost w B p c (a ++ 59 :: b) (.returned (.tuple #[.slice p1 n1 c, .slice p2 n2 c2, .bool true])) w' := by
  subst en1; subst en2
  refine .inr ⟨a, b, p1, p2, c2, rfl, hn, rfl, ?_, ?_, ?_, n, hw⟩
  · have := h.cut 0 a.length c (by simp) hc
    rw [e1]
    simpa using this
  · have := h.cut (a.length + 1) (a.length + (b.length + 1)) c (by simp) hc
    rw [e2]
    rw [List.take_of_length_le (by simp)] at this
    simpa using this
  · simp at hc; omega



end Go.Proofs.YtjopjddhgaiddaaDoor
