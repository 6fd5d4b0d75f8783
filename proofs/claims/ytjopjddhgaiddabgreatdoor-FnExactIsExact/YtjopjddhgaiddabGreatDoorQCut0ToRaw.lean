/- Slices of bytes cut, copied, and held against a beginning: bytes.HasPrefix, bytes.Clone, '[]byte(s)'. -/
import Derived.Test.YtjopjddhgaiddabGreatDoorQTokToTokRes
import Derived.Laws.IdiomStrings
import Derived.Lib.SliceRun
import Derived.Test.YtjopjddhgaiddabGreatDoorQDrawsToDraws7
import Derived.Test.YtjopjddhgaiddabGreatDoorQDigitsToPieces
import Derived.Lib.SlBytesConst
import Derived.Deep.QuietTactic
import Derived.BigQuiet
namespace Go.Proofs.YtjopjddhgaiddabGreatDoor
open Go.RowKit

theorem Bs.head {w : World} {B : Nat} {p : Option Addr} {l : List UInt8} (h : Bs w B p l) (j : Nat) : Bs w B p (l.take j) := by
  intro hne
  have hlen : 0 < (l.take j).length := List.length_pos_iff.2 hne
  simp at hlen
  obtain ⟨b, off, rfl, hb, hc⟩ := h (by intro e; simp [e] at hlen)
  refine ⟨b, off, rfl, hb, fun i hi => ?_⟩
  rw [List.length_take] at hi
  rw [hc i (by omega)]
  simp [List.getD_eq_getElem?_getD, show i < j by omega]

theorem Bs.tail {w : World} {B : Nat} {p : Option Addr} {l : List UInt8} (h : Bs w B p l) (k c : Nat) (hc : l.length ≤ c) : Bs w B (if c = k then p else p.map (·.add k)) (l.drop k) := by
  intro hne
  have hlen : 0 < (l.drop k).length := List.length_pos_iff.2 hne
  simp at hlen
  obtain ⟨b, off, rfl, hb, hcell⟩ := h (by intro e; simp [e] at hlen)
  rw [if_neg (by omega)]
  refine ⟨b, off + k, ?_, hb, fun i hi => ?_⟩
  · simp only [Option.map_some, Addr.add]
    split
    · rename_i e; simp [e]
    · rfl
  · simp at hi
    rw [Nat.add_assoc, hcell (k + i) (by omega)]
    simp [List.getD_eq_getElem?_getD, List.getElem?_drop]

/-- b is a beginning of a -/
def pre (b a : List UInt8) : Bool := a.take b.length == b
theorem pre_long {b a : List UInt8} (h : a.length < b.length) : pre b a = false := by
  unfold pre
  rw [List.take_of_length_le (by omega)]
  apply beq_eq_false_iff_ne.2
  intro e
  rw [e] at h
  omega

set_option maxHeartbeats 1000000 in
theorem hasPrefix_any (p q : Option Addr) (c d : Nat) (a b : List UInt8) (w : World) {B C : Nat} (h : Bs w B p a) (k : Bs w C q b) (hc : a.length ≤ c) (_ : a.length ≤ 1048576) (hb : b.length ≤ 1048576) :
    Calls Tryz.prog 125 #[.slice p a.length c, .slice q b.length d] w fun e w' => e = .returned (.bool (pre b a)) ∧ w = w' := by
  by_cases hl : b.length ≤ a.length
  · have e : (a.take b.length).length = b.length := by simp [hl]
    have HE := Lib.hid (fun c' => bytesEqual_any p q c' d (a.take b.length) b w (h.head _) k)
    rw [e] at HE
    clear h k e
    go_enter Tryz.func125, Tryz.ntmps125
    go_wp2_with (go_at_call 104; refine (HE.out _).mono ?_; rintro e w' ⟨rfl, rfl⟩)
    go_ret
    exact ⟨ret_bool (by simp [pre]), rfl⟩
  · have HP := Lib.hid (pre_long (show a.length < b.length by omega))
    clear h k
    go_enter Tryz.func125, Tryz.ntmps125
    go_wp2
    go_ret
    exact ⟨ret_bool (by rw [HP.out]), rfl⟩

set_option maxRecDepth 100000 in
set_option maxHeartbeats 2000000 in
theorem bytesClone_any (p : Option Addr) (c : Nat) (l : List UInt8) (w : World) (h : Bs w w.heap.size p l) (hl : l.length ≤ 1048576) (hne : l ≠ []) :
    Calls Tryz.prog 101 #[.slice p l.length c] w (NewOwn w l) := by
  obtain ⟨b, off, rfl, hb, hcell⟩ := h hne
  have q22 : ∀ (w : World) (a : Option Addr) (n c : Nat), (binOp .eql 24 (.slice a n c) (.slice none 0 0)).run Tryz.prog w = .ok (.bool a.isNone) w := fun w a n c => Lib.run_eql_slice_nil w _ _ a n c 0 0 Tryz.underlying24
  obtain ⟨i0, hi, hz0, hz1, hz2⟩ := info_parts Tryz.info_u8
  have HL := Lib.hid hcell
  have HB := Lib.hid hb
  clear hcell h hb
  go_enter Tryz.func101, Tryz.ntmps101
  go_wp2_with (at_builtin; refine wpList_append_own _ rfl _ _ 24 rfl w.heap.size 5 i0 (.int .u8 0) 1 1 Tryz.underlying24 hi hz0 hz1 hz2 rfl (by decide) _ _ _ rfl (World.ownsRow_made w #[] 0 (Nat.le_refl _) (Nat.zero_le _) rfl) ⟨b, off, none⟩ l.length c (l.map fun x : UInt8 => Value.int .u8 (x.toNat : Int)) rfl ?c0 ?c1 ?c2 ?c3 ?c4 ?c5 ?_)
  case c0 => simp
  case c1 =>
    intro j u hj
    have hjn : j < l.length := by
      have := (List.getElem?_eq_some_iff.1 hj).1
      simpa using this
    simp [hjn] at hj
    subst hj
    refine Lib.cell?_alloc_some _ ?_
    have e : (⟨b, off, none⟩ : Addr).add j = ⟨b, off + j, none⟩ := by
      simp only [Addr.add]
      split
      · simp
      · rfl
    rw [e, HL.out j hjn]
    simp [List.getD_eq_getElem?_getD, hjn]
  case c2 => intro u hu; obtain ⟨x, _, rfl⟩ := List.mem_map.1 hu; rfl
  case c3 => unfold maxLen; omega
  case c4 => omega
  case c5 => simp
  intro v' w2 hown hgrow _
  go_wp2
  go_ret
  refine ⟨v', rfl, ?_, (below_mk w _).grown hgrow (by simp) (by intro k hk; simp [Value.ownBlock] at hk; omega)⟩
  unfold Own
  simpa using hown

/-- '[]byte(s)': where it lies, its room -/
theorem conv_lit (w : World) (s : ByteArray) : ∃ (cap : Nat) (w' : World), (convert 9 24 (.string s)).run Tryz.prog w = .ok (.slice (some ⟨w.heap.size, 0, none⟩) s.data.toList.length cap) w' ∧ s.data.toList.length ≤ cap ∧ Bs w' w'.heap.size (some ⟨w.heap.size, 0, none⟩) s.data.toList ∧ Below w.heap.size w w' := by
  have hr := run_bytes_of_string (P := Tryz.prog) w 9 24 5 s Tryz.underlying9 Tryz.underlying24 Tryz.underlying5
  have hsz : s.data.toList.length = s.size := Array.length_toList
  have hge := grownCap_ge w s.size 0 5
  refine ⟨_, _, by rw [hsz]; exact hr, by rw [hsz]; exact hge, fun hne => ⟨w.heap.size, 0, rfl, by simp, fun i hi => ?_⟩, ?_⟩
  · have hi' : i < s.size := by omega
    have hb : (bytesRow s (grownCap w s.size 0 5))[i]? = some (.int .u8 ((s.data.toList.getD i 0).toNat : Int)) := by
      unfold bytesRow
      have hi2 : i < s.data.size := hi'
      rw [Array.getElem?_append_left (by rw [Array.size_map]; exact hi2), Array.getElem?_map, Array.getElem?_eq_getElem hi2, List.getD_eq_getElem?_getD, Array.getElem?_toList, Array.getElem?_eq_getElem hi2]
      rfl
    rw [Nat.zero_add]
    exact (cell_of_row _ w.heap.size i _ _ _ (heap_alloc_new w.drew _)).trans hb
  · exact ⟨rfl, rfl, rfl, by simp, fun j hj => Below.heap_alloc w.drew _ j hj⟩

end Go.Proofs.YtjopjddhgaiddabGreatDoor

/- Pastes: where a paste may end; certainSize, the model's l3Until; pasteToken, the model's l3Pasted. -/
namespace Go.Proofs.YtjopjddhgaiddabGreatDoor
open Go.RowKit

theorem Bs.tail_lt {w : World} {B : Nat} {p : Option Addr} {l : List UInt8} (h : Bs w B p l) (k : Nat) (hk : k < l.length) : Bs w B (p.map (·.add k)) (l.drop k) := by
  have := h.tail k l.length (Nat.le_refl _)
  rwa [if_neg (by omega)] at this

def endB : List UInt8 := [27, 91, 50, 48, 49, 126]
/-- the end of a paste stands here, or a beginning of it that is the last of all -/
def stops (r : List UInt8) : Bool := pre endB r || pre r endB
/-- the first such place -/
def unt : List UInt8 → Nat
  | [] => 0
  | x :: r => if stops (x :: r) = true then 0 else unt r + 1

theorem unt_le : ∀ l : List UInt8, unt l ≤ l.length
  | [] => Nat.le_refl _
  | x :: r => by
    unfold unt
    split
    · exact Nat.zero_le _
    · have := unt_le r; simp; omega
theorem unt_at : ∀ (l : List UInt8) (j : Nat), j < l.length → (∀ i, i < j → stops (l.drop i) = false) → stops (l.drop j) = true → unt l = j
  | [], j, h, _, _ => by simp at h
  | x :: r, 0, _, _, hs => by unfold unt; rw [if_pos (by simpa using hs)]
  | x :: r, j + 1, h, hn, hs => by
    have h0 := hn 0 (by omega)
    unfold unt
    rw [if_neg (by simp at h0; simp [h0]), unt_at r j (by simpa using h) (fun i hi => by simpa using hn (i + 1) (by omega)) (by simpa using hs)]
theorem unt_all : ∀ (l : List UInt8), (∀ i, i < l.length → stops (l.drop i) = false) → unt l = l.length
  | [], _ => rfl
  | x :: r, hn => by
    have h0 := hn 0 (by simp)
    unfold unt
    rw [if_neg (by simp at h0; simp [h0]), unt_all r (fun i hi => by simpa using hn (i + 1) (by simpa using hi))]
    simp
theorem unt_stops : ∀ (l : List UInt8), unt l < l.length → stops (l.drop (unt l)) = true
  | [], h => by simp at h
  | x :: r, h => by
    by_cases hs : stops (x :: r) = true
    · rw [show unt (x :: r) = 0 by unfold unt; rw [if_pos hs]]
      simpa using hs
    · have e : unt (x :: r) = unt r + 1 := by
        rw [unt]; rw [if_neg hs]
      rw [e] at h ⊢
      simp at h
      simpa using unt_stops r h

/-- the end sequence as the text lays it -/
def endC : Array Value := #[.int .u8 27, .int .u8 91, .int .u8 50, .int .u8 48, .int .u8 49, .int .u8 126]
theorem end_bs (w : World) : Bs (w.alloc (.cells endC 5 (6, 7))) (w.heap.size + 1) (some ⟨w.heap.size, 0, none⟩) endB := by
  intro _
  refine ⟨w.heap.size, 0, rfl, by omega, fun i hi => ?_⟩
  have h6 : i < 6 := hi
  have : i = 0 ∨ i = 1 ∨ i = 2 ∨ i = 3 ∨ i = 4 ∨ i = 5 := by omega
  rcases this with rfl | rfl | rfl | rfl | rfl | rfl <;> exact (cell_of_row _ w.heap.size _ _ _ _ (heap_alloc_new w _)).trans rfl
theorem conv_end (w : World) : (convert 24 24 (.slice (some ⟨w.heap.size, 0, none⟩) 6 6)).run Tryz.prog (w.alloc (.cells endC 5)) = .ok (.slice (some ⟨w.heap.size, 0, none⟩) 6 6) (w.alloc (.cells endC 5 (6, 7))) :=
  Lib.run_convert_bytes_const (P := Tryz.prog) w 24 5 endC 6 6 Tryz.underlying24 Tryz.underlying5

set_option maxRecDepth 100000 in
set_option maxHeartbeats 4000000 in
theorem certainSize_any (p : Option Addr) (c : Nat) (l : List UInt8) (w : World) (h : Bs w w.heap.size p l) (hc : l.length ≤ c) (hl : l.length ≤ 1048576) :
    Calls Tryz.prog 124 #[.slice p l.length c] w fun e w' => e = .returned (.int .i64 (unt l)) ∧ Below w.heap.size w w' := by
  have hb1 : Below w.heap.size w (w.alloc (.cells endC 5 (6, 7))) := below_mk _ _
  have hrun := conv_end w
  have hbs := end_bs w
  have HU := Lib.hid (unt_at l)
  have HV := Lib.hid (unt_all l)
  have HP1 := Lib.hid (fun j (hj : j < l.length) => hasPrefix_any (p.map (·.add j)) (some ⟨w.heap.size, 0, none⟩) (c - j) 6 (l.drop j) endB _ ((h.on hb1).tail_lt j hj) hbs (by simp; omega) (by simp; omega) (by simp [endB]))
  have HP2 := Lib.hid (fun j (hj : j < l.length) => hasPrefix_any (some ⟨w.heap.size, 0, none⟩) (p.map (·.add j)) 6 (c - j) endB (l.drop j) _ hbs ((h.on hb1).tail_lt j hj) (by simp [endB]) (by simp [endB]) (by simp; omega))
  have HB := Lib.hid hb1
  clear h hbs hb1
  rw [show endB.length = 6 from rfl] at HP1 HP2
  simp only [List.length_drop] at HP1 HP2
  unfold endC at hrun HP1 HP2 HB
  generalize hw1 : w.alloc (.cells #[.int .u8 27, .int .u8 91, .int .u8 50, .int .u8 48, .int .u8 49, .int .u8 126] 5 (6, 7)) = w1 at *
  clear hw1
  go_enter Tryz.func124, Tryz.ntmps124
  go_wp2
  go_loop [4, 5, 10] (fun _ _ i => ∃ j : Nat, j ≤ l.length ∧ i = .int .i64 j ∧ ∀ k, k < j → stops (l.drop k) = false) (fun _ _ i => l.length - (intOf i).toNat)
  case atStart => exact ⟨0, by omega, rfl, fun k hk => by omega⟩
  case round =>
    obtain ⟨j, hj, rfl, hn⟩ := hrel
    have HN := Lib.hid hn
    clear hn
    by_cases hlt : j < l.length
    · cases h1 : pre endB (l.drop j)
      · cases h2 : pre (l.drop j) endB
        · have HS : Hid (stops (l.drop j) = false) := by unfold Hid stops; rw [h1, h2]; rfl
          go_wp2_with fail
          refine (HP1.out j hlt).mono ?_
          rintro e w' ⟨rfl, rfl⟩
          rw [h1]
          go_wp2_with fail
          refine (HP2.out j hlt).mono ?_
          rintro e w' ⟨rfl, rfl⟩
          rw [h2]
          go_wp2_with fail
          refine ⟨⟨j + 1, by omega, by go_num, fun k hk => ?_⟩, by simp [intOf]; omega⟩
          rcases Nat.lt_or_eq_of_le (Nat.le_of_lt_succ hk) with hk | rfl
          · exact HN.out k hk
          · exact HS.out
        · have HS : Hid (stops (l.drop j) = true) := by unfold Hid stops; rw [h1, h2]; rfl
          go_wp2_with fail
          refine (HP1.out j hlt).mono ?_
          rintro e w' ⟨rfl, rfl⟩
          rw [h1]
          go_wp2_with fail
          refine (HP2.out j hlt).mono ?_
          rintro e w' ⟨rfl, rfl⟩
          rw [h2]
          go_wp2_with fail
          go_ret
          exact ⟨ret_int (by rw [HU.out j hlt HN.out HS.out]), HB.out⟩
      · have HS : Hid (stops (l.drop j) = true) := by unfold Hid stops; rw [h1]; rfl
        go_wp2_with fail
        refine (HP1.out j hlt).mono ?_
        rintro e w' ⟨rfl, rfl⟩
        rw [h1]
        go_wp2_with fail
        go_ret
        exact ⟨ret_int (by rw [HU.out j hlt HN.out HS.out]), HB.out⟩
    · obtain rfl : j = l.length := by omega
      go_wp2
      go_ret
      exact ⟨ret_int (by rw [HV.out HN.out]), HB.out⟩

theorem Bs.drewN {w : World} {B : Nat} {p : Option Addr} {l : List UInt8} (h : Bs w B p l) (n : Nat) : Bs (w.drewN n) B p l := h.keep (Nat.le_refl _) fun _ _ => rfl

theorem stops_ge (r : List UInt8) (h : 6 ≤ r.length) : stops r = (r.take 6 == [27, 91, 50, 48, 49, 126]) := by
  unfold stops
  have e : pre endB r = (r.take 6 == [27, 91, 50, 48, 49, 126]) := rfl
  rw [e]
  cases hq : (r.take 6 == [27, 91, 50, 48, 49, 126])
  · cases hp : pre r endB
    · rfl
    · exfalso
      unfold pre at hp
      rw [List.take_of_length_le (by simpa [endB] using h)] at hp
      rw [← eq_of_beq hp] at hq
      simp [endB] at hq
  · rfl
theorem extract_end (n : Nat) (h : n < 6) : (ByteArray.extract { data := #[27, 91, 50, 48, 49, 126] } 0 n).toList = endB.take n := by
  have : n = 0 ∨ n = 1 ∨ n = 2 ∨ n = 3 ∨ n = 4 ∨ n = 5 := by omega
  rcases this with rfl | rfl | rfl | rfl | rfl | rfl <;> first | decide +kernel | kernel_rfl | simp [endB]
theorem stops_lt (r : List UInt8) (h : r.length < 6) : stops r = (r == (ByteArray.extract { data := #[27, 91, 50, 48, 49, 126] } 0 r.length).toList) := by
  rw [extract_end _ h]
  unfold stops
  rw [pre_long (show r.length < endB.length from h), Bool.false_or]
  unfold pre
  exact Bool.beq_comm

set_option maxRecDepth 100000 in
set_option maxHeartbeats 4000000 in
theorem l3Until_any (p : Option Addr) (c : Nat) (l : List UInt8) (w : World) (h : Bs w w.heap.size p l) (hc : l.length ≤ c) (hl : l.length ≤ 1048576) :
    Calls Tryz.prog 78 #[.slice p l.length c] w fun e w' => e = .returned (.int .i64 (unt l)) ∧ Below w.heap.size w w' := by
  have HU := Lib.hid (unt_at l)
  have HV := Lib.hid (unt_all l)
  have HC1 := Lib.hid (fun j (hj : j < l.length) n c' => convert_str (P := Tryz.prog) Tryz.underlying24 Tryz.underlying5 Tryz.underlying9 (p.map (·.add j)) c' ((l.drop j).take 6) (w.drewN n) (((h.tail_lt j hj).head 6).drewN n))
  have HC2 := Lib.hid (fun j (hj : j < l.length) n c' => convert_str (P := Tryz.prog) Tryz.underlying24 Tryz.underlying5 Tryz.underlying9 (p.map (·.add j)) c' (l.drop j) (w.drewN n) ((h.tail_lt j hj).drewN n))
  clear h
  go_enter Tryz.func78, Tryz.ntmps78
  go_wp2
  go_loopw [3, 4, 7] (fun _ _ i wr => ∃ j n : Nat, j ≤ l.length ∧ i = .int .i64 j ∧ wr = w.drewN n ∧ ∀ k, k < j → stops (l.drop k) = false) (fun _ _ i _ => l.length - (intOf i).toNat)
  case atStart => exact ⟨0, 0, by omega, rfl, rfl, fun k hk => by omega⟩
  case round =>
    obtain ⟨j, n, hj, rfl, rfl, hn⟩ := hrel
    have HN := Lib.hid hn
    clear hn
    by_cases hlt : j < l.length
    · by_cases h6 : j + 6 ≤ l.length
      · have hcv := HC1.out j hlt
        rw [show ((l.drop j).take 6).length = 6 by simp; omega] at hcv
        have g1 : (6 : Int) ≤ (l.length : Int) - (j : Int) := by omega
        have g2 : decide ((l.length : Int) - (j : Int) < 6) = false := by simp; omega
        have hwr : IntKind.i64.wrap ((j : Int) + 6) = (j : Int) + 6 := IntWalk.i64_in _ ⟨by omega, by omega⟩
        have b1 : (j : Int) ≤ (j : Int) + 6 := by omega
        have b2 : (j : Int) + 6 ≤ (c : Int) := by omega
        have b3 : ((j : Int) + 6).toNat - j = 6 := by omega
        have b4 : ¬ (c = j) := by omega
        have HX := Lib.hid (stops_ge (l.drop j) (by simp; omega))
        generalize (l.drop j).take 6 = X at hcv HX
        cases hq : (X == [27, 91, 50, 48, 49, 126])
        · have HS := Lib.hid (HX.out.trans hq)
          go_wp2_with fail
          go_quiet (fail)
          go_wp2
          refine ⟨⟨j + 1, n + nq, by omega, by go_num, rfl, fun k hk => ?_⟩, by simp [intOf]; omega⟩
          rcases Nat.lt_or_eq_of_le (Nat.le_of_lt_succ hk) with hk | rfl
          · exact HN.out k hk
          · exact HS.out
        · have HS := Lib.hid (HX.out.trans hq)
          go_wp2_with fail
          go_quiet (fail)
          go_wp2
          go_ret
          exact ⟨ret_int (by rw [HU.out j hlt HN.out HS.out]), below_drewN (below_drewN (Below.refl _ _) n) nq⟩
      · have hcv := HC2.out j hlt
        rw [List.length_drop] at hcv
        have g1 : decide ((6 : Int) ≤ (l.length : Int) - (j : Int)) = false := by simp; omega
        have g2 : (l.length : Int) - (j : Int) < 6 := by omega
        have HX := Lib.hid (stops_lt (l.drop j) (by simp; omega))
        rw [List.length_drop] at HX
        cases hq : (List.drop j l == (ByteArray.extract { data := #[27, 91, 50, 48, 49, 126] } 0 (l.length - j)).toList)
        · have HS := Lib.hid (HX.out.trans hq)
          go_wp2_with fail
          go_quiet (fail)
          go_wp2
          refine ⟨⟨j + 1, n + nq, by omega, by go_num, rfl, fun k hk => ?_⟩, by simp [intOf]; omega⟩
          rcases Nat.lt_or_eq_of_le (Nat.le_of_lt_succ hk) with hk | rfl
          · exact HN.out k hk
          · exact HS.out
        · have HS := Lib.hid (HX.out.trans hq)
          go_wp2_with fail
          go_quiet (fail)
          go_wp2
          go_ret
          exact ⟨ret_int (by rw [HU.out j hlt HN.out HS.out]), below_drewN (below_drewN (Below.refl _ _) n) nq⟩
    · obtain rfl : j = l.length := by omega
      go_wp2
      go_ret
      exact ⟨ret_int (by rw [HV.out HN.out]), below_drewN (Below.refl _ _) n⟩

end Go.Proofs.YtjopjddhgaiddabGreatDoor

/- Pastes: pasteToken, tokenWithin; the model's l3Pasted and FirstPaste. -/
namespace Go.Proofs.YtjopjddhgaiddabGreatDoor
open Go.RowKit

def pasteEv (d : List UInt8) : Ev := ⟨3, 0, 0, 0, 0, 0, 0, d⟩
def pTk (d : List UInt8) (n : Int) : Tk := ⟨0, pasteEv d, n, true, false⟩
def pasteTk (d : List UInt8) : Tk := pTk d d.length

/-- what a call leaves that hands back a Token with data of its own -/
def NewTok (w : World) (e : Ev) (s : Int) (pa no : Bool) (en : Ending) (w' : World) : Prop := ∃ v, en = .returned (tokV e v s pa no) ∧ Own w' w.heap.size v e.data ∧ Below w.heap.size w w'
theorem tok_end {w w1 : World} {o : Obj} {e : Ev} {s : Int} {pa no : Bool} {v : Value} (vs : List Value) (ho : Own w1 (w.alloc o).heap.size v e.data) (hb : Below (w.alloc o).heap.size (w.alloc o) w1) :
    NewTok w e s pa no (.returned (tokV e v s pa no)) (sets w1 w.heap.size 0 vs) :=
  ⟨v, rfl, (sets_own (by simp) vs 0 _ ho).lower (by simp), sets_below (Nat.le_refl _) vs 0 _ _ (below_on (below_mk _ o) hb)⟩
def tokL (e : Ev) (v : Value) (s : Int) (pa no : Bool) : List Value :=
  [.int .i64 e.kind, .int .i64 e.code, .int .i64 e.mods, .int .i64 e.button, .int .i64 e.act, .int .i64 e.col, .int .i64 e.row, v, .int .i64 s, .bool pa, .bool no]

set_option maxRecDepth 100000 in
set_option maxHeartbeats 2000000 in
theorem pasteToken_any (p : Option Addr) (c : Nat) (l : List UInt8) (w : World) (h : Bs w w.heap.size p l) (hl : l.length ≤ 1048576) (hne : l ≠ []) :
    Calls Tryz.prog 66 #[.slice p l.length c] w (NewTok w (pasteEv l) l.length true false) := by
  have HC := Lib.hid (fun o => bytesClone_any p c l (w.alloc o) (h.alloc o) hl hne)
  clear h
  go_enter Tryz.func66, Tryz.ntmps66
  go_wp2_with (go_at_call 101; refine (HC.out _).mono ?_; rintro e w1 ⟨v, rfl, ho, hb⟩; obtain ⟨hc, hf⟩ := bcell hb; obtain ⟨pp, cc, hv⟩ := ho.slice; subst hv)
  have HE : Hid (NewTok w (pasteEv l) l.length true false (.returned (tokV (pasteEv l) (.slice pp l.length cc) l.length true false)) (sets w1 w.heap.size 0 (tokL (pasteEv l) (.slice pp l.length cc) l.length true false))) := tok_end (tokL (pasteEv l) (.slice pp l.length cc) l.length true false) ho hb
  clear ho hb
  refine bodyPost_ret (v := tokV (pasteEv l) (.slice pp l.length cc) l.length true false) ?_ rfl HE.out
  simp [results, Tryz.results66, tokV, pasteEv, go_sem, hc]

set_option maxRecDepth 100000 in
set_option maxHeartbeats 2000000 in
theorem l3Pasted_any (p : Option Addr) (c : Nat) (l : List UInt8) (w : World) (h : Bs w w.heap.size p l) (hc : l.length ≤ c) (hl : l.length ≤ 1048576) :
    Calls Tryz.prog 49 #[.slice p l.length c] w (NewTk w (pasteTk (l.take 32))) := by
  have HC := Lib.hid (fun o c' => l1Copy_any p c' (l.take 32) (w.alloc o) ((h.alloc o).head 32) (by simp; omega))
  clear h
  by_cases h32 : l.length < 32
  · have hm : lesser (l.length : Int) 32 = l.length := by unfold lesser; rw [if_pos (by omega)]
    rw [List.take_of_length_le (by omega)] at HC ⊢
    go_enter Tryz.func49, Tryz.ntmps49
    go_wp2_with (first
      | (go_at_call 84; refine (l1Min_any _ _ _).mono ?_; rintro e w' ⟨rfl, rfl⟩; rw [hm])
      | (go_at_call 24; refine (HC.out _ _).mono ?_; rintro e w1 ⟨v, rfl, ho, hb⟩; obtain ⟨hcc, hf⟩ := bcell hb; obtain ⟨pp, cc, hv⟩ := ho.slice; subst hv))
    have HE : Hid (NewTk w (pasteTk l) (.returned (tkV (pasteTk l) (.slice pp l.length cc))) (sets w1 w.heap.size 0 (tkL (pasteTk l) (.slice pp l.length cc)))) := tk_end (tkL (pasteTk l) (.slice pp l.length cc)) ho hb
    clear ho hb
    refine bodyPost_ret (v := tkV (pasteTk l) (.slice pp l.length cc)) ?_ rfl HE.out
    simp [results, Tryz.results49, tkV, pasteTk, pTk, pasteEv, go_sem, hcc]
  · have hm : lesser (l.length : Int) 32 = 32 := by unfold lesser; rw [if_neg (by omega)]
    have h3 : (l.take 32).length = 32 := by simp; omega
    rw [h3] at HC
    generalize l.take 32 = d at *
    go_enter Tryz.func49, Tryz.ntmps49
    go_wp2_with (first
      | (go_at_call 84; refine (l1Min_any _ _ _).mono ?_; rintro e w' ⟨rfl, rfl⟩; rw [hm])
      | (go_at_call 24; refine (HC.out _ _).mono ?_; rintro e w1 ⟨v, rfl, ho, hb⟩; obtain ⟨hcc, hf⟩ := bcell hb; obtain ⟨pp, cc, hv⟩ := ho.slice; subst hv))
    rw [h3] at ho
    have HE : Hid (NewTk w (pTk d 32) (.returned (tkV (pTk d 32) (.slice pp 32 cc))) (sets w1 w.heap.size 0 (tkL (pTk d 32) (.slice pp 32 cc)))) := tk_end (tkL (pTk d 32) (.slice pp 32 cc)) ho hb
    have HD : pasteTk d = pTk d 32 := by unfold pasteTk; rw [h3]; rfl
    rw [HD]
    clear ho hb HD
    refine bodyPost_ret (v := tkV (pTk d 32) (.slice pp 32 cc)) ?_ rfl HE.out
    simp [results, Tryz.results49, tkV, pTk, pasteEv, go_sem, hcc]

/-- the first token within a paste -/
def firstPaste (l : List UInt8) : Tk :=
  if l = [] then badTk 4 else if 32 ≤ unt l then pasteTk (l.take 32) else if l.length < unt l + 6 then badTk 6 else if 0 < unt l then pasteTk (l.take (unt l)) else ⟨0, noEv, 6, false, true⟩

theorem firstPaste_small (l : List UInt8) : (firstPaste l).ev.data.length ≤ 32 := by
  unfold firstPaste
  repeat' split
  all_goals simp [badTk, noEv, pasteTk, pTk, pasteEv]
  all_goals omega

end Go.Proofs.YtjopjddhgaiddabGreatDoor

/- Raw tokens: rawToken of the program, l3Raw of the model; firstBytes. -/
namespace Go.Proofs.YtjopjddhgaiddabGreatDoor
open Go.RowKit
set_option linter.unusedVariables false

def rawEv (d : List UInt8) : Ev := ⟨4, 0, 0, 0, 0, 0, 0, d⟩
def rTk (d : List UInt8) (n : Int) : Tk := ⟨0, rawEv d, n, false, false⟩
def rawTk (d : List UInt8) : Tk := rTk d d.length

set_option maxRecDepth 100000 in
set_option maxHeartbeats 2000000 in
theorem rawToken_any (p : Option Addr) (c : Nat) (l : List UInt8) (w : World) (h : Bs w w.heap.size p l) (hl : l.length ≤ 1048576) (hne : l ≠ []) :
    Calls Tryz.prog 103 #[.slice p l.length c] w (NewTok w (rawEv l) l.length false false) := by
  have HC := Lib.hid (fun o => bytesClone_any p c l (w.alloc o) (h.alloc o) hl hne)
  clear h
  go_enter Tryz.func103, Tryz.ntmps103
  go_wp2_with (go_at_call 101; refine (HC.out _).mono ?_; rintro e w1 ⟨v, rfl, ho, hb⟩; obtain ⟨hc, hf⟩ := bcell hb; obtain ⟨pp, cc, hv⟩ := ho.slice; subst hv)
  have HE : Hid (NewTok w (rawEv l) l.length false false (.returned (tokV (rawEv l) (.slice pp l.length cc) l.length false false)) (sets w1 w.heap.size 0 (tokL (rawEv l) (.slice pp l.length cc) l.length false false))) := tok_end (tokL (rawEv l) (.slice pp l.length cc) l.length false false) ho hb
  clear ho hb
  refine bodyPost_ret (v := tokV (rawEv l) (.slice pp l.length cc) l.length false false) ?_ rfl HE.out
  simp [results, Tryz.results103, tokV, rawEv, go_sem, hc]

theorem rawToken_cut (p : Option Addr) (c k : Nat) (l : List UInt8) (w : World) (h : Bs w w.heap.size p l) (hk : k ≤ l.length) (h0 : 0 < k) (hl : l.length ≤ 1048576) :
    Calls Tryz.prog 103 #[.slice p k c] w (NewTok w (rawEv (l.take k)) k false false) := by
  have e : (l.take k).length = k := by simp; omega
  have := rawToken_any p c (l.take k) w (h.head k) (by simp; omega) (by intro e'; rw [e'] at e; simp at e; omega)
  rw [e] at this
  exact this

theorem l3Token_raw (d : List UInt8) (p : Option Addr) (c n : Nat) (s : Int) (w : World) (hn : n = d.length) : Calls Tryz.prog 114 #[.agg #[.int .i64 4, .int .i64 0, .int .i64 0, .int .i64 0, .int .i64 0, .int .i64 0, .int .i64 0, .slice p n c], .int .i64 s] w fun en w' => en = .returned (tkV (rTk d s) (.slice p n c)) ∧ Below w.heap.size w w' := by
  subst hn
  exact l3Token_any (rawEv d) p c s w

set_option maxRecDepth 100000 in
set_option maxHeartbeats 2000000 in
theorem l3Raw_k (p : Option Addr) (c k n : Nat) (d : List UInt8) (w : World) (hd : d.length = k) (hkc : k ≤ c) (hk : k ≤ 24) (hn : n ≤ 1048576) (hm : lesser (n : Int) 24 = k)
    (HC : Hid (∀ o c', Calls Tryz.prog 24 #[.slice p k c'] (w.alloc o) (NewOwn (w.alloc o) d))) :
    Calls Tryz.prog 81 #[.slice p n c] w (NewTk w (rTk d k)) := by
  go_enter Tryz.func81, Tryz.ntmps81
  go_wp2_with (first
    | (go_at_call 84; refine (l1Min_any _ _ _).mono ?_; rintro e w' ⟨rfl, rfl⟩; rw [hm])
    | (go_at_call 24; refine (HC.out _ _).mono ?_; rintro e w1 ⟨v, rfl, ho, hb⟩; obtain ⟨pp, cc, hv⟩ := ho.slice; subst hv))
  rw [hd] at ho
  refine (l3Token_raw d pp cc k k w1 hd.symm).mono ?_
  rintro e w2 ⟨rfl, hb2⟩
  have hb3 := hb.trans (hb2.mono hb.size)
  have HE : Hid (NewTk w (rTk d k) (.returned (tkV (rTk d k) (.slice pp k cc))) (sets w2 w.heap.size 0 (tkL (rTk d k) (.slice pp k cc)))) := tk_end (tkL (rTk d k) (.slice pp k cc)) (ho.on hb2) hb3
  obtain ⟨hcc, hf⟩ := bcell hb3
  clear ho hb hb2 hb3
  unfold tkV rTk rawEv
  dsimp only
  go_wp2_with fail
  refine bodyPost_ret (v := tkV (rTk d k) (.slice pp k cc)) ?_ rfl HE.out
  simp [results, Tryz.results81, tkV, rTk, rawEv, go_sem, hcc]

theorem l3Raw_any (p : Option Addr) (c : Nat) (l : List UInt8) (w : World) (h : Bs w w.heap.size p l) (hc : l.length ≤ c) (hl : l.length ≤ 1048576) :
    Calls Tryz.prog 81 #[.slice p l.length c] w (NewTk w (rawTk (l.take 24))) := by
  have e : rawTk (l.take 24) = rTk (l.take 24) ((l.take 24).length : Nat) := rfl
  rw [e]
  refine l3Raw_k p c (l.take 24).length l.length (l.take 24) w rfl (by simp; omega) (by simp; omega) hl ?_ (Lib.hid fun o c' => l1Copy_any p c' (l.take 24) (w.alloc o) ((h.alloc o).head 24) (by simp; omega))
  unfold lesser
  rw [List.length_take]
  by_cases h24 : l.length < 24
  · rw [if_pos (by omega)]; omega
  · rw [if_neg (by omega)]; omega

theorem l3Raw_cut (p : Option Addr) (c k : Nat) (l : List UInt8) (w : World) (h : Bs w w.heap.size p l) (hk : k ≤ l.length) (hk2 : k ≤ 24) (hc : k ≤ c) (hl : l.length ≤ 1048576) :
    Calls Tryz.prog 81 #[.slice p k c] w (NewTk w (rawTk (l.take k))) := by
  have e : (l.take k).length = k := by simp; omega
  have := l3Raw_any p c (l.take k) w (h.head k) (by omega) (by omega)
  rw [e, List.take_of_length_le (by omega)] at this
  exact this

end Go.Proofs.YtjopjddhgaiddabGreatDoor
