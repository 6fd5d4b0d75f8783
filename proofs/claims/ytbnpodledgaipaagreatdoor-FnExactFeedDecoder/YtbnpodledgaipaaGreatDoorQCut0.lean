/- Slices of bytes cut, copied, and held against a beginning: bytes.HasPrefix, bytes.Clone, '[]byte(s)'. -/
import Derived.Test.YtbnpodledgaipaaGreatDoorQTokToTokLaw2
import Derived.Laws.IdiomStrings
import Derived.Lib.SliceRun
namespace Go.Proofs.YtbnpodledgaipaaGreatDoor
open Go.RowKit

theorem Bs.head {w : World} {B : Nat} {p : Option Addr} {l : List UInt8} (h : Bs w B p l) (j : Nat) : Bs w B p (l.take j) := by
  intro hne
  have hlen : 0 < (l.take j).length := List.length_pos_iff.2 hne
  simp at hlen
  obtain ⟨b, off, rfl, hb, hc⟩ := h (by intro e; simp [e] at hlen)
  refine ⟨b, off, rfl, hb, fun i hi => ?_⟩
  rw [List.length_take] at hi
  rw [hc i (by omega)]
  simp [List.getD_eq_getElem?_getD, show i < j by omega]

theorem Bs.tail {w : World} {B : Nat} {p : Option Addr} {l : List UInt8} (h : Bs w B p l) (k c : Nat) (hc : l.length ≤ c) : Bs w B (if c = k then p else p.map (·.add k)) (l.drop k) := by
  intro hne
  have hlen : 0 < (l.drop k).length := List.length_pos_iff.2 hne
  simp at hlen
  obtain ⟨b, off, rfl, hb, hcell⟩ := h (by intro e; simp [e] at hlen)
  rw [if_neg (by omega)]
  refine ⟨b, off + k, ?_, hb, fun i hi => ?_⟩
  · simp only [Option.map_some, Addr.add]
    split
    · rename_i e; simp [e]
    · rfl
  · simp at hi
    rw [Nat.add_assoc, hcell (k + i) (by omega)]
    simp [List.getD_eq_getElem?_getD, List.getElem?_drop]

/-- b is a beginning of a -/
def pre (b a : List UInt8) : Bool := a.take b.length == b
theorem pre_long {b a : List UInt8} (h : a.length < b.length) : pre b a = false := by
  unfold pre
  rw [List.take_of_length_le (by omega)]
  apply beq_eq_false_iff_ne.2
  intro e
  rw [e] at h
  omega

set_option maxHeartbeats 1000000 in
theorem hasPrefix_any (p q : Option Addr) (c d : Nat) (a b : List UInt8) (w : World) {B C : Nat} (h : Bs w B p a) (k : Bs w C q b) (hc : a.length ≤ c) (_ : a.length ≤ 1048576) (hb : b.length ≤ 1048576) :
    Calls Tryz.prog 112 #[.slice p a.length c, .slice q b.length d] w fun e w' => e = .returned (.bool (pre b a)) ∧ w = w' := by
  by_cases hl : b.length ≤ a.length
  · have e : (a.take b.length).length = b.length := by simp [hl]
    have HE := Lib.hid (fun c' => bytesEqual_any p q c' d (a.take b.length) b w (h.head _) k)
    rw [e] at HE
    clear h k e
    go_enter Tryz.func112, Tryz.ntmps112
    go_wp2_with (go_at_call 126; refine (HE.out _).mono ?_; rintro e w' ⟨rfl, rfl⟩)
    go_ret
    exact ⟨ret_bool (by simp [pre]), rfl⟩
  · have HP := Lib.hid (pre_long (show a.length < b.length by omega))
    clear h k
    go_enter Tryz.func112, Tryz.ntmps112
    go_wp2
    go_ret
    exact ⟨ret_bool (by rw [HP.out]), rfl⟩

set_option maxRecDepth 100000 in
set_option maxHeartbeats 2000000 in
theorem bytesClone_any (p : Option Addr) (c : Nat) (l : List UInt8) (w : World) (h : Bs w w.heap.size p l) (hl : l.length ≤ 1048576) (hne : l ≠ []) :
    Calls Tryz.prog 123 #[.slice p l.length c] w (NewOwn w l) := by
  obtain ⟨b, off, rfl, hb, hcell⟩ := h hne
  have q22 : ∀ (w : World) (a : Option Addr) (n c : Nat), (binOp .eql 22 (.slice a n c) (.slice none 0 0)).run Tryz.prog w = .ok (.bool a.isNone) w := fun w a n c => Lib.run_eql_slice_nil w _ _ a n c 0 0 Tryz.underlying22
  obtain ⟨i0, hi, hz0, hz1, hz2⟩ := info_parts Tryz.info_u8
  have HL := Lib.hid hcell
  have HB := Lib.hid hb
  clear hcell h hb
  go_enter Tryz.func123, Tryz.ntmps123
  go_wp2_with (at_builtin; refine wpList_append_own _ rfl _ _ 22 rfl w.heap.size 5 i0 (.int .u8 0) 1 1 Tryz.underlying22 hi hz0 hz1 hz2 rfl (by decide) _ _ _ rfl (World.ownsRow_made w #[] 0 (Nat.le_refl _) (Nat.zero_le _) rfl) ⟨b, off, none⟩ l.length c (l.map fun x : UInt8 => Value.int .u8 (x.toNat : Int)) rfl ?c0 ?c1 ?c2 ?c3 ?c4 ?c5 ?_)
  case c0 => simp
  case c1 =>
    intro j u hj
    have hjn : j < l.length := by
      have := (List.getElem?_eq_some_iff.1 hj).1
      simpa using this
    simp [hjn] at hj
    subst hj
    refine Lib.cell?_alloc_some _ ?_
    have e : (⟨b, off, none⟩ : Addr).add j = ⟨b, off + j, none⟩ := by
      simp only [Addr.add]
      split
      · simp
      · rfl
    rw [e, HL.out j hjn]
    simp [List.getD_eq_getElem?_getD, hjn]
  case c2 => intro u hu; obtain ⟨x, _, rfl⟩ := List.mem_map.1 hu; rfl
  case c3 => unfold maxLen; omega
  case c4 => omega
  case c5 => simp
  intro v' w2 hown hgrow _
  go_wp2
  go_ret
  refine ⟨v', rfl, ?_, (below_mk w _).grown hgrow (by simp) (by intro k hk; simp [Value.ownBlock] at hk; omega)⟩
  unfold Own
  simpa using hown

/-- '[]byte(s)': where it lies, its room -/
theorem conv_lit (w : World) (s : ByteArray) : ∃ (cap : Nat) (w' : World), (convert 9 22 (.string s)).run Tryz.prog w = .ok (.slice (some ⟨w.heap.size, 0, none⟩) s.data.toList.length cap) w' ∧ s.data.toList.length ≤ cap ∧ Bs w' w'.heap.size (some ⟨w.heap.size, 0, none⟩) s.data.toList ∧ Below w.heap.size w w' := by
  have hr := run_bytes_of_string (P := Tryz.prog) w 9 22 5 s Tryz.underlying9 Tryz.underlying22 Tryz.underlying5
  have hsz : s.data.toList.length = s.size := Array.length_toList
  have hge := grownCap_ge w s.size 0 5
  refine ⟨_, _, by rw [hsz]; exact hr, by rw [hsz]; exact hge, fun hne => ⟨w.heap.size, 0, rfl, by simp, fun i hi => ?_⟩, ?_⟩
  · have hi' : i < s.size := by omega
    have hb : (bytesRow s (grownCap w s.size 0 5))[i]? = some (.int .u8 ((s.data.toList.getD i 0).toNat : Int)) := by
      unfold bytesRow
      have hi2 : i < s.data.size := hi'
      rw [Array.getElem?_append_left (by rw [Array.size_map]; exact hi2), Array.getElem?_map, Array.getElem?_eq_getElem hi2, List.getD_eq_getElem?_getD, Array.getElem?_toList, Array.getElem?_eq_getElem hi2]
      rfl
    rw [Nat.zero_add]
    exact (cell_of_row _ w.heap.size i _ _ _ (heap_alloc_new w.drew _)).trans hb
  · exact ⟨rfl, rfl, rfl, by simp, fun j hj => Below.heap_alloc w.drew _ j hj⟩

end Go.Proofs.YtbnpodledgaipaaGreatDoor
