/- The draws of chapter 2 that hand back bytes: DrawNumberOf, DrawPartsOf. -/
import Derived.Test.YtnmnklilmcpkaaaQDrawsToDrawsT
import Derived.Test.YtnmnklilmcpkaaaQBytesToCells
import Derived.Laws.IdiomStrings
namespace Go.Proofs.Ytnmnklilmcpkaaa
open Go.RowKit

/-- what a draw of bytes leaves -/
def AnyB (w : World) (e : Ending) (w' : World) : Prop :=
  ∃ (g : Nat) (c : Nat) (bs : List UInt8), e = .returned (.slice (some ⟨g, 0, none⟩) bs.length c) ∧ bs.length ≤ 24 ∧ bs.length ≤ c ∧ Bs w' w'.heap.size (some ⟨g, 0, none⟩) bs ∧ Below w.heap.size w w'

/-- block g holds the strings ss -/
def StrsAt (w : World) (g : Nat) (ss : List ByteArray) : Prop := g < w.heap.size ∧ ∀ i, i < ss.length → ∃ s : ByteArray, w.cell? ⟨g, i, none⟩ = some (.string s) ∧ s.size ≤ 24
theorem StrsAt.far {w w' : World} {g : Nat} {ss : List ByteArray} (h : StrsAt w g ss) {row : Option Nat} (hg : w.grownBy w' row) (hr : some g ≠ row) : StrsAt w' g ss :=
  ⟨Nat.lt_of_lt_of_le h.1 hg.size, fun i hi => by
    obtain ⟨s, hc, hs⟩ := h.2 i hi
    exact ⟨s, (World.cell?_of_block (a := ⟨g, i, none⟩) (hg.block g h.1 hr)).trans hc, hs⟩⟩
theorem StrsAt.new (w : World) (ss : List ByteArray) (t : TypeId) (cs : Array Value) (hcs : cs = (ss.map Value.string).toArray) (hs : (ss.all fun s => decide (s.size ≤ 24)) = true) : StrsAt (w.alloc (.cells cs t)) w.heap.size ss := by
  subst hcs
  exact ⟨by simp, fun i hi => ⟨ss[i], by simp [hi], by simpa using List.all_eq_true.1 hs _ (List.getElem_mem hi)⟩⟩

/-- '[]byte(s)': where it lies, its room -/
theorem conv_bytes (w : World) (s : ByteArray) (hs : s.size ≤ 24) : ∃ (cap : Nat) (w' : World), (convert 9 22 (.string s)).run Try.prog w = .ok (.slice (some ⟨w.heap.size, 0, none⟩) s.data.toList.length cap) w' ∧ s.data.toList.length ≤ cap ∧ Bs w' w'.heap.size (some ⟨w.heap.size, 0, none⟩) s.data.toList ∧ Below w.heap.size w w' ∧ s.data.toList.length ≤ 24 := by
  have hr := run_bytes_of_string (P := Try.prog) w 9 22 5 s Try.underlying9 Try.underlying22 Try.underlying5
  have hsz : s.data.toList.length = s.size := Array.length_toList
  have hge := grownCap_ge w s.size 0 5
  refine ⟨_, _, by rw [hsz]; exact hr, by rw [hsz]; exact hge, fun hne => ⟨w.heap.size, 0, rfl, by simp, fun i hi => ?_⟩, ?_, by omega⟩
  · have hi' : i < s.size := by omega
    have hb : (bytesRow s (grownCap w s.size 0 5))[i]? = some (.int .u8 ((s.data.toList.getD i 0).toNat : Int)) := by
      unfold bytesRow
      have hi2 : i < s.data.size := hi'
      rw [Array.getElem?_append_left (by rw [Array.size_map]; exact hi2), Array.getElem?_map, Array.getElem?_eq_getElem hi2, List.getD_eq_getElem?_getD, Array.getElem?_toList, Array.getElem?_eq_getElem hi2]
      rfl
    rw [Nat.zero_add]
    exact (cell_of_row _ w.heap.size i _ _ _ (heap_alloc_new w.drew _)).trans hb
  · exact ⟨rfl, rfl, rfl, by simp, fun j hj => Below.heap_alloc w.drew _ j hj⟩



set_option maxRecDepth 100000 in
set_option maxHeartbeats 400000 in
theorem drawPartsOf_any (q : Option Addr) (c : Nat) (l : List UInt8) (w : World) (h : Bs w w.heap.size q l) (hl : l.length ≤ 1048576) :
    Calls Try.prog 25 #[.slice q l.length c] w (AnyB w) := by
  have H := Lib.hid (fun o => l1Source_any q c l (w.alloc o) (h.alloc o))
  have HN : Hid (StrsAt (w.alloc (.cells #[.string ⟨#[]⟩, .string ⟨#[65]⟩, .string ⟨#[49, 59, 53, 65]⟩, .string ⟨#[60, 48, 59, 51, 59, 52, 77]⟩, .string ⟨#[60, 48, 59, 51, 59, 52]⟩, .string ⟨#[51, 126]⟩, .string ⟨#[50, 48, 48, 126]⟩, .string ⟨#[57, 55, 59, 53, 117]⟩, .string ⟨#[59, 59, 72]⟩, .string ⟨#[49, 59, 50, 59, 51, 59, 52, 59, 53, 120]⟩, .string ⟨#[49, 32, 65]⟩, .string ⟨#[60]⟩, .string ⟨#[27]⟩, .string ⟨#[49, 50, 51, 52, 53, 54, 55, 56, 57, 48, 49, 65]⟩, .string ⟨#[49, 59, 50, 59, 51, 59, 52, 122]⟩, .string ⟨#[60, 60, 77]⟩, .string ⟨#[65, 49]⟩, .string ⟨#[49, 59, 53, 127]⟩, .string ⟨#[49, 59, 53, 255]⟩, .string ⟨#[64]⟩, .string ⟨#[126]⟩] 9)) w.heap.size [⟨#[]⟩, ⟨#[65]⟩, ⟨#[49, 59, 53, 65]⟩, ⟨#[60, 48, 59, 51, 59, 52, 77]⟩, ⟨#[60, 48, 59, 51, 59, 52]⟩, ⟨#[51, 126]⟩, ⟨#[50, 48, 48, 126]⟩, ⟨#[57, 55, 59, 53, 117]⟩, ⟨#[59, 59, 72]⟩, ⟨#[49, 59, 50, 59, 51, 59, 52, 59, 53, 120]⟩, ⟨#[49, 32, 65]⟩, ⟨#[60]⟩, ⟨#[27]⟩, ⟨#[49, 50, 51, 52, 53, 54, 55, 56, 57, 48, 49, 65]⟩, ⟨#[49, 59, 50, 59, 51, 59, 52, 122]⟩, ⟨#[60, 60, 77]⟩, ⟨#[65, 49]⟩, ⟨#[49, 59, 53, 127]⟩, ⟨#[49, 59, 53, 255]⟩, ⟨#[64]⟩, ⟨#[126]⟩]) := StrsAt.new w _ 9 _ rfl (by decide)
  have HCB := Lib.hid (fun (w : World) (s : ByteArray) hs => conv_bytes w s hs)
  clear h
  go_enter Try.func25, Try.ntmps25
  go_wp2_with fail
  refine (H.out _).mono ?_
  rintro e w1 ⟨rfl, hs1, hb1⟩
  rw [World.size_alloc] at hs1
  have HS1 := Lib.hid hs1
  have HST := Lib.hid (HN.out.far (grown_of_below hb1 none) (by simp))
  have HB1 := Lib.hid ((below_mk w _).trans (hb1.mono (by simp)))
  clear hs1 hb1
  go_wp2_with fail
  refine (l1Next_src _ q c 0 l 21 _ HS1.out hl (by omega) (by omega) (by omega)).mono ?_
  rintro e w2 ⟨v, rfl, ⟨hv0, hv1⟩, hs2, hg2⟩
  obtain ⟨i, rfl⟩ := Int.eq_ofNat_of_zero_le hv0
  obtain ⟨s, hc2, hsz⟩ := (HST.out.far hg2 (by simp)).2 i (by simp; omega)
  obtain ⟨cap, w3, hrun, hcap, hbs, hb3, h24⟩ := HCB.out w2 s hsz
  have HB2 := Lib.hid (HB1.out.grown hg2 HB1.out.size (by simp))
  have HR := Lib.hid (And.intro hcap (And.intro hbs (And.intro hb3 h24)))
  clear hs2 hg2 hcap hbs hb3 h24
  go_wp2_with fail
  go_ret
  exact ⟨_, _, _, rfl, HR.out.2.2.2, HR.out.1, HR.out.2.1, HB2.out.trans (HR.out.2.2.1.mono HB2.out.size)⟩

end Go.Proofs.Ytnmnklilmcpkaaa
