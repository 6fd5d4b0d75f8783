/- The draws of stage 1 that hand back a number. -/
import Derived.Test.YtjmfmdebnobogaaDoorDraws
namespace Go.Proofs.YtjmfmdebnobogaaDoor
open Go.RowKit

theorem Src.below {w w' : World} {g : Nat} {q : Option Addr} {c : Nat} {l : List UInt8} {N : Nat} (h : Src w g q c l N) (k : Below w.heap.size w w') : Src w' g q c l N := by
  obtain ⟨n, hn, h, hg⟩ := h
  exact ⟨n, hn, ⟨(k.cell hg).trans h.code, (k.cell hg).trans h.read, fun o => (World.frozen?_of_block (k.block g hg)).trans (h.free o), h.bytes.keep (Nat.le_refl _) fun a ha => k.cell (Nat.lt_trans ha hg)⟩, Nat.lt_of_lt_of_le hg k.size⟩

/-- l1Pick of a list that was laid last -/
theorem l1Pick_lit (g : Nat) (q : Option Addr) (c N : Nat) (l : List UInt8) (w : World) (h : Src w g q c l N) (hl : l.length ≤ 1048576) (hn : N ≤ 1000000)
    (xs : List Int) (k : Nat) (hk : xs.length = k) (X : Int → Prop) (hk1 : 1 ≤ k) (hk' : k ≤ 60000) (a : Array Value) (ha : a = (xs.map (Value.int .i64)).toArray) (t : TypeId) (hX : ∀ x ∈ xs, X x) :
    Calls Tryd.prog 42 #[.pointer (some ⟨g, 0, none⟩), .slice (some ⟨w.heap.size, 0, none⟩) k k] (w.alloc (.cells a t)) (NumPost w g q c l (N + 1) X) := by
  have hg := h.choose_spec.2.2
  refine (l1Pick_any g q c N l (w.alloc (.cells a t)) (h.below ((Below.refl _ _).alloc (Nat.le_refl _) _)) hl hn w.heap.size k X hk1 hk' (by omega) (by simp) ?_).mono ?_
  · intro i hi
    refine ⟨xs[i]'(by omega), ?_, hX _ (List.getElem_mem _)⟩
    subst ha
    simp [hk, hi]
  · rintro e w' ⟨v, rfl, hv, hs, hw⟩
    exact ⟨v, rfl, hv, hs, ⟨hw.os, hw.tape, hw.output, Nat.le_trans (by simp) hw.size, fun b hb hne => (hw.block b (by simp; omega) hne).trans (Below.heap_alloc _ _ _ hb)⟩⟩

set_option maxRecDepth 100000 in
set_option maxHeartbeats 1000000 in
theorem drawPutPoint_any (q : Option Addr) (c : Nat) (l : List UInt8) (w : World) (h : Bs w w.heap.size q l) (hl : l.length ≤ 1048576) :
    Calls Tryd.prog 7 #[.slice q l.length c] w fun e w' => (∃ v : Int, e = .returned (.int .i64 v) ∧ -1 ≤ v ∧ v ≤ 1114112) ∧ Below w.heap.size w w' := by
  have H := Lib.hid (l1Source_any q c l w h)
  clear h
  go_enter Tryd.func7, Tryd.ntmps7
  go_wp2_with (first | (go_at_call 43; refine H.out.mono ?_; rintro e w' ⟨rfl, hs, hb⟩; have HS := Lib.hid hs; clear hs) | (go_at_call 42; refine (l1Pick_lit _ q c 0 l _ HS.out hl (by omega) [0, 127, 128, 2047, 2048, 55295, 55296, 57343, 57344, 65535, 65536, 1114111, 1114112, -1] 14 rfl (fun v => -1 ≤ v ∧ v ≤ 1114112) (by omega) (by omega) _ rfl _ (by simp)).mono ?_; rintro e w'' ⟨v, rfl, hv, hs, hw⟩))
  go_ret
  exact ⟨⟨v, rfl, hv⟩, hb.grown hw hb.size (by simp)⟩

set_option maxRecDepth 100000 in
set_option maxHeartbeats 1000000 in
theorem drawIsSpecial_any (q : Option Addr) (c : Nat) (l : List UInt8) (w : World) (h : Bs w w.heap.size q l) (hl : l.length ≤ 1048576) :
    Calls Tryd.prog 11 #[.slice q l.length c] w fun e w' => (∃ v : Int, e = .returned (.int .i64 v) ∧ 65 ≤ v ∧ v ≤ 2000015) ∧ Below w.heap.size w w' := by
  have H := Lib.hid (l1Source_any q c l w h)
  clear h
  go_enter Tryd.func11, Tryd.ntmps11
  go_wp2_with (first | (go_at_call 43; refine H.out.mono ?_; rintro e w' ⟨rfl, hs, hb⟩; have HS := Lib.hid hs; clear hs) | (go_at_call 42; refine (l1Pick_lit _ q c 0 l _ HS.out hl (by omega) [2000000, 2000001, 2000014, 2000015, 65] 5 rfl (fun v => 65 ≤ v ∧ v ≤ 2000015) (by omega) (by omega) _ rfl _ (by simp)).mono ?_; rintro e w'' ⟨v, rfl, hv, hs, hw⟩))
  go_ret
  exact ⟨⟨v, rfl, hv⟩, hb.grown hw hb.size (by simp)⟩

end Go.Proofs.YtjmfmdebnobogaaDoor
