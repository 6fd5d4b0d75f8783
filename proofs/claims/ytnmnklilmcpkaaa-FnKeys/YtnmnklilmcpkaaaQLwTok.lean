/- The laws' comparison of two tokens that are the same. -/
import Derived.Test.YtnmnklilmcpkaaaQTokToFields
import Derived.Test.YtnmnklilmcpkaaaQEvsToEvs2
import Derived.Test.YtnmnklilmcpkaaaQTakesToMem
namespace Go.Proofs.Ytnmnklilmcpkaaa
open Go.RowKit
set_option linter.unusedVariables false

theorem es_one (W : World) (e : Ev) (p : Option Addr) (c : Nat) (t : TypeId) (h : Bs W W.heap.size p e.data) : Es (W.alloc (.cells (evC e p c) t)) (W.alloc (.cells (evC e p c) t)).heap.size (some ⟨W.heap.size, 0, none⟩) [e] := by
  intro _
  refine ⟨W.heap.size, 0, rfl, by simp, fun i hi => ?_⟩
  obtain rfl : i = 0 := by simpa using hi
  exact ⟨p, c, EvAt.new W e p c t, h.alloc _⟩

set_option maxRecDepth 100000 in
set_option maxHeartbeats 4000000 in
theorem lwToken_same (t : Tk) (p q : Option Addr) (c d : Nat) (w : World) (h : Bs w w.heap.size p t.ev.data) (k : Bs w w.heap.size q t.ev.data) (hl : t.ev.data.length ≤ 1048576) :
    Calls Try.prog 12 #[tkV t (.slice p t.ev.data.length c), tkV t (.slice q t.ev.data.length d)] w fun e w' => e = .returned (.bool true) ∧ Below w.heap.size w w' := by
  have HS : Hid (∀ (A B : Obj) (g1 g2 : Nat), g1 = w.heap.size + 1 + 1 → g2 = w.heap.size + 1 + 1 + 1 → Calls Try.prog 33 #[.slice (some ⟨g1, 0, none⟩) 1 1, .slice (some ⟨g2, 0, none⟩) 1 1] ((((w.alloc A).alloc B).alloc (.cells (evC t.ev p c) 26)).alloc (.cells (evC t.ev q d) 26))
      fun e w' => e = .returned (.bool true) ∧ Below w.heap.size w w') := by
    intro A B g1 g2 e1 e2
    have h1 := es_one ((w.alloc A).alloc B) t.ev p c 26 ((h.alloc A).alloc B)
    have h2 := es_one (((w.alloc A).alloc B).alloc (.cells (evC t.ev p c) 26)) t.ev q d 26 (((k.alloc A).alloc B).alloc _)
    have h1' := h1.on (below_mk _ (.cells (evC t.ev q d) 26))
    have s1 : ((w.alloc A).alloc B).heap.size = g1 := by simp [e1]
    have s2 : (((w.alloc A).alloc B).alloc (.cells (evC t.ev p c) 26)).heap.size = g2 := by simp [e2]
    rw [s1] at h1'
    rw [s2] at h2
    refine (implSameEvents_any _ _ 1 1 [t.ev] [t.ev] _ h1' h2 (by simp)).mono ?_
    rintro e w1 ⟨rfl, hb⟩
    rw [sameEvs_refl]
    exact ⟨rfl, below_on (below_on (below_on (below_on (below_mk _ _) (below_mk _ _)) (below_mk _ _)) (below_mk _ _)) hb⟩
  clear h k
  unfold evC at HS
  unfold tkV
  go_enter Try.func12, Try.ntmps12
  go_wp2_with fail
  refine (HS.out _ _ _ _ rfl rfl).mono ?_
  rintro e w1 ⟨rfl, hb⟩
  go_wp2_with fail
  go_ret
  exact ⟨rfl, hb⟩

end Go.Proofs.Ytnmnklilmcpkaaa
