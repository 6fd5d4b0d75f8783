/- The contracts of eqTokenResult, markTokenResult, heldTokenResult. -/
import Derived.Test.YtcchhlcgamcceaaTok
namespace Go.Proofs.Ytcchhlcgamcceaa
open Go.RowKit

set_option maxRecDepth 100000 in
set_option maxHeartbeats 2000000 in
theorem eqToken_same (e : Ev) (p q : Option Addr) (c d : Nat) (s : Int) (pa no : Bool) (w : World) (h : Bs w w.heap.size p e.data) (k : Bs w w.heap.size q e.data) (hl : e.data.length ≤ 1048576) :
    Calls Try.prog 54 #[tokV e (.slice p e.data.length c) s pa no, tokV e (.slice q e.data.length d) s pa no] w fun en w' => en = .returned (.bool true) ∧ Below w.heap.size w w' := by
  have h1 : (s != s) = false := by simp
  have h2 : (pa != pa) = false := by simp
  have h3 : (no != no) = false := by simp
  have HE := Lib.hid (fun (o1 o2 : Obj) => eqEvent_same e p q c d ((w.alloc o1).alloc o2) ((h.alloc _).alloc _) ((k.alloc _).alloc _) hl)
  clear h k hl
  unfold evV at HE
  unfold tokV
  go_enter Try.func54, Try.ntmps54
  go_wp2_with fail
  refine (HE.out _ _).mono ?_
  rintro en w1 ⟨rfl, b1⟩
  obtain ⟨hc, hf⟩ := bcell b1
  go_wp2
  go_ret
  exact ⟨rfl, below_on (below_on (below_mk _ _) (below_mk _ _)) b1⟩

set_option maxRecDepth 100000 in
set_option maxHeartbeats 2000000 in
theorem eqTokenResult_same (t : Tk) (p q : Option Addr) (c d : Nat) (w : World) (h : Bs w w.heap.size p t.ev.data) (k : Bs w w.heap.size q t.ev.data) (hl : t.ev.data.length ≤ 1048576) :
    Calls Try.prog 19 #[tkV t (.slice p t.ev.data.length c), tkV t (.slice q t.ev.data.length d)] w fun en w' => en = .returned (.bool true) ∧ Below w.heap.size w w' := by
  obtain ⟨code, e, s, pa, no⟩ := t
  dsimp only at h k hl ⊢
  have h1 : (code != code) = false := by simp
  have HE := Lib.hid (fun (o1 o2 : Obj) => eqToken_same e p q c d s pa no ((w.alloc o1).alloc o2) ((h.alloc _).alloc _) ((k.alloc _).alloc _) hl)
  clear h k hl
  unfold tokV at HE
  unfold tkV
  dsimp only
  go_enter Try.func19, Try.ntmps19
  go_wp2_with fail
  refine (HE.out _ _).mono ?_
  rintro en w1 ⟨rfl, b1⟩
  go_wp2
  go_ret
  exact ⟨rfl, below_on (below_on (below_mk _ _) (below_mk _ _)) b1⟩

theorem grown_mk {w w' : World} {o : Obj} {row : Option Nat} (h : (w.alloc o).grownBy w' row) : w.grownBy w' row :=
  grown_trans (grown_of_below (below_mk w o) row) h

set_option maxHeartbeats 1000000 in
theorem markEvent_any (w : World) (base k : Nat) (e : Ev) (p : Option Addr) (c : Nat) (h : Own w base (.slice p e.data.length c) e.data) (hl : e.data.length ≤ 1048576) (hk : k ≤ 1048576) :
    Calls Try.prog 81 #[evV e p c, .int .i64 k] w (Marked w base (.slice p e.data.length c) e.data k) := by
  unfold evV
  go_enter Try.func81, Try.ntmps81
  go_wp2_with (go_at_call 30; refine (markByteS_any _ base k _ e.data (h.on (below_mk _ _)) hl hk).mono ?_; rintro en w1 ⟨rfl, ho, hg⟩)
  go_ret
  exact ⟨rfl, ho, grown_mk hg⟩

set_option maxHeartbeats 1000000 in
theorem markToken_any (w : World) (base k : Nat) (e : Ev) (p : Option Addr) (c : Nat) (s : Int) (pa no : Bool) (h : Own w base (.slice p e.data.length c) e.data) (hl : e.data.length ≤ 1048576) (hk : k ≤ 1048576) :
    Calls Try.prog 55 #[tokV e (.slice p e.data.length c) s pa no, .int .i64 k] w (Marked w base (.slice p e.data.length c) e.data k) := by
  have HM := Lib.hid (fun o => markEvent_any (w.alloc o) base k e p c (h.on (below_mk _ _)) hl hk)
  clear h hl hk
  unfold evV at HM
  unfold tokV
  go_enter Try.func55, Try.ntmps55
  go_wp2_with (go_at_call 81; refine (HM.out _).mono ?_; rintro en w1 ⟨rfl, ho, hg⟩)
  go_ret
  exact ⟨rfl, ho, grown_mk hg⟩

set_option maxHeartbeats 1000000 in
theorem markTokenResult_any (w : World) (base k : Nat) (t : Tk) (p : Option Addr) (c : Nat) (h : Own w base (.slice p t.ev.data.length c) t.ev.data) (hl : t.ev.data.length ≤ 1048576) (hk : k ≤ 1048576) :
    Calls Try.prog 20 #[tkV t (.slice p t.ev.data.length c), .int .i64 k] w (Marked w base (.slice p t.ev.data.length c) t.ev.data k) := by
  have HM := Lib.hid (fun o => markToken_any (w.alloc o) base k t.ev p c t.size t.paste t.none (h.on (below_mk _ _)) hl hk)
  clear h hl hk
  unfold tokV at HM
  unfold tkV
  go_enter Try.func20, Try.ntmps20
  go_wp2_with (go_at_call 55; refine (HM.out _).mono ?_; rintro en w1 ⟨rfl, ho, hg⟩)
  go_ret
  exact ⟨rfl, ho, grown_mk hg⟩

set_option maxHeartbeats 1000000 in
theorem heldEvent_any (w : World) (k n : Nat) (a1 a2 a3 a4 a5 a6 a7 : Int) (p : Option Addr) (c : Nat) (h : Bs w w.heap.size p (marksL k n)) (hl : n ≤ 1048576) (hk : k ≤ 1048576) :
    Calls Try.prog 82 #[.agg #[.int .i64 a1, .int .i64 a2, .int .i64 a3, .int .i64 a4, .int .i64 a5, .int .i64 a6, .int .i64 a7, .slice p n c], .int .i64 k] w fun en w' => en = .returned (.int .i64 ((k + n : Nat) : Int)) ∧ Below w.heap.size w w' := by
  have HC : Hid (∀ o, Calls Try.prog 95 #[.slice p n c, .int .i64 k] (w.alloc o) fun e w' => e = .returned (.int .i64 ((k + n : Nat) : Int)) ∧ w.alloc o = w') := fun o => by
    have := heldByteS_any (w.alloc o) p c k (marksL k n) (h.alloc o) (by rw [marksL_length]) (by rw [marksL_length]; exact hl) hk
    rw [marksL_length] at this
    exact this
  clear h
  go_enter Try.func82, Try.ntmps82
  go_wp2_with (go_at_call 95; refine (HC.out _).mono ?_; rintro e w1 ⟨rfl, rfl⟩)
  go_ret
  exact ⟨rfl, below_mk _ _⟩

set_option maxHeartbeats 1000000 in
theorem heldToken_any (w : World) (k n : Nat) (a1 a2 a3 a4 a5 a6 a7 a8 : Int) (b1 b2 : Bool) (p : Option Addr) (c : Nat) (h : Bs w w.heap.size p (marksL k n)) (hl : n ≤ 1048576) (hk : k ≤ 1048576) :
    Calls Try.prog 56 #[.agg #[.int .i64 a1, .int .i64 a2, .int .i64 a3, .int .i64 a4, .int .i64 a5, .int .i64 a6, .int .i64 a7, .slice p n c, .int .i64 a8, .bool b1, .bool b2], .int .i64 k] w fun en w' => en = .returned (.int .i64 ((k + n : Nat) : Int)) ∧ Below w.heap.size w w' := by
  have HC := Lib.hid (fun o => heldEvent_any (w.alloc o) k n a1 a2 a3 a4 a5 a6 a7 p c (h.alloc _) hl hk)
  clear h
  go_enter Try.func56, Try.ntmps56
  go_wp2_with (go_at_call 82; refine (HC.out _).mono ?_; rintro e w1 ⟨rfl, hb⟩)
  go_ret
  exact ⟨rfl, below_on (below_mk _ _) hb⟩

set_option maxHeartbeats 1000000 in
theorem heldTokenResult_any (w : World) (k n : Nat) (t : Tk) (p : Option Addr) (c : Nat) (h : Bs w w.heap.size p (marksL k n)) (hl : n ≤ 1048576) (hk : k ≤ 1048576) :
    Calls Try.prog 21 #[tkV t (.slice p n c), .int .i64 k] w fun en w' => en = .returned (.int .i64 ((k + n : Nat) : Int)) ∧ Below w.heap.size w w' := by
  have HC := Lib.hid (fun o => heldToken_any (w.alloc o) k n t.ev.kind t.ev.code t.ev.mods t.ev.button t.ev.act t.ev.col t.ev.row t.size t.paste t.none p c (h.alloc _) hl hk)
  clear h
  unfold tkV
  go_enter Try.func21, Try.ntmps21
  go_wp2_with (go_at_call 56; refine (HC.out _).mono ?_; rintro e w1 ⟨rfl, hb⟩)
  go_ret
  exact ⟨rfl, below_on (below_mk _ _) hb⟩

end Go.Proofs.Ytcchhlcgamcceaa
