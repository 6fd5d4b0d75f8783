/- utf8.FullRune, DecodeRune: their contracts over bytes, by the class of the first byte. -/
import Derived.Test.YtcchhlcgamcceaaDoorQEventsToFault
import Derived.BigGuardPart
import Derived.Deep.QuietTactic
import Derived.BigQuiet
namespace Go.Proofs.YtcchhlcgamcceaaDoor
open Go.RowKit

/-- Go's table utf8.first, by ranges -/
def firstX (b : Nat) : Int :=
  if b < 128 then 240 else if b < 194 then 241 else if b < 224 then 2 else if b = 224 then 19 else if b = 237 then 35 else if b < 240 then 3 else if b = 240 then 52 else if b < 244 then 4 else if b = 244 then 68 else 241

/-- the two tables of utf8, as the start lays them -/
structure Tabs (w : World) : Prop where
  first : ∀ i, i < 256 → w.cell? ⟨0, i, none⟩ = some (.int .u8 (firstX i))
  l0 : w.cell? ⟨1, 0, none⟩ = some (.int .u8 128)
  h0 : w.cell? ⟨1, 1, none⟩ = some (.int .u8 191)
  l1 : w.cell? ⟨1, 2, none⟩ = some (.int .u8 160)
  h1 : w.cell? ⟨1, 3, none⟩ = some (.int .u8 191)
  l2 : w.cell? ⟨1, 4, none⟩ = some (.int .u8 128)
  h2 : w.cell? ⟨1, 5, none⟩ = some (.int .u8 159)
  l3 : w.cell? ⟨1, 6, none⟩ = some (.int .u8 144)
  h3 : w.cell? ⟨1, 7, none⟩ = some (.int .u8 191)
  l4 : w.cell? ⟨1, 8, none⟩ = some (.int .u8 128)
  h4 : w.cell? ⟨1, 9, none⟩ = some (.int .u8 143)

theorem Tabs.lt0 {w : World} (h : Tabs w) : 0 < w.heap.size := World.block_lt_of_cell? _ _ (h.first 0 (by omega))
theorem Tabs.lt1 {w : World} (h : Tabs w) : 1 < w.heap.size := World.block_lt_of_cell? _ _ h.l0
theorem Tabs.on {w w' : World} (h : Tabs w) (hb : Below w.heap.size w w') : Tabs w' := by
  have k0 : ∀ o, w'.cell? ⟨0, o, none⟩ = w.cell? ⟨0, o, none⟩ := fun o => hb.cell (p := ⟨0, o, none⟩) h.lt0
  have k1 : ∀ o, w'.cell? ⟨1, o, none⟩ = w.cell? ⟨1, o, none⟩ := fun o => hb.cell (p := ⟨1, o, none⟩) h.lt1
  exact ⟨fun i hi => (k0 i).trans (h.first i hi), (k1 _).trans h.l0, (k1 _).trans h.h0, (k1 _).trans h.l1, (k1 _).trans h.h1, (k1 _).trans h.l2, (k1 _).trans h.h2, (k1 _).trans h.l3, (k1 _).trans h.h3, (k1 _).trans h.l4, (k1 _).trans h.h4⟩

theorem byte_lt' (b : UInt8) : b.toNat < 256 := UInt8.toNat_lt b

/-- one of two values -/
def pickT (c : Bool) (u v : Value) : Value := if c = true then u else v
theorem pickT_yes {c : Bool} {u v x : Value} (h : c = true) (k : x = u) : Ending.returned x = .returned (pickT c u v) := by rw [k]; unfold pickT; rw [if_pos h]
theorem pickT_no {c : Bool} {u v x : Value} (h : c = false) (k : x = v) : Ending.returned x = .returned (pickT c u v) := by rw [k]; unfold pickT; rw [if_neg (by simp [h])]
/-- a byte of the middle -/
def mid (lo hi : Int) (b : UInt8) : Bool := decide (lo ≤ (b.toNat : Int)) && decide ((b.toNat : Int) ≤ hi)

set_option maxRecDepth 100000 in
set_option maxHeartbeats 4000000 in
theorem slow_2 (a b : UInt8) (r : List UInt8) (q : Option Addr) (cap : Nat) (w : World) (h : Bs w w.heap.size q (a :: b :: r)) (ht : Tabs w) (hx : firstX a.toNat = 2) :
    Calls Tryd.prog 83 #[.slice q (r.length + 1 + 1) cap] w fun e w' => e = .returned (pickT (mid 128 191 b) (.tuple #[.int .i32 ((a.toNat : Int) % 32 * 64 + (b.toNat : Int) % 64), .int .i64 2]) (.tuple #[.int .i32 65533, .int .i64 1])) ∧ Below w.heap.size w w' := by
  obtain ⟨bl, off, rfl, _, hc⟩ := h (by simp)
  have e0 := hc 0 (by simp)
  have e1 := hc 1 (by simp)
  simp at e0 e1
  have t0 := ht.first a.toNat (byte_lt' a)
  rw [hx] at t0
  have lo := ht.l0
  have hi := ht.h0
  have z0 := ht.lt0
  have z1 := ht.lt1
  have ha := byte_lt' a
  have g0 := byte_lt' b
  clear hc ht hx h
  have i0 : (0 : Int) < (r.length : Int) + 1 + 1 := by omega
  have i1 : (1 : Int) < (r.length : Int) + 1 + 1 := by omega
  generalize hcnd : (mid 128 191 b) = cnd
  unfold mid at hcnd
  generalize a.toNat = x at *
  generalize b.toNat = y0 at *
  have HCnd := Lib.hid hcnd
  clear hcnd
  go_enter Tryd.func83, Tryd.ntmps83
  go_wp2
  all_goals go_ret2
  all_goals refine ⟨?_, (Below.refl _ _).alloc (Nat.le_refl _) _⟩
  all_goals first
    | exact pickT_no (by rw [← HCnd.out, Bool.eq_false_iff]; simp; omega) rfl
    | exact pickT_yes (by rw [← HCnd.out]; simp; omega) rfl

set_option maxRecDepth 100000 in
set_option maxHeartbeats 4000000 in
theorem slow_19 (a b c : UInt8) (r : List UInt8) (q : Option Addr) (cap : Nat) (w : World) (h : Bs w w.heap.size q (a :: b :: c :: r)) (ht : Tabs w) (hx : firstX a.toNat = 19) :
    Calls Tryd.prog 83 #[.slice q (r.length + 1 + 1 + 1) cap] w fun e w' => e = .returned (pickT (mid 160 191 b && mid 128 191 c) (.tuple #[.int .i32 ((a.toNat : Int) % 16 * 4096 + (b.toNat : Int) % 64 * 64 + (c.toNat : Int) % 64), .int .i64 3]) (.tuple #[.int .i32 65533, .int .i64 1])) ∧ Below w.heap.size w w' := by
  obtain ⟨bl, off, rfl, _, hc⟩ := h (by simp)
  have e0 := hc 0 (by simp)
  have e1 := hc 1 (by simp)
  have e2 := hc 2 (by simp)
  simp at e0 e1 e2
  have t0 := ht.first a.toNat (byte_lt' a)
  rw [hx] at t0
  have lo := ht.l1
  have hi := ht.h1
  have z0 := ht.lt0
  have z1 := ht.lt1
  have ha := byte_lt' a
  have g0 := byte_lt' b
  have g1 := byte_lt' c
  clear hc ht hx h
  have i0 : (0 : Int) < (r.length : Int) + 1 + 1 + 1 := by omega
  have i1 : (1 : Int) < (r.length : Int) + 1 + 1 + 1 := by omega
  have i2 : (2 : Int) < (r.length : Int) + 1 + 1 + 1 := by omega
  generalize hcnd : (mid 160 191 b && mid 128 191 c) = cnd
  unfold mid at hcnd
  generalize a.toNat = x at *
  generalize b.toNat = y0 at *
  generalize c.toNat = y1 at *
  have HCnd := Lib.hid hcnd
  clear hcnd
  go_enter Tryd.func83, Tryd.ntmps83
  go_wp2
  all_goals go_ret2
  all_goals refine ⟨?_, (Below.refl _ _).alloc (Nat.le_refl _) _⟩
  all_goals first
    | exact pickT_no (by rw [← HCnd.out, Bool.eq_false_iff]; simp; omega) rfl
    | exact pickT_yes (by rw [← HCnd.out]; simp; omega) rfl

set_option maxRecDepth 100000 in
set_option maxHeartbeats 4000000 in
theorem slow_3 (a b c : UInt8) (r : List UInt8) (q : Option Addr) (cap : Nat) (w : World) (h : Bs w w.heap.size q (a :: b :: c :: r)) (ht : Tabs w) (hx : firstX a.toNat = 3) :
    Calls Tryd.prog 83 #[.slice q (r.length + 1 + 1 + 1) cap] w fun e w' => e = .returned (pickT (mid 128 191 b && mid 128 191 c) (.tuple #[.int .i32 ((a.toNat : Int) % 16 * 4096 + (b.toNat : Int) % 64 * 64 + (c.toNat : Int) % 64), .int .i64 3]) (.tuple #[.int .i32 65533, .int .i64 1])) ∧ Below w.heap.size w w' := by
  obtain ⟨bl, off, rfl, _, hc⟩ := h (by simp)
  have e0 := hc 0 (by simp)
  have e1 := hc 1 (by simp)
  have e2 := hc 2 (by simp)
  simp at e0 e1 e2
  have t0 := ht.first a.toNat (byte_lt' a)
  rw [hx] at t0
  have lo := ht.l0
  have hi := ht.h0
  have z0 := ht.lt0
  have z1 := ht.lt1
  have ha := byte_lt' a
  have g0 := byte_lt' b
  have g1 := byte_lt' c
  clear hc ht hx h
  have i0 : (0 : Int) < (r.length : Int) + 1 + 1 + 1 := by omega
  have i1 : (1 : Int) < (r.length : Int) + 1 + 1 + 1 := by omega
  have i2 : (2 : Int) < (r.length : Int) + 1 + 1 + 1 := by omega
  generalize hcnd : (mid 128 191 b && mid 128 191 c) = cnd
  unfold mid at hcnd
  generalize a.toNat = x at *
  generalize b.toNat = y0 at *
  generalize c.toNat = y1 at *
  have HCnd := Lib.hid hcnd
  clear hcnd
  go_enter Tryd.func83, Tryd.ntmps83
  go_wp2
  all_goals go_ret2
  all_goals refine ⟨?_, (Below.refl _ _).alloc (Nat.le_refl _) _⟩
  all_goals first
    | exact pickT_no (by rw [← HCnd.out, Bool.eq_false_iff]; simp; omega) rfl
    | exact pickT_yes (by rw [← HCnd.out]; simp; omega) rfl

set_option maxRecDepth 100000 in
set_option maxHeartbeats 4000000 in
theorem slow_35 (a b c : UInt8) (r : List UInt8) (q : Option Addr) (cap : Nat) (w : World) (h : Bs w w.heap.size q (a :: b :: c :: r)) (ht : Tabs w) (hx : firstX a.toNat = 35) :
    Calls Tryd.prog 83 #[.slice q (r.length + 1 + 1 + 1) cap] w fun e w' => e = .returned (pickT (mid 128 159 b && mid 128 191 c) (.tuple #[.int .i32 ((a.toNat : Int) % 16 * 4096 + (b.toNat : Int) % 64 * 64 + (c.toNat : Int) % 64), .int .i64 3]) (.tuple #[.int .i32 65533, .int .i64 1])) ∧ Below w.heap.size w w' := by
  obtain ⟨bl, off, rfl, _, hc⟩ := h (by simp)
  have e0 := hc 0 (by simp)
  have e1 := hc 1 (by simp)
  have e2 := hc 2 (by simp)
  simp at e0 e1 e2
  have t0 := ht.first a.toNat (byte_lt' a)
  rw [hx] at t0
  have lo := ht.l2
  have hi := ht.h2
  have z0 := ht.lt0
  have z1 := ht.lt1
  have ha := byte_lt' a
  have g0 := byte_lt' b
  have g1 := byte_lt' c
  clear hc ht hx h
  have i0 : (0 : Int) < (r.length : Int) + 1 + 1 + 1 := by omega
  have i1 : (1 : Int) < (r.length : Int) + 1 + 1 + 1 := by omega
  have i2 : (2 : Int) < (r.length : Int) + 1 + 1 + 1 := by omega
  generalize hcnd : (mid 128 159 b && mid 128 191 c) = cnd
  unfold mid at hcnd
  generalize a.toNat = x at *
  generalize b.toNat = y0 at *
  generalize c.toNat = y1 at *
  have HCnd := Lib.hid hcnd
  clear hcnd
  go_enter Tryd.func83, Tryd.ntmps83
  go_wp2
  all_goals go_ret2
  all_goals refine ⟨?_, (Below.refl _ _).alloc (Nat.le_refl _) _⟩
  all_goals first
    | exact pickT_no (by rw [← HCnd.out, Bool.eq_false_iff]; simp; omega) rfl
    | exact pickT_yes (by rw [← HCnd.out]; simp; omega) rfl

set_option maxRecDepth 100000 in
set_option maxHeartbeats 4000000 in
theorem slow_52 (a b c d : UInt8) (r : List UInt8) (q : Option Addr) (cap : Nat) (w : World) (h : Bs w w.heap.size q (a :: b :: c :: d :: r)) (ht : Tabs w) (hx : firstX a.toNat = 52) :
    Calls Tryd.prog 83 #[.slice q (r.length + 1 + 1 + 1 + 1) cap] w fun e w' => e = .returned (pickT (mid 144 191 b && mid 128 191 c && mid 128 191 d) (.tuple #[.int .i32 ((a.toNat : Int) % 8 * 262144 + (b.toNat : Int) % 64 * 4096 + (c.toNat : Int) % 64 * 64 + (d.toNat : Int) % 64), .int .i64 4]) (.tuple #[.int .i32 65533, .int .i64 1])) ∧ Below w.heap.size w w' := by
  obtain ⟨bl, off, rfl, _, hc⟩ := h (by simp)
  have e0 := hc 0 (by simp)
  have e1 := hc 1 (by simp)
  have e2 := hc 2 (by simp)
  have e3 := hc 3 (by simp)
  simp at e0 e1 e2 e3
  have t0 := ht.first a.toNat (byte_lt' a)
  rw [hx] at t0
  have lo := ht.l3
  have hi := ht.h3
  have z0 := ht.lt0
  have z1 := ht.lt1
  have ha := byte_lt' a
  have g0 := byte_lt' b
  have g1 := byte_lt' c
  have g2 := byte_lt' d
  clear hc ht hx h
  have i0 : (0 : Int) < (r.length : Int) + 1 + 1 + 1 + 1 := by omega
  have i1 : (1 : Int) < (r.length : Int) + 1 + 1 + 1 + 1 := by omega
  have i2 : (2 : Int) < (r.length : Int) + 1 + 1 + 1 + 1 := by omega
  have i3 : (3 : Int) < (r.length : Int) + 1 + 1 + 1 + 1 := by omega
  generalize hcnd : (mid 144 191 b && mid 128 191 c && mid 128 191 d) = cnd
  unfold mid at hcnd
  generalize a.toNat = x at *
  generalize b.toNat = y0 at *
  generalize c.toNat = y1 at *
  generalize d.toNat = y2 at *
  have HCnd := Lib.hid hcnd
  clear hcnd
  go_enter Tryd.func83, Tryd.ntmps83
  go_wp2
  all_goals go_ret2
  all_goals refine ⟨?_, (Below.refl _ _).alloc (Nat.le_refl _) _⟩
  all_goals first
    | exact pickT_no (by rw [← HCnd.out, Bool.eq_false_iff]; simp; omega) rfl
    | exact pickT_yes (by rw [← HCnd.out]; simp; omega) rfl

set_option maxRecDepth 100000 in
set_option maxHeartbeats 4000000 in
theorem slow_4 (a b c d : UInt8) (r : List UInt8) (q : Option Addr) (cap : Nat) (w : World) (h : Bs w w.heap.size q (a :: b :: c :: d :: r)) (ht : Tabs w) (hx : firstX a.toNat = 4) :
    Calls Tryd.prog 83 #[.slice q (r.length + 1 + 1 + 1 + 1) cap] w fun e w' => e = .returned (pickT (mid 128 191 b && mid 128 191 c && mid 128 191 d) (.tuple #[.int .i32 ((a.toNat : Int) % 8 * 262144 + (b.toNat : Int) % 64 * 4096 + (c.toNat : Int) % 64 * 64 + (d.toNat : Int) % 64), .int .i64 4]) (.tuple #[.int .i32 65533, .int .i64 1])) ∧ Below w.heap.size w w' := by
  obtain ⟨bl, off, rfl, _, hc⟩ := h (by simp)
  have e0 := hc 0 (by simp)
  have e1 := hc 1 (by simp)
  have e2 := hc 2 (by simp)
  have e3 := hc 3 (by simp)
  simp at e0 e1 e2 e3
  have t0 := ht.first a.toNat (byte_lt' a)
  rw [hx] at t0
  have lo := ht.l0
  have hi := ht.h0
  have z0 := ht.lt0
  have z1 := ht.lt1
  have ha := byte_lt' a
  have g0 := byte_lt' b
  have g1 := byte_lt' c
  have g2 := byte_lt' d
  clear hc ht hx h
  have i0 : (0 : Int) < (r.length : Int) + 1 + 1 + 1 + 1 := by omega
  have i1 : (1 : Int) < (r.length : Int) + 1 + 1 + 1 + 1 := by omega
  have i2 : (2 : Int) < (r.length : Int) + 1 + 1 + 1 + 1 := by omega
  have i3 : (3 : Int) < (r.length : Int) + 1 + 1 + 1 + 1 := by omega
  generalize hcnd : (mid 128 191 b && mid 128 191 c && mid 128 191 d) = cnd
  unfold mid at hcnd
  generalize a.toNat = x at *
  generalize b.toNat = y0 at *
  generalize c.toNat = y1 at *
  generalize d.toNat = y2 at *
  have HCnd := Lib.hid hcnd
  clear hcnd
  go_enter Tryd.func83, Tryd.ntmps83
  go_wp2
  all_goals go_ret2
  all_goals refine ⟨?_, (Below.refl _ _).alloc (Nat.le_refl _) _⟩
  all_goals first
    | exact pickT_no (by rw [← HCnd.out, Bool.eq_false_iff]; simp; omega) rfl
    | exact pickT_yes (by rw [← HCnd.out]; simp; omega) rfl

set_option maxRecDepth 100000 in
set_option maxHeartbeats 4000000 in
theorem slow_68 (a b c d : UInt8) (r : List UInt8) (q : Option Addr) (cap : Nat) (w : World) (h : Bs w w.heap.size q (a :: b :: c :: d :: r)) (ht : Tabs w) (hx : firstX a.toNat = 68) :
    Calls Tryd.prog 83 #[.slice q (r.length + 1 + 1 + 1 + 1) cap] w fun e w' => e = .returned (pickT (mid 128 143 b && mid 128 191 c && mid 128 191 d) (.tuple #[.int .i32 ((a.toNat : Int) % 8 * 262144 + (b.toNat : Int) % 64 * 4096 + (c.toNat : Int) % 64 * 64 + (d.toNat : Int) % 64), .int .i64 4]) (.tuple #[.int .i32 65533, .int .i64 1])) ∧ Below w.heap.size w w' := by
  obtain ⟨bl, off, rfl, _, hc⟩ := h (by simp)
  have e0 := hc 0 (by simp)
  have e1 := hc 1 (by simp)
  have e2 := hc 2 (by simp)
  have e3 := hc 3 (by simp)
  simp at e0 e1 e2 e3
  have t0 := ht.first a.toNat (byte_lt' a)
  rw [hx] at t0
  have lo := ht.l4
  have hi := ht.h4
  have z0 := ht.lt0
  have z1 := ht.lt1
  have ha := byte_lt' a
  have g0 := byte_lt' b
  have g1 := byte_lt' c
  have g2 := byte_lt' d
  clear hc ht hx h
  have i0 : (0 : Int) < (r.length : Int) + 1 + 1 + 1 + 1 := by omega
  have i1 : (1 : Int) < (r.length : Int) + 1 + 1 + 1 + 1 := by omega
  have i2 : (2 : Int) < (r.length : Int) + 1 + 1 + 1 + 1 := by omega
  have i3 : (3 : Int) < (r.length : Int) + 1 + 1 + 1 + 1 := by omega
  generalize hcnd : (mid 128 143 b && mid 128 191 c && mid 128 191 d) = cnd
  unfold mid at hcnd
  generalize a.toNat = x at *
  generalize b.toNat = y0 at *
  generalize c.toNat = y1 at *
  generalize d.toNat = y2 at *
  have HCnd := Lib.hid hcnd
  clear hcnd
  go_enter Tryd.func83, Tryd.ntmps83
  go_wp2
  all_goals go_ret2
  all_goals refine ⟨?_, (Below.refl _ _).alloc (Nat.le_refl _) _⟩
  all_goals first
    | exact pickT_no (by rw [← HCnd.out, Bool.eq_false_iff]; simp; omega) rfl
    | exact pickT_yes (by rw [← HCnd.out]; simp; omega) rfl

set_option maxRecDepth 100000 in
set_option maxHeartbeats 4000000 in
theorem slowShort_2 (a : UInt8) (r : List UInt8) (q : Option Addr) (cap : Nat) (w : World) (h : Bs w w.heap.size q (a :: r)) (ht : Tabs w) (hx : firstX a.toNat = 2) (hs : r.length + 1 < 2) :
    Calls Tryd.prog 83 #[.slice q (r.length + 1) cap] w fun e w' => e = .returned (.tuple #[.int .i32 65533, .int .i64 1]) ∧ Below w.heap.size w w' := by
  obtain ⟨bl, off, rfl, _, hc⟩ := h (by simp)
  have e0 := hc 0 (by simp)
  simp at e0
  have t0 := ht.first a.toNat (byte_lt' a)
  rw [hx] at t0
  have lo := ht.l0
  have hi := ht.h0
  have z0 := ht.lt0
  have z1 := ht.lt1
  have ha := byte_lt' a
  clear hc ht hx h
  have i0 : (0 : Int) < (r.length : Int) + 1 := by omega
  have i1 : (r.length : Int) + 1 < 2 := by omega
  generalize a.toNat = x at *
  go_enter Tryd.func83, Tryd.ntmps83
  go_wp2
  go_ret2
  exact ⟨rfl, (Below.refl _ _).alloc (Nat.le_refl _) _⟩

set_option maxRecDepth 100000 in
set_option maxHeartbeats 4000000 in
theorem slowShort_19 (a : UInt8) (r : List UInt8) (q : Option Addr) (cap : Nat) (w : World) (h : Bs w w.heap.size q (a :: r)) (ht : Tabs w) (hx : firstX a.toNat = 19) (hs : r.length + 1 < 3) :
    Calls Tryd.prog 83 #[.slice q (r.length + 1) cap] w fun e w' => e = .returned (.tuple #[.int .i32 65533, .int .i64 1]) ∧ Below w.heap.size w w' := by
  obtain ⟨bl, off, rfl, _, hc⟩ := h (by simp)
  have e0 := hc 0 (by simp)
  simp at e0
  have t0 := ht.first a.toNat (byte_lt' a)
  rw [hx] at t0
  have lo := ht.l1
  have hi := ht.h1
  have z0 := ht.lt0
  have z1 := ht.lt1
  have ha := byte_lt' a
  clear hc ht hx h
  have i0 : (0 : Int) < (r.length : Int) + 1 := by omega
  have i1 : (r.length : Int) + 1 < 3 := by omega
  generalize a.toNat = x at *
  go_enter Tryd.func83, Tryd.ntmps83
  go_wp2
  go_ret2
  exact ⟨rfl, (Below.refl _ _).alloc (Nat.le_refl _) _⟩

set_option maxRecDepth 100000 in
set_option maxHeartbeats 4000000 in
theorem slowShort_3 (a : UInt8) (r : List UInt8) (q : Option Addr) (cap : Nat) (w : World) (h : Bs w w.heap.size q (a :: r)) (ht : Tabs w) (hx : firstX a.toNat = 3) (hs : r.length + 1 < 3) :
    Calls Tryd.prog 83 #[.slice q (r.length + 1) cap] w fun e w' => e = .returned (.tuple #[.int .i32 65533, .int .i64 1]) ∧ Below w.heap.size w w' := by
  obtain ⟨bl, off, rfl, _, hc⟩ := h (by simp)
  have e0 := hc 0 (by simp)
  simp at e0
  have t0 := ht.first a.toNat (byte_lt' a)
  rw [hx] at t0
  have lo := ht.l0
  have hi := ht.h0
  have z0 := ht.lt0
  have z1 := ht.lt1
  have ha := byte_lt' a
  clear hc ht hx h
  have i0 : (0 : Int) < (r.length : Int) + 1 := by omega
  have i1 : (r.length : Int) + 1 < 3 := by omega
  generalize a.toNat = x at *
  go_enter Tryd.func83, Tryd.ntmps83
  go_wp2
  go_ret2
  exact ⟨rfl, (Below.refl _ _).alloc (Nat.le_refl _) _⟩

set_option maxRecDepth 100000 in
set_option maxHeartbeats 4000000 in
theorem slowShort_35 (a : UInt8) (r : List UInt8) (q : Option Addr) (cap : Nat) (w : World) (h : Bs w w.heap.size q (a :: r)) (ht : Tabs w) (hx : firstX a.toNat = 35) (hs : r.length + 1 < 3) :
    Calls Tryd.prog 83 #[.slice q (r.length + 1) cap] w fun e w' => e = .returned (.tuple #[.int .i32 65533, .int .i64 1]) ∧ Below w.heap.size w w' := by
  obtain ⟨bl, off, rfl, _, hc⟩ := h (by simp)
  have e0 := hc 0 (by simp)
  simp at e0
  have t0 := ht.first a.toNat (byte_lt' a)
  rw [hx] at t0
  have lo := ht.l2
  have hi := ht.h2
  have z0 := ht.lt0
  have z1 := ht.lt1
  have ha := byte_lt' a
  clear hc ht hx h
  have i0 : (0 : Int) < (r.length : Int) + 1 := by omega
  have i1 : (r.length : Int) + 1 < 3 := by omega
  generalize a.toNat = x at *
  go_enter Tryd.func83, Tryd.ntmps83
  go_wp2
  go_ret2
  exact ⟨rfl, (Below.refl _ _).alloc (Nat.le_refl _) _⟩

set_option maxRecDepth 100000 in
set_option maxHeartbeats 4000000 in
theorem slowShort_52 (a : UInt8) (r : List UInt8) (q : Option Addr) (cap : Nat) (w : World) (h : Bs w w.heap.size q (a :: r)) (ht : Tabs w) (hx : firstX a.toNat = 52) (hs : r.length + 1 < 4) :
    Calls Tryd.prog 83 #[.slice q (r.length + 1) cap] w fun e w' => e = .returned (.tuple #[.int .i32 65533, .int .i64 1]) ∧ Below w.heap.size w w' := by
  obtain ⟨bl, off, rfl, _, hc⟩ := h (by simp)
  have e0 := hc 0 (by simp)
  simp at e0
  have t0 := ht.first a.toNat (byte_lt' a)
  rw [hx] at t0
  have lo := ht.l3
  have hi := ht.h3
  have z0 := ht.lt0
  have z1 := ht.lt1
  have ha := byte_lt' a
  clear hc ht hx h
  have i0 : (0 : Int) < (r.length : Int) + 1 := by omega
  have i1 : (r.length : Int) + 1 < 4 := by omega
  generalize a.toNat = x at *
  go_enter Tryd.func83, Tryd.ntmps83
  go_wp2
  go_ret2
  exact ⟨rfl, (Below.refl _ _).alloc (Nat.le_refl _) _⟩

set_option maxRecDepth 100000 in
set_option maxHeartbeats 4000000 in
theorem slowShort_4 (a : UInt8) (r : List UInt8) (q : Option Addr) (cap : Nat) (w : World) (h : Bs w w.heap.size q (a :: r)) (ht : Tabs w) (hx : firstX a.toNat = 4) (hs : r.length + 1 < 4) :
    Calls Tryd.prog 83 #[.slice q (r.length + 1) cap] w fun e w' => e = .returned (.tuple #[.int .i32 65533, .int .i64 1]) ∧ Below w.heap.size w w' := by
  obtain ⟨bl, off, rfl, _, hc⟩ := h (by simp)
  have e0 := hc 0 (by simp)
  simp at e0
  have t0 := ht.first a.toNat (byte_lt' a)
  rw [hx] at t0
  have lo := ht.l0
  have hi := ht.h0
  have z0 := ht.lt0
  have z1 := ht.lt1
  have ha := byte_lt' a
  clear hc ht hx h
  have i0 : (0 : Int) < (r.length : Int) + 1 := by omega
  have i1 : (r.length : Int) + 1 < 4 := by omega
  generalize a.toNat = x at *
  go_enter Tryd.func83, Tryd.ntmps83
  go_wp2
  go_ret2
  exact ⟨rfl, (Below.refl _ _).alloc (Nat.le_refl _) _⟩

set_option maxRecDepth 100000 in
set_option maxHeartbeats 4000000 in
theorem slowShort_68 (a : UInt8) (r : List UInt8) (q : Option Addr) (cap : Nat) (w : World) (h : Bs w w.heap.size q (a :: r)) (ht : Tabs w) (hx : firstX a.toNat = 68) (hs : r.length + 1 < 4) :
    Calls Tryd.prog 83 #[.slice q (r.length + 1) cap] w fun e w' => e = .returned (.tuple #[.int .i32 65533, .int .i64 1]) ∧ Below w.heap.size w w' := by
  obtain ⟨bl, off, rfl, _, hc⟩ := h (by simp)
  have e0 := hc 0 (by simp)
  simp at e0
  have t0 := ht.first a.toNat (byte_lt' a)
  rw [hx] at t0
  have lo := ht.l4
  have hi := ht.h4
  have z0 := ht.lt0
  have z1 := ht.lt1
  have ha := byte_lt' a
  clear hc ht hx h
  have i0 : (0 : Int) < (r.length : Int) + 1 := by omega
  have i1 : (r.length : Int) + 1 < 4 := by omega
  generalize a.toNat = x at *
  go_enter Tryd.func83, Tryd.ntmps83
  go_wp2
  go_ret2
  exact ⟨rfl, (Below.refl _ _).alloc (Nat.le_refl _) _⟩

end Go.Proofs.YtcchhlcgamcceaaDoor
