/- utf8.FullRune: its contract over bytes, by the class of the first byte. -/
import Derived.Test.YtcchhlcgamcceaaDoorQFirstImpl
namespace Go.Proofs.YtcchhlcgamcceaaDoor
open Go.RowKit

set_option maxRecDepth 100000 in
theorem drop_byte : ∀ x : Fin 256, bits .or .i32 (bits .andNot .i32 ((x.val : Nat) : Int) (-1)) (bits .and .i32 65533 (-1)) = 65533 := by decide

set_option maxRecDepth 100000 in
set_option maxHeartbeats 4000000 in
theorem slowBad (a : UInt8) (r : List UInt8) (q : Option Addr) (cap : Nat) (w : World) (h : Bs w w.heap.size q (a :: r)) (ht : Tabs w) (hx : firstX a.toNat = 241) :
    Calls Tryd.prog 83 #[.slice q (r.length + 1) cap] w fun e w' => e = .returned (.tuple #[.int .i32 65533, .int .i64 1]) ∧ Below w.heap.size w w' := by
  obtain ⟨bl, off, rfl, _, hc⟩ := h (by simp)
  have e0 := hc 0 (by simp)
  simp at e0
  have t0 := ht.first a.toNat (byte_lt' a)
  rw [hx] at t0
  have lo := ht.l0
  have hi := ht.h0
  have z0 := ht.lt0
  have z1 := ht.lt1
  have ha := byte_lt' a
  clear hc ht hx h
  have HD := Lib.hid (drop_byte ⟨a.toNat, ha⟩)
  have i0 : (0 : Int) < (r.length : Int) + 1 := by omega
  go_enter Tryd.func83, Tryd.ntmps83
  go_wp2
  go_ret2
  refine ⟨?_, Below.refl _ _⟩
  show Ending.returned (.tuple #[.int .i32 (bits .or .i32 (bits .andNot .i32 (a.toNat : Int) (wrap32 517543559168 / 2147483648)) (bits .and .i32 65533 (wrap32 517543559168 / 2147483648))), .int .i64 1]) = _
  rw [show (wrap32 517543559168 / 2147483648 : Int) = -1 from by kernel_rfl]
  have hd := HD.out
  rw [hd]

set_option maxRecDepth 100000 in
set_option maxHeartbeats 2000000 in
theorem fullLong_240 (a : UInt8) (r : List UInt8) (q : Option Addr) (cap : Nat) (w : World) (h : Bs w w.heap.size q (a :: r)) (ht : Tabs w) (hx : firstX a.toNat = 240) :
    Calls Tryd.prog 70 #[.slice q (r.length + 1) cap] w fun e w' => e = .returned (.bool true) ∧ Below w.heap.size w w' := by
  obtain ⟨bl, off, rfl, _, hc⟩ := h (by simp)
  have e0 := hc 0 (by simp)
  simp at e0
  have t0 := ht.first a.toNat (byte_lt' a)
  rw [hx] at t0
  have lo := ht.l0
  have hi := ht.h0
  have z0 := ht.lt0
  have z1 := ht.lt1
  have ha := byte_lt' a
  clear hc ht hx h
  have i0 : (0 : Int) < (r.length : Int) + 1 := by omega
  have i1 : (0 : Int) ≤ (r.length : Int) + 1 := by omega
  have i2 : ((r.length : Int) + 1 == 0) = false := by simp; omega
  generalize a.toNat = x at *
  go_enter Tryd.func70, Tryd.ntmps70
  go_wp2
  go_ret
  exact ⟨rfl, Below.refl _ _⟩

set_option maxRecDepth 100000 in
set_option maxHeartbeats 2000000 in
theorem fullLong_241 (a : UInt8) (r : List UInt8) (q : Option Addr) (cap : Nat) (w : World) (h : Bs w w.heap.size q (a :: r)) (ht : Tabs w) (hx : firstX a.toNat = 241) (hs : 1 ≤ r.length + 1) :
    Calls Tryd.prog 70 #[.slice q (r.length + 1) cap] w fun e w' => e = .returned (.bool true) ∧ Below w.heap.size w w' := by
  obtain ⟨bl, off, rfl, _, hc⟩ := h (by simp)
  have e0 := hc 0 (by simp)
  simp at e0
  have t0 := ht.first a.toNat (byte_lt' a)
  rw [hx] at t0
  have lo := ht.l0
  have hi := ht.h0
  have z0 := ht.lt0
  have z1 := ht.lt1
  have ha := byte_lt' a
  clear hc ht hx h
  have i0 : (0 : Int) < (r.length : Int) + 1 := by omega
  have i1 : (1 : Int) ≤ (r.length : Int) + 1 := by omega
  have i2 : ((r.length : Int) + 1 == 0) = false := by simp; omega
  generalize a.toNat = x at *
  go_enter Tryd.func70, Tryd.ntmps70
  go_wp2
  go_ret
  exact ⟨rfl, Below.refl _ _⟩

set_option maxRecDepth 100000 in
set_option maxHeartbeats 2000000 in
theorem fullLong_2 (a : UInt8) (r : List UInt8) (q : Option Addr) (cap : Nat) (w : World) (h : Bs w w.heap.size q (a :: r)) (ht : Tabs w) (hx : firstX a.toNat = 2) (hs : 2 ≤ r.length + 1) :
    Calls Tryd.prog 70 #[.slice q (r.length + 1) cap] w fun e w' => e = .returned (.bool true) ∧ Below w.heap.size w w' := by
  obtain ⟨bl, off, rfl, _, hc⟩ := h (by simp)
  have e0 := hc 0 (by simp)
  simp at e0
  have t0 := ht.first a.toNat (byte_lt' a)
  rw [hx] at t0
  have lo := ht.l0
  have hi := ht.h0
  have z0 := ht.lt0
  have z1 := ht.lt1
  have ha := byte_lt' a
  clear hc ht hx h
  have i0 : (0 : Int) < (r.length : Int) + 1 := by omega
  have i1 : (2 : Int) ≤ (r.length : Int) + 1 := by omega
  have i2 : ((r.length : Int) + 1 == 0) = false := by simp; omega
  generalize a.toNat = x at *
  go_enter Tryd.func70, Tryd.ntmps70
  go_wp2
  go_ret
  exact ⟨rfl, Below.refl _ _⟩

set_option maxRecDepth 100000 in
set_option maxHeartbeats 2000000 in
theorem fullLong_19 (a : UInt8) (r : List UInt8) (q : Option Addr) (cap : Nat) (w : World) (h : Bs w w.heap.size q (a :: r)) (ht : Tabs w) (hx : firstX a.toNat = 19) (hs : 3 ≤ r.length + 1) :
    Calls Tryd.prog 70 #[.slice q (r.length + 1) cap] w fun e w' => e = .returned (.bool true) ∧ Below w.heap.size w w' := by
  obtain ⟨bl, off, rfl, _, hc⟩ := h (by simp)
  have e0 := hc 0 (by simp)
  simp at e0
  have t0 := ht.first a.toNat (byte_lt' a)
  rw [hx] at t0
  have lo := ht.l1
  have hi := ht.h1
  have z0 := ht.lt0
  have z1 := ht.lt1
  have ha := byte_lt' a
  clear hc ht hx h
  have i0 : (0 : Int) < (r.length : Int) + 1 := by omega
  have i1 : (3 : Int) ≤ (r.length : Int) + 1 := by omega
  have i2 : ((r.length : Int) + 1 == 0) = false := by simp; omega
  generalize a.toNat = x at *
  go_enter Tryd.func70, Tryd.ntmps70
  go_wp2
  go_ret
  exact ⟨rfl, Below.refl _ _⟩

set_option maxRecDepth 100000 in
set_option maxHeartbeats 2000000 in
theorem fullLong_3 (a : UInt8) (r : List UInt8) (q : Option Addr) (cap : Nat) (w : World) (h : Bs w w.heap.size q (a :: r)) (ht : Tabs w) (hx : firstX a.toNat = 3) (hs : 3 ≤ r.length + 1) :
    Calls Tryd.prog 70 #[.slice q (r.length + 1) cap] w fun e w' => e = .returned (.bool true) ∧ Below w.heap.size w w' := by
  obtain ⟨bl, off, rfl, _, hc⟩ := h (by simp)
  have e0 := hc 0 (by simp)
  simp at e0
  have t0 := ht.first a.toNat (byte_lt' a)
  rw [hx] at t0
  have lo := ht.l0
  have hi := ht.h0
  have z0 := ht.lt0
  have z1 := ht.lt1
  have ha := byte_lt' a
  clear hc ht hx h
  have i0 : (0 : Int) < (r.length : Int) + 1 := by omega
  have i1 : (3 : Int) ≤ (r.length : Int) + 1 := by omega
  have i2 : ((r.length : Int) + 1 == 0) = false := by simp; omega
  generalize a.toNat = x at *
  go_enter Tryd.func70, Tryd.ntmps70
  go_wp2
  go_ret
  exact ⟨rfl, Below.refl _ _⟩

set_option maxRecDepth 100000 in
set_option maxHeartbeats 2000000 in
theorem fullLong_35 (a : UInt8) (r : List UInt8) (q : Option Addr) (cap : Nat) (w : World) (h : Bs w w.heap.size q (a :: r)) (ht : Tabs w) (hx : firstX a.toNat = 35) (hs : 3 ≤ r.length + 1) :
    Calls Tryd.prog 70 #[.slice q (r.length + 1) cap] w fun e w' => e = .returned (.bool true) ∧ Below w.heap.size w w' := by
  obtain ⟨bl, off, rfl, _, hc⟩ := h (by simp)
  have e0 := hc 0 (by simp)
  simp at e0
  have t0 := ht.first a.toNat (byte_lt' a)
  rw [hx] at t0
  have lo := ht.l2
  have hi := ht.h2
  have z0 := ht.lt0
  have z1 := ht.lt1
  have ha := byte_lt' a
  clear hc ht hx h
  have i0 : (0 : Int) < (r.length : Int) + 1 := by omega
  have i1 : (3 : Int) ≤ (r.length : Int) + 1 := by omega
  have i2 : ((r.length : Int) + 1 == 0) = false := by simp; omega
  generalize a.toNat = x at *
  go_enter Tryd.func70, Tryd.ntmps70
  go_wp2
  go_ret
  exact ⟨rfl, Below.refl _ _⟩

set_option maxRecDepth 100000 in
set_option maxHeartbeats 2000000 in
theorem fullLong_52 (a : UInt8) (r : List UInt8) (q : Option Addr) (cap : Nat) (w : World) (h : Bs w w.heap.size q (a :: r)) (ht : Tabs w) (hx : firstX a.toNat = 52) (hs : 4 ≤ r.length + 1) :
    Calls Tryd.prog 70 #[.slice q (r.length + 1) cap] w fun e w' => e = .returned (.bool true) ∧ Below w.heap.size w w' := by
  obtain ⟨bl, off, rfl, _, hc⟩ := h (by simp)
  have e0 := hc 0 (by simp)
  simp at e0
  have t0 := ht.first a.toNat (byte_lt' a)
  rw [hx] at t0
  have lo := ht.l3
  have hi := ht.h3
  have z0 := ht.lt0
  have z1 := ht.lt1
  have ha := byte_lt' a
  clear hc ht hx h
  have i0 : (0 : Int) < (r.length : Int) + 1 := by omega
  have i1 : (4 : Int) ≤ (r.length : Int) + 1 := by omega
  have i2 : ((r.length : Int) + 1 == 0) = false := by simp; omega
  generalize a.toNat = x at *
  go_enter Tryd.func70, Tryd.ntmps70
  go_wp2
  go_ret
  exact ⟨rfl, Below.refl _ _⟩

set_option maxRecDepth 100000 in
set_option maxHeartbeats 2000000 in
theorem fullLong_4 (a : UInt8) (r : List UInt8) (q : Option Addr) (cap : Nat) (w : World) (h : Bs w w.heap.size q (a :: r)) (ht : Tabs w) (hx : firstX a.toNat = 4) (hs : 4 ≤ r.length + 1) :
    Calls Tryd.prog 70 #[.slice q (r.length + 1) cap] w fun e w' => e = .returned (.bool true) ∧ Below w.heap.size w w' := by
  obtain ⟨bl, off, rfl, _, hc⟩ := h (by simp)
  have e0 := hc 0 (by simp)
  simp at e0
  have t0 := ht.first a.toNat (byte_lt' a)
  rw [hx] at t0
  have lo := ht.l0
  have hi := ht.h0
  have z0 := ht.lt0
  have z1 := ht.lt1
  have ha := byte_lt' a
  clear hc ht hx h
  have i0 : (0 : Int) < (r.length : Int) + 1 := by omega
  have i1 : (4 : Int) ≤ (r.length : Int) + 1 := by omega
  have i2 : ((r.length : Int) + 1 == 0) = false := by simp; omega
  generalize a.toNat = x at *
  go_enter Tryd.func70, Tryd.ntmps70
  go_wp2
  go_ret
  exact ⟨rfl, Below.refl _ _⟩

set_option maxRecDepth 100000 in
set_option maxHeartbeats 2000000 in
theorem fullLong_68 (a : UInt8) (r : List UInt8) (q : Option Addr) (cap : Nat) (w : World) (h : Bs w w.heap.size q (a :: r)) (ht : Tabs w) (hx : firstX a.toNat = 68) (hs : 4 ≤ r.length + 1) :
    Calls Tryd.prog 70 #[.slice q (r.length + 1) cap] w fun e w' => e = .returned (.bool true) ∧ Below w.heap.size w w' := by
  obtain ⟨bl, off, rfl, _, hc⟩ := h (by simp)
  have e0 := hc 0 (by simp)
  simp at e0
  have t0 := ht.first a.toNat (byte_lt' a)
  rw [hx] at t0
  have lo := ht.l4
  have hi := ht.h4
  have z0 := ht.lt0
  have z1 := ht.lt1
  have ha := byte_lt' a
  clear hc ht hx h
  have i0 : (0 : Int) < (r.length : Int) + 1 := by omega
  have i1 : (4 : Int) ≤ (r.length : Int) + 1 := by omega
  have i2 : ((r.length : Int) + 1 == 0) = false := by simp; omega
  generalize a.toNat = x at *
  go_enter Tryd.func70, Tryd.ntmps70
  go_wp2
  go_ret
  exact ⟨rfl, Below.refl _ _⟩

set_option maxRecDepth 100000 in
set_option maxHeartbeats 4000000 in
theorem fullShort_2_1 (a : UInt8) (q : Option Addr) (cap : Nat) (w : World) (h : Bs w w.heap.size q [a]) (ht : Tabs w) (hx : firstX a.toNat = 2) :
    Calls Tryd.prog 70 #[.slice q 1 cap] w fun e w' => e = .returned (.bool false) ∧ Below w.heap.size w w' := by
  obtain ⟨bl, off, rfl, _, hc⟩ := h (by simp)
  have e0 := hc 0 (by simp)
  simp at e0
  have t0 := ht.first a.toNat (byte_lt' a)
  rw [hx] at t0
  have lo := ht.l0
  have hi := ht.h0
  have z0 := ht.lt0
  have z1 := ht.lt1
  have ha := byte_lt' a
  clear hc ht hx h
  generalize a.toNat = x at *
  go_enter Tryd.func70, Tryd.ntmps70
  go_wp2
  go_quiet (fail)
  go_wp2
  go_ret
  exact ⟨ret_bool (by rfl), below_drewN ((Below.refl _ _).alloc (Nat.le_refl _) _) _⟩

set_option maxRecDepth 100000 in
set_option maxHeartbeats 4000000 in
theorem fullShort_19_1 (a : UInt8) (q : Option Addr) (cap : Nat) (w : World) (h : Bs w w.heap.size q [a]) (ht : Tabs w) (hx : firstX a.toNat = 19) :
    Calls Tryd.prog 70 #[.slice q 1 cap] w fun e w' => e = .returned (.bool false) ∧ Below w.heap.size w w' := by
  obtain ⟨bl, off, rfl, _, hc⟩ := h (by simp)
  have e0 := hc 0 (by simp)
  simp at e0
  have t0 := ht.first a.toNat (byte_lt' a)
  rw [hx] at t0
  have lo := ht.l1
  have hi := ht.h1
  have z0 := ht.lt0
  have z1 := ht.lt1
  have ha := byte_lt' a
  clear hc ht hx h
  generalize a.toNat = x at *
  go_enter Tryd.func70, Tryd.ntmps70
  go_wp2
  go_quiet (fail)
  go_wp2
  go_ret
  exact ⟨ret_bool (by rfl), below_drewN ((Below.refl _ _).alloc (Nat.le_refl _) _) _⟩

set_option maxRecDepth 100000 in
set_option maxHeartbeats 4000000 in
theorem fullShort_19_2 (a b : UInt8) (q : Option Addr) (cap : Nat) (w : World) (h : Bs w w.heap.size q [a, b]) (ht : Tabs w) (hx : firstX a.toNat = 19) :
    Calls Tryd.prog 70 #[.slice q 2 cap] w fun e w' => e = .returned (.bool (!mid 160 191 b)) ∧ Below w.heap.size w w' := by
  obtain ⟨bl, off, rfl, _, hc⟩ := h (by simp)
  have e0 := hc 0 (by simp)
  have e1 := hc 1 (by simp)
  simp at e0 e1
  have t0 := ht.first a.toNat (byte_lt' a)
  rw [hx] at t0
  have lo := ht.l1
  have hi := ht.h1
  have z0 := ht.lt0
  have z1 := ht.lt1
  have ha := byte_lt' a
  have g0 := byte_lt' b
  clear hc ht hx h
  unfold mid
  generalize a.toNat = x at *
  generalize b.toNat = y0 at *
  by_cases k1 : (y0 : Int) < 160
  · go_enter Tryd.func70, Tryd.ntmps70
    go_wp2
    go_quiet (fail)
    go_wp2
    go_ret
    exact ⟨ret_bool (by simp; omega), below_drewN ((Below.refl _ _).alloc (Nat.le_refl _) _) _⟩
  have k1' : decide ((y0 : Int) < 160) = false := by simpa using k1
  by_cases k2 : 191 < (y0 : Int)
  · go_enter Tryd.func70, Tryd.ntmps70
    go_wp2
    go_quiet (fail)
    go_wp2
    go_ret
    exact ⟨ret_bool (by simp; omega), below_drewN ((Below.refl _ _).alloc (Nat.le_refl _) _) _⟩
  have k2' : decide (191 < (y0 : Int)) = false := by simpa using k2
  go_enter Tryd.func70, Tryd.ntmps70
  go_wp2
  go_quiet (fail)
  go_wp2
  go_ret
  exact ⟨ret_bool (by simp; omega), below_drewN ((Below.refl _ _).alloc (Nat.le_refl _) _) _⟩

set_option maxRecDepth 100000 in
set_option maxHeartbeats 4000000 in
theorem fullShort_3_1 (a : UInt8) (q : Option Addr) (cap : Nat) (w : World) (h : Bs w w.heap.size q [a]) (ht : Tabs w) (hx : firstX a.toNat = 3) :
    Calls Tryd.prog 70 #[.slice q 1 cap] w fun e w' => e = .returned (.bool false) ∧ Below w.heap.size w w' := by
  obtain ⟨bl, off, rfl, _, hc⟩ := h (by simp)
  have e0 := hc 0 (by simp)
  simp at e0
  have t0 := ht.first a.toNat (byte_lt' a)
  rw [hx] at t0
  have lo := ht.l0
  have hi := ht.h0
  have z0 := ht.lt0
  have z1 := ht.lt1
  have ha := byte_lt' a
  clear hc ht hx h
  generalize a.toNat = x at *
  go_enter Tryd.func70, Tryd.ntmps70
  go_wp2
  go_quiet (fail)
  go_wp2
  go_ret
  exact ⟨ret_bool (by rfl), below_drewN ((Below.refl _ _).alloc (Nat.le_refl _) _) _⟩

set_option maxRecDepth 100000 in
set_option maxHeartbeats 4000000 in
theorem fullShort_3_2 (a b : UInt8) (q : Option Addr) (cap : Nat) (w : World) (h : Bs w w.heap.size q [a, b]) (ht : Tabs w) (hx : firstX a.toNat = 3) :
    Calls Tryd.prog 70 #[.slice q 2 cap] w fun e w' => e = .returned (.bool (!mid 128 191 b)) ∧ Below w.heap.size w w' := by
  obtain ⟨bl, off, rfl, _, hc⟩ := h (by simp)
  have e0 := hc 0 (by simp)
  have e1 := hc 1 (by simp)
  simp at e0 e1
  have t0 := ht.first a.toNat (byte_lt' a)
  rw [hx] at t0
  have lo := ht.l0
  have hi := ht.h0
  have z0 := ht.lt0
  have z1 := ht.lt1
  have ha := byte_lt' a
  have g0 := byte_lt' b
  clear hc ht hx h
  unfold mid
  generalize a.toNat = x at *
  generalize b.toNat = y0 at *
  by_cases k1 : (y0 : Int) < 128
  · go_enter Tryd.func70, Tryd.ntmps70
    go_wp2
    go_quiet (fail)
    go_wp2
    go_ret
    exact ⟨ret_bool (by simp; omega), below_drewN ((Below.refl _ _).alloc (Nat.le_refl _) _) _⟩
  have k1' : decide ((y0 : Int) < 128) = false := by simpa using k1
  by_cases k2 : 191 < (y0 : Int)
  · go_enter Tryd.func70, Tryd.ntmps70
    go_wp2
    go_quiet (fail)
    go_wp2
    go_ret
    exact ⟨ret_bool (by simp; omega), below_drewN ((Below.refl _ _).alloc (Nat.le_refl _) _) _⟩
  have k2' : decide (191 < (y0 : Int)) = false := by simpa using k2
  go_enter Tryd.func70, Tryd.ntmps70
  go_wp2
  go_quiet (fail)
  go_wp2
  go_ret
  exact ⟨ret_bool (by simp; omega), below_drewN ((Below.refl _ _).alloc (Nat.le_refl _) _) _⟩

set_option maxRecDepth 100000 in
set_option maxHeartbeats 4000000 in
theorem fullShort_35_1 (a : UInt8) (q : Option Addr) (cap : Nat) (w : World) (h : Bs w w.heap.size q [a]) (ht : Tabs w) (hx : firstX a.toNat = 35) :
    Calls Tryd.prog 70 #[.slice q 1 cap] w fun e w' => e = .returned (.bool false) ∧ Below w.heap.size w w' := by
  obtain ⟨bl, off, rfl, _, hc⟩ := h (by simp)
  have e0 := hc 0 (by simp)
  simp at e0
  have t0 := ht.first a.toNat (byte_lt' a)
  rw [hx] at t0
  have lo := ht.l2
  have hi := ht.h2
  have z0 := ht.lt0
  have z1 := ht.lt1
  have ha := byte_lt' a
  clear hc ht hx h
  generalize a.toNat = x at *
  go_enter Tryd.func70, Tryd.ntmps70
  go_wp2
  go_quiet (fail)
  go_wp2
  go_ret
  exact ⟨ret_bool (by rfl), below_drewN ((Below.refl _ _).alloc (Nat.le_refl _) _) _⟩

set_option maxRecDepth 100000 in
set_option maxHeartbeats 4000000 in
theorem fullShort_35_2 (a b : UInt8) (q : Option Addr) (cap : Nat) (w : World) (h : Bs w w.heap.size q [a, b]) (ht : Tabs w) (hx : firstX a.toNat = 35) :
    Calls Tryd.prog 70 #[.slice q 2 cap] w fun e w' => e = .returned (.bool (!mid 128 159 b)) ∧ Below w.heap.size w w' := by
  obtain ⟨bl, off, rfl, _, hc⟩ := h (by simp)
  have e0 := hc 0 (by simp)
  have e1 := hc 1 (by simp)
  simp at e0 e1
  have t0 := ht.first a.toNat (byte_lt' a)
  rw [hx] at t0
  have lo := ht.l2
  have hi := ht.h2
  have z0 := ht.lt0
  have z1 := ht.lt1
  have ha := byte_lt' a
  have g0 := byte_lt' b
  clear hc ht hx h
  unfold mid
  generalize a.toNat = x at *
  generalize b.toNat = y0 at *
  by_cases k1 : (y0 : Int) < 128
  · go_enter Tryd.func70, Tryd.ntmps70
    go_wp2
    go_quiet (fail)
    go_wp2
    go_ret
    exact ⟨ret_bool (by simp; omega), below_drewN ((Below.refl _ _).alloc (Nat.le_refl _) _) _⟩
  have k1' : decide ((y0 : Int) < 128) = false := by simpa using k1
  by_cases k2 : 159 < (y0 : Int)
  · go_enter Tryd.func70, Tryd.ntmps70
    go_wp2
    go_quiet (fail)
    go_wp2
    go_ret
    exact ⟨ret_bool (by simp; omega), below_drewN ((Below.refl _ _).alloc (Nat.le_refl _) _) _⟩
  have k2' : decide (159 < (y0 : Int)) = false := by simpa using k2
  go_enter Tryd.func70, Tryd.ntmps70
  go_wp2
  go_quiet (fail)
  go_wp2
  go_ret
  exact ⟨ret_bool (by simp; omega), below_drewN ((Below.refl _ _).alloc (Nat.le_refl _) _) _⟩

set_option maxRecDepth 100000 in
set_option maxHeartbeats 4000000 in
theorem fullShort_52_1 (a : UInt8) (q : Option Addr) (cap : Nat) (w : World) (h : Bs w w.heap.size q [a]) (ht : Tabs w) (hx : firstX a.toNat = 52) :
    Calls Tryd.prog 70 #[.slice q 1 cap] w fun e w' => e = .returned (.bool false) ∧ Below w.heap.size w w' := by
  obtain ⟨bl, off, rfl, _, hc⟩ := h (by simp)
  have e0 := hc 0 (by simp)
  simp at e0
  have t0 := ht.first a.toNat (byte_lt' a)
  rw [hx] at t0
  have lo := ht.l3
  have hi := ht.h3
  have z0 := ht.lt0
  have z1 := ht.lt1
  have ha := byte_lt' a
  clear hc ht hx h
  generalize a.toNat = x at *
  go_enter Tryd.func70, Tryd.ntmps70
  go_wp2
  go_quiet (fail)
  go_wp2
  go_ret
  exact ⟨ret_bool (by rfl), below_drewN ((Below.refl _ _).alloc (Nat.le_refl _) _) _⟩

set_option maxRecDepth 100000 in
set_option maxHeartbeats 4000000 in
theorem fullShort_52_2 (a b : UInt8) (q : Option Addr) (cap : Nat) (w : World) (h : Bs w w.heap.size q [a, b]) (ht : Tabs w) (hx : firstX a.toNat = 52) :
    Calls Tryd.prog 70 #[.slice q 2 cap] w fun e w' => e = .returned (.bool (!mid 144 191 b)) ∧ Below w.heap.size w w' := by
  obtain ⟨bl, off, rfl, _, hc⟩ := h (by simp)
  have e0 := hc 0 (by simp)
  have e1 := hc 1 (by simp)
  simp at e0 e1
  have t0 := ht.first a.toNat (byte_lt' a)
  rw [hx] at t0
  have lo := ht.l3
  have hi := ht.h3
  have z0 := ht.lt0
  have z1 := ht.lt1
  have ha := byte_lt' a
  have g0 := byte_lt' b
  clear hc ht hx h
  unfold mid
  generalize a.toNat = x at *
  generalize b.toNat = y0 at *
  by_cases k1 : (y0 : Int) < 144
  · go_enter Tryd.func70, Tryd.ntmps70
    go_wp2
    go_quiet (fail)
    go_wp2
    go_ret
    exact ⟨ret_bool (by simp; omega), below_drewN ((Below.refl _ _).alloc (Nat.le_refl _) _) _⟩
  have k1' : decide ((y0 : Int) < 144) = false := by simpa using k1
  by_cases k2 : 191 < (y0 : Int)
  · go_enter Tryd.func70, Tryd.ntmps70
    go_wp2
    go_quiet (fail)
    go_wp2
    go_ret
    exact ⟨ret_bool (by simp; omega), below_drewN ((Below.refl _ _).alloc (Nat.le_refl _) _) _⟩
  have k2' : decide (191 < (y0 : Int)) = false := by simpa using k2
  go_enter Tryd.func70, Tryd.ntmps70
  go_wp2
  go_quiet (fail)
  go_wp2
  go_ret
  exact ⟨ret_bool (by simp; omega), below_drewN ((Below.refl _ _).alloc (Nat.le_refl _) _) _⟩

set_option maxRecDepth 100000 in
set_option maxHeartbeats 4000000 in
theorem fullShort_52_3 (a b c : UInt8) (q : Option Addr) (cap : Nat) (w : World) (h : Bs w w.heap.size q [a, b, c]) (ht : Tabs w) (hx : firstX a.toNat = 52) :
    Calls Tryd.prog 70 #[.slice q 3 cap] w fun e w' => e = .returned (.bool (!(mid 144 191 b && mid 128 191 c))) ∧ Below w.heap.size w w' := by
  obtain ⟨bl, off, rfl, _, hc⟩ := h (by simp)
  have e0 := hc 0 (by simp)
  have e1 := hc 1 (by simp)
  have e2 := hc 2 (by simp)
  simp at e0 e1 e2
  have t0 := ht.first a.toNat (byte_lt' a)
  rw [hx] at t0
  have lo := ht.l3
  have hi := ht.h3
  have z0 := ht.lt0
  have z1 := ht.lt1
  have ha := byte_lt' a
  have g0 := byte_lt' b
  have g1 := byte_lt' c
  clear hc ht hx h
  unfold mid
  generalize a.toNat = x at *
  generalize b.toNat = y0 at *
  generalize c.toNat = y1 at *
  by_cases k1 : (y0 : Int) < 144
  · go_enter Tryd.func70, Tryd.ntmps70
    go_wp2
    go_quiet (fail)
    go_wp2
    go_ret
    exact ⟨ret_bool (by simp; omega), below_drewN ((Below.refl _ _).alloc (Nat.le_refl _) _) _⟩
  have k1' : decide ((y0 : Int) < 144) = false := by simpa using k1
  by_cases k2 : 191 < (y0 : Int)
  · go_enter Tryd.func70, Tryd.ntmps70
    go_wp2
    go_quiet (fail)
    go_wp2
    go_ret
    exact ⟨ret_bool (by simp; omega), below_drewN ((Below.refl _ _).alloc (Nat.le_refl _) _) _⟩
  have k2' : decide (191 < (y0 : Int)) = false := by simpa using k2
  by_cases k3 : (y1 : Int) < 128
  · go_enter Tryd.func70, Tryd.ntmps70
    go_wp2
    go_quiet (fail)
    go_wp2
    go_ret
    exact ⟨ret_bool (by simp; omega), below_drewN ((Below.refl _ _).alloc (Nat.le_refl _) _) _⟩
  have k3' : decide ((y1 : Int) < 128) = false := by simpa using k3
  by_cases k4 : 191 < (y1 : Int)
  · go_enter Tryd.func70, Tryd.ntmps70
    go_wp2
    go_quiet (fail)
    go_wp2
    go_ret
    exact ⟨ret_bool (by simp; omega), below_drewN ((Below.refl _ _).alloc (Nat.le_refl _) _) _⟩
  have k4' : decide (191 < (y1 : Int)) = false := by simpa using k4
  go_enter Tryd.func70, Tryd.ntmps70
  go_wp2
  go_quiet (fail)
  go_wp2
  go_ret
  exact ⟨ret_bool (by simp; omega), below_drewN ((Below.refl _ _).alloc (Nat.le_refl _) _) _⟩

set_option maxRecDepth 100000 in
set_option maxHeartbeats 4000000 in
theorem fullShort_4_1 (a : UInt8) (q : Option Addr) (cap : Nat) (w : World) (h : Bs w w.heap.size q [a]) (ht : Tabs w) (hx : firstX a.toNat = 4) :
    Calls Tryd.prog 70 #[.slice q 1 cap] w fun e w' => e = .returned (.bool false) ∧ Below w.heap.size w w' := by
  obtain ⟨bl, off, rfl, _, hc⟩ := h (by simp)
  have e0 := hc 0 (by simp)
  simp at e0
  have t0 := ht.first a.toNat (byte_lt' a)
  rw [hx] at t0
  have lo := ht.l0
  have hi := ht.h0
  have z0 := ht.lt0
  have z1 := ht.lt1
  have ha := byte_lt' a
  clear hc ht hx h
  generalize a.toNat = x at *
  go_enter Tryd.func70, Tryd.ntmps70
  go_wp2
  go_quiet (fail)
  go_wp2
  go_ret
  exact ⟨ret_bool (by rfl), below_drewN ((Below.refl _ _).alloc (Nat.le_refl _) _) _⟩

set_option maxRecDepth 100000 in
set_option maxHeartbeats 4000000 in
theorem fullShort_4_2 (a b : UInt8) (q : Option Addr) (cap : Nat) (w : World) (h : Bs w w.heap.size q [a, b]) (ht : Tabs w) (hx : firstX a.toNat = 4) :
    Calls Tryd.prog 70 #[.slice q 2 cap] w fun e w' => e = .returned (.bool (!mid 128 191 b)) ∧ Below w.heap.size w w' := by
  obtain ⟨bl, off, rfl, _, hc⟩ := h (by simp)
  have e0 := hc 0 (by simp)
  have e1 := hc 1 (by simp)
  simp at e0 e1
  have t0 := ht.first a.toNat (byte_lt' a)
  rw [hx] at t0
  have lo := ht.l0
  have hi := ht.h0
  have z0 := ht.lt0
  have z1 := ht.lt1
  have ha := byte_lt' a
  have g0 := byte_lt' b
  clear hc ht hx h
  unfold mid
  generalize a.toNat = x at *
  generalize b.toNat = y0 at *
  by_cases k1 : (y0 : Int) < 128
  · go_enter Tryd.func70, Tryd.ntmps70
    go_wp2
    go_quiet (fail)
    go_wp2
    go_ret
    exact ⟨ret_bool (by simp; omega), below_drewN ((Below.refl _ _).alloc (Nat.le_refl _) _) _⟩
  have k1' : decide ((y0 : Int) < 128) = false := by simpa using k1
  by_cases k2 : 191 < (y0 : Int)
  · go_enter Tryd.func70, Tryd.ntmps70
    go_wp2
    go_quiet (fail)
    go_wp2
    go_ret
    exact ⟨ret_bool (by simp; omega), below_drewN ((Below.refl _ _).alloc (Nat.le_refl _) _) _⟩
  have k2' : decide (191 < (y0 : Int)) = false := by simpa using k2
  go_enter Tryd.func70, Tryd.ntmps70
  go_wp2
  go_quiet (fail)
  go_wp2
  go_ret
  exact ⟨ret_bool (by simp; omega), below_drewN ((Below.refl _ _).alloc (Nat.le_refl _) _) _⟩

set_option maxRecDepth 100000 in
set_option maxHeartbeats 4000000 in
theorem fullShort_4_3 (a b c : UInt8) (q : Option Addr) (cap : Nat) (w : World) (h : Bs w w.heap.size q [a, b, c]) (ht : Tabs w) (hx : firstX a.toNat = 4) :
    Calls Tryd.prog 70 #[.slice q 3 cap] w fun e w' => e = .returned (.bool (!(mid 128 191 b && mid 128 191 c))) ∧ Below w.heap.size w w' := by
  obtain ⟨bl, off, rfl, _, hc⟩ := h (by simp)
  have e0 := hc 0 (by simp)
  have e1 := hc 1 (by simp)
  have e2 := hc 2 (by simp)
  simp at e0 e1 e2
  have t0 := ht.first a.toNat (byte_lt' a)
  rw [hx] at t0
  have lo := ht.l0
  have hi := ht.h0
  have z0 := ht.lt0
  have z1 := ht.lt1
  have ha := byte_lt' a
  have g0 := byte_lt' b
  have g1 := byte_lt' c
  clear hc ht hx h
  unfold mid
  generalize a.toNat = x at *
  generalize b.toNat = y0 at *
  generalize c.toNat = y1 at *
  by_cases k1 : (y0 : Int) < 128
  · go_enter Tryd.func70, Tryd.ntmps70
    go_wp2
    go_quiet (fail)
    go_wp2
    go_ret
    exact ⟨ret_bool (by simp; omega), below_drewN ((Below.refl _ _).alloc (Nat.le_refl _) _) _⟩
  have k1' : decide ((y0 : Int) < 128) = false := by simpa using k1
  by_cases k2 : 191 < (y0 : Int)
  · go_enter Tryd.func70, Tryd.ntmps70
    go_wp2
    go_quiet (fail)
    go_wp2
    go_ret
    exact ⟨ret_bool (by simp; omega), below_drewN ((Below.refl _ _).alloc (Nat.le_refl _) _) _⟩
  have k2' : decide (191 < (y0 : Int)) = false := by simpa using k2
  by_cases k3 : (y1 : Int) < 128
  · go_enter Tryd.func70, Tryd.ntmps70
    go_wp2
    go_quiet (fail)
    go_wp2
    go_ret
    exact ⟨ret_bool (by simp; omega), below_drewN ((Below.refl _ _).alloc (Nat.le_refl _) _) _⟩
  have k3' : decide ((y1 : Int) < 128) = false := by simpa using k3
  by_cases k4 : 191 < (y1 : Int)
  · go_enter Tryd.func70, Tryd.ntmps70
    go_wp2
    go_quiet (fail)
    go_wp2
    go_ret
    exact ⟨ret_bool (by simp; omega), below_drewN ((Below.refl _ _).alloc (Nat.le_refl _) _) _⟩
  have k4' : decide (191 < (y1 : Int)) = false := by simpa using k4
  go_enter Tryd.func70, Tryd.ntmps70
  go_wp2
  go_quiet (fail)
  go_wp2
  go_ret
  exact ⟨ret_bool (by simp; omega), below_drewN ((Below.refl _ _).alloc (Nat.le_refl _) _) _⟩

set_option maxRecDepth 100000 in
set_option maxHeartbeats 4000000 in
theorem fullShort_68_1 (a : UInt8) (q : Option Addr) (cap : Nat) (w : World) (h : Bs w w.heap.size q [a]) (ht : Tabs w) (hx : firstX a.toNat = 68) :
    Calls Tryd.prog 70 #[.slice q 1 cap] w fun e w' => e = .returned (.bool false) ∧ Below w.heap.size w w' := by
  obtain ⟨bl, off, rfl, _, hc⟩ := h (by simp)
  have e0 := hc 0 (by simp)
  simp at e0
  have t0 := ht.first a.toNat (byte_lt' a)
  rw [hx] at t0
  have lo := ht.l4
  have hi := ht.h4
  have z0 := ht.lt0
  have z1 := ht.lt1
  have ha := byte_lt' a
  clear hc ht hx h
  generalize a.toNat = x at *
  go_enter Tryd.func70, Tryd.ntmps70
  go_wp2
  go_quiet (fail)
  go_wp2
  go_ret
  exact ⟨ret_bool (by rfl), below_drewN ((Below.refl _ _).alloc (Nat.le_refl _) _) _⟩

set_option maxRecDepth 100000 in
set_option maxHeartbeats 4000000 in
theorem fullShort_68_2 (a b : UInt8) (q : Option Addr) (cap : Nat) (w : World) (h : Bs w w.heap.size q [a, b]) (ht : Tabs w) (hx : firstX a.toNat = 68) :
    Calls Tryd.prog 70 #[.slice q 2 cap] w fun e w' => e = .returned (.bool (!mid 128 143 b)) ∧ Below w.heap.size w w' := by
  obtain ⟨bl, off, rfl, _, hc⟩ := h (by simp)
  have e0 := hc 0 (by simp)
  have e1 := hc 1 (by simp)
  simp at e0 e1
  have t0 := ht.first a.toNat (byte_lt' a)
  rw [hx] at t0
  have lo := ht.l4
  have hi := ht.h4
  have z0 := ht.lt0
  have z1 := ht.lt1
  have ha := byte_lt' a
  have g0 := byte_lt' b
  clear hc ht hx h
  unfold mid
  generalize a.toNat = x at *
  generalize b.toNat = y0 at *
  by_cases k1 : (y0 : Int) < 128
  · go_enter Tryd.func70, Tryd.ntmps70
    go_wp2
    go_quiet (fail)
    go_wp2
    go_ret
    exact ⟨ret_bool (by simp; omega), below_drewN ((Below.refl _ _).alloc (Nat.le_refl _) _) _⟩
  have k1' : decide ((y0 : Int) < 128) = false := by simpa using k1
  by_cases k2 : 143 < (y0 : Int)
  · go_enter Tryd.func70, Tryd.ntmps70
    go_wp2
    go_quiet (fail)
    go_wp2
    go_ret
    exact ⟨ret_bool (by simp; omega), below_drewN ((Below.refl _ _).alloc (Nat.le_refl _) _) _⟩
  have k2' : decide (143 < (y0 : Int)) = false := by simpa using k2
  go_enter Tryd.func70, Tryd.ntmps70
  go_wp2
  go_quiet (fail)
  go_wp2
  go_ret
  exact ⟨ret_bool (by simp; omega), below_drewN ((Below.refl _ _).alloc (Nat.le_refl _) _) _⟩

set_option maxRecDepth 100000 in
set_option maxHeartbeats 4000000 in
theorem fullShort_68_3 (a b c : UInt8) (q : Option Addr) (cap : Nat) (w : World) (h : Bs w w.heap.size q [a, b, c]) (ht : Tabs w) (hx : firstX a.toNat = 68) :
    Calls Tryd.prog 70 #[.slice q 3 cap] w fun e w' => e = .returned (.bool (!(mid 128 143 b && mid 128 191 c))) ∧ Below w.heap.size w w' := by
  obtain ⟨bl, off, rfl, _, hc⟩ := h (by simp)
  have e0 := hc 0 (by simp)
  have e1 := hc 1 (by simp)
  have e2 := hc 2 (by simp)
  simp at e0 e1 e2
  have t0 := ht.first a.toNat (byte_lt' a)
  rw [hx] at t0
  have lo := ht.l4
  have hi := ht.h4
  have z0 := ht.lt0
  have z1 := ht.lt1
  have ha := byte_lt' a
  have g0 := byte_lt' b
  have g1 := byte_lt' c
  clear hc ht hx h
  unfold mid
  generalize a.toNat = x at *
  generalize b.toNat = y0 at *
  generalize c.toNat = y1 at *
  by_cases k1 : (y0 : Int) < 128
  · go_enter Tryd.func70, Tryd.ntmps70
    go_wp2
    go_quiet (fail)
    go_wp2
    go_ret
    exact ⟨ret_bool (by simp; omega), below_drewN ((Below.refl _ _).alloc (Nat.le_refl _) _) _⟩
  have k1' : decide ((y0 : Int) < 128) = false := by simpa using k1
  by_cases k2 : 143 < (y0 : Int)
  · go_enter Tryd.func70, Tryd.ntmps70
    go_wp2
    go_quiet (fail)
    go_wp2
    go_ret
    exact ⟨ret_bool (by simp; omega), below_drewN ((Below.refl _ _).alloc (Nat.le_refl _) _) _⟩
  have k2' : decide (143 < (y0 : Int)) = false := by simpa using k2
  by_cases k3 : (y1 : Int) < 128
  · go_enter Tryd.func70, Tryd.ntmps70
    go_wp2
    go_quiet (fail)
    go_wp2
    go_ret
    exact ⟨ret_bool (by simp; omega), below_drewN ((Below.refl _ _).alloc (Nat.le_refl _) _) _⟩
  have k3' : decide ((y1 : Int) < 128) = false := by simpa using k3
  by_cases k4 : 191 < (y1 : Int)
  · go_enter Tryd.func70, Tryd.ntmps70
    go_wp2
    go_quiet (fail)
    go_wp2
    go_ret
    exact ⟨ret_bool (by simp; omega), below_drewN ((Below.refl _ _).alloc (Nat.le_refl _) _) _⟩
  have k4' : decide (191 < (y1 : Int)) = false := by simpa using k4
  go_enter Tryd.func70, Tryd.ntmps70
  go_wp2
  go_quiet (fail)
  go_wp2
  go_ret
  exact ⟨ret_bool (by simp; omega), below_drewN ((Below.refl _ _).alloc (Nat.le_refl _) _) _⟩

end Go.Proofs.YtcchhlcgamcceaaDoor
