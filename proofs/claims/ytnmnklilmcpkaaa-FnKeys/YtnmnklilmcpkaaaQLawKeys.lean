/- FnKeys: the law's walk. (Written by wip/gen_keys.py.) -/
import Derived.Test.YtnmnklilmcpkaaaQDrawsMToDrawsM2
import Derived.Test.YtnmnklilmcpkaaaQDrawsToDrawsT
import Derived.Test.YtnmnklilmcpkaaaQLwTok
import Derived.Test.YtnmnklilmcpkaaaQFaultToLws
import Derived.Test.YtnmnklilmcpkaaaQSpecMouse3ToKeyFacts
import Derived.Test.YtnmnklilmcpkaaaQTokToFields
import Derived.Test.YtnmnklilmcpkaaaQSpecKey3
import Derived.Test.YtnmnklilmcpkaaaQMouse2
import Derived.Test.YtnmnklilmcpkaaaQTakesToMem
namespace Go.Proofs.Ytnmnklilmcpkaaa
open Go.RowKit
set_option linter.unusedVariables false
set_option linter.unusedSimpArgs false

theorem bs_none (w : World) (B : Nat) : Bs w B none [] := fun h => absurd rfl h
theorem lwToken_plain (t : Tk) (hd : t.ev.data = []) (w : World) :
    Calls Try.prog 12 #[tkV t (.slice none 0 0), tkV t (.slice none 0 0)] w fun e w' => e = .returned (.bool true) ∧ Below w.heap.size w w' := by
  have h := lwToken_same t none none 0 0 w (by rw [hd]; exact bs_none _ _) (by rw [hd]; exact bs_none _ _) (by rw [hd]; simp)
  rw [hd] at h
  exact h
theorem fault_plain (t : Tk) (hd : t.ev.data = []) (hf : t.ev.fault = 0) (w : World) :
    Calls Try.prog 16 #[.agg #[.int .i64 t.ev.kind, .int .i64 t.ev.code, .int .i64 t.ev.mods, .int .i64 t.ev.button, .int .i64 t.ev.act, .int .i64 t.ev.col, .int .i64 t.ev.row, .slice none 0 0]] w fun e w' => e = .returned (.int .i64 0) ∧ Below w.heap.size w w' := by
  have h := implEventFault_any t.ev none 0 w
  rw [hf] at h
  unfold evV at h
  rw [hd] at h
  exact h
theorem AtL.tkP {w : World} {b : Nat} {t : Tk} (h : AtL w b (tkL t (.slice none 0 0))) : w.cell? ⟨b, 0, none⟩ = some (.int .i64 t.code) ∧ w.cell? ⟨b, 1, none⟩ = some (.int .i64 t.ev.kind) ∧ w.cell? ⟨b, 2, none⟩ = some (.int .i64 t.ev.code) ∧ w.cell? ⟨b, 3, none⟩ = some (.int .i64 t.ev.mods) ∧ w.cell? ⟨b, 4, none⟩ = some (.int .i64 t.ev.button) ∧ w.cell? ⟨b, 5, none⟩ = some (.int .i64 t.ev.act) ∧ w.cell? ⟨b, 6, none⟩ = some (.int .i64 t.ev.col) ∧ w.cell? ⟨b, 7, none⟩ = some (.int .i64 t.ev.row) ∧ w.cell? ⟨b, 8, none⟩ = some (.slice none 0 0) ∧ w.cell? ⟨b, 9, none⟩ = some (.int .i64 t.size) ∧ w.cell? ⟨b, 10, none⟩ = some (.bool t.paste) ∧ w.cell? ⟨b, 11, none⟩ = some (.bool t.none) :=
  ⟨h.get 0 rfl, h.get 1 rfl, h.get 2 rfl, h.get 3 rfl, h.get 4 rfl, h.get 5 rfl, h.get 6 rfl, h.get 7 rfl, h.get 8 rfl, h.get 9 rfl, h.get 10 rfl, h.get 11 rfl⟩

set_option maxRecDepth 100000 in
set_option maxHeartbeats 4000000 in
theorem lawKeys_any (q : Option Addr) (c : Nat) (l : List UInt8) (w : World) (h : Bs w w.heap.size q l) :
    Calls Try.prog 3 #[.slice q l.length c] w fun e w' => e = .returned (.bool true) ∧ Below w.heap.size w w' := by
  by_cases hbig : (1048576 : Int) < (l.length : Int)
  · go_enter Try.func3, Try.ntmps3
    go_wp2_with fail
    refine (lwBig_any _ _ _ _).mono ?_
    rw [decide_eq_true hbig]
    rintro e w1 ⟨rfl, rfl⟩
    go_wp2_with fail
    go_ret
    exact ⟨rfl, Below.refl _ _⟩
  have hl : l.length ≤ 1048576 := by omega
  have HF := Lib.hid (decide_eq_false hbig)
  clear hbig
  have HQ := Lib.hid h
  clear h
  go_enter Try.func3, Try.ntmps3
  go_wp2_with fail
  refine (lwBig_any _ _ _ _).mono ?_
  rw [HF.out]
  rintro e w1 ⟨rfl, rfl⟩
  clear HF
  go_wp2_with fail
  refine (drawKeyOfByte_any q c l w HQ.out hl).mono ?_
  rintro e w1 ⟨⟨b, rfl, hb0, hb255⟩, hb1⟩
  have E1 := Lib.hid hb1
  clear hb1
  have IP := Lib.hid (fun W' => implKeyOfByte_any b W' hb0)
  have SP4 := Lib.hid (fun W' => specKeyOfByte_any b W' hb0)
  have HV4 := Lib.hid (keyB_event b hb0)
  have HD4 := Lib.hid (keyB_data b)
  generalize keyB b = t at *
  go_wp2_with fail
  refine (IP.out _).mono ?_
  rintro e w2 ⟨rfl, hb2⟩
  have B2 := below_mk w2 (.cells #[.int .i64 t.code, .int .i64 t.ev.kind, .int .i64 t.ev.code, .int .i64 t.ev.mods, .int .i64 t.ev.button, .int .i64 t.ev.act, .int .i64 t.ev.col, .int .i64 t.ev.row, .slice none 0 0, .int .i64 t.size, .bool t.paste, .bool t.none] 30)
  have X2 : Hid (AtL (w2.alloc (.cells #[.int .i64 t.code, .int .i64 t.ev.kind, .int .i64 t.ev.code, .int .i64 t.ev.mods, .int .i64 t.ev.button, .int .i64 t.ev.act, .int .i64 t.ev.col, .int .i64 t.ev.row, .slice none 0 0, .int .i64 t.size, .bool t.paste, .bool t.none] 30)) w2.heap.size (tkL t (.slice none 0 0))) := AtL.new w2 (tkL t (.slice none 0 0)) 30
  have E2 := Lib.hid (below_on (below_on E1.out hb2) B2)
  clear hb2 B2 E1 IP
  unfold tkV
  go_wp2_with fail
  generalize w2.alloc (.cells #[.int .i64 t.code, .int .i64 t.ev.kind, .int .i64 t.ev.code, .int .i64 t.ev.mods, .int .i64 t.ev.button, .int .i64 t.ev.act, .int .i64 t.ev.col, .int .i64 t.ev.row, .slice none 0 0, .int .i64 t.size, .bool t.paste, .bool t.none] 30) = W2 at *
  refine (drawKeyOfParts_any q c l _ (HQ.out.on E2.out) hl).mono ?_
  rintro e w3 ⟨r, pr, cr, rfl, ⟨hg1, hg2, hg3⟩, hor, hb3⟩
  have B3 := below_mk w3 (.cells #[.int .i64 r.code, .bool r.priv, .slice pr r.nums.length cr, .int .u8 r.fin, .int .i64 r.size] 34)
  have X3 := Lib.hid ((X2.out.on hb3).on B3)
  have Y3 : Hid (AtL (w3.alloc (.cells #[.int .i64 r.code, .bool r.priv, .slice pr r.nums.length cr, .int .u8 r.fin, .int .i64 r.size] 34)) w3.heap.size [.int .i64 r.code, .bool r.priv, .slice pr r.nums.length cr, .int .u8 r.fin, .int .i64 r.size]) := AtL.new w3 [.int .i64 r.code, .bool r.priv, .slice pr r.nums.length cr, .int .u8 r.fin, .int .i64 r.size] 34
  have N3 := Lib.hid ((hor.on B3).is.2)
  have E3 := Lib.hid (below_on (below_on E2.out hb3) B3)
  clear hb3 B3 hor X2 E2
  have IP := Lib.hid (fun W' h => implKeyOfParts_any r pr cr W' h hg1)
  have SP6 := Lib.hid (fun W' h => specKeyOfParts_any r pr cr W' h hg1 hg2 hg3)
  have HV6 := Lib.hid (keyP_event r)
  have HD6 := Lib.hid (keyP_data r)
  generalize keyP r = u at *
  clear hg1 hg2 hg3
  unfold ptV
  unfold ptV at IP
  unfold ptV at SP6
  go_wp2_with fail
  generalize w3.alloc (.cells #[.int .i64 r.code, .bool r.priv, .slice pr r.nums.length cr, .int .u8 r.fin, .int .i64 r.size] 34) = W3 at *
  refine (IP.out _ N3.out).mono ?_
  rintro e w4 ⟨rfl, hb4⟩
  have B4 := below_mk w4 (.cells #[.int .i64 u.code, .int .i64 u.ev.kind, .int .i64 u.ev.code, .int .i64 u.ev.mods, .int .i64 u.ev.button, .int .i64 u.ev.act, .int .i64 u.ev.col, .int .i64 u.ev.row, .slice none 0 0, .int .i64 u.size, .bool u.paste, .bool u.none] 30)
  have X4 := Lib.hid ((X3.out.on hb4).on B4)
  have Y4 := Lib.hid ((Y3.out.on hb4).on B4)
  have N4 := Lib.hid ((N3.out.on hb4).on B4)
  have Z4 : Hid (AtL (w4.alloc (.cells #[.int .i64 u.code, .int .i64 u.ev.kind, .int .i64 u.ev.code, .int .i64 u.ev.mods, .int .i64 u.ev.button, .int .i64 u.ev.act, .int .i64 u.ev.col, .int .i64 u.ev.row, .slice none 0 0, .int .i64 u.size, .bool u.paste, .bool u.none] 30)) w4.heap.size (tkL u (.slice none 0 0))) := AtL.new w4 (tkL u (.slice none 0 0)) 30
  have E4 := Lib.hid (below_on (below_on E3.out hb4) B4)
  clear hb4 B4 X3 Y3 N3 E3 IP
  unfold tkV
  go_wp2_with fail
  generalize w4.alloc (.cells #[.int .i64 u.code, .int .i64 u.ev.kind, .int .i64 u.ev.code, .int .i64 u.ev.mods, .int .i64 u.ev.button, .int .i64 u.ev.act, .int .i64 u.ev.col, .int .i64 u.ev.row, .slice none 0 0, .int .i64 u.size, .bool u.paste, .bool u.none] 30) = W4 at *
  refine (drawMouseOfParts_any q c l _ (HQ.out.on E4.out) hl).mono ?_
  rintro e w5 ⟨s, ps, cs, rfl, ⟨hg1, hg2, hg3⟩, hor, hb5⟩
  have B5 := below_mk w5 (.cells #[.int .i64 s.code, .bool s.priv, .slice ps s.nums.length cs, .int .u8 s.fin, .int .i64 s.size] 34)
  have X5 := Lib.hid ((X4.out.on hb5).on B5)
  have Y5 := Lib.hid ((Y4.out.on hb5).on B5)
  have N5 := Lib.hid ((N4.out.on hb5).on B5)
  have Z5 := Lib.hid ((Z4.out.on hb5).on B5)
  have U5 : Hid (AtL (w5.alloc (.cells #[.int .i64 s.code, .bool s.priv, .slice ps s.nums.length cs, .int .u8 s.fin, .int .i64 s.size] 34)) w5.heap.size [.int .i64 s.code, .bool s.priv, .slice ps s.nums.length cs, .int .u8 s.fin, .int .i64 s.size]) := AtL.new w5 [.int .i64 s.code, .bool s.priv, .slice ps s.nums.length cs, .int .u8 s.fin, .int .i64 s.size] 34
  have M5 := Lib.hid ((hor.on B5).is.2)
  have E5 := Lib.hid (below_on (below_on E4.out hb5) B5)
  clear hb5 B5 hor X4 Y4 N4 Z4 E4
  have IP := Lib.hid (fun W' h => implMouseOfParts_any s ps cs W' h hg1 hg2)
  have SP8 := Lib.hid (fun W' h => specMouseOfParts_any s ps cs W' h hg1 hg2 hg3)
  have HV8 := Lib.hid (mouseP_event s hg2)
  have HD8 := Lib.hid (mouseP_data s)
  generalize mouseP s = m at *
  clear hg1 hg2 hg3
  unfold ptV
  unfold ptV at IP
  unfold ptV at SP8
  go_wp2_with fail
  generalize w5.alloc (.cells #[.int .i64 s.code, .bool s.priv, .slice ps s.nums.length cs, .int .u8 s.fin, .int .i64 s.size] 34) = W5 at *
  refine (IP.out _ M5.out).mono ?_
  rintro e w6 ⟨rfl, hb6⟩
  have B6 := below_mk w6 (.cells #[.int .i64 m.code, .int .i64 m.ev.kind, .int .i64 m.ev.code, .int .i64 m.ev.mods, .int .i64 m.ev.button, .int .i64 m.ev.act, .int .i64 m.ev.col, .int .i64 m.ev.row, .slice none 0 0, .int .i64 m.size, .bool m.paste, .bool m.none] 30)
  have X6 := Lib.hid ((X5.out.on hb6).on B6)
  have Y6 := Lib.hid ((Y5.out.on hb6).on B6)
  have N6 := Lib.hid ((N5.out.on hb6).on B6)
  have Z6 := Lib.hid ((Z5.out.on hb6).on B6)
  have U6 := Lib.hid ((U5.out.on hb6).on B6)
  have M6 := Lib.hid ((M5.out.on hb6).on B6)
  have V6 : Hid (AtL (w6.alloc (.cells #[.int .i64 m.code, .int .i64 m.ev.kind, .int .i64 m.ev.code, .int .i64 m.ev.mods, .int .i64 m.ev.button, .int .i64 m.ev.act, .int .i64 m.ev.col, .int .i64 m.ev.row, .slice none 0 0, .int .i64 m.size, .bool m.paste, .bool m.none] 30)) w6.heap.size (tkL m (.slice none 0 0))) := AtL.new w6 (tkL m (.slice none 0 0)) 30
  have E6 := Lib.hid (below_on (below_on E5.out hb6) B6)
  clear hb6 B6 X5 Y5 N5 Z5 U5 M5 E5 IP HQ
  unfold tkV
  go_wp2_with fail
  generalize w6.alloc (.cells #[.int .i64 m.code, .int .i64 m.ev.kind, .int .i64 m.ev.code, .int .i64 m.ev.mods, .int .i64 m.ev.button, .int .i64 m.ev.act, .int .i64 m.ev.col, .int .i64 m.ev.row, .slice none 0 0, .int .i64 m.size, .bool m.paste, .bool m.none] 30) = W at *
  have HA4 := Lib.hid (fun W' (hb : Below W.heap.size W W') => (X6.out.on hb).tkP)
  have HA6 := Lib.hid (fun W' (hb : Below W.heap.size W W') => (Z6.out.on hb).tkP)
  have HA8 := Lib.hid (fun W' (hb : Below W.heap.size W W') => (V6.out.on hb).tkP)
  have HA5 := Lib.hid (fun W' (hb : Below W.heap.size W W') => (Y6.out.on hb).five)
  have HA7 := Lib.hid (fun W' (hb : Below W.heap.size W W') => (U6.out.on hb).five)
  have HS4 : Hid (∀ W', Below W.heap.size W W' → Calls Try.prog 13 #[.int .u8 b] W' fun e W2 => e = .returned (.agg #[.int .i64 t.code, .int .i64 t.ev.kind, .int .i64 t.ev.code, .int .i64 t.ev.mods, .int .i64 t.ev.button, .int .i64 t.ev.act, .int .i64 t.ev.col, .int .i64 t.ev.row, .slice none 0 0, .int .i64 t.size, .bool t.paste, .bool t.none]) ∧ Below W.heap.size W W2) := fun W' hb =>
    (SP4.out W').mono fun _ _ ⟨he, hb2⟩ => ⟨he, below_on hb hb2⟩
  have HS6 : Hid (∀ W', Below W.heap.size W W' → Calls Try.prog 14 #[.agg #[.int .i64 r.code, .bool r.priv, .slice pr r.nums.length cr, .int .u8 r.fin, .int .i64 r.size]] W' fun e W2 => e = .returned (.agg #[.int .i64 u.code, .int .i64 u.ev.kind, .int .i64 u.ev.code, .int .i64 u.ev.mods, .int .i64 u.ev.button, .int .i64 u.ev.act, .int .i64 u.ev.col, .int .i64 u.ev.row, .slice none 0 0, .int .i64 u.size, .bool u.paste, .bool u.none]) ∧ Below W.heap.size W W2) := fun W' hb =>
    (SP6.out W' (N6.out.on hb)).mono fun _ _ ⟨he, hb2⟩ => ⟨he, below_on hb hb2⟩
  have HS8 : Hid (∀ W', Below W.heap.size W W' → Calls Try.prog 15 #[.agg #[.int .i64 s.code, .bool s.priv, .slice ps s.nums.length cs, .int .u8 s.fin, .int .i64 s.size]] W' fun e W2 => e = .returned (.agg #[.int .i64 m.code, .int .i64 m.ev.kind, .int .i64 m.ev.code, .int .i64 m.ev.mods, .int .i64 m.ev.button, .int .i64 m.ev.act, .int .i64 m.ev.col, .int .i64 m.ev.row, .slice none 0 0, .int .i64 m.size, .bool m.paste, .bool m.none]) ∧ Below W.heap.size W W2) := fun W' hb =>
    (SP8.out W' (M6.out.on hb)).mono fun _ _ ⟨he, hb2⟩ => ⟨he, below_on hb hb2⟩
  have HL4 : Hid (∀ W', Below W.heap.size W W' → Calls Try.prog 12 #[.agg #[.int .i64 t.code, .int .i64 t.ev.kind, .int .i64 t.ev.code, .int .i64 t.ev.mods, .int .i64 t.ev.button, .int .i64 t.ev.act, .int .i64 t.ev.col, .int .i64 t.ev.row, .slice none 0 0, .int .i64 t.size, .bool t.paste, .bool t.none], .agg #[.int .i64 t.code, .int .i64 t.ev.kind, .int .i64 t.ev.code, .int .i64 t.ev.mods, .int .i64 t.ev.button, .int .i64 t.ev.act, .int .i64 t.ev.col, .int .i64 t.ev.row, .slice none 0 0, .int .i64 t.size, .bool t.paste, .bool t.none]] W' fun e W2 => e = .returned (.bool true) ∧ Below W.heap.size W W2) := fun W' hb =>
    (lwToken_plain t HD4.out W').mono fun _ _ ⟨he, hb2⟩ => ⟨he, below_on hb hb2⟩
  have HL6 : Hid (∀ W', Below W.heap.size W W' → Calls Try.prog 12 #[.agg #[.int .i64 u.code, .int .i64 u.ev.kind, .int .i64 u.ev.code, .int .i64 u.ev.mods, .int .i64 u.ev.button, .int .i64 u.ev.act, .int .i64 u.ev.col, .int .i64 u.ev.row, .slice none 0 0, .int .i64 u.size, .bool u.paste, .bool u.none], .agg #[.int .i64 u.code, .int .i64 u.ev.kind, .int .i64 u.ev.code, .int .i64 u.ev.mods, .int .i64 u.ev.button, .int .i64 u.ev.act, .int .i64 u.ev.col, .int .i64 u.ev.row, .slice none 0 0, .int .i64 u.size, .bool u.paste, .bool u.none]] W' fun e W2 => e = .returned (.bool true) ∧ Below W.heap.size W W2) := fun W' hb =>
    (lwToken_plain u HD6.out W').mono fun _ _ ⟨he, hb2⟩ => ⟨he, below_on hb hb2⟩
  have HL8 : Hid (∀ W', Below W.heap.size W W' → Calls Try.prog 12 #[.agg #[.int .i64 m.code, .int .i64 m.ev.kind, .int .i64 m.ev.code, .int .i64 m.ev.mods, .int .i64 m.ev.button, .int .i64 m.ev.act, .int .i64 m.ev.col, .int .i64 m.ev.row, .slice none 0 0, .int .i64 m.size, .bool m.paste, .bool m.none], .agg #[.int .i64 m.code, .int .i64 m.ev.kind, .int .i64 m.ev.code, .int .i64 m.ev.mods, .int .i64 m.ev.button, .int .i64 m.ev.act, .int .i64 m.ev.col, .int .i64 m.ev.row, .slice none 0 0, .int .i64 m.size, .bool m.paste, .bool m.none]] W' fun e W2 => e = .returned (.bool true) ∧ Below W.heap.size W W2) := fun W' hb =>
    (lwToken_plain m HD8.out W').mono fun _ _ ⟨he, hb2⟩ => ⟨he, below_on hb hb2⟩
  clear X6 Y6 N6 Z6 U6 M6 V6 SP4 SP6 SP8
  refine wp_region_noPanic ?_
  refine wp_region_held_drew (S := fun W' => Below (W).heap.size (W) W') (by kernel_rfl) (below_drewN (Below.refl _ _) 1) (fun hHeld => ?_)
  refine takeR 0 23 (.agg #[.int .i64 t.code, .int .i64 t.ev.kind, .int .i64 t.ev.code, .int .i64 t.ev.mods, .int .i64 t.ev.button, .int .i64 t.ev.act, .int .i64 t.ev.col, .int .i64 t.ev.row, .slice none 0 0, .int .i64 t.size, .bool t.paste, .bool t.none]) (by kernel_rfl) (by kernel_rfl) (by kernel_rfl) (by kernel_rfl) (fun _ _ _ h => h) (by kernel_rfl) (fun w o hSw ho => ?_) hHeld ?_
  · obtain rfl := Option.some.inj ho; obtain ⟨z0, z1, z2, z3, z4, z5, z6, z7, z8, z9, z10, z11⟩ := HA4.out _ hSw; go_simp
  simp only [Act.put, List.setIfInBounds_toArray, List.set_cons_zero, List.set_cons_succ]
  refine takeR 1 24 (.int .u8 b) (by kernel_rfl) (by kernel_rfl) (by kernel_rfl) (by kernel_rfl) (fun _ _ _ h => h) (by kernel_rfl) (fun w o hSw ho => ?_) hHeld ?_
  · obtain rfl := Option.some.inj ho; go_simp
  simp only [Act.put, List.setIfInBounds_toArray, List.set_cons_zero, List.set_cons_succ]
  refine oneR 2 (by kernel_rfl) (by kernel_rfl) (fun o ho K' hK => ?_)
  obtain rfl := Option.some.inj ho
  clear ho
  go_simp
  refine (HS4.out _ hHeld).mono ?_
  rintro e V1 ⟨rfl, hc1⟩
  clear hHeld
  go_wp2_with fail
  refine hK.out _ _ (hc1) (fun hHeld => ?_)
  clear hK K'
  try simp only [Act.put, List.setIfInBounds_toArray, List.set_cons_zero, List.set_cons_succ]
  clear hc1
  refine oneR 3 (by kernel_rfl) (by kernel_rfl) (fun o ho K' hK => ?_)
  obtain rfl := Option.some.inj ho
  clear ho
  go_simp
  refine (HL4.out _ hHeld).mono ?_
  rintro e V2 ⟨rfl, hd1⟩
  clear hHeld
  go_wp2_with fail
  refine hK.out _ _ (hd1) (fun hHeld => ?_)
  clear hK K'
  try simp only [Act.put, List.setIfInBounds_toArray, List.set_cons_zero, List.set_cons_succ]
  clear hd1
  refine takeR 4 27 (.bool false) (by kernel_rfl) (by kernel_rfl) (by kernel_rfl) (by kernel_rfl) (fun _ _ _ h => h) (by kernel_rfl) (fun w o hSw ho => ?_) hHeld ?_
  · obtain rfl := Option.some.inj ho; go_simp
  simp only [Act.put, List.setIfInBounds_toArray, List.set_cons_zero, List.set_cons_succ]
  refine takeR 5 28 (.bool false) (by kernel_rfl) (by kernel_rfl) (by kernel_rfl) (by kernel_rfl) (fun _ _ _ h => h) (by kernel_rfl) (fun w o hSw ho => ?_) hHeld ?_
  · obtain rfl := Option.some.inj ho; go_simp
  simp only [Act.put, List.setIfInBounds_toArray, List.set_cons_zero, List.set_cons_succ]
  refine takeR 6 29 (.agg #[.int .i64 u.code, .int .i64 u.ev.kind, .int .i64 u.ev.code, .int .i64 u.ev.mods, .int .i64 u.ev.button, .int .i64 u.ev.act, .int .i64 u.ev.col, .int .i64 u.ev.row, .slice none 0 0, .int .i64 u.size, .bool u.paste, .bool u.none]) (by kernel_rfl) (by kernel_rfl) (by kernel_rfl) (by kernel_rfl) (fun _ _ _ h => h) (by kernel_rfl) (fun w o hSw ho => ?_) hHeld ?_
  · obtain rfl := Option.some.inj ho; obtain ⟨z0, z1, z2, z3, z4, z5, z6, z7, z8, z9, z10, z11⟩ := HA6.out _ hSw; go_simp
  simp only [Act.put, List.setIfInBounds_toArray, List.set_cons_zero, List.set_cons_succ]
  refine takeR 7 30 (.agg #[.int .i64 r.code, .bool r.priv, .slice pr r.nums.length cr, .int .u8 r.fin, .int .i64 r.size]) (by kernel_rfl) (by kernel_rfl) (by kernel_rfl) (by kernel_rfl) (fun _ _ _ h => h) (by kernel_rfl) (fun w o hSw ho => ?_) hHeld ?_
  · obtain rfl := Option.some.inj ho; obtain ⟨z0, z1, z2, z3, z4⟩ := HA5.out _ hSw; go_simp
  simp only [Act.put, List.setIfInBounds_toArray, List.set_cons_zero, List.set_cons_succ]
  refine oneR 8 (by kernel_rfl) (by kernel_rfl) (fun o ho K' hK => ?_)
  obtain rfl := Option.some.inj ho
  clear ho
  go_simp
  refine (HS6.out _ hHeld).mono ?_
  rintro e V1 ⟨rfl, hc1⟩
  clear hHeld
  go_wp2_with fail
  refine hK.out _ _ (hc1) (fun hHeld => ?_)
  clear hK K'
  try simp only [Act.put, List.setIfInBounds_toArray, List.set_cons_zero, List.set_cons_succ]
  clear hc1
  refine oneR 9 (by kernel_rfl) (by kernel_rfl) (fun o ho K' hK => ?_)
  obtain rfl := Option.some.inj ho
  clear ho
  go_simp
  refine (HL6.out _ hHeld).mono ?_
  rintro e V2 ⟨rfl, hd1⟩
  clear hHeld
  go_wp2_with fail
  refine hK.out _ _ (hd1) (fun hHeld => ?_)
  clear hK K'
  try simp only [Act.put, List.setIfInBounds_toArray, List.set_cons_zero, List.set_cons_succ]
  clear hd1
  refine takeR 10 33 (.bool false) (by kernel_rfl) (by kernel_rfl) (by kernel_rfl) (by kernel_rfl) (fun _ _ _ h => h) (by kernel_rfl) (fun w o hSw ho => ?_) hHeld ?_
  · obtain rfl := Option.some.inj ho; go_simp
  simp only [Act.put, List.setIfInBounds_toArray, List.set_cons_zero, List.set_cons_succ]
  refine takeR 11 34 (.bool false) (by kernel_rfl) (by kernel_rfl) (by kernel_rfl) (by kernel_rfl) (fun _ _ _ h => h) (by kernel_rfl) (fun w o hSw ho => ?_) hHeld ?_
  · obtain rfl := Option.some.inj ho; go_simp
  simp only [Act.put, List.setIfInBounds_toArray, List.set_cons_zero, List.set_cons_succ]
  refine takeR 12 35 (.bool false) (by kernel_rfl) (by kernel_rfl) (by kernel_rfl) (by kernel_rfl) (fun _ _ _ h => h) (by kernel_rfl) (fun w o hSw ho => ?_) hHeld ?_
  · obtain rfl := Option.some.inj ho; go_simp
  simp only [Act.put, List.setIfInBounds_toArray, List.set_cons_zero, List.set_cons_succ]
  refine takeR 13 36 (.agg #[.int .i64 m.code, .int .i64 m.ev.kind, .int .i64 m.ev.code, .int .i64 m.ev.mods, .int .i64 m.ev.button, .int .i64 m.ev.act, .int .i64 m.ev.col, .int .i64 m.ev.row, .slice none 0 0, .int .i64 m.size, .bool m.paste, .bool m.none]) (by kernel_rfl) (by kernel_rfl) (by kernel_rfl) (by kernel_rfl) (fun _ _ _ h => h) (by kernel_rfl) (fun w o hSw ho => ?_) hHeld ?_
  · obtain rfl := Option.some.inj ho; obtain ⟨z0, z1, z2, z3, z4, z5, z6, z7, z8, z9, z10, z11⟩ := HA8.out _ hSw; go_simp
  simp only [Act.put, List.setIfInBounds_toArray, List.set_cons_zero, List.set_cons_succ]
  refine takeR 14 37 (.agg #[.int .i64 s.code, .bool s.priv, .slice ps s.nums.length cs, .int .u8 s.fin, .int .i64 s.size]) (by kernel_rfl) (by kernel_rfl) (by kernel_rfl) (by kernel_rfl) (fun _ _ _ h => h) (by kernel_rfl) (fun w o hSw ho => ?_) hHeld ?_
  · obtain rfl := Option.some.inj ho; obtain ⟨z0, z1, z2, z3, z4⟩ := HA7.out _ hSw; go_simp
  simp only [Act.put, List.setIfInBounds_toArray, List.set_cons_zero, List.set_cons_succ]
  refine oneR 15 (by kernel_rfl) (by kernel_rfl) (fun o ho K' hK => ?_)
  obtain rfl := Option.some.inj ho
  clear ho
  go_simp
  refine (HS8.out _ hHeld).mono ?_
  rintro e V1 ⟨rfl, hc1⟩
  clear hHeld
  go_wp2_with fail
  refine hK.out _ _ (hc1) (fun hHeld => ?_)
  clear hK K'
  try simp only [Act.put, List.setIfInBounds_toArray, List.set_cons_zero, List.set_cons_succ]
  clear hc1
  refine oneR 16 (by kernel_rfl) (by kernel_rfl) (fun o ho K' hK => ?_)
  obtain rfl := Option.some.inj ho
  clear ho
  go_simp
  refine (HL8.out _ hHeld).mono ?_
  rintro e V2 ⟨rfl, hd1⟩
  clear hHeld
  go_wp2_with fail
  refine hK.out _ _ (hd1) (fun hHeld => ?_)
  clear hK K'
  try simp only [Act.put, List.setIfInBounds_toArray, List.set_cons_zero, List.set_cons_succ]
  clear hd1
  refine takeR 17 40 (.bool false) (by kernel_rfl) (by kernel_rfl) (by kernel_rfl) (by kernel_rfl) (fun _ _ _ h => h) (by kernel_rfl) (fun w o hSw ho => ?_) hHeld ?_
  · obtain rfl := Option.some.inj ho; go_simp
  simp only [Act.put, List.setIfInBounds_toArray, List.set_cons_zero, List.set_cons_succ]
  refine takeR 18 41 (.bool false) (by kernel_rfl) (by kernel_rfl) (by kernel_rfl) (by kernel_rfl) (fun _ _ _ h => h) (by kernel_rfl) (fun w o hSw ho => ?_) hHeld ?_
  · obtain rfl := Option.some.inj ho; go_simp
  simp only [Act.put, List.setIfInBounds_toArray, List.set_cons_zero, List.set_cons_succ]
  refine wpAnyH_done (by kernel_rfl) ?_ _
  refine NoPanic.normal ?_
  clear HS4 HS6 HS8 HL4 HL6 HL8 HA5 HA7
  have HH := Lib.hid hHeld
  clear hHeld
  by_cases h4 : t.code = 0
  · obtain ⟨hf, hk⟩ := HV4.out h4
    have HC4 := Lib.hid h4
    have HK4 := Lib.hid hk
    have HE4 := Lib.hid (fun W' => fault_plain t HD4.out hf W')
    rw [hk] at HE4
    clear hf hk h4
    by_cases h6 : u.code = 0
    · obtain ⟨hf, hk⟩ := HV6.out h6
      have HC6 := Lib.hid h6
      have HK6 := Lib.hid hk
      have HE6 := Lib.hid (fun W' => fault_plain u HD6.out hf W')
      rw [hk] at HE6
      clear hf hk h6
      by_cases h8 : m.code = 0
      · obtain ⟨hf, hk⟩ := HV8.out h8
        have HC8 := Lib.hid h8
        have HK8 := Lib.hid hk
        have HE8 := Lib.hid (fun W' => fault_plain m HD8.out hf W')
        rw [hk] at HE8
        clear hf hk h8
        obtain ⟨x0, x1, x2, x3, x4, x5, x6, x7, x8, x9, x10, x11⟩ := HA4.out _ HH.out
        rw [HC4.out] at x0
        rw [HK4.out] at x1
        obtain ⟨y0, y1, y2, y3, y4, y5, y6, y7, y8, y9, y10, y11⟩ := HA6.out _ HH.out
        rw [HC6.out] at y0
        rw [HK6.out] at y1
        obtain ⟨z0, z1, z2, z3, z4, z5, z6, z7, z8, z9, z10, z11⟩ := HA8.out _ HH.out
        rw [HC8.out] at z0
        rw [HK8.out] at z1
        go_wp2_with fail
        refine (HE4.out _).mono ?_
        rintro e V10 ⟨rfl, hb⟩
        have HB0 := Lib.hid (below_on HH.out hb)
        clear hb
        clear x0 x1 x2 x3 x4 x5 x6 x7 x8 x9 x10 x11 y0 y1 y2 y3 y4 y5 y6 y7 y8 y9 y10 y11 z0 z1 z2 z3 z4 z5 z6 z7 z8 z9 z10 z11
        obtain ⟨x0, x1, x2, x3, x4, x5, x6, x7, x8, x9, x10, x11⟩ := HA4.out _ HB0.out
        rw [HC4.out] at x0
        rw [HK4.out] at x1
        obtain ⟨y0, y1, y2, y3, y4, y5, y6, y7, y8, y9, y10, y11⟩ := HA6.out _ HB0.out
        rw [HC6.out] at y0
        rw [HK6.out] at y1
        obtain ⟨z0, z1, z2, z3, z4, z5, z6, z7, z8, z9, z10, z11⟩ := HA8.out _ HB0.out
        rw [HC8.out] at z0
        rw [HK8.out] at z1
        go_wp2_with fail
        refine (HE6.out _).mono ?_
        rintro e V11 ⟨rfl, hb⟩
        have HB1 := Lib.hid (below_on HB0.out hb)
        clear hb
        clear x0 x1 x2 x3 x4 x5 x6 x7 x8 x9 x10 x11 y0 y1 y2 y3 y4 y5 y6 y7 y8 y9 y10 y11 z0 z1 z2 z3 z4 z5 z6 z7 z8 z9 z10 z11
        obtain ⟨x0, x1, x2, x3, x4, x5, x6, x7, x8, x9, x10, x11⟩ := HA4.out _ HB1.out
        rw [HC4.out] at x0
        rw [HK4.out] at x1
        obtain ⟨y0, y1, y2, y3, y4, y5, y6, y7, y8, y9, y10, y11⟩ := HA6.out _ HB1.out
        rw [HC6.out] at y0
        rw [HK6.out] at y1
        obtain ⟨z0, z1, z2, z3, z4, z5, z6, z7, z8, z9, z10, z11⟩ := HA8.out _ HB1.out
        rw [HC8.out] at z0
        rw [HK8.out] at z1
        go_wp2_with fail
        refine (HE8.out _).mono ?_
        rintro e V12 ⟨rfl, hb⟩
        have HB2 := Lib.hid (below_on HB1.out hb)
        clear hb
        clear x0 x1 x2 x3 x4 x5 x6 x7 x8 x9 x10 x11 y0 y1 y2 y3 y4 y5 y6 y7 y8 y9 y10 y11 z0 z1 z2 z3 z4 z5 z6 z7 z8 z9 z10 z11
        obtain ⟨x0, x1, x2, x3, x4, x5, x6, x7, x8, x9, x10, x11⟩ := HA4.out _ HB2.out
        rw [HC4.out] at x0
        rw [HK4.out] at x1
        obtain ⟨y0, y1, y2, y3, y4, y5, y6, y7, y8, y9, y10, y11⟩ := HA6.out _ HB2.out
        rw [HC6.out] at y0
        rw [HK6.out] at y1
        obtain ⟨z0, z1, z2, z3, z4, z5, z6, z7, z8, z9, z10, z11⟩ := HA8.out _ HB2.out
        rw [HC8.out] at z0
        rw [HK8.out] at z1
        go_wp2_with fail
        go_ret
        exact ⟨rfl, below_on E6.out HB2.out⟩
      · have hz8 : ¬ m.code = 0 := h8
        obtain ⟨x0, x1, x2, x3, x4, x5, x6, x7, x8, x9, x10, x11⟩ := HA4.out _ HH.out
        rw [HC4.out] at x0
        rw [HK4.out] at x1
        obtain ⟨y0, y1, y2, y3, y4, y5, y6, y7, y8, y9, y10, y11⟩ := HA6.out _ HH.out
        rw [HC6.out] at y0
        rw [HK6.out] at y1
        obtain ⟨z0, z1, z2, z3, z4, z5, z6, z7, z8, z9, z10, z11⟩ := HA8.out _ HH.out
        go_wp2_with fail
        refine (HE4.out _).mono ?_
        rintro e V10 ⟨rfl, hb⟩
        have HB0 := Lib.hid (below_on HH.out hb)
        clear hb
        clear x0 x1 x2 x3 x4 x5 x6 x7 x8 x9 x10 x11 y0 y1 y2 y3 y4 y5 y6 y7 y8 y9 y10 y11 z0 z1 z2 z3 z4 z5 z6 z7 z8 z9 z10 z11
        obtain ⟨x0, x1, x2, x3, x4, x5, x6, x7, x8, x9, x10, x11⟩ := HA4.out _ HB0.out
        rw [HC4.out] at x0
        rw [HK4.out] at x1
        obtain ⟨y0, y1, y2, y3, y4, y5, y6, y7, y8, y9, y10, y11⟩ := HA6.out _ HB0.out
        rw [HC6.out] at y0
        rw [HK6.out] at y1
        obtain ⟨z0, z1, z2, z3, z4, z5, z6, z7, z8, z9, z10, z11⟩ := HA8.out _ HB0.out
        go_wp2_with fail
        refine (HE6.out _).mono ?_
        rintro e V11 ⟨rfl, hb⟩
        have HB1 := Lib.hid (below_on HB0.out hb)
        clear hb
        clear x0 x1 x2 x3 x4 x5 x6 x7 x8 x9 x10 x11 y0 y1 y2 y3 y4 y5 y6 y7 y8 y9 y10 y11 z0 z1 z2 z3 z4 z5 z6 z7 z8 z9 z10 z11
        obtain ⟨x0, x1, x2, x3, x4, x5, x6, x7, x8, x9, x10, x11⟩ := HA4.out _ HB1.out
        rw [HC4.out] at x0
        rw [HK4.out] at x1
        obtain ⟨y0, y1, y2, y3, y4, y5, y6, y7, y8, y9, y10, y11⟩ := HA6.out _ HB1.out
        rw [HC6.out] at y0
        rw [HK6.out] at y1
        obtain ⟨z0, z1, z2, z3, z4, z5, z6, z7, z8, z9, z10, z11⟩ := HA8.out _ HB1.out
        go_wp2_with fail
        go_ret
        exact ⟨rfl, below_on E6.out HB1.out⟩
    · have hz6 : ¬ u.code = 0 := h6
      by_cases h8 : m.code = 0
      · obtain ⟨hf, hk⟩ := HV8.out h8
        have HC8 := Lib.hid h8
        have HK8 := Lib.hid hk
        have HE8 := Lib.hid (fun W' => fault_plain m HD8.out hf W')
        rw [hk] at HE8
        clear hf hk h8
        obtain ⟨x0, x1, x2, x3, x4, x5, x6, x7, x8, x9, x10, x11⟩ := HA4.out _ HH.out
        rw [HC4.out] at x0
        rw [HK4.out] at x1
        obtain ⟨y0, y1, y2, y3, y4, y5, y6, y7, y8, y9, y10, y11⟩ := HA6.out _ HH.out
        obtain ⟨z0, z1, z2, z3, z4, z5, z6, z7, z8, z9, z10, z11⟩ := HA8.out _ HH.out
        rw [HC8.out] at z0
        rw [HK8.out] at z1
        go_wp2_with fail
        refine (HE4.out _).mono ?_
        rintro e V10 ⟨rfl, hb⟩
        have HB0 := Lib.hid (below_on HH.out hb)
        clear hb
        clear x0 x1 x2 x3 x4 x5 x6 x7 x8 x9 x10 x11 y0 y1 y2 y3 y4 y5 y6 y7 y8 y9 y10 y11 z0 z1 z2 z3 z4 z5 z6 z7 z8 z9 z10 z11
        obtain ⟨x0, x1, x2, x3, x4, x5, x6, x7, x8, x9, x10, x11⟩ := HA4.out _ HB0.out
        rw [HC4.out] at x0
        rw [HK4.out] at x1
        obtain ⟨y0, y1, y2, y3, y4, y5, y6, y7, y8, y9, y10, y11⟩ := HA6.out _ HB0.out
        obtain ⟨z0, z1, z2, z3, z4, z5, z6, z7, z8, z9, z10, z11⟩ := HA8.out _ HB0.out
        rw [HC8.out] at z0
        rw [HK8.out] at z1
        go_wp2_with fail
        refine (HE8.out _).mono ?_
        rintro e V12 ⟨rfl, hb⟩
        have HB2 := Lib.hid (below_on HB0.out hb)
        clear hb
        clear x0 x1 x2 x3 x4 x5 x6 x7 x8 x9 x10 x11 y0 y1 y2 y3 y4 y5 y6 y7 y8 y9 y10 y11 z0 z1 z2 z3 z4 z5 z6 z7 z8 z9 z10 z11
        obtain ⟨x0, x1, x2, x3, x4, x5, x6, x7, x8, x9, x10, x11⟩ := HA4.out _ HB2.out
        rw [HC4.out] at x0
        rw [HK4.out] at x1
        obtain ⟨y0, y1, y2, y3, y4, y5, y6, y7, y8, y9, y10, y11⟩ := HA6.out _ HB2.out
        obtain ⟨z0, z1, z2, z3, z4, z5, z6, z7, z8, z9, z10, z11⟩ := HA8.out _ HB2.out
        rw [HC8.out] at z0
        rw [HK8.out] at z1
        go_wp2_with fail
        go_ret
        exact ⟨rfl, below_on E6.out HB2.out⟩
      · have hz8 : ¬ m.code = 0 := h8
        obtain ⟨x0, x1, x2, x3, x4, x5, x6, x7, x8, x9, x10, x11⟩ := HA4.out _ HH.out
        rw [HC4.out] at x0
        rw [HK4.out] at x1
        obtain ⟨y0, y1, y2, y3, y4, y5, y6, y7, y8, y9, y10, y11⟩ := HA6.out _ HH.out
        obtain ⟨z0, z1, z2, z3, z4, z5, z6, z7, z8, z9, z10, z11⟩ := HA8.out _ HH.out
        go_wp2_with fail
        refine (HE4.out _).mono ?_
        rintro e V10 ⟨rfl, hb⟩
        have HB0 := Lib.hid (below_on HH.out hb)
        clear hb
        clear x0 x1 x2 x3 x4 x5 x6 x7 x8 x9 x10 x11 y0 y1 y2 y3 y4 y5 y6 y7 y8 y9 y10 y11 z0 z1 z2 z3 z4 z5 z6 z7 z8 z9 z10 z11
        obtain ⟨x0, x1, x2, x3, x4, x5, x6, x7, x8, x9, x10, x11⟩ := HA4.out _ HB0.out
        rw [HC4.out] at x0
        rw [HK4.out] at x1
        obtain ⟨y0, y1, y2, y3, y4, y5, y6, y7, y8, y9, y10, y11⟩ := HA6.out _ HB0.out
        obtain ⟨z0, z1, z2, z3, z4, z5, z6, z7, z8, z9, z10, z11⟩ := HA8.out _ HB0.out
        go_wp2_with fail
        go_ret
        exact ⟨rfl, below_on E6.out HB0.out⟩
  · have hz4 : ¬ t.code = 0 := h4
    by_cases h6 : u.code = 0
    · obtain ⟨hf, hk⟩ := HV6.out h6
      have HC6 := Lib.hid h6
      have HK6 := Lib.hid hk
      have HE6 := Lib.hid (fun W' => fault_plain u HD6.out hf W')
      rw [hk] at HE6
      clear hf hk h6
      by_cases h8 : m.code = 0
      · obtain ⟨hf, hk⟩ := HV8.out h8
        have HC8 := Lib.hid h8
        have HK8 := Lib.hid hk
        have HE8 := Lib.hid (fun W' => fault_plain m HD8.out hf W')
        rw [hk] at HE8
        clear hf hk h8
        obtain ⟨x0, x1, x2, x3, x4, x5, x6, x7, x8, x9, x10, x11⟩ := HA4.out _ HH.out
        obtain ⟨y0, y1, y2, y3, y4, y5, y6, y7, y8, y9, y10, y11⟩ := HA6.out _ HH.out
        rw [HC6.out] at y0
        rw [HK6.out] at y1
        obtain ⟨z0, z1, z2, z3, z4, z5, z6, z7, z8, z9, z10, z11⟩ := HA8.out _ HH.out
        rw [HC8.out] at z0
        rw [HK8.out] at z1
        go_wp2_with fail
        refine (HE6.out _).mono ?_
        rintro e V11 ⟨rfl, hb⟩
        have HB1 := Lib.hid (below_on HH.out hb)
        clear hb
        clear x0 x1 x2 x3 x4 x5 x6 x7 x8 x9 x10 x11 y0 y1 y2 y3 y4 y5 y6 y7 y8 y9 y10 y11 z0 z1 z2 z3 z4 z5 z6 z7 z8 z9 z10 z11
        obtain ⟨x0, x1, x2, x3, x4, x5, x6, x7, x8, x9, x10, x11⟩ := HA4.out _ HB1.out
        obtain ⟨y0, y1, y2, y3, y4, y5, y6, y7, y8, y9, y10, y11⟩ := HA6.out _ HB1.out
        rw [HC6.out] at y0
        rw [HK6.out] at y1
        obtain ⟨z0, z1, z2, z3, z4, z5, z6, z7, z8, z9, z10, z11⟩ := HA8.out _ HB1.out
        rw [HC8.out] at z0
        rw [HK8.out] at z1
        go_wp2_with fail
        refine (HE8.out _).mono ?_
        rintro e V12 ⟨rfl, hb⟩
        have HB2 := Lib.hid (below_on HB1.out hb)
        clear hb
        clear x0 x1 x2 x3 x4 x5 x6 x7 x8 x9 x10 x11 y0 y1 y2 y3 y4 y5 y6 y7 y8 y9 y10 y11 z0 z1 z2 z3 z4 z5 z6 z7 z8 z9 z10 z11
        obtain ⟨x0, x1, x2, x3, x4, x5, x6, x7, x8, x9, x10, x11⟩ := HA4.out _ HB2.out
        obtain ⟨y0, y1, y2, y3, y4, y5, y6, y7, y8, y9, y10, y11⟩ := HA6.out _ HB2.out
        rw [HC6.out] at y0
        rw [HK6.out] at y1
        obtain ⟨z0, z1, z2, z3, z4, z5, z6, z7, z8, z9, z10, z11⟩ := HA8.out _ HB2.out
        rw [HC8.out] at z0
        rw [HK8.out] at z1
        go_wp2_with fail
        go_ret
        exact ⟨rfl, below_on E6.out HB2.out⟩
      · have hz8 : ¬ m.code = 0 := h8
        obtain ⟨x0, x1, x2, x3, x4, x5, x6, x7, x8, x9, x10, x11⟩ := HA4.out _ HH.out
        obtain ⟨y0, y1, y2, y3, y4, y5, y6, y7, y8, y9, y10, y11⟩ := HA6.out _ HH.out
        rw [HC6.out] at y0
        rw [HK6.out] at y1
        obtain ⟨z0, z1, z2, z3, z4, z5, z6, z7, z8, z9, z10, z11⟩ := HA8.out _ HH.out
        go_wp2_with fail
        refine (HE6.out _).mono ?_
        rintro e V11 ⟨rfl, hb⟩
        have HB1 := Lib.hid (below_on HH.out hb)
        clear hb
        clear x0 x1 x2 x3 x4 x5 x6 x7 x8 x9 x10 x11 y0 y1 y2 y3 y4 y5 y6 y7 y8 y9 y10 y11 z0 z1 z2 z3 z4 z5 z6 z7 z8 z9 z10 z11
        obtain ⟨x0, x1, x2, x3, x4, x5, x6, x7, x8, x9, x10, x11⟩ := HA4.out _ HB1.out
        obtain ⟨y0, y1, y2, y3, y4, y5, y6, y7, y8, y9, y10, y11⟩ := HA6.out _ HB1.out
        rw [HC6.out] at y0
        rw [HK6.out] at y1
        obtain ⟨z0, z1, z2, z3, z4, z5, z6, z7, z8, z9, z10, z11⟩ := HA8.out _ HB1.out
        go_wp2_with fail
        go_ret
        exact ⟨rfl, below_on E6.out HB1.out⟩
    · have hz6 : ¬ u.code = 0 := h6
      by_cases h8 : m.code = 0
      · obtain ⟨hf, hk⟩ := HV8.out h8
        have HC8 := Lib.hid h8
        have HK8 := Lib.hid hk
        have HE8 := Lib.hid (fun W' => fault_plain m HD8.out hf W')
        rw [hk] at HE8
        clear hf hk h8
        obtain ⟨x0, x1, x2, x3, x4, x5, x6, x7, x8, x9, x10, x11⟩ := HA4.out _ HH.out
        obtain ⟨y0, y1, y2, y3, y4, y5, y6, y7, y8, y9, y10, y11⟩ := HA6.out _ HH.out
        obtain ⟨z0, z1, z2, z3, z4, z5, z6, z7, z8, z9, z10, z11⟩ := HA8.out _ HH.out
        rw [HC8.out] at z0
        rw [HK8.out] at z1
        go_wp2_with fail
        refine (HE8.out _).mono ?_
        rintro e V12 ⟨rfl, hb⟩
        have HB2 := Lib.hid (below_on HH.out hb)
        clear hb
        clear x0 x1 x2 x3 x4 x5 x6 x7 x8 x9 x10 x11 y0 y1 y2 y3 y4 y5 y6 y7 y8 y9 y10 y11 z0 z1 z2 z3 z4 z5 z6 z7 z8 z9 z10 z11
        obtain ⟨x0, x1, x2, x3, x4, x5, x6, x7, x8, x9, x10, x11⟩ := HA4.out _ HB2.out
        obtain ⟨y0, y1, y2, y3, y4, y5, y6, y7, y8, y9, y10, y11⟩ := HA6.out _ HB2.out
        obtain ⟨z0, z1, z2, z3, z4, z5, z6, z7, z8, z9, z10, z11⟩ := HA8.out _ HB2.out
        rw [HC8.out] at z0
        rw [HK8.out] at z1
        go_wp2_with fail
        go_ret
        exact ⟨rfl, below_on E6.out HB2.out⟩
      · have hz8 : ¬ m.code = 0 := h8
        obtain ⟨x0, x1, x2, x3, x4, x5, x6, x7, x8, x9, x10, x11⟩ := HA4.out _ HH.out
        obtain ⟨y0, y1, y2, y3, y4, y5, y6, y7, y8, y9, y10, y11⟩ := HA6.out _ HH.out
        obtain ⟨z0, z1, z2, z3, z4, z5, z6, z7, z8, z9, z10, z11⟩ := HA8.out _ HH.out
        go_wp2_with fail
        go_ret
        exact ⟨rfl, below_on E6.out HH.out⟩

end Go.Proofs.Ytnmnklilmcpkaaa
