/- FnEncodes: the law's walk. (Written by wip/gen_encodes.py.) -/
import Derived.Test.YtjopjddhgaiddaaDoorQSpecEnc6ToEncSome
import Derived.Test.YtjopjddhgaiddaaDoorQDrawsEToDrawsE4
import Derived.Test.YtjopjddhgaiddaaDoorQFaultToLws
import Derived.Test.YtjopjddhgaiddaaDoorQTakesToMem
namespace Go.Proofs.YtjopjddhgaiddaaDoor
open Go.RowKit
set_option linter.unusedVariables false
set_option linter.unusedSimpArgs false

theorem AtL.twoW {w : World} {b : Nat} {v0 v1 : Value} (h : AtL w b [v0, v1]) : w.cell? ⟨b, 0, none⟩ = some v0 ∧ w.cell? ⟨b, 1, none⟩ = some v1 := ⟨h.get 0 rfl, h.get 1 rfl⟩
theorem lwBytes_plain (x : Int) (p q : Option Addr) (c d : Nat) (a : List UInt8) (w : World) (h : Bs w w.heap.size p a) (k : Bs w w.heap.size q a) :
    Calls Tryd.prog 11 #[.agg #[.int .i64 x, .slice p a.length c], .agg #[.int .i64 x, .slice q a.length d]] w fun e w' => e = .returned (.bool true) ∧ Below w.heap.size w w' := by
  have := lwBytes_any x x p q c d a a w h k
  simpa using this

set_option maxRecDepth 100000 in
set_option maxHeartbeats 4000000 in
theorem lawEncodes_any (q : Option Addr) (c : Nat) (l : List UInt8) (w : World) (h : Bs w w.heap.size q l) (hT : Pow w) :
    Calls Tryd.prog 3 #[.slice q l.length c] w fun e w' => e = .returned (.bool true) ∧ Below w.heap.size w w' := by
  by_cases hbig : (1048576 : Int) < (l.length : Int)
  · go_enter Tryd.func3, Tryd.ntmps3
    go_wp2_with fail
    refine (lwBig_any _ _ _ _).mono ?_
    rw [decide_eq_true hbig]
    rintro e w1 ⟨rfl, rfl⟩
    go_wp2_with fail
    go_ret
    exact ⟨rfl, Below.refl _ _⟩
  have hl : l.length ≤ 1048576 := by omega
  have HF := Lib.hid (decide_eq_false hbig)
  clear hbig
  have HQ := Lib.hid h
  have HT := Lib.hid hT
  clear h hT
  go_enter Tryd.func3, Tryd.ntmps3
  go_wp2_with fail
  refine (lwBig_any _ _ _ _).mono ?_
  rw [HF.out]
  rintro e w1 ⟨rfl, rfl⟩
  clear HF
  have E0 : Hid (Below w.heap.size w w) := Below.refl _ _
  go_wp2_with fail
  refine (drawEncodeEvent_any q c l _ (HQ.out.on E0.out) hl).mono ?_
  rintro e u1 ⟨m1, e1, p1, c1, rfl, hlen, ho, hb⟩
  clear hlen
  have BB := below_twoE u1 (.cells #[.bool m1.cursor, .bool m1.coded, .int .i64 m1.mouse, .bool m1.sgr, .bool m1.paste] 25) (.cells #[.int .i64 e1.kind, .int .i64 e1.code, .int .i64 e1.mods, .int .i64 e1.button, .int .i64 e1.act, .int .i64 e1.col, .int .i64 e1.row, .slice p1 e1.data.length c1] 27)
  have M1 : Hid (AtL ((u1.alloc (.cells #[.bool m1.cursor, .bool m1.coded, .int .i64 m1.mouse, .bool m1.sgr, .bool m1.paste] 25)).alloc (.cells #[.int .i64 e1.kind, .int .i64 e1.code, .int .i64 e1.mods, .int .i64 e1.button, .int .i64 e1.act, .int .i64 e1.col, .int .i64 e1.row, .slice p1 e1.data.length c1] 27)) u1.heap.size [.bool m1.cursor, .bool m1.coded, .int .i64 m1.mouse, .bool m1.sgr, .bool m1.paste]) := (AtL.new u1 [.bool m1.cursor, .bool m1.coded, .int .i64 m1.mouse, .bool m1.sgr, .bool m1.paste] 25).on (below_mk _ _)
  have V1 : Hid (AtL ((u1.alloc (.cells #[.bool m1.cursor, .bool m1.coded, .int .i64 m1.mouse, .bool m1.sgr, .bool m1.paste] 25)).alloc (.cells #[.int .i64 e1.kind, .int .i64 e1.code, .int .i64 e1.mods, .int .i64 e1.button, .int .i64 e1.act, .int .i64 e1.col, .int .i64 e1.row, .slice p1 e1.data.length c1] 27)) (u1.heap.size + 1) [.int .i64 e1.kind, .int .i64 e1.code, .int .i64 e1.mods, .int .i64 e1.button, .int .i64 e1.act, .int .i64 e1.col, .int .i64 e1.row, .slice p1 e1.data.length c1]) := by
    have h := AtL.new (u1.alloc (.cells #[.bool m1.cursor, .bool m1.coded, .int .i64 m1.mouse, .bool m1.sgr, .bool m1.paste] 25)) [.int .i64 e1.kind, .int .i64 e1.code, .int .i64 e1.mods, .int .i64 e1.button, .int .i64 e1.act, .int .i64 e1.col, .int .i64 e1.row, .slice p1 e1.data.length c1] 27
    rwa [World.size_alloc] at h
  have D1 := Lib.hid (ho.bs.2.on BB)
  have Z1 := Lib.hid ho.capz
  have T1 := Lib.hid (below_on (below_on E0.out hb) BB)
  clear hb BB ho E0
  have HK1 := Lib.hid (encEvent_some m1 e1)
  have IP := Lib.hid (fun W' (hT : Pow W') (hd : Bs W' W'.heap.size p1 e1.data) (hp : p1 = none → c1 = 0) => implEncodeEvent_any m1 e1 p1 c1 W' hT hd hp)
  have SP1 := Lib.hid (fun W' (hd : Bs W' W'.heap.size p1 e1.data) (hp : p1 = none → c1 = 0) => specEncodeEvent_any m1 e1 p1 c1 W' hd hp)
  unfold SomeE at HK1
  generalize (encEvent m1 e1).1 = k1 at *
  generalize (encEvent m1 e1).2 = r1 at *
  unfold mdV evV
  unfold mdV evV at IP SP1
  go_wp2_with fail
  generalize (u1.alloc (.cells #[.bool m1.cursor, .bool m1.coded, .int .i64 m1.mouse, .bool m1.sgr, .bool m1.paste] 25)).alloc (.cells #[.int .i64 e1.kind, .int .i64 e1.code, .int .i64 e1.mods, .int .i64 e1.button, .int .i64 e1.act, .int .i64 e1.col, .int .i64 e1.row, .slice p1 e1.data.length c1] 27) = W1 at *
  refine (IP.out _ (HT.out.on T1.out) D1.out Z1.out).mono ?_
  rintro e v1 ⟨v, rfl, o, hb⟩
  obtain ⟨q1, d1, rfl⟩ := o.slice
  have B := below_mk v1 (.cells #[.int .i64 k1, .slice q1 r1.length d1] 31)
  have M1 := Lib.hid ((M1.out.on hb).on B)
  have V1 := Lib.hid ((V1.out.on hb).on B)
  have D1 := Lib.hid ((D1.out.on hb).on B)
  have R1 : Hid (AtL (v1.alloc (.cells #[.int .i64 k1, .slice q1 r1.length d1] 31)) v1.heap.size [.int .i64 k1, .slice q1 r1.length d1]) := AtL.new v1 [.int .i64 k1, .slice q1 r1.length d1] 31
  have O1 := Lib.hid (o.bs.2.on B)
  have E1 := Lib.hid (below_on (below_on T1.out hb) B)
  clear hb B o T1 IP
  unfold brV
  go_wp2_with fail
  generalize v1.alloc (.cells #[.int .i64 k1, .slice q1 r1.length d1] 31) = X1 at *
  refine (drawEncodeKey_any q c l _ (HQ.out.on E1.out) hl).mono ?_
  rintro e u2 ⟨m2, e2, p2, c2, rfl, hlen, ho, hb⟩
  clear hlen
  have BB := below_twoE u2 (.cells #[.bool m2.cursor, .bool m2.coded, .int .i64 m2.mouse, .bool m2.sgr, .bool m2.paste] 25) (.cells #[.int .i64 e2.kind, .int .i64 e2.code, .int .i64 e2.mods, .int .i64 e2.button, .int .i64 e2.act, .int .i64 e2.col, .int .i64 e2.row, .slice p2 e2.data.length c2] 27)
  have M1 := Lib.hid ((M1.out.on hb).on BB)
  have V1 := Lib.hid ((V1.out.on hb).on BB)
  have D1 := Lib.hid ((D1.out.on hb).on BB)
  have R1 := Lib.hid ((R1.out.on hb).on BB)
  have O1 := Lib.hid ((O1.out.on hb).on BB)
  have M2 : Hid (AtL ((u2.alloc (.cells #[.bool m2.cursor, .bool m2.coded, .int .i64 m2.mouse, .bool m2.sgr, .bool m2.paste] 25)).alloc (.cells #[.int .i64 e2.kind, .int .i64 e2.code, .int .i64 e2.mods, .int .i64 e2.button, .int .i64 e2.act, .int .i64 e2.col, .int .i64 e2.row, .slice p2 e2.data.length c2] 27)) u2.heap.size [.bool m2.cursor, .bool m2.coded, .int .i64 m2.mouse, .bool m2.sgr, .bool m2.paste]) := (AtL.new u2 [.bool m2.cursor, .bool m2.coded, .int .i64 m2.mouse, .bool m2.sgr, .bool m2.paste] 25).on (below_mk _ _)
  have V2 : Hid (AtL ((u2.alloc (.cells #[.bool m2.cursor, .bool m2.coded, .int .i64 m2.mouse, .bool m2.sgr, .bool m2.paste] 25)).alloc (.cells #[.int .i64 e2.kind, .int .i64 e2.code, .int .i64 e2.mods, .int .i64 e2.button, .int .i64 e2.act, .int .i64 e2.col, .int .i64 e2.row, .slice p2 e2.data.length c2] 27)) (u2.heap.size + 1) [.int .i64 e2.kind, .int .i64 e2.code, .int .i64 e2.mods, .int .i64 e2.button, .int .i64 e2.act, .int .i64 e2.col, .int .i64 e2.row, .slice p2 e2.data.length c2]) := by
    have h := AtL.new (u2.alloc (.cells #[.bool m2.cursor, .bool m2.coded, .int .i64 m2.mouse, .bool m2.sgr, .bool m2.paste] 25)) [.int .i64 e2.kind, .int .i64 e2.code, .int .i64 e2.mods, .int .i64 e2.button, .int .i64 e2.act, .int .i64 e2.col, .int .i64 e2.row, .slice p2 e2.data.length c2] 27
    rwa [World.size_alloc] at h
  have D2 := Lib.hid (ho.bs.2.on BB)
  have Z2 := Lib.hid ho.capz
  have T2 := Lib.hid (below_on (below_on E1.out hb) BB)
  clear hb BB ho E1
  have HK2 := Lib.hid (encKey_some m2 e2)
  have IP := Lib.hid (fun W' (hT : Pow W') => implEncodeKey_any m2 e2 p2 c2 W' hT)
  have SP2 := Lib.hid (fun W' => specEncodeKey_any m2 e2 p2 c2 W')
  unfold SomeE at HK2
  generalize (encKey m2 e2).1 = k2 at *
  generalize (encKey m2 e2).2 = r2 at *
  unfold mdV evV
  unfold mdV evV at IP SP2
  go_wp2_with fail
  generalize (u2.alloc (.cells #[.bool m2.cursor, .bool m2.coded, .int .i64 m2.mouse, .bool m2.sgr, .bool m2.paste] 25)).alloc (.cells #[.int .i64 e2.kind, .int .i64 e2.code, .int .i64 e2.mods, .int .i64 e2.button, .int .i64 e2.act, .int .i64 e2.col, .int .i64 e2.row, .slice p2 e2.data.length c2] 27) = W2 at *
  refine (IP.out _ (HT.out.on T2.out)).mono ?_
  rintro e v2 ⟨v, rfl, o, hb⟩
  obtain ⟨q2, d2, rfl⟩ := o.slice
  have B := below_mk v2 (.cells #[.int .i64 k2, .slice q2 r2.length d2] 31)
  have M1 := Lib.hid ((M1.out.on hb).on B)
  have V1 := Lib.hid ((V1.out.on hb).on B)
  have D1 := Lib.hid ((D1.out.on hb).on B)
  have R1 := Lib.hid ((R1.out.on hb).on B)
  have O1 := Lib.hid ((O1.out.on hb).on B)
  have M2 := Lib.hid ((M2.out.on hb).on B)
  have V2 := Lib.hid ((V2.out.on hb).on B)
  have D2 := Lib.hid ((D2.out.on hb).on B)
  have R2 : Hid (AtL (v2.alloc (.cells #[.int .i64 k2, .slice q2 r2.length d2] 31)) v2.heap.size [.int .i64 k2, .slice q2 r2.length d2]) := AtL.new v2 [.int .i64 k2, .slice q2 r2.length d2] 31
  have O2 := Lib.hid (o.bs.2.on B)
  have E2 := Lib.hid (below_on (below_on T2.out hb) B)
  clear hb B o T2 IP
  unfold brV
  go_wp2_with fail
  generalize v2.alloc (.cells #[.int .i64 k2, .slice q2 r2.length d2] 31) = X2 at *
  refine (drawEncodeMouse_any q c l _ (HQ.out.on E2.out) hl).mono ?_
  rintro e u3 ⟨m3, e3, p3, c3, rfl, hlen, ho, hb⟩
  clear hlen
  have BB := below_twoE u3 (.cells #[.bool m3.cursor, .bool m3.coded, .int .i64 m3.mouse, .bool m3.sgr, .bool m3.paste] 25) (.cells #[.int .i64 e3.kind, .int .i64 e3.code, .int .i64 e3.mods, .int .i64 e3.button, .int .i64 e3.act, .int .i64 e3.col, .int .i64 e3.row, .slice p3 e3.data.length c3] 27)
  have M1 := Lib.hid ((M1.out.on hb).on BB)
  have V1 := Lib.hid ((V1.out.on hb).on BB)
  have D1 := Lib.hid ((D1.out.on hb).on BB)
  have R1 := Lib.hid ((R1.out.on hb).on BB)
  have O1 := Lib.hid ((O1.out.on hb).on BB)
  have M2 := Lib.hid ((M2.out.on hb).on BB)
  have V2 := Lib.hid ((V2.out.on hb).on BB)
  have D2 := Lib.hid ((D2.out.on hb).on BB)
  have R2 := Lib.hid ((R2.out.on hb).on BB)
  have O2 := Lib.hid ((O2.out.on hb).on BB)
  have M3 : Hid (AtL ((u3.alloc (.cells #[.bool m3.cursor, .bool m3.coded, .int .i64 m3.mouse, .bool m3.sgr, .bool m3.paste] 25)).alloc (.cells #[.int .i64 e3.kind, .int .i64 e3.code, .int .i64 e3.mods, .int .i64 e3.button, .int .i64 e3.act, .int .i64 e3.col, .int .i64 e3.row, .slice p3 e3.data.length c3] 27)) u3.heap.size [.bool m3.cursor, .bool m3.coded, .int .i64 m3.mouse, .bool m3.sgr, .bool m3.paste]) := (AtL.new u3 [.bool m3.cursor, .bool m3.coded, .int .i64 m3.mouse, .bool m3.sgr, .bool m3.paste] 25).on (below_mk _ _)
  have V3 : Hid (AtL ((u3.alloc (.cells #[.bool m3.cursor, .bool m3.coded, .int .i64 m3.mouse, .bool m3.sgr, .bool m3.paste] 25)).alloc (.cells #[.int .i64 e3.kind, .int .i64 e3.code, .int .i64 e3.mods, .int .i64 e3.button, .int .i64 e3.act, .int .i64 e3.col, .int .i64 e3.row, .slice p3 e3.data.length c3] 27)) (u3.heap.size + 1) [.int .i64 e3.kind, .int .i64 e3.code, .int .i64 e3.mods, .int .i64 e3.button, .int .i64 e3.act, .int .i64 e3.col, .int .i64 e3.row, .slice p3 e3.data.length c3]) := by
    have h := AtL.new (u3.alloc (.cells #[.bool m3.cursor, .bool m3.coded, .int .i64 m3.mouse, .bool m3.sgr, .bool m3.paste] 25)) [.int .i64 e3.kind, .int .i64 e3.code, .int .i64 e3.mods, .int .i64 e3.button, .int .i64 e3.act, .int .i64 e3.col, .int .i64 e3.row, .slice p3 e3.data.length c3] 27
    rwa [World.size_alloc] at h
  have D3 := Lib.hid (ho.bs.2.on BB)
  have Z3 := Lib.hid ho.capz
  have T3 := Lib.hid (below_on (below_on E2.out hb) BB)
  clear hb BB ho E2
  have HK3 := Lib.hid (encMouse_some m3 e3)
  have IP := Lib.hid (fun W' (hT : Pow W') => implEncodeMouse_any m3 e3 p3 c3 W' hT)
  have SP3 := Lib.hid (fun W' => specEncodeMouse_any m3 e3 p3 c3 W')
  unfold SomeE at HK3
  generalize (encMouse m3 e3).1 = k3 at *
  generalize (encMouse m3 e3).2 = r3 at *
  unfold mdV evV
  unfold mdV evV at IP SP3
  go_wp2_with fail
  generalize (u3.alloc (.cells #[.bool m3.cursor, .bool m3.coded, .int .i64 m3.mouse, .bool m3.sgr, .bool m3.paste] 25)).alloc (.cells #[.int .i64 e3.kind, .int .i64 e3.code, .int .i64 e3.mods, .int .i64 e3.button, .int .i64 e3.act, .int .i64 e3.col, .int .i64 e3.row, .slice p3 e3.data.length c3] 27) = W3 at *
  refine (IP.out _ (HT.out.on T3.out)).mono ?_
  rintro e v3 ⟨v, rfl, o, hb⟩
  obtain ⟨q3, d3, rfl⟩ := o.slice
  have B := below_mk v3 (.cells #[.int .i64 k3, .slice q3 r3.length d3] 31)
  have M1 := Lib.hid ((M1.out.on hb).on B)
  have V1 := Lib.hid ((V1.out.on hb).on B)
  have D1 := Lib.hid ((D1.out.on hb).on B)
  have R1 := Lib.hid ((R1.out.on hb).on B)
  have O1 := Lib.hid ((O1.out.on hb).on B)
  have M2 := Lib.hid ((M2.out.on hb).on B)
  have V2 := Lib.hid ((V2.out.on hb).on B)
  have D2 := Lib.hid ((D2.out.on hb).on B)
  have R2 := Lib.hid ((R2.out.on hb).on B)
  have O2 := Lib.hid ((O2.out.on hb).on B)
  have M3 := Lib.hid ((M3.out.on hb).on B)
  have V3 := Lib.hid ((V3.out.on hb).on B)
  have D3 := Lib.hid ((D3.out.on hb).on B)
  have R3 : Hid (AtL (v3.alloc (.cells #[.int .i64 k3, .slice q3 r3.length d3] 31)) v3.heap.size [.int .i64 k3, .slice q3 r3.length d3]) := AtL.new v3 [.int .i64 k3, .slice q3 r3.length d3] 31
  have O3 := Lib.hid (o.bs.2.on B)
  have E3 := Lib.hid (below_on (below_on T3.out hb) B)
  clear hb B o T3 IP
  unfold brV
  go_wp2_with fail
  generalize v3.alloc (.cells #[.int .i64 k3, .slice q3 r3.length d3] 31) = X3 at *
  generalize X3 = W at *
  have HM1 := Lib.hid (fun W' (hb : Below W.heap.size W W') => (M1.out.on hb).five)
  have HE1 := Lib.hid (fun W' (hb : Below W.heap.size W W') => (V1.out.on hb).eightE)
  have HR1 := Lib.hid (fun W' (hb : Below W.heap.size W W') => (R1.out.on hb).twoW)
  have HS1 : Hid (∀ W', Below W.heap.size W W' → Calls Tryd.prog 12 #[.agg #[.bool m1.cursor, .bool m1.coded, .int .i64 m1.mouse, .bool m1.sgr, .bool m1.paste], .agg #[.int .i64 e1.kind, .int .i64 e1.code, .int .i64 e1.mods, .int .i64 e1.button, .int .i64 e1.act, .int .i64 e1.col, .int .i64 e1.row, .slice p1 e1.data.length c1]] W' fun e W2 => ∃ z zc, e = .returned (.agg #[.int .i64 k1, .slice z r1.length zc]) ∧ Bs W2 W2.heap.size z r1 ∧ Below W.heap.size W W2) := fun W' hb =>
    (SP1.out W' (D1.out.on hb) Z1.out).mono fun _ _ ⟨v, he, ho, hb2⟩ => by
      obtain ⟨z, zc, rfl⟩ := ho.slice
      exact ⟨z, zc, he, ho.bs.2, below_on hb hb2⟩
  have HL1 : Hid (∀ W' z zc, Below W.heap.size W W' → Bs W' W'.heap.size z r1 → Calls Tryd.prog 11 #[.agg #[.int .i64 k1, .slice q1 r1.length d1], .agg #[.int .i64 k1, .slice z r1.length zc]] W' fun e W2 => e = .returned (.bool true) ∧ Below W.heap.size W W2) := fun W' z zc hb hz =>
    (lwBytes_plain k1 q1 z d1 zc r1 W' (O1.out.on hb) hz).mono fun _ _ ⟨he, hb2⟩ => ⟨he, below_on hb hb2⟩
  have HM2 := Lib.hid (fun W' (hb : Below W.heap.size W W') => (M2.out.on hb).five)
  have HE2 := Lib.hid (fun W' (hb : Below W.heap.size W W') => (V2.out.on hb).eightE)
  have HR2 := Lib.hid (fun W' (hb : Below W.heap.size W W') => (R2.out.on hb).twoW)
  have HS2 : Hid (∀ W', Below W.heap.size W W' → Calls Tryd.prog 13 #[.agg #[.bool m2.cursor, .bool m2.coded, .int .i64 m2.mouse, .bool m2.sgr, .bool m2.paste], .agg #[.int .i64 e2.kind, .int .i64 e2.code, .int .i64 e2.mods, .int .i64 e2.button, .int .i64 e2.act, .int .i64 e2.col, .int .i64 e2.row, .slice p2 e2.data.length c2]] W' fun e W2 => ∃ z zc, e = .returned (.agg #[.int .i64 k2, .slice z r2.length zc]) ∧ Bs W2 W2.heap.size z r2 ∧ Below W.heap.size W W2) := fun W' hb =>
    (SP2.out W').mono fun _ _ ⟨v, he, ho, hb2⟩ => by
      obtain ⟨z, zc, rfl⟩ := ho.slice
      exact ⟨z, zc, he, ho.bs.2, below_on hb hb2⟩
  have HL2 : Hid (∀ W' z zc, Below W.heap.size W W' → Bs W' W'.heap.size z r2 → Calls Tryd.prog 11 #[.agg #[.int .i64 k2, .slice q2 r2.length d2], .agg #[.int .i64 k2, .slice z r2.length zc]] W' fun e W2 => e = .returned (.bool true) ∧ Below W.heap.size W W2) := fun W' z zc hb hz =>
    (lwBytes_plain k2 q2 z d2 zc r2 W' (O2.out.on hb) hz).mono fun _ _ ⟨he, hb2⟩ => ⟨he, below_on hb hb2⟩
  have HM3 := Lib.hid (fun W' (hb : Below W.heap.size W W') => (M3.out.on hb).five)
  have HE3 := Lib.hid (fun W' (hb : Below W.heap.size W W') => (V3.out.on hb).eightE)
  have HR3 := Lib.hid (fun W' (hb : Below W.heap.size W W') => (R3.out.on hb).twoW)
  have HS3 : Hid (∀ W', Below W.heap.size W W' → Calls Tryd.prog 14 #[.agg #[.bool m3.cursor, .bool m3.coded, .int .i64 m3.mouse, .bool m3.sgr, .bool m3.paste], .agg #[.int .i64 e3.kind, .int .i64 e3.code, .int .i64 e3.mods, .int .i64 e3.button, .int .i64 e3.act, .int .i64 e3.col, .int .i64 e3.row, .slice p3 e3.data.length c3]] W' fun e W2 => ∃ z zc, e = .returned (.agg #[.int .i64 k3, .slice z r3.length zc]) ∧ Bs W2 W2.heap.size z r3 ∧ Below W.heap.size W W2) := fun W' hb =>
    (SP3.out W').mono fun _ _ ⟨v, he, ho, hb2⟩ => by
      obtain ⟨z, zc, rfl⟩ := ho.slice
      exact ⟨z, zc, he, ho.bs.2, below_on hb hb2⟩
  have HL3 : Hid (∀ W' z zc, Below W.heap.size W W' → Bs W' W'.heap.size z r3 → Calls Tryd.prog 11 #[.agg #[.int .i64 k3, .slice q3 r3.length d3], .agg #[.int .i64 k3, .slice z r3.length zc]] W' fun e W2 => e = .returned (.bool true) ∧ Below W.heap.size W W2) := fun W' z zc hb hz =>
    (lwBytes_plain k3 q3 z d3 zc r3 W' (O3.out.on hb) hz).mono fun _ _ ⟨he, hb2⟩ => ⟨he, below_on hb hb2⟩
  clear M1 V1 R1 D1 O1 Z1 SP1 M2 V2 R2 D2 O2 Z2 SP2 M3 V3 R3 D3 O3 Z3 SP3 HQ HT
  refine wp_region_noPanic ?_
  refine wp_region_held_drew (S := fun W' => Below (W).heap.size (W) W') (by kernel_rfl) (below_drewN (Below.refl _ _) 1) (fun hHeld => ?_)
  refine takeR 0 38 (.agg #[.int .i64 k1, .slice q1 r1.length d1]) (by kernel_rfl) (by kernel_rfl) (by kernel_rfl) (by kernel_rfl) (fun _ _ _ h => h) (by kernel_rfl) (fun w o hSw ho => ?_) hHeld ?_
  · obtain rfl := Option.some.inj ho; obtain ⟨z0, z1⟩ := HR1.out _ hSw; go_simp
  simp only [Act.put, List.setIfInBounds_toArray, List.set_cons_zero, List.set_cons_succ]
  refine takeR 1 39 (.agg #[.bool m1.cursor, .bool m1.coded, .int .i64 m1.mouse, .bool m1.sgr, .bool m1.paste]) (by kernel_rfl) (by kernel_rfl) (by kernel_rfl) (by kernel_rfl) (fun _ _ _ h => h) (by kernel_rfl) (fun w o hSw ho => ?_) hHeld ?_
  · obtain rfl := Option.some.inj ho; obtain ⟨z0, z1, z2, z3, z4⟩ := HM1.out _ hSw; go_simp
  simp only [Act.put, List.setIfInBounds_toArray, List.set_cons_zero, List.set_cons_succ]
  refine takeR 2 40 (.agg #[.int .i64 e1.kind, .int .i64 e1.code, .int .i64 e1.mods, .int .i64 e1.button, .int .i64 e1.act, .int .i64 e1.col, .int .i64 e1.row, .slice p1 e1.data.length c1]) (by kernel_rfl) (by kernel_rfl) (by kernel_rfl) (by kernel_rfl) (fun _ _ _ h => h) (by kernel_rfl) (fun w o hSw ho => ?_) hHeld ?_
  · obtain rfl := Option.some.inj ho; obtain ⟨z0, z1, z2, z3, z4, z5, z6, z7⟩ := HE1.out _ hSw; go_simp
  simp only [Act.put, List.setIfInBounds_toArray, List.set_cons_zero, List.set_cons_succ]
  refine oneR 3 (by kernel_rfl) (by kernel_rfl) (fun o ho K' hK => ?_)
  obtain rfl := Option.some.inj ho
  clear ho
  go_simp
  refine (HS1.out _ hHeld).mono ?_
  rintro e V11 ⟨z1, zc1, rfl, hz, hc⟩
  have HZ1 := Lib.hid hz
  clear hHeld hz
  go_wp2_with fail
  refine hK.out _ _ (hc) (fun hHeld => ?_)
  clear hK K'
  try simp only [Act.put, List.setIfInBounds_toArray, List.set_cons_zero, List.set_cons_succ]
  clear hc
  refine oneR 4 (by kernel_rfl) (by kernel_rfl) (fun o ho K' hK => ?_)
  obtain rfl := Option.some.inj ho
  clear ho
  go_simp
  refine (HL1.out _ z1 zc1 hHeld HZ1.out).mono ?_
  rintro e V12 ⟨rfl, hc⟩
  clear hHeld HZ1
  go_wp2_with fail
  refine hK.out _ _ (hc) (fun hHeld => ?_)
  clear hK K'
  try simp only [Act.put, List.setIfInBounds_toArray, List.set_cons_zero, List.set_cons_succ]
  clear hc
  refine takeR 5 43 (.bool false) (by kernel_rfl) (by kernel_rfl) (by kernel_rfl) (by kernel_rfl) (fun _ _ _ h => h) (by kernel_rfl) (fun w o hSw ho => ?_) hHeld ?_
  · obtain rfl := Option.some.inj ho; go_simp
  simp only [Act.put, List.setIfInBounds_toArray, List.set_cons_zero, List.set_cons_succ]
  refine takeR 6 44 (.bool false) (by kernel_rfl) (by kernel_rfl) (by kernel_rfl) (by kernel_rfl) (fun _ _ _ h => h) (by kernel_rfl) (fun w o hSw ho => ?_) hHeld ?_
  · obtain rfl := Option.some.inj ho; go_simp
  simp only [Act.put, List.setIfInBounds_toArray, List.set_cons_zero, List.set_cons_succ]
  refine takeR 7 45 (.agg #[.int .i64 k2, .slice q2 r2.length d2]) (by kernel_rfl) (by kernel_rfl) (by kernel_rfl) (by kernel_rfl) (fun _ _ _ h => h) (by kernel_rfl) (fun w o hSw ho => ?_) hHeld ?_
  · obtain rfl := Option.some.inj ho; obtain ⟨z0, z1⟩ := HR2.out _ hSw; go_simp
  simp only [Act.put, List.setIfInBounds_toArray, List.set_cons_zero, List.set_cons_succ]
  refine takeR 8 46 (.agg #[.bool m2.cursor, .bool m2.coded, .int .i64 m2.mouse, .bool m2.sgr, .bool m2.paste]) (by kernel_rfl) (by kernel_rfl) (by kernel_rfl) (by kernel_rfl) (fun _ _ _ h => h) (by kernel_rfl) (fun w o hSw ho => ?_) hHeld ?_
  · obtain rfl := Option.some.inj ho; obtain ⟨z0, z1, z2, z3, z4⟩ := HM2.out _ hSw; go_simp
  simp only [Act.put, List.setIfInBounds_toArray, List.set_cons_zero, List.set_cons_succ]
  refine takeR 9 47 (.agg #[.int .i64 e2.kind, .int .i64 e2.code, .int .i64 e2.mods, .int .i64 e2.button, .int .i64 e2.act, .int .i64 e2.col, .int .i64 e2.row, .slice p2 e2.data.length c2]) (by kernel_rfl) (by kernel_rfl) (by kernel_rfl) (by kernel_rfl) (fun _ _ _ h => h) (by kernel_rfl) (fun w o hSw ho => ?_) hHeld ?_
  · obtain rfl := Option.some.inj ho; obtain ⟨z0, z1, z2, z3, z4, z5, z6, z7⟩ := HE2.out _ hSw; go_simp
  simp only [Act.put, List.setIfInBounds_toArray, List.set_cons_zero, List.set_cons_succ]
  refine oneR 10 (by kernel_rfl) (by kernel_rfl) (fun o ho K' hK => ?_)
  obtain rfl := Option.some.inj ho
  clear ho
  go_simp
  refine (HS2.out _ hHeld).mono ?_
  rintro e V21 ⟨z2, zc2, rfl, hz, hc⟩
  have HZ2 := Lib.hid hz
  clear hHeld hz
  go_wp2_with fail
  refine hK.out _ _ (hc) (fun hHeld => ?_)
  clear hK K'
  try simp only [Act.put, List.setIfInBounds_toArray, List.set_cons_zero, List.set_cons_succ]
  clear hc
  refine oneR 11 (by kernel_rfl) (by kernel_rfl) (fun o ho K' hK => ?_)
  obtain rfl := Option.some.inj ho
  clear ho
  go_simp
  refine (HL2.out _ z2 zc2 hHeld HZ2.out).mono ?_
  rintro e V22 ⟨rfl, hc⟩
  clear hHeld HZ2
  go_wp2_with fail
  refine hK.out _ _ (hc) (fun hHeld => ?_)
  clear hK K'
  try simp only [Act.put, List.setIfInBounds_toArray, List.set_cons_zero, List.set_cons_succ]
  clear hc
  refine takeR 12 50 (.bool false) (by kernel_rfl) (by kernel_rfl) (by kernel_rfl) (by kernel_rfl) (fun _ _ _ h => h) (by kernel_rfl) (fun w o hSw ho => ?_) hHeld ?_
  · obtain rfl := Option.some.inj ho; go_simp
  simp only [Act.put, List.setIfInBounds_toArray, List.set_cons_zero, List.set_cons_succ]
  refine takeR 13 51 (.bool false) (by kernel_rfl) (by kernel_rfl) (by kernel_rfl) (by kernel_rfl) (fun _ _ _ h => h) (by kernel_rfl) (fun w o hSw ho => ?_) hHeld ?_
  · obtain rfl := Option.some.inj ho; go_simp
  simp only [Act.put, List.setIfInBounds_toArray, List.set_cons_zero, List.set_cons_succ]
  refine takeR 14 52 (.bool false) (by kernel_rfl) (by kernel_rfl) (by kernel_rfl) (by kernel_rfl) (fun _ _ _ h => h) (by kernel_rfl) (fun w o hSw ho => ?_) hHeld ?_
  · obtain rfl := Option.some.inj ho; go_simp
  simp only [Act.put, List.setIfInBounds_toArray, List.set_cons_zero, List.set_cons_succ]
  refine takeR 15 53 (.agg #[.int .i64 k3, .slice q3 r3.length d3]) (by kernel_rfl) (by kernel_rfl) (by kernel_rfl) (by kernel_rfl) (fun _ _ _ h => h) (by kernel_rfl) (fun w o hSw ho => ?_) hHeld ?_
  · obtain rfl := Option.some.inj ho; obtain ⟨z0, z1⟩ := HR3.out _ hSw; go_simp
  simp only [Act.put, List.setIfInBounds_toArray, List.set_cons_zero, List.set_cons_succ]
  refine takeR 16 54 (.agg #[.bool m3.cursor, .bool m3.coded, .int .i64 m3.mouse, .bool m3.sgr, .bool m3.paste]) (by kernel_rfl) (by kernel_rfl) (by kernel_rfl) (by kernel_rfl) (fun _ _ _ h => h) (by kernel_rfl) (fun w o hSw ho => ?_) hHeld ?_
  · obtain rfl := Option.some.inj ho; obtain ⟨z0, z1, z2, z3, z4⟩ := HM3.out _ hSw; go_simp
  simp only [Act.put, List.setIfInBounds_toArray, List.set_cons_zero, List.set_cons_succ]
  refine takeR 17 55 (.agg #[.int .i64 e3.kind, .int .i64 e3.code, .int .i64 e3.mods, .int .i64 e3.button, .int .i64 e3.act, .int .i64 e3.col, .int .i64 e3.row, .slice p3 e3.data.length c3]) (by kernel_rfl) (by kernel_rfl) (by kernel_rfl) (by kernel_rfl) (fun _ _ _ h => h) (by kernel_rfl) (fun w o hSw ho => ?_) hHeld ?_
  · obtain rfl := Option.some.inj ho; obtain ⟨z0, z1, z2, z3, z4, z5, z6, z7⟩ := HE3.out _ hSw; go_simp
  simp only [Act.put, List.setIfInBounds_toArray, List.set_cons_zero, List.set_cons_succ]
  refine oneR 18 (by kernel_rfl) (by kernel_rfl) (fun o ho K' hK => ?_)
  obtain rfl := Option.some.inj ho
  clear ho
  go_simp
  refine (HS3.out _ hHeld).mono ?_
  rintro e V31 ⟨z3, zc3, rfl, hz, hc⟩
  have HZ3 := Lib.hid hz
  clear hHeld hz
  go_wp2_with fail
  refine hK.out _ _ (hc) (fun hHeld => ?_)
  clear hK K'
  try simp only [Act.put, List.setIfInBounds_toArray, List.set_cons_zero, List.set_cons_succ]
  clear hc
  refine oneR 19 (by kernel_rfl) (by kernel_rfl) (fun o ho K' hK => ?_)
  obtain rfl := Option.some.inj ho
  clear ho
  go_simp
  refine (HL3.out _ z3 zc3 hHeld HZ3.out).mono ?_
  rintro e V32 ⟨rfl, hc⟩
  clear hHeld HZ3
  go_wp2_with fail
  refine hK.out _ _ (hc) (fun hHeld => ?_)
  clear hK K'
  try simp only [Act.put, List.setIfInBounds_toArray, List.set_cons_zero, List.set_cons_succ]
  clear hc
  refine takeR 20 58 (.bool false) (by kernel_rfl) (by kernel_rfl) (by kernel_rfl) (by kernel_rfl) (fun _ _ _ h => h) (by kernel_rfl) (fun w o hSw ho => ?_) hHeld ?_
  · obtain rfl := Option.some.inj ho; go_simp
  simp only [Act.put, List.setIfInBounds_toArray, List.set_cons_zero, List.set_cons_succ]
  refine takeR 21 59 (.bool false) (by kernel_rfl) (by kernel_rfl) (by kernel_rfl) (by kernel_rfl) (fun _ _ _ h => h) (by kernel_rfl) (fun w o hSw ho => ?_) hHeld ?_
  · obtain rfl := Option.some.inj ho; go_simp
  simp only [Act.put, List.setIfInBounds_toArray, List.set_cons_zero, List.set_cons_succ]
  refine wpAnyH_done (by kernel_rfl) ?_ _
  refine NoPanic.normal ?_
  clear HS1 HS2 HS3 HL1 HL2 HL3 HM1 HM2 HM3 HE1 HE2 HE3
  have HH := Lib.hid hHeld
  clear hHeld
  have HX1 := Lib.hid (HR1.out _ HH.out)
  have HX2 := Lib.hid (HR2.out _ HH.out)
  have HX3 := Lib.hid (HR3.out _ HH.out)
  clear HR1 HR2 HR3
  have HY := Lib.hid (below_on E3.out HH.out)
  clear E3 HH
  rcases HK1.out with ⟨hk1, hn⟩ | ⟨hk, n1, hn⟩
  · try dsimp only at hk1 hn
    rw [hn] at HX1
    clear hn
    rcases HK2.out with ⟨hk2, hn⟩ | ⟨hk, n2, hn⟩
    · try dsimp only at hk2 hn
      rw [hn] at HX2
      clear hn
      rcases HK3.out with ⟨hk3, hn⟩ | ⟨hk, n3, hn⟩
      · try dsimp only at hk3 hn
        rw [hn] at HX3
        clear hn
        obtain ⟨x1, y1⟩ := HX1.out
        obtain ⟨x2, y2⟩ := HX2.out
        obtain ⟨x3, y3⟩ := HX3.out
        go_wp2_with fail
        go_ret
        exact ⟨ret_bool (by simp [hk3]), HY.out⟩
      · try dsimp only at hk hn
        rw [hn, hk] at HX3
        clear hn hk
        have hp3 : ¬ ((n3 + 1 : Nat) : Int) = 0 := by omega
        obtain ⟨x1, y1⟩ := HX1.out
        obtain ⟨x2, y2⟩ := HX2.out
        obtain ⟨x3, y3⟩ := HX3.out
        go_wp2_with fail
        go_ret
        exact ⟨rfl, HY.out⟩
    · try dsimp only at hk hn
      rw [hn, hk] at HX2
      clear hn hk
      have hp2 : ¬ ((n2 + 1 : Nat) : Int) = 0 := by omega
      rcases HK3.out with ⟨hk3, hn⟩ | ⟨hk, n3, hn⟩
      · try dsimp only at hk3 hn
        rw [hn] at HX3
        clear hn
        obtain ⟨x1, y1⟩ := HX1.out
        obtain ⟨x2, y2⟩ := HX2.out
        obtain ⟨x3, y3⟩ := HX3.out
        go_wp2_with fail
        go_ret
        exact ⟨ret_bool (by simp [hk3]), HY.out⟩
      · try dsimp only at hk hn
        rw [hn, hk] at HX3
        clear hn hk
        have hp3 : ¬ ((n3 + 1 : Nat) : Int) = 0 := by omega
        obtain ⟨x1, y1⟩ := HX1.out
        obtain ⟨x2, y2⟩ := HX2.out
        obtain ⟨x3, y3⟩ := HX3.out
        go_wp2_with fail
        go_ret
        exact ⟨rfl, HY.out⟩
  · try dsimp only at hk hn
    rw [hn, hk] at HX1
    clear hn hk
    have hp1 : ¬ ((n1 + 1 : Nat) : Int) = 0 := by omega
    rcases HK2.out with ⟨hk2, hn⟩ | ⟨hk, n2, hn⟩
    · try dsimp only at hk2 hn
      rw [hn] at HX2
      clear hn
      rcases HK3.out with ⟨hk3, hn⟩ | ⟨hk, n3, hn⟩
      · try dsimp only at hk3 hn
        rw [hn] at HX3
        clear hn
        obtain ⟨x1, y1⟩ := HX1.out
        obtain ⟨x2, y2⟩ := HX2.out
        obtain ⟨x3, y3⟩ := HX3.out
        go_wp2_with fail
        go_ret
        exact ⟨ret_bool (by simp [hk3]), HY.out⟩
      · try dsimp only at hk hn
        rw [hn, hk] at HX3
        clear hn hk
        have hp3 : ¬ ((n3 + 1 : Nat) : Int) = 0 := by omega
        obtain ⟨x1, y1⟩ := HX1.out
        obtain ⟨x2, y2⟩ := HX2.out
        obtain ⟨x3, y3⟩ := HX3.out
        go_wp2_with fail
        go_ret
        exact ⟨rfl, HY.out⟩
    · try dsimp only at hk hn
      rw [hn, hk] at HX2
      clear hn hk
      have hp2 : ¬ ((n2 + 1 : Nat) : Int) = 0 := by omega
      rcases HK3.out with ⟨hk3, hn⟩ | ⟨hk, n3, hn⟩
      · try dsimp only at hk3 hn
        rw [hn] at HX3
        clear hn
        obtain ⟨x1, y1⟩ := HX1.out
        obtain ⟨x2, y2⟩ := HX2.out
        obtain ⟨x3, y3⟩ := HX3.out
        go_wp2_with fail
        go_ret
        exact ⟨ret_bool (by simp [hk3]), HY.out⟩
      · try dsimp only at hk hn
        rw [hn, hk] at HX3
        clear hn hk
        have hp3 : ¬ ((n3 + 1 : Nat) : Int) = 0 := by omega
        obtain ⟨x1, y1⟩ := HX1.out
        obtain ⟨x2, y2⟩ := HX2.out
        obtain ⟨x3, y3⟩ := HX3.out
        go_wp2_with fail
        go_ret
        exact ⟨rfl, HY.out⟩

end Go.Proofs.YtjopjddhgaiddaaDoor
