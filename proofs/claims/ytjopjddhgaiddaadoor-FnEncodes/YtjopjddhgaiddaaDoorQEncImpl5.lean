/- The program's encoder: the results. -/
import Derived.Test.YtjopjddhgaiddaaDoorQEncImpl3bToEncImpl4
import Derived.Test.YtjopjddhgaiddaaDoorQEncImplToEncMouse2
namespace Go.Proofs.YtjopjddhgaiddaaDoor
open Go.RowKit
set_option linter.unusedVariables false
set_option linter.unusedSimpArgs false

/-- a mouse event whose numbers are in range -/
structure MouseOk (e : Ev) : Prop where
  b0 : 0 ≤ e.button
  b2 : e.button ≤ 2
  a1 : 1 ≤ e.act
  a3 : e.act ≤ 3
  m0 : 0 ≤ e.mods
  m7 : e.mods ≤ 7
  x0 : 0 ≤ e.col
  x9 : e.col ≤ 199
  y0 : 0 ≤ e.row
  y9 : e.row ≤ 199
def mouV (e : Ev) : Value := .agg #[.int .i64 e.button, .int .i64 e.act, .int .i64 e.mods, .int .i64 e.col, .int .i64 e.row]

theorem sgrBytes_any (e : Ev) (w : World) (hT : Pow w) (h : MouseOk e) : Calls Tryd.prog 43 #[mouV e] w (NewOwn w (sgrE e)) := by
  obtain ⟨kind, code, mods, button, act, col, row, data⟩ := e
  obtain ⟨b0, b2, a1, a3, m0, m7, x0, x9, y0, y9⟩ := h
  dsimp only at *
  unfold mouV sgrE
  dsimp only
  by_cases ha : act = 2
  · subst ha
    rw [if_pos rfl]
    exact sgrBytes_rel button mods col row w hT b0 (by omega) m0 m7 x0 x9 y0 y9
  · rw [if_neg ha]
    exact sgrBytes_act button act mods col row w hT ha b0 (by omega) m0 m7 x0 x9 y0 y9
theorem clickBytes_any (e : Ev) (w : World) (hT : Pow w) (h : MouseOk e) : Calls Tryd.prog 44 #[mouV e] w (NewOwn w (clickE e)) := by
  obtain ⟨kind, code, mods, button, act, col, row, data⟩ := e
  obtain ⟨b0, b2, a1, a3, m0, m7, x0, x9, y0, y9⟩ := h
  dsimp only at *
  unfold mouV clickE
  dsimp only
  by_cases ha : act = 2
  · subst ha
    rw [if_pos rfl]
    exact clickBytes_rel button mods col row w hT b0 (by omega) m0 m7 x0 x9 y0 y9
  · rw [if_neg ha]
    exact clickBytes_act button act mods col row w hT ha b0 (by omega) m0 m7 x0 x9 y0 y9

theorem AtL.eightE {w : World} {b : Nat} {v0 v1 v2 v3 v4 v5 v6 v7 : Value} (h : AtL w b [v0, v1, v2, v3, v4, v5, v6, v7]) : w.cell? ⟨b, 0, none⟩ = some v0 ∧ w.cell? ⟨b, 1, none⟩ = some v1 ∧ w.cell? ⟨b, 2, none⟩ = some v2 ∧ w.cell? ⟨b, 3, none⟩ = some v3 ∧ w.cell? ⟨b, 4, none⟩ = some v4 ∧ w.cell? ⟨b, 5, none⟩ = some v5 ∧ w.cell? ⟨b, 6, none⟩ = some v6 ∧ w.cell? ⟨b, 7, none⟩ = some v7 :=
  ⟨h.get 0 rfl, h.get 1 rfl, h.get 2 rfl, h.get 3 rfl, h.get 4 rfl, h.get 5 rfl, h.get 6 rfl, h.get 7 rfl⟩
theorem below_twoE (w : World) (o1 o2 : Obj) : Below w.heap.size w ((w.alloc o1).alloc o2) := below_on (below_mk w o1) (below_mk _ o2)
theorem br_endg {w w1 : World} {g B : Nat} {code : Int} {v u1 u2 : Value} {l : List UInt8} (ho : Own w1 B v l) (hB : g < B) (hg : w.heap.size ≤ g) (hb : Below w.heap.size w w1) :
    NewBr w code l (.returned (brV code v)) ((w1.setCell ⟨g, 0, none⟩ u1).setCell ⟨g, 1, none⟩ u2) :=
  ⟨v, rfl, ((ho.setBelow (a := ⟨g, 0, none⟩) hB u1).setBelow (a := ⟨g, 1, none⟩) hB u2).lower (by omega), (hb.setCell hg _).setCell hg _⟩
/-- three blocks laid one behind the other -/
theorem below_three (w : World) (o1 o2 o3 : Obj) : Below w.heap.size w (((w.alloc o1).alloc o2).alloc o3) := below_on (below_on (below_mk w o1) (below_mk _ o2)) (below_mk _ o3)
theorem atm_three (w : World) (o1 o2 : Obj) (vs : List Value) (t : TypeId) : AtM (((w.alloc o1).alloc o2).alloc (.cells vs.toArray t)) (w.heap.size + 1 + 1) vs := by
  have h := AtM.new ((w.alloc o1).alloc o2) vs t
  rwa [World.size_alloc, World.size_alloc] at h
theorem pick4 {P : Program} {code : Code} {Q : Exit → Act → World → Prop} {a : Act} {W : World} (C : World → Prop) (h : C W) (k : ∀ W', C W' → Code.wp P code Q a W') : Code.wp P code Q a W := k W h

def mouseR (md : Md) (e : Ev) : Int × List UInt8 := if wantE md.mouse e.act = true then (0, mouseE md e) else (4, [])
set_option maxRecDepth 100000 in
set_option maxHeartbeats 2000000 in
theorem mouseResult_any (md : Md) (e : Ev) (w : World) (hT : Pow w) (h : MouseOk e) : Calls Tryd.prog 21 #[mdV md, mouV e] w (NewBr w (mouseR md e).1 (mouseR md e).2) := by
  have HS := Lib.hid (fun A B C => sgrBytes_any e (((w.alloc A).alloc B).alloc C) (hT.on (below_three w A B C)) h)
  have HK := Lib.hid (fun A B C => clickBytes_any e (((w.alloc A).alloc B).alloc C) (hT.on (below_three w A B C)) h)
  have HR := Lib.hid (fun A B => atm_three w A B [.int .i64 0, .slice none 0 0] 31)
  have HI := Lib.hid (fun W => isReported_any md.mouse e.act W)
  have hB := below_three w
  clear hT h
  cases hw : wantE md.mouse e.act
  · have HC : Hid (mouseR md e = (4, [])) := by simp [Hid, mouseR, hw]
    rw [HC.out]
    rw [hw] at HI
    obtain ⟨cu, co, mo, sg, pa⟩ := md
    unfold mdV mouV at *
    dsimp only at *
    clear HC hw
    go_enter Tryd.func21, Tryd.ntmps21
    go_wp2_with fail
    refine (HI.out _).mono ?_
    rintro en w1 ⟨rfl, rfl⟩
    go_wp2_with fail
    exact bodyPost_ret (v := brV 4 (.slice none 0 0)) (by simp [results, Tryd.results21, brV, go_sem]) rfl ⟨_, rfl, own_nil _ _, hB _ _ _⟩
  · cases hs : md.sgr
    · have HC : Hid (mouseR md e = (0, clickE e)) := by simp [Hid, mouseR, hw, mouseE, hs]
      rw [HC.out]
      rw [hw] at HI
      generalize clickE e = L at *
      obtain ⟨cu, co, mo, sg, pa⟩ := md
      unfold mdV mouV at *
      dsimp only at *
      subst hs
      clear HC hw HS
      go_enter Tryd.func21, Tryd.ntmps21
      go_wp2_with fail
      refine (HI.out _).mono ?_
      rintro en w1 ⟨rfl, rfl⟩
      go_wp2_with fail
      refine (HK.out _ _ _).mono ?_
      rintro en w1 ⟨v, rfl, ho, hb⟩
      obtain ⟨p1, c1, hv⟩ := ho.slice
      subst hv
      have hm := (HR.out _ _).on hb
      have q0 := hm.cells.get 0 rfl
      have q1 := hm.cells.get 1 rfl
      have hf := hm.free
      have HE : Hid (∀ u1 u2, NewBr w 0 L (.returned (brV 0 (.slice p1 L.length c1))) ((w1.setCell ⟨w.heap.size + 1 + 1, 0, none⟩ u1).setCell ⟨w.heap.size + 1 + 1, 1, none⟩ u2)) := fun u1 u2 => br_endg ho (by simp) (by omega) (below_on (hB _ _ _) hb)
      clear ho hb hm
      go_wp2_with fail
      exact bodyPost_ret (v := brV 0 (.slice p1 L.length c1)) (by simp [results, Tryd.results21, brV, go_sem, q0, q1]) rfl (HE.out _ _)
    · have HC : Hid (mouseR md e = (0, sgrE e)) := by simp [Hid, mouseR, hw, mouseE, hs]
      rw [HC.out]
      rw [hw] at HI
      generalize sgrE e = L at *
      obtain ⟨cu, co, mo, sg, pa⟩ := md
      unfold mdV mouV at *
      dsimp only at *
      subst hs
      clear HC hw HK
      go_enter Tryd.func21, Tryd.ntmps21
      go_wp2_with fail
      refine (HI.out _).mono ?_
      rintro en w1 ⟨rfl, rfl⟩
      go_wp2_with fail
      refine (HS.out _ _ _).mono ?_
      rintro en w1 ⟨v, rfl, ho, hb⟩
      obtain ⟨p1, c1, hv⟩ := ho.slice
      subst hv
      have hm := (HR.out _ _).on hb
      have q0 := hm.cells.get 0 rfl
      have q1 := hm.cells.get 1 rfl
      have hf := hm.free
      have HE : Hid (∀ u1 u2, NewBr w 0 L (.returned (brV 0 (.slice p1 L.length c1))) ((w1.setCell ⟨w.heap.size + 1 + 1, 0, none⟩ u1).setCell ⟨w.heap.size + 1 + 1, 1, none⟩ u2)) := fun u1 u2 => br_endg ho (by simp) (by omega) (below_on (hB _ _ _) hb)
      clear ho hb hm
      go_wp2_with fail
      exact bodyPost_ret (v := brV 0 (.slice p1 L.length c1)) (by simp [results, Tryd.results21, brV, go_sem, q0, q1]) rfl (HE.out _ _)

def faultE (md : Md) (e : Ev) : Int := if md.fault ≠ 0 then md.fault else e.fault
set_option maxRecDepth 100000 in
set_option maxHeartbeats 2000000 in
theorem encodeFault_any (md : Md) (e : Ev) (p : Option Addr) (c : Nat) (w : World) : Calls Tryd.prog 18 #[mdV md, evV e p c] w fun en w' => en = .returned (.int .i64 (faultE md e)) ∧ Below w.heap.size w w' := by
  have HM := Lib.hid (fun W => implModesFault_any md W)
  have HF := Lib.hid (fun W => implEventFault_any e p c W)
  have hA := below_twoE w
  have HE2 : Hid (∀ A, AtL ((w.alloc A).alloc (.cells (evC e p c) 27)) (w.heap.size + 1) (evC e p c).toList) := fun A => by
    have h := AtL.new (w.alloc A) (evC e p c).toList 27
    rwa [World.size_alloc] at h
  by_cases hm : md.fault = 0
  · have HC : Hid (faultE md e = e.fault) := by simp [Hid, faultE, hm]
    rw [HC.out]
    rw [hm] at HM
    generalize e.fault = k at *
    obtain ⟨cu, co, mo, sg, pa⟩ := md
    unfold mdV evV evC at *
    clear HC hm
    go_enter Tryd.func18, Tryd.ntmps18
    go_wp2_with fail
    refine (HM.out _).mono ?_
    rintro en w1 ⟨rfl, hb⟩
    have he := (HE2.out (.cells #[.bool cu, .bool co, .int .i64 mo, .bool sg, .bool pa] 25)).on hb
    obtain ⟨z0, z1, z2, z3, z4, z5, z6, z7⟩ := AtL.eightE he
    have HB := Lib.hid (below_on (hA _ _) hb)
    clear hb he
    go_wp2_with fail
    refine (HF.out _).mono ?_
    rintro en w2 ⟨rfl, hb2⟩
    have HB2 := Lib.hid (below_on HB.out hb2)
    clear hb2 z0 z1 z2 z3 z4 z5 z6 z7
    go_wp2_with fail
    go_ret
    exact ⟨rfl, HB2.out⟩
  · have HC : Hid (faultE md e = md.fault) := by simp [Hid, faultE, hm]
    rw [HC.out]
    generalize md.fault = k at *
    obtain ⟨cu, co, mo, sg, pa⟩ := md
    unfold mdV evV evC at *
    clear HC HF
    go_enter Tryd.func18, Tryd.ntmps18
    go_wp2_with fail
    refine (HM.out _).mono ?_
    rintro en w1 ⟨rfl, hb⟩
    have HB := Lib.hid (below_on (hA _ _) hb)
    clear hb
    go_wp2_with fail
    go_ret
    exact ⟨rfl, HB.out⟩

end Go.Proofs.YtjopjddhgaiddaaDoor
