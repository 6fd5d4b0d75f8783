/- The program's encoder: the results. -/
import Derived.Test.YtjopjddhgaiddabGreatDoorQEncImpl3ToEncImpl4
import Derived.Test.YtjopjddhgaiddabGreatDoorQEncImplToEncMouse2
import Derived.Test.YtjopjddhgaiddabGreatDoorQJoinBToAppFull
namespace Go.Proofs.YtjopjddhgaiddabGreatDoor
open Go.RowKit
set_option linter.unusedVariables false
set_option linter.unusedSimpArgs false

/-- a mouse event whose numbers are in range -/
structure MouseOk (e : Ev) : Prop where
  b0 : 0 ≤ e.button
  b2 : e.button ≤ 2
  a1 : 1 ≤ e.act
  a3 : e.act ≤ 3
  m0 : 0 ≤ e.mods
  m7 : e.mods ≤ 7
  x0 : 0 ≤ e.col
  x9 : e.col ≤ 199
  y0 : 0 ≤ e.row
  y9 : e.row ≤ 199
def mouV (e : Ev) : Value := .agg #[.int .i64 e.button, .int .i64 e.act, .int .i64 e.mods, .int .i64 e.col, .int .i64 e.row]

theorem sgrBytes_any (e : Ev) (w : World) (hT : Pow w) (h : MouseOk e) : Calls Tryz.prog 59 #[mouV e] w (NewOwn w (sgrE e)) := by
  obtain ⟨kind, code, mods, button, act, col, row, data⟩ := e
  obtain ⟨b0, b2, a1, a3, m0, m7, x0, x9, y0, y9⟩ := h
  dsimp only at *
  unfold mouV sgrE
  dsimp only
  by_cases ha : act = 2
  · subst ha
    rw [if_pos rfl]
    exact sgrBytes_rel button mods col row w hT b0 (by omega) m0 m7 x0 x9 y0 y9
  · rw [if_neg ha]
    exact sgrBytes_act button act mods col row w hT ha b0 (by omega) m0 m7 x0 x9 y0 y9
theorem clickBytes_any (e : Ev) (w : World) (hT : Pow w) (h : MouseOk e) : Calls Tryz.prog 60 #[mouV e] w (NewOwn w (clickE e)) := by
  obtain ⟨kind, code, mods, button, act, col, row, data⟩ := e
  obtain ⟨b0, b2, a1, a3, m0, m7, x0, x9, y0, y9⟩ := h
  dsimp only at *
  unfold mouV clickE
  dsimp only
  by_cases ha : act = 2
  · subst ha
    rw [if_pos rfl]
    exact clickBytes_rel button mods col row w hT b0 (by omega) m0 m7 x0 x9 y0 y9
  · rw [if_neg ha]
    exact clickBytes_act button act mods col row w hT ha b0 (by omega) m0 m7 x0 x9 y0 y9

theorem AtL.eightE {w : World} {b : Nat} {v0 v1 v2 v3 v4 v5 v6 v7 : Value} (h : AtL w b [v0, v1, v2, v3, v4, v5, v6, v7]) : w.cell? ⟨b, 0, none⟩ = some v0 ∧ w.cell? ⟨b, 1, none⟩ = some v1 ∧ w.cell? ⟨b, 2, none⟩ = some v2 ∧ w.cell? ⟨b, 3, none⟩ = some v3 ∧ w.cell? ⟨b, 4, none⟩ = some v4 ∧ w.cell? ⟨b, 5, none⟩ = some v5 ∧ w.cell? ⟨b, 6, none⟩ = some v6 ∧ w.cell? ⟨b, 7, none⟩ = some v7 :=
  ⟨h.get 0 rfl, h.get 1 rfl, h.get 2 rfl, h.get 3 rfl, h.get 4 rfl, h.get 5 rfl, h.get 6 rfl, h.get 7 rfl⟩
theorem below_twoE (w : World) (o1 o2 : Obj) : Below w.heap.size w ((w.alloc o1).alloc o2) := below_on (below_mk w o1) (below_mk _ o2)
theorem br_endg {w w1 : World} {g B : Nat} {code : Int} {v u1 u2 : Value} {l : List UInt8} (ho : Own w1 B v l) (hB : g < B) (hg : w.heap.size ≤ g) (hb : Below w.heap.size w w1) :
    NewBr w code l (.returned (brV code v)) ((w1.setCell ⟨g, 0, none⟩ u1).setCell ⟨g, 1, none⟩ u2) :=
  ⟨v, rfl, ((ho.setBelow (a := ⟨g, 0, none⟩) hB u1).setBelow (a := ⟨g, 1, none⟩) hB u2).lower (by omega), (hb.setCell hg _).setCell hg _⟩
/-- three blocks laid one behind the other -/
theorem below_three (w : World) (o1 o2 o3 : Obj) : Below w.heap.size w (((w.alloc o1).alloc o2).alloc o3) := below_on (below_on (below_mk w o1) (below_mk _ o2)) (below_mk _ o3)
theorem atm_three (w : World) (o1 o2 : Obj) (vs : List Value) (t : TypeId) : AtM (((w.alloc o1).alloc o2).alloc (.cells vs.toArray t)) (w.heap.size + 1 + 1) vs := by
  have h := AtM.new ((w.alloc o1).alloc o2) vs t
  rwa [World.size_alloc, World.size_alloc] at h
theorem pick4 {P : Program} {code : Code} {Q : Exit → Act → World → Prop} {a : Act} {W : World} (C : World → Prop) (h : C W) (k : ∀ W', C W' → Code.wp P code Q a W') : Code.wp P code Q a W := k W h

def mouseR (md : Md) (e : Ev) : Int × List UInt8 := if wantE md.mouse e.act = true then (0, mouseE md e) else (4, [])
set_option maxRecDepth 100000 in
set_option maxHeartbeats 2000000 in
theorem mouseResult_any (md : Md) (e : Ev) (w : World) (hT : Pow w) (h : MouseOk e) : Calls Tryz.prog 31 #[mdV md, mouV e] w (NewBr w (mouseR md e).1 (mouseR md e).2) := by
  have HS := Lib.hid (fun A B C => sgrBytes_any e (((w.alloc A).alloc B).alloc C) (hT.on (below_three w A B C)) h)
  have HK := Lib.hid (fun A B C => clickBytes_any e (((w.alloc A).alloc B).alloc C) (hT.on (below_three w A B C)) h)
  have HR := Lib.hid (fun A B => atm_three w A B [.int .i64 0, .slice none 0 0] 37)
  have HI := Lib.hid (fun W => isReported_any md.mouse e.act W)
  have hB := below_three w
  clear hT h
  cases hw : wantE md.mouse e.act
  · have HC : Hid (mouseR md e = (4, [])) := by simp [Hid, mouseR, hw]
    rw [HC.out]
    rw [hw] at HI
    obtain ⟨cu, co, mo, sg, pa⟩ := md
    unfold mdV mouV at *
    dsimp only at *
    clear HC hw
    go_enter Tryz.func31, Tryz.ntmps31
    go_wp2_with fail
    refine (HI.out _).mono ?_
    rintro en w1 ⟨rfl, rfl⟩
    go_wp2_with fail
    exact bodyPost_ret (v := brV 4 (.slice none 0 0)) (by simp [results, Tryz.results31, brV, go_sem]) rfl ⟨_, rfl, own_nil _ _, hB _ _ _⟩
  · cases hs : md.sgr
    · have HC : Hid (mouseR md e = (0, clickE e)) := by simp [Hid, mouseR, hw, mouseE, hs]
      rw [HC.out]
      rw [hw] at HI
      generalize clickE e = L at *
      obtain ⟨cu, co, mo, sg, pa⟩ := md
      unfold mdV mouV at *
      dsimp only at *
      subst hs
      clear HC hw HS
      go_enter Tryz.func31, Tryz.ntmps31
      go_wp2_with fail
      refine (HI.out _).mono ?_
      rintro en w1 ⟨rfl, rfl⟩
      go_wp2_with fail
      refine (HK.out _ _ _).mono ?_
      rintro en w1 ⟨v, rfl, ho, hb⟩
      obtain ⟨p1, c1, hv⟩ := ho.slice
      subst hv
      have hm := (HR.out _ _).on hb
      have q0 := hm.cells.get 0 rfl
      have q1 := hm.cells.get 1 rfl
      have hf := hm.free
      have HE : Hid (∀ u1 u2, NewBr w 0 L (.returned (brV 0 (.slice p1 L.length c1))) ((w1.setCell ⟨w.heap.size + 1 + 1, 0, none⟩ u1).setCell ⟨w.heap.size + 1 + 1, 1, none⟩ u2)) := fun u1 u2 => br_endg ho (by simp) (by omega) (below_on (hB _ _ _) hb)
      clear ho hb hm
      go_wp2_with fail
      exact bodyPost_ret (v := brV 0 (.slice p1 L.length c1)) (by simp [results, Tryz.results31, brV, go_sem, q0, q1]) rfl (HE.out _ _)
    · have HC : Hid (mouseR md e = (0, sgrE e)) := by simp [Hid, mouseR, hw, mouseE, hs]
      rw [HC.out]
      rw [hw] at HI
      generalize sgrE e = L at *
      obtain ⟨cu, co, mo, sg, pa⟩ := md
      unfold mdV mouV at *
      dsimp only at *
      subst hs
      clear HC hw HK
      go_enter Tryz.func31, Tryz.ntmps31
      go_wp2_with fail
      refine (HI.out _).mono ?_
      rintro en w1 ⟨rfl, rfl⟩
      go_wp2_with fail
      refine (HS.out _ _ _).mono ?_
      rintro en w1 ⟨v, rfl, ho, hb⟩
      obtain ⟨p1, c1, hv⟩ := ho.slice
      subst hv
      have hm := (HR.out _ _).on hb
      have q0 := hm.cells.get 0 rfl
      have q1 := hm.cells.get 1 rfl
      have hf := hm.free
      have HE : Hid (∀ u1 u2, NewBr w 0 L (.returned (brV 0 (.slice p1 L.length c1))) ((w1.setCell ⟨w.heap.size + 1 + 1, 0, none⟩ u1).setCell ⟨w.heap.size + 1 + 1, 1, none⟩ u2)) := fun u1 u2 => br_endg ho (by simp) (by omega) (below_on (hB _ _ _) hb)
      clear ho hb hm
      go_wp2_with fail
      exact bodyPost_ret (v := brV 0 (.slice p1 L.length c1)) (by simp [results, Tryz.results31, brV, go_sem, q0, q1]) rfl (HE.out _ _)

def faultE (md : Md) (e : Ev) : Int := if md.fault ≠ 0 then md.fault else e.fault
set_option maxRecDepth 100000 in
set_option maxHeartbeats 2000000 in
theorem encodeFault_any (md : Md) (e : Ev) (p : Option Addr) (c : Nat) (w : World) : Calls Tryz.prog 28 #[mdV md, evV e p c] w fun en w' => en = .returned (.int .i64 (faultE md e)) ∧ Below w.heap.size w w' := by
  have HM := Lib.hid (fun W => implModesFault_any md W)
  have HF := Lib.hid (fun W => implEventFault_any e p c W)
  have hA := below_twoE w
  have HE2 : Hid (∀ A, AtL ((w.alloc A).alloc (.cells (evC e p c) 31)) (w.heap.size + 1) (evC e p c).toList) := fun A => by
    have h := AtL.new (w.alloc A) (evC e p c).toList 31
    rwa [World.size_alloc] at h
  by_cases hm : md.fault = 0
  · have HC : Hid (faultE md e = e.fault) := by simp [Hid, faultE, hm]
    rw [HC.out]
    rw [hm] at HM
    generalize e.fault = k at *
    obtain ⟨cu, co, mo, sg, pa⟩ := md
    unfold mdV evV evC at *
    clear HC hm
    go_enter Tryz.func28, Tryz.ntmps28
    go_wp2_with fail
    refine (HM.out _).mono ?_
    rintro en w1 ⟨rfl, hb⟩
    have he := (HE2.out (.cells #[.bool cu, .bool co, .int .i64 mo, .bool sg, .bool pa] 29)).on hb
    obtain ⟨z0, z1, z2, z3, z4, z5, z6, z7⟩ := AtL.eightE he
    have HB := Lib.hid (below_on (hA _ _) hb)
    clear hb he
    go_wp2_with fail
    refine (HF.out _).mono ?_
    rintro en w2 ⟨rfl, hb2⟩
    have HB2 := Lib.hid (below_on HB.out hb2)
    clear hb2 z0 z1 z2 z3 z4 z5 z6 z7
    go_wp2_with fail
    go_ret
    exact ⟨rfl, HB2.out⟩
  · have HC : Hid (faultE md e = md.fault) := by simp [Hid, faultE, hm]
    rw [HC.out]
    generalize md.fault = k at *
    obtain ⟨cu, co, mo, sg, pa⟩ := md
    unfold mdV evV evC at *
    clear HC HF
    go_enter Tryz.func28, Tryz.ntmps28
    go_wp2_with fail
    refine (HM.out _).mono ?_
    rintro en w1 ⟨rfl, hb⟩
    have HB := Lib.hid (below_on (hA _ _) hb)
    clear hb
    go_wp2_with fail
    go_ret
    exact ⟨rfl, HB.out⟩

end Go.Proofs.YtjopjddhgaiddabGreatDoor

/- The program's encoder: pasteBytes, inputOf, EncodeKey, EncodeMouse, EncodeEvent. -/
namespace Go.Proofs.YtjopjddhgaiddabGreatDoor
open Go.RowKit
set_option linter.unusedVariables false
set_option linter.unusedSimpArgs false

theorem dec200 : Lib.decDigits 200 = [50, 48, 48] := by
  rw [Lib.decDigits, dif_neg (by decide), Lib.decDigits_two (by decide) (by decide)]
  rfl
theorem seq_beg : seqB false [200] 126 = begB := by
  have e : jn [200] = [50, 48, 48] := by
    show jnR [200] = _
    simp [jnR, dec200]
  unfold seqB pb
  rw [e]
  rfl
theorem seq200 (W : World) (g : Nat) (h : Is W W.heap.size (some ⟨g, 0, none⟩) [200]) (hP : Pow W) :
    Calls Tryz.prog 61 #[.bool false, .int .u8 126, .slice (some ⟨g, 0, none⟩) 1 1] W (NewOwn W begB) := by
  have := sequenceBytes_any false (some ⟨g, 0, none⟩) 1 [200] 126 W h hP rfl (by simp) rfl
  rw [seq_beg] at this
  exact this
theorem joined_three (p q r : Option Addr) (c d n : Nat) (a b e : List UInt8) (w : World) (t : TypeId) (h : Bs w w.heap.size p a) (hp : p = none → c = 0) (h2 : Bs w w.heap.size q b) (hq : q = none → d = 0) (h3 : Bs w w.heap.size r e) (hr : r = none → n = 0) (hl : (a ++ b ++ e).length ≤ 1048576) (g : Nat) (hg : g = w.heap.size) :
    Calls Tryz.prog 33 #[.slice (some ⟨g, 0, none⟩) 3 3] (w.alloc (.cells #[.slice p a.length c, .slice q b.length d, .slice r e.length n] t)) (NewOwn (w.alloc (.cells #[.slice p a.length c, .slice q b.length d, .slice r e.length n] t)) (a ++ b ++ e)) := by
  subst hg
  have HR : BRows (w.alloc (.cells #[.slice p a.length c, .slice q b.length d, .slice r e.length n] t)) w.heap.size [(p, c, a), (q, d, b), (r, n, e)] :=
    ⟨by simp, fun i hi => by
        have : i = 0 ∨ i = 1 ∨ i = 2 := by simp at hi; omega
        rcases this with rfl | rfl | rfl <;> simp [bslice], fun x hx => by
        have : x = (p, c, a) ∨ x = (q, d, b) ∨ x = (r, n, e) := by simpa using hx
        rcases this with rfl | rfl | rfl
        · exact ⟨h.alloc _, hp⟩
        · exact ⟨h2.alloc _, hq⟩
        · exact ⟨h3.alloc _, hr⟩⟩
  have := joinedBytes_any w.heap.size [(p, c, a), (q, d, b), (r, n, e)] 3 _ HR (by simp) (by simpa [allB] using hl)
  simpa [allB] using this
set_option maxRecDepth 100000 in
set_option maxHeartbeats 2000000 in
theorem pasteBytes_off (cu co sg : Bool) (mo : Int) (p : Option Addr) (c : Nat) (l : List UInt8) (w : World) (h : Bs w w.heap.size p l) (hp : p = none → c = 0) (hl : l.length ≤ 1000) :
    Calls Tryz.prog 32 #[.agg #[.bool cu, .bool co, .int .i64 mo, .bool sg, .bool false], .agg #[.slice p l.length c]] w (NewOwn w l) := by
  have HJ := Lib.hid (fun A B g hg => joined_one p c 1 l ((w.alloc A).alloc B) 24 ((h.alloc A).alloc B) hp (by omega) g hg)
  clear h
  go_enter Tryz.func32, Tryz.ntmps32
  go_wp2_with fail
  refine (HJ.out _ _ _ (by simp)).mono ?_
  rintro e w1 ⟨v, rfl, ho, hb⟩
  have HE := Lib.hid (own_low ho (below_on (below_three w _ _ _) hb) (by simp; omega))
  clear ho hb HJ
  go_wp2_with fail
  go_ret
  exact HE.out
set_option maxRecDepth 100000 in
set_option maxHeartbeats 20000000 in
theorem pasteBytes_on (cu co sg : Bool) (mo : Int) (p : Option Addr) (c : Nat) (l : List UInt8) (w : World) (hT : Pow w) (h : Bs w w.heap.size p l) (hp : p = none → c = 0) (hl : l.length ≤ 1000) :
    Calls Tryz.prog 32 #[.agg #[.bool cu, .bool co, .int .i64 mo, .bool sg, .bool true], .agg #[.slice p l.length c]] w (NewOwn w ((begB ++ l) ++ finB)) := by
  have HFIN : Hid (∀ (W : World) g, g = W.heap.size → Bs (W.alloc (.cells #[.int .u8 27, .int .u8 91, .int .u8 50, .int .u8 48, .int .u8 49, .int .u8 126] 5)) (W.alloc (.cells #[.int .u8 27, .int .u8 91, .int .u8 50, .int .u8 48, .int .u8 49, .int .u8 126] 5)).heap.size (some ⟨g, 0, none⟩) finB) := fun W g hg =>
    bs_litE W finB _ (by simp [bcells, finB]) 5 g hg
  have HIS : Hid (∀ (W : World) g, g = W.heap.size → Is (W.alloc (.cells #[.int .i64 200] 2)) (W.alloc (.cells #[.int .i64 200] 2)).heap.size (some ⟨g, 0, none⟩) [200]) := fun W g hg => is_lit W [200] _ rfl _ g hg
  have HJ3 : Hid (∀ (V : World) p1 c1 (x : Nat) (P : Bs V V.heap.size p1 begB) (P' : p1 = none → c1 = 0) (D : Bs V V.heap.size p l) (F : Bs V V.heap.size (some ⟨x, 0, none⟩) finB) g, g = V.heap.size → Calls Tryz.prog 33 #[.slice (some ⟨g, 0, none⟩) 3 3] (V.alloc (.cells #[.slice p1 6 c1, .slice p l.length c, .slice (some ⟨x, 0, none⟩) 6 6] 24)) (NewOwn (V.alloc (.cells #[.slice p1 6 c1, .slice p l.length c, .slice (some ⟨x, 0, none⟩) 6 6] 24)) (begB ++ l ++ finB))) := fun V p1 c1 x P P' D F g hg =>
    joined_three p1 p (some ⟨x, 0, none⟩) c1 c 6 begB l finB V 24 P P' D hp F (by simp) (by simp [begB, finB]; omega) g hg
  generalize hLL : begB ++ l ++ finB = LL at *
  clear hLL
  have HQ := Lib.hid h
  have HT := Lib.hid hT
  clear hT h
  go_enter Tryz.func32, Tryz.ntmps32
  have hm : AtL (((w.alloc (.cells #[.bool cu, .bool co, .int .i64 mo, .bool sg, .bool true] 29)).alloc (.cells #[.slice p l.length c] 72))) (w.heap.size + 1) [.slice p l.length c] := by
    have h := AtL.new (w.alloc (.cells #[.bool cu, .bool co, .int .i64 mo, .bool sg, .bool true] 29)) [.slice p l.length c] 72
    rwa [World.size_alloc] at h
  have hb := below_twoE w (.cells #[.bool cu, .bool co, .int .i64 mo, .bool sg, .bool true] 29) (.cells #[.slice p l.length c] 72)
  go_wp2_with fail
  refine wp_genE (fun W => AtL W (w.heap.size + 1) [.slice p l.length c] ∧ Below w.heap.size w W) ⟨hm, hb⟩ (fun W hW => ?_)
  obtain ⟨hk, hb2⟩ := hW
  have HK := Lib.hid (fun W' (hW : Below W.heap.size W W') => hk.on hW)
  have HB := Lib.hid hb2
  have HD := Lib.hid (fun W' (hW : Below W.heap.size W W') => HQ.out.on (below_on hb2 hW))
  have HP := Lib.hid (fun W' (hW : Below W.heap.size W W') => HT.out.on (below_on hb2 hW))
  clear hk hb2 hm hb HT HQ
  refine wp_region_noPanic ?_
  refine wp_region_held_drew (S := fun W' => Below (W).heap.size (W) W') (by kernel_rfl) (below_drewN (Below.refl _ _) 1) (fun hHeld => ?_)
  refine takeR 2 9 (.pointer (some ⟨w.heap.size + 1, 0, none⟩)) (by kernel_rfl) (by kernel_rfl) (by kernel_rfl) (by kernel_rfl) (fun _ _ _ h => h) (by kernel_rfl) (fun w o hSw ho => ?_) hHeld ?_
  · obtain rfl := Option.some.inj ho; go_simp
  simp only [Act.put, List.setIfInBounds_toArray, List.set_cons_zero, List.set_cons_succ]
  refine takeR 3 10 (.slice p l.length c) (by kernel_rfl) (by kernel_rfl) (by kernel_rfl) (by kernel_rfl) (fun _ _ _ h => h) (by kernel_rfl) (fun w o hSw ho => ?_) hHeld ?_
  · obtain rfl := Option.some.inj ho; have r0 := (HK.out _ hSw).get 0 rfl; go_simp
  simp only [Act.put, List.setIfInBounds_toArray, List.set_cons_zero, List.set_cons_succ]
  refine twoR 0 4 (by kernel_rfl) (by kernel_rfl) (by kernel_rfl) (fun o ho K' hK => ?_) (fun o ho K' hK => ?_)
  · obtain rfl := Option.some.inj ho
    clear ho
    go_simp
    have HH1 := Lib.hid hHeld
    have HI1 : Hid (Is ((W.alloc (.cells #[.int .i64 200] 2)).drew) (((W.alloc (.cells #[.int .i64 200] 2)).drew)).heap.size (some ⟨W.heap.size, 0, none⟩) [200]) := HIS.out W.drew (W.heap.size) (by simp)
    refine hK.out _ _ (below_on hHeld (below_mk _ _)) (fun hHeld => ?_)
    clear hK K'
    try simp only [Act.put, List.setIfInBounds_toArray, List.set_cons_zero, List.set_cons_succ]
    refine twoR 1 4 (by kernel_rfl) (by kernel_rfl) (by kernel_rfl) (fun o ho K' hK => ?_) (fun o ho K' hK => ?_)
    · obtain rfl := Option.some.inj ho
      clear ho
      go_simp
      have HH2 := Lib.hid hHeld
      refine (seq200 _ _ HI1.out (HP.out _ hHeld)).mono ?_
      rintro e V2 ⟨v2, rfl, ho2, hb2⟩
      obtain ⟨p2, c2, hv⟩ := ho2.slice
      subst hv
      have HS2 := Lib.hid ho2.bs.2
      have HC2 := Lib.hid ho2.capz
      have HG2 := Lib.hid (below_on hHeld hb2)
      clear hb2 ho2 hHeld
      go_wp2_with fail
      refine hK.out _ _ (HG2.out) (fun hHeld => ?_)
      clear hK K'
      try simp only [Act.put, List.setIfInBounds_toArray, List.set_cons_zero, List.set_cons_succ]
      refine oneR 4 (by kernel_rfl) (by kernel_rfl) (fun o ho K' hK => ?_)
      obtain rfl := Option.some.inj ho
      clear ho
      go_simp
      have HH3 := Lib.hid hHeld
      have HS3 : Hid (Bs ((V2.alloc (.cells #[.int .u8 27, .int .u8 91, .int .u8 50, .int .u8 48, .int .u8 49, .int .u8 126] 5))) (((V2.alloc (.cells #[.int .u8 27, .int .u8 91, .int .u8 50, .int .u8 48, .int .u8 49, .int .u8 126] 5)))).heap.size p2 begB) := HS2.out.on (below_mk V2 (.cells #[.int .u8 27, .int .u8 91, .int .u8 50, .int .u8 48, .int .u8 49, .int .u8 126] 5))
      have HF3 : Hid (Bs ((V2.alloc (.cells #[.int .u8 27, .int .u8 91, .int .u8 50, .int .u8 48, .int .u8 49, .int .u8 126] 5))) (((V2.alloc (.cells #[.int .u8 27, .int .u8 91, .int .u8 50, .int .u8 48, .int .u8 49, .int .u8 126] 5)))).heap.size (some ⟨V2.heap.size, 0, none⟩) finB) := HFIN.out V2 (V2.heap.size) (by simp)
      refine hK.out _ _ (below_on hHeld (below_mk _ _)) (fun hHeld => ?_)
      clear hK K'
      try simp only [Act.put, List.setIfInBounds_toArray, List.set_cons_zero, List.set_cons_succ]
      have hx3 : W.heap.size ≤ V2.heap.size := by have h := HH3.out.size; first | omega | (simp at h; omega) | simp
      obtain ⟨V4, hrun4, hmk4⟩ := conv_markE ((V2.alloc (.cells #[.int .u8 27, .int .u8 91, .int .u8 50, .int .u8 48, .int .u8 49, .int .u8 126] 5))) (V2.heap.size) 0 6 6
      refine oneR 5 (by kernel_rfl) (by kernel_rfl) (fun o ho K' hK => ?_)
      obtain rfl := Option.some.inj ho
      clear ho
      go_simp
      have HH5 := Lib.hid hHeld
      refine hK.out _ _ (hmk4.below _ _ HH5.out hx3) (fun hHeld => ?_)
      clear hK K'
      try simp only [Act.put, List.setIfInBounds_toArray, List.set_cons_zero, List.set_cons_succ]
      have HS5 := Lib.hid (HS3.out.marked hmk4)
      have HF5 := Lib.hid (HF3.out.marked hmk4)
      have HVX := Lib.hid hHeld
      refine oneR 6 (by kernel_rfl) (by kernel_rfl) (fun o ho K' hK => ?_)
      obtain rfl := Option.some.inj ho
      clear ho
      go_simp
      refine hK.out _ _ (below_on hHeld (below_mk _ _)) (fun hHeld => ?_)
      clear hK K'
      try simp only [Act.put, List.setIfInBounds_toArray, List.set_cons_zero, List.set_cons_succ]
      refine oneR 7 (by kernel_rfl) (by kernel_rfl) (fun o ho K' hK => ?_)
      obtain rfl := Option.some.inj ho
      clear ho
      go_simp
      refine (HJ3.out _ _ _ _ HS5.out HC2.out (HD.out _ HVX.out) HF5.out _ rfl).mono ?_
      rintro e V9 ⟨v9, rfl, ho9, hb9⟩
      have HV9 := Lib.hid (below_on hHeld hb9)
      have HE := Lib.hid (own_low ho9 (below_on HB.out HV9.out) (by have h1 := HB.out.size; have h2 := HVX.out.size; simp at h2 ⊢; omega))
      clear ho9 hb9 hHeld
      go_wp2_with fail
      refine hK.out _ _ (HV9.out) (fun hHeld => ?_)
      clear hK K'
      try simp only [Act.put, List.setIfInBounds_toArray, List.set_cons_zero, List.set_cons_succ]
      refine takeR 8 4 (v9) (by kernel_rfl) (by kernel_rfl) (by kernel_rfl) (by kernel_rfl) (fun _ _ _ h => h) (by kernel_rfl) (fun w o hSw ho => ?_) hHeld ?_
      · obtain rfl := Option.some.inj ho; go_simp
      simp only [Act.put, List.setIfInBounds_toArray, List.set_cons_zero, List.set_cons_succ]
      refine wpAnyH_done (by kernel_rfl) ?_ _
      refine NoPanic.normal ?_
      go_wp2_with fail
      go_ret
      exact HE.out
    · obtain rfl := Option.some.inj ho
      clear ho
      go_simp
      have HH6 := Lib.hid hHeld
      have HI6 : Hid (Is (((W.alloc (.cells #[.int .i64 200] 2)).alloc (.cells #[.int .u8 27, .int .u8 91, .int .u8 50, .int .u8 48, .int .u8 49, .int .u8 126] 5)).drew) ((((W.alloc (.cells #[.int .i64 200] 2)).alloc (.cells #[.int .u8 27, .int .u8 91, .int .u8 50, .int .u8 48, .int .u8 49, .int .u8 126] 5)).drew)).heap.size (some ⟨W.heap.size, 0, none⟩) [200]) := HI1.out.on (below_mk ((W.alloc (.cells #[.int .i64 200] 2)).drew) (.cells #[.int .u8 27, .int .u8 91, .int .u8 50, .int .u8 48, .int .u8 49, .int .u8 126] 5))
      have HF6 : Hid (Bs (((W.alloc (.cells #[.int .i64 200] 2)).alloc (.cells #[.int .u8 27, .int .u8 91, .int .u8 50, .int .u8 48, .int .u8 49, .int .u8 126] 5)).drew) ((((W.alloc (.cells #[.int .i64 200] 2)).alloc (.cells #[.int .u8 27, .int .u8 91, .int .u8 50, .int .u8 48, .int .u8 49, .int .u8 126] 5)).drew)).heap.size (some ⟨W.heap.size + 1, 0, none⟩) finB) := HFIN.out ((W.alloc (.cells #[.int .i64 200] 2)).drew) (W.heap.size + 1) (by simp)
      refine hK.out _ _ (below_on hHeld (below_mk _ _)) (fun hHeld => ?_)
      clear hK K'
      try simp only [Act.put, List.setIfInBounds_toArray, List.set_cons_zero, List.set_cons_succ]
      have hx6 : W.heap.size ≤ W.heap.size + 1 := by have h := HH6.out.size; first | omega | (simp at h; omega) | simp
      obtain ⟨V7, hrun7, hmk7⟩ := conv_markE (((W.alloc (.cells #[.int .i64 200] 2)).alloc (.cells #[.int .u8 27, .int .u8 91, .int .u8 50, .int .u8 48, .int .u8 49, .int .u8 126] 5)).drew) (W.heap.size + 1) 0 6 6
      refine twoR 1 5 (by kernel_rfl) (by kernel_rfl) (by kernel_rfl) (fun o ho K' hK => ?_) (fun o ho K' hK => ?_)
      · obtain rfl := Option.some.inj ho
        clear ho
        go_simp
        have HH8 := Lib.hid hHeld
        refine (seq200 _ _ HI6.out (HP.out _ hHeld)).mono ?_
        rintro e V8 ⟨v8, rfl, ho2, hb2⟩
        obtain ⟨p8, c8, hv⟩ := ho2.slice
        subst hv
        have HS8 := Lib.hid ho2.bs.2
        have HC8 := Lib.hid ho2.capz
        have HG8 := Lib.hid (below_on hHeld hb2)
        have HF8 := Lib.hid (HF6.out.on hb2)
        clear hb2 ho2 hHeld
        go_wp2_with fail
        refine hK.out _ _ (HG8.out) (fun hHeld => ?_)
        clear hK K'
        try simp only [Act.put, List.setIfInBounds_toArray, List.set_cons_zero, List.set_cons_succ]
        obtain ⟨V9, hrun9, hmk9⟩ := conv_markE (V8) (W.heap.size + 1) 0 6 6
        refine oneR 5 (by kernel_rfl) (by kernel_rfl) (fun o ho K' hK => ?_)
        obtain rfl := Option.some.inj ho
        clear ho
        go_simp
        have HH10 := Lib.hid hHeld
        refine hK.out _ _ (hmk9.below _ _ HH10.out hx6) (fun hHeld => ?_)
        clear hK K'
        try simp only [Act.put, List.setIfInBounds_toArray, List.set_cons_zero, List.set_cons_succ]
        have HF10 := Lib.hid (HF8.out.marked hmk9)
        have HS10 := Lib.hid (HS8.out.marked hmk9)
        have HVX := Lib.hid hHeld
        refine oneR 6 (by kernel_rfl) (by kernel_rfl) (fun o ho K' hK => ?_)
        obtain rfl := Option.some.inj ho
        clear ho
        go_simp
        refine hK.out _ _ (below_on hHeld (below_mk _ _)) (fun hHeld => ?_)
        clear hK K'
        try simp only [Act.put, List.setIfInBounds_toArray, List.set_cons_zero, List.set_cons_succ]
        refine oneR 7 (by kernel_rfl) (by kernel_rfl) (fun o ho K' hK => ?_)
        obtain rfl := Option.some.inj ho
        clear ho
        go_simp
        refine (HJ3.out _ _ _ _ HS10.out HC8.out (HD.out _ HVX.out) HF10.out _ rfl).mono ?_
        rintro e V9 ⟨v9, rfl, ho9, hb9⟩
        have HV9 := Lib.hid (below_on hHeld hb9)
        have HE := Lib.hid (own_low ho9 (below_on HB.out HV9.out) (by have h1 := HB.out.size; have h2 := HVX.out.size; simp at h2 ⊢; omega))
        clear ho9 hb9 hHeld
        go_wp2_with fail
        refine hK.out _ _ (HV9.out) (fun hHeld => ?_)
        clear hK K'
        try simp only [Act.put, List.setIfInBounds_toArray, List.set_cons_zero, List.set_cons_succ]
        refine takeR 8 4 (v9) (by kernel_rfl) (by kernel_rfl) (by kernel_rfl) (by kernel_rfl) (fun _ _ _ h => h) (by kernel_rfl) (fun w o hSw ho => ?_) hHeld ?_
        · obtain rfl := Option.some.inj ho; go_simp
        simp only [Act.put, List.setIfInBounds_toArray, List.set_cons_zero, List.set_cons_succ]
        refine wpAnyH_done (by kernel_rfl) ?_ _
        refine NoPanic.normal ?_
        go_wp2_with fail
        go_ret
        exact HE.out
      · obtain rfl := Option.some.inj ho
        clear ho
        go_simp
        have HH11 := Lib.hid hHeld
        refine hK.out _ _ (hmk7.below _ _ HH11.out hx6) (fun hHeld => ?_)
        clear hK K'
        try simp only [Act.put, List.setIfInBounds_toArray, List.set_cons_zero, List.set_cons_succ]
        have HI11 : Hid (Is V7 (V7).heap.size (some ⟨W.heap.size, 0, none⟩) [200]) := (HI6.out).keep (by rw [hmk7.size]; exact Nat.le_refl _) (fun a _ => hmk7.cell a)
        have HF11 := Lib.hid (HF6.out.marked hmk7)
        refine oneR 1 (by kernel_rfl) (by kernel_rfl) (fun o ho K' hK => ?_)
        obtain rfl := Option.some.inj ho
        clear ho
        go_simp
        have HH12 := Lib.hid hHeld
        refine (seq200 _ _ HI11.out (HP.out _ hHeld)).mono ?_
        rintro e V12 ⟨v12, rfl, ho2, hb2⟩
        obtain ⟨p12, c12, hv⟩ := ho2.slice
        subst hv
        have HS12 := Lib.hid ho2.bs.2
        have HC12 := Lib.hid ho2.capz
        have HG12 := Lib.hid (below_on hHeld hb2)
        have HF12 := Lib.hid (HF11.out.on hb2)
        clear hb2 ho2 hHeld
        go_wp2_with fail
        refine hK.out _ _ (HG12.out) (fun hHeld => ?_)
        clear hK K'
        try simp only [Act.put, List.setIfInBounds_toArray, List.set_cons_zero, List.set_cons_succ]
        have HVX := Lib.hid hHeld
        refine oneR 6 (by kernel_rfl) (by kernel_rfl) (fun o ho K' hK => ?_)
        obtain rfl := Option.some.inj ho
        clear ho
        go_simp
        refine hK.out _ _ (below_on hHeld (below_mk _ _)) (fun hHeld => ?_)
        clear hK K'
        try simp only [Act.put, List.setIfInBounds_toArray, List.set_cons_zero, List.set_cons_succ]
        refine oneR 7 (by kernel_rfl) (by kernel_rfl) (fun o ho K' hK => ?_)
        obtain rfl := Option.some.inj ho
        clear ho
        go_simp
        refine (HJ3.out _ _ _ _ HS12.out HC12.out (HD.out _ HVX.out) HF12.out _ rfl).mono ?_
        rintro e V9 ⟨v9, rfl, ho9, hb9⟩
        have HV9 := Lib.hid (below_on hHeld hb9)
        have HE := Lib.hid (own_low ho9 (below_on HB.out HV9.out) (by have h1 := HB.out.size; have h2 := HVX.out.size; simp at h2 ⊢; omega))
        clear ho9 hb9 hHeld
        go_wp2_with fail
        refine hK.out _ _ (HV9.out) (fun hHeld => ?_)
        clear hK K'
        try simp only [Act.put, List.setIfInBounds_toArray, List.set_cons_zero, List.set_cons_succ]
        refine takeR 8 4 (v9) (by kernel_rfl) (by kernel_rfl) (by kernel_rfl) (by kernel_rfl) (fun _ _ _ h => h) (by kernel_rfl) (fun w o hSw ho => ?_) hHeld ?_
        · obtain rfl := Option.some.inj ho; go_simp
        simp only [Act.put, List.setIfInBounds_toArray, List.set_cons_zero, List.set_cons_succ]
        refine wpAnyH_done (by kernel_rfl) ?_ _
        refine NoPanic.normal ?_
        go_wp2_with fail
        go_ret
        exact HE.out
  · obtain rfl := Option.some.inj ho
    clear ho
    go_simp
    have HH13 := Lib.hid hHeld
    have HF13 : Hid (Bs ((W.alloc (.cells #[.int .u8 27, .int .u8 91, .int .u8 50, .int .u8 48, .int .u8 49, .int .u8 126] 5)).drew) (((W.alloc (.cells #[.int .u8 27, .int .u8 91, .int .u8 50, .int .u8 48, .int .u8 49, .int .u8 126] 5)).drew)).heap.size (some ⟨W.heap.size, 0, none⟩) finB) := HFIN.out W.drew (W.heap.size) (by simp)
    refine hK.out _ _ (below_on hHeld (below_mk _ _)) (fun hHeld => ?_)
    clear hK K'
    try simp only [Act.put, List.setIfInBounds_toArray, List.set_cons_zero, List.set_cons_succ]
    have hx13 : W.heap.size ≤ W.heap.size := by have h := HH13.out.size; first | omega | (simp at h; omega) | simp
    obtain ⟨V14, hrun14, hmk14⟩ := conv_markE ((W.alloc (.cells #[.int .u8 27, .int .u8 91, .int .u8 50, .int .u8 48, .int .u8 49, .int .u8 126] 5)).drew) (W.heap.size) 0 6 6
    refine twoR 0 5 (by kernel_rfl) (by kernel_rfl) (by kernel_rfl) (fun o ho K' hK => ?_) (fun o ho K' hK => ?_)
    · obtain rfl := Option.some.inj ho
      clear ho
      go_simp
      have HH15 := Lib.hid hHeld
      have HF15 : Hid (Bs (((W.alloc (.cells #[.int .u8 27, .int .u8 91, .int .u8 50, .int .u8 48, .int .u8 49, .int .u8 126] 5)).alloc (.cells #[.int .i64 200] 2)).drew) ((((W.alloc (.cells #[.int .u8 27, .int .u8 91, .int .u8 50, .int .u8 48, .int .u8 49, .int .u8 126] 5)).alloc (.cells #[.int .i64 200] 2)).drew)).heap.size (some ⟨W.heap.size, 0, none⟩) finB) := HF13.out.on (below_mk ((W.alloc (.cells #[.int .u8 27, .int .u8 91, .int .u8 50, .int .u8 48, .int .u8 49, .int .u8 126] 5)).drew) (.cells #[.int .i64 200] 2))
      have HI15 : Hid (Is (((W.alloc (.cells #[.int .u8 27, .int .u8 91, .int .u8 50, .int .u8 48, .int .u8 49, .int .u8 126] 5)).alloc (.cells #[.int .i64 200] 2)).drew) ((((W.alloc (.cells #[.int .u8 27, .int .u8 91, .int .u8 50, .int .u8 48, .int .u8 49, .int .u8 126] 5)).alloc (.cells #[.int .i64 200] 2)).drew)).heap.size (some ⟨W.heap.size + 1, 0, none⟩) [200]) := HIS.out ((W.alloc (.cells #[.int .u8 27, .int .u8 91, .int .u8 50, .int .u8 48, .int .u8 49, .int .u8 126] 5)).drew) (W.heap.size + 1) (by simp)
      refine hK.out _ _ (below_on hHeld (below_mk _ _)) (fun hHeld => ?_)
      clear hK K'
      try simp only [Act.put, List.setIfInBounds_toArray, List.set_cons_zero, List.set_cons_succ]
      obtain ⟨V16, hrun16, hmk16⟩ := conv_markE (((W.alloc (.cells #[.int .u8 27, .int .u8 91, .int .u8 50, .int .u8 48, .int .u8 49, .int .u8 126] 5)).alloc (.cells #[.int .i64 200] 2)).drew) (W.heap.size) 0 6 6
      refine twoR 1 5 (by kernel_rfl) (by kernel_rfl) (by kernel_rfl) (fun o ho K' hK => ?_) (fun o ho K' hK => ?_)
      · obtain rfl := Option.some.inj ho
        clear ho
        go_simp
        have HH17 := Lib.hid hHeld
        refine (seq200 _ _ HI15.out (HP.out _ hHeld)).mono ?_
        rintro e V17 ⟨v17, rfl, ho2, hb2⟩
        obtain ⟨p17, c17, hv⟩ := ho2.slice
        subst hv
        have HS17 := Lib.hid ho2.bs.2
        have HC17 := Lib.hid ho2.capz
        have HG17 := Lib.hid (below_on hHeld hb2)
        have HF17 := Lib.hid (HF15.out.on hb2)
        clear hb2 ho2 hHeld
        go_wp2_with fail
        refine hK.out _ _ (HG17.out) (fun hHeld => ?_)
        clear hK K'
        try simp only [Act.put, List.setIfInBounds_toArray, List.set_cons_zero, List.set_cons_succ]
        obtain ⟨V18, hrun18, hmk18⟩ := conv_markE (V17) (W.heap.size) 0 6 6
        refine oneR 5 (by kernel_rfl) (by kernel_rfl) (fun o ho K' hK => ?_)
        obtain rfl := Option.some.inj ho
        clear ho
        go_simp
        have HH19 := Lib.hid hHeld
        refine hK.out _ _ (hmk18.below _ _ HH19.out hx13) (fun hHeld => ?_)
        clear hK K'
        try simp only [Act.put, List.setIfInBounds_toArray, List.set_cons_zero, List.set_cons_succ]
        have HF19 := Lib.hid (HF17.out.marked hmk18)
        have HS19 := Lib.hid (HS17.out.marked hmk18)
        have HVX := Lib.hid hHeld
        refine oneR 6 (by kernel_rfl) (by kernel_rfl) (fun o ho K' hK => ?_)
        obtain rfl := Option.some.inj ho
        clear ho
        go_simp
        refine hK.out _ _ (below_on hHeld (below_mk _ _)) (fun hHeld => ?_)
        clear hK K'
        try simp only [Act.put, List.setIfInBounds_toArray, List.set_cons_zero, List.set_cons_succ]
        refine oneR 7 (by kernel_rfl) (by kernel_rfl) (fun o ho K' hK => ?_)
        obtain rfl := Option.some.inj ho
        clear ho
        go_simp
        refine (HJ3.out _ _ _ _ HS19.out HC17.out (HD.out _ HVX.out) HF19.out _ rfl).mono ?_
        rintro e V9 ⟨v9, rfl, ho9, hb9⟩
        have HV9 := Lib.hid (below_on hHeld hb9)
        have HE := Lib.hid (own_low ho9 (below_on HB.out HV9.out) (by have h1 := HB.out.size; have h2 := HVX.out.size; simp at h2 ⊢; omega))
        clear ho9 hb9 hHeld
        go_wp2_with fail
        refine hK.out _ _ (HV9.out) (fun hHeld => ?_)
        clear hK K'
        try simp only [Act.put, List.setIfInBounds_toArray, List.set_cons_zero, List.set_cons_succ]
        refine takeR 8 4 (v9) (by kernel_rfl) (by kernel_rfl) (by kernel_rfl) (by kernel_rfl) (fun _ _ _ h => h) (by kernel_rfl) (fun w o hSw ho => ?_) hHeld ?_
        · obtain rfl := Option.some.inj ho; go_simp
        simp only [Act.put, List.setIfInBounds_toArray, List.set_cons_zero, List.set_cons_succ]
        refine wpAnyH_done (by kernel_rfl) ?_ _
        refine NoPanic.normal ?_
        go_wp2_with fail
        go_ret
        exact HE.out
      · obtain rfl := Option.some.inj ho
        clear ho
        go_simp
        have HH20 := Lib.hid hHeld
        refine hK.out _ _ (hmk16.below _ _ HH20.out hx13) (fun hHeld => ?_)
        clear hK K'
        try simp only [Act.put, List.setIfInBounds_toArray, List.set_cons_zero, List.set_cons_succ]
        have HF20 := Lib.hid (HF15.out.marked hmk16)
        have HI20 : Hid (Is V16 (V16).heap.size (some ⟨W.heap.size + 1, 0, none⟩) [200]) := (HI15.out).keep (by rw [hmk16.size]; exact Nat.le_refl _) (fun a _ => hmk16.cell a)
        refine oneR 1 (by kernel_rfl) (by kernel_rfl) (fun o ho K' hK => ?_)
        obtain rfl := Option.some.inj ho
        clear ho
        go_simp
        have HH21 := Lib.hid hHeld
        refine (seq200 _ _ HI20.out (HP.out _ hHeld)).mono ?_
        rintro e V21 ⟨v21, rfl, ho2, hb2⟩
        obtain ⟨p21, c21, hv⟩ := ho2.slice
        subst hv
        have HS21 := Lib.hid ho2.bs.2
        have HC21 := Lib.hid ho2.capz
        have HG21 := Lib.hid (below_on hHeld hb2)
        have HF21 := Lib.hid (HF20.out.on hb2)
        clear hb2 ho2 hHeld
        go_wp2_with fail
        refine hK.out _ _ (HG21.out) (fun hHeld => ?_)
        clear hK K'
        try simp only [Act.put, List.setIfInBounds_toArray, List.set_cons_zero, List.set_cons_succ]
        have HVX := Lib.hid hHeld
        refine oneR 6 (by kernel_rfl) (by kernel_rfl) (fun o ho K' hK => ?_)
        obtain rfl := Option.some.inj ho
        clear ho
        go_simp
        refine hK.out _ _ (below_on hHeld (below_mk _ _)) (fun hHeld => ?_)
        clear hK K'
        try simp only [Act.put, List.setIfInBounds_toArray, List.set_cons_zero, List.set_cons_succ]
        refine oneR 7 (by kernel_rfl) (by kernel_rfl) (fun o ho K' hK => ?_)
        obtain rfl := Option.some.inj ho
        clear ho
        go_simp
        refine (HJ3.out _ _ _ _ HS21.out HC21.out (HD.out _ HVX.out) HF21.out _ rfl).mono ?_
        rintro e V9 ⟨v9, rfl, ho9, hb9⟩
        have HV9 := Lib.hid (below_on hHeld hb9)
        have HE := Lib.hid (own_low ho9 (below_on HB.out HV9.out) (by have h1 := HB.out.size; have h2 := HVX.out.size; simp at h2 ⊢; omega))
        clear ho9 hb9 hHeld
        go_wp2_with fail
        refine hK.out _ _ (HV9.out) (fun hHeld => ?_)
        clear hK K'
        try simp only [Act.put, List.setIfInBounds_toArray, List.set_cons_zero, List.set_cons_succ]
        refine takeR 8 4 (v9) (by kernel_rfl) (by kernel_rfl) (by kernel_rfl) (by kernel_rfl) (fun _ _ _ h => h) (by kernel_rfl) (fun w o hSw ho => ?_) hHeld ?_
        · obtain rfl := Option.some.inj ho; go_simp
        simp only [Act.put, List.setIfInBounds_toArray, List.set_cons_zero, List.set_cons_succ]
        refine wpAnyH_done (by kernel_rfl) ?_ _
        refine NoPanic.normal ?_
        go_wp2_with fail
        go_ret
        exact HE.out
    · obtain rfl := Option.some.inj ho
      clear ho
      go_simp
      have HH22 := Lib.hid hHeld
      refine hK.out _ _ (hmk14.below _ _ HH22.out hx13) (fun hHeld => ?_)
      clear hK K'
      try simp only [Act.put, List.setIfInBounds_toArray, List.set_cons_zero, List.set_cons_succ]
      have HF22 := Lib.hid (HF13.out.marked hmk14)
      refine oneR 0 (by kernel_rfl) (by kernel_rfl) (fun o ho K' hK => ?_)
      obtain rfl := Option.some.inj ho
      clear ho
      go_simp
      have HH23 := Lib.hid hHeld
      have HF23 : Hid (Bs ((V14.alloc (.cells #[.int .i64 200] 2))) (((V14.alloc (.cells #[.int .i64 200] 2)))).heap.size (some ⟨W.heap.size, 0, none⟩) finB) := HF22.out.on (below_mk V14 (.cells #[.int .i64 200] 2))
      have HI23 : Hid (Is ((V14.alloc (.cells #[.int .i64 200] 2))) (((V14.alloc (.cells #[.int .i64 200] 2)))).heap.size (some ⟨V14.heap.size, 0, none⟩) [200]) := HIS.out V14 (V14.heap.size) (by simp)
      refine hK.out _ _ (below_on hHeld (below_mk _ _)) (fun hHeld => ?_)
      clear hK K'
      try simp only [Act.put, List.setIfInBounds_toArray, List.set_cons_zero, List.set_cons_succ]
      refine oneR 1 (by kernel_rfl) (by kernel_rfl) (fun o ho K' hK => ?_)
      obtain rfl := Option.some.inj ho
      clear ho
      go_simp
      have HH24 := Lib.hid hHeld
      refine (seq200 _ _ HI23.out (HP.out _ hHeld)).mono ?_
      rintro e V24 ⟨v24, rfl, ho2, hb2⟩
      obtain ⟨p24, c24, hv⟩ := ho2.slice
      subst hv
      have HS24 := Lib.hid ho2.bs.2
      have HC24 := Lib.hid ho2.capz
      have HG24 := Lib.hid (below_on hHeld hb2)
      have HF24 := Lib.hid (HF23.out.on hb2)
      clear hb2 ho2 hHeld
      go_wp2_with fail
      refine hK.out _ _ (HG24.out) (fun hHeld => ?_)
      clear hK K'
      try simp only [Act.put, List.setIfInBounds_toArray, List.set_cons_zero, List.set_cons_succ]
      have HVX := Lib.hid hHeld
      refine oneR 6 (by kernel_rfl) (by kernel_rfl) (fun o ho K' hK => ?_)
      obtain rfl := Option.some.inj ho
      clear ho
      go_simp
      refine hK.out _ _ (below_on hHeld (below_mk _ _)) (fun hHeld => ?_)
      clear hK K'
      try simp only [Act.put, List.setIfInBounds_toArray, List.set_cons_zero, List.set_cons_succ]
      refine oneR 7 (by kernel_rfl) (by kernel_rfl) (fun o ho K' hK => ?_)
      obtain rfl := Option.some.inj ho
      clear ho
      go_simp
      refine (HJ3.out _ _ _ _ HS24.out HC24.out (HD.out _ HVX.out) HF24.out _ rfl).mono ?_
      rintro e V9 ⟨v9, rfl, ho9, hb9⟩
      have HV9 := Lib.hid (below_on hHeld hb9)
      have HE := Lib.hid (own_low ho9 (below_on HB.out HV9.out) (by have h1 := HB.out.size; have h2 := HVX.out.size; simp at h2 ⊢; omega))
      clear ho9 hb9 hHeld
      go_wp2_with fail
      refine hK.out _ _ (HV9.out) (fun hHeld => ?_)
      clear hK K'
      try simp only [Act.put, List.setIfInBounds_toArray, List.set_cons_zero, List.set_cons_succ]
      refine takeR 8 4 (v9) (by kernel_rfl) (by kernel_rfl) (by kernel_rfl) (by kernel_rfl) (fun _ _ _ h => h) (by kernel_rfl) (fun w o hSw ho => ?_) hHeld ?_
      · obtain rfl := Option.some.inj ho; go_simp
      simp only [Act.put, List.setIfInBounds_toArray, List.set_cons_zero, List.set_cons_succ]
      refine wpAnyH_done (by kernel_rfl) ?_ _
      refine NoPanic.normal ?_
      go_wp2_with fail
      go_ret
      exact HE.out

end Go.Proofs.YtjopjddhgaiddabGreatDoor

/- The program's encoder: inputOf, EncodeKey, EncodeMouse, EncodeEvent. (Written by wip/gen_encx.py.) -/
namespace Go.Proofs.YtjopjddhgaiddabGreatDoor
open Go.RowKit
set_option linter.unusedVariables false
set_option linter.unusedSimpArgs false

theorem fault_parts {e : Ev} (h : e.fault = 0) : e.form = true ∧ e.nums = true ∧ e.fits = true := by
  unfold Ev.fault at h
  split at h
  · cases h
  split at h
  · cases h
  split at h
  · cases h
  · rename_i h1 h2 h3
    exact ⟨by simpa using h1, by simpa using h2, by simpa using h3⟩
theorem fault_kind {e : Ev} (h : e.fault = 0) : e.kind = 1 ∨ e.kind = 2 ∨ e.kind = 3 ∨ e.kind = 4 := by
  have := (fault_parts h).1
  unfold Ev.form at this
  split at this
  · exact .inl (by assumption)
  split at this
  · exact .inr (.inl (by assumption))
  split at this
  · rename_i hh
    rcases hh with hh | hh
    · exact .inr (.inr (.inl hh))
    · exact .inr (.inr (.inr hh))
  · cases this
theorem fault_key {e : Ev} (h : e.fault = 0) (hk : e.kind = 1) : keyCode e.code = true ∧ 0 ≤ e.mods ∧ e.mods ≤ 7 := by
  have := (fault_parts h).2.1
  unfold Ev.nums at this
  rw [if_pos hk] at this
  simp [inR] at this
  exact this
theorem fault_mouse {e : Ev} (h : e.fault = 0) (hk : e.kind = 2) : MouseOk e := by
  have := (fault_parts h).2.1
  unfold Ev.nums at this
  rw [if_neg (by omega), if_pos hk] at this
  simp [inR] at this
  obtain ⟨⟨b0, b1⟩, ⟨a0, a1⟩, ⟨m0, m1⟩, ⟨x0, x1⟩, y0, y1⟩ := this
  exact ⟨b0, b1, a0, a1, m0, m1, x0, x1, y0, y1⟩
theorem fault_len {e : Ev} (h : e.fault = 0) (hk : e.kind = 3 ∨ e.kind = 4) : 1 ≤ e.data.length ∧ e.data.length ≤ 32 := by
  have := (fault_parts h).2.2
  unfold Ev.fits at this
  rcases hk with hk | hk
  · rw [if_pos hk] at this
    simp [inR] at this
    omega
  · rw [if_neg (by omega), if_pos hk] at this
    simp [inR] at this
    omega
theorem ask_fault {md : Md} {e : Ev} {k : Int} (h : faultE md e ≠ 0) : askE md e k = faultE md e := by
  unfold faultE at *
  unfold askE
  split
  · rfl
  · rename_i hm
    rw [if_neg hm] at h
    rw [if_pos h]
theorem fault_zero {md : Md} {e : Ev} (h : faultE md e = 0) : md.fault = 0 ∧ e.fault = 0 := by
  unfold faultE at h
  split at h
  · rename_i hm; exact absurd h hm
  · rename_i hm; exact ⟨by simpa using hm, h⟩
theorem ask_kind {md : Md} {e : Ev} {k : Int} (h : faultE md e = 0) : askE md e k = if e.kind ≠ k then 1 else 0 := by
  obtain ⟨h1, h2⟩ := fault_zero h
  unfold askE
  rw [if_neg (by simp [h1]), if_neg (by simp [h2])]

set_option maxRecDepth 100000 in
set_option maxHeartbeats 1000000 in
theorem inputOf_1 (code mods button act col row : Int) (data : List UInt8) (p : Option Addr) (c : Nat) (w : World) :
    Calls Tryz.prog 29 #[.agg #[.int .i64 1, .int .i64 code, .int .i64 mods, .int .i64 button, .int .i64 act, .int .i64 col, .int .i64 row, .slice p data.length c]] w fun en w' => en = .returned (.iface 66 (.agg #[.int .i64 code, .int .i64 mods])) ∧ Below w.heap.size w w' := by
  have hmi : ∀ v w, (Instr.makeInterface 66 v).run Tryz.prog w = .ok (.iface 66 v) w := by intros; kernel_rfl
  go_enter Tryz.func29, Tryz.ntmps29
  go_wp2
  go_ret
  exact ⟨rfl, below_mk _ _⟩

set_option maxRecDepth 100000 in
set_option maxHeartbeats 1000000 in
theorem inputOf_2 (code mods button act col row : Int) (data : List UInt8) (p : Option Addr) (c : Nat) (w : World) :
    Calls Tryz.prog 29 #[.agg #[.int .i64 2, .int .i64 code, .int .i64 mods, .int .i64 button, .int .i64 act, .int .i64 col, .int .i64 row, .slice p data.length c]] w fun en w' => en = .returned (.iface 69 (.agg #[.int .i64 button, .int .i64 act, .int .i64 mods, .int .i64 col, .int .i64 row])) ∧ Below w.heap.size w w' := by
  have hmi : ∀ v w, (Instr.makeInterface 69 v).run Tryz.prog w = .ok (.iface 69 v) w := by intros; kernel_rfl
  go_enter Tryz.func29, Tryz.ntmps29
  go_wp2
  go_ret
  exact ⟨rfl, below_mk _ _⟩

set_option maxRecDepth 100000 in
set_option maxHeartbeats 1000000 in
theorem inputOf_3 (code mods button act col row : Int) (data : List UInt8) (p : Option Addr) (c : Nat) (w : World) :
    Calls Tryz.prog 29 #[.agg #[.int .i64 3, .int .i64 code, .int .i64 mods, .int .i64 button, .int .i64 act, .int .i64 col, .int .i64 row, .slice p data.length c]] w fun en w' => en = .returned (.iface 72 (.agg #[.slice p data.length c])) ∧ Below w.heap.size w w' := by
  have hmi : ∀ v w, (Instr.makeInterface 72 v).run Tryz.prog w = .ok (.iface 72 v) w := by intros; kernel_rfl
  go_enter Tryz.func29, Tryz.ntmps29
  go_wp2
  go_ret
  exact ⟨rfl, below_mk _ _⟩

set_option maxRecDepth 100000 in
set_option maxHeartbeats 1000000 in
theorem inputOf_4 (code mods button act col row : Int) (data : List UInt8) (p : Option Addr) (c : Nat) (w : World) :
    Calls Tryz.prog 29 #[.agg #[.int .i64 4, .int .i64 code, .int .i64 mods, .int .i64 button, .int .i64 act, .int .i64 col, .int .i64 row, .slice p data.length c]] w fun en w' => en = .returned (.iface 74 (.agg #[.slice p data.length c])) ∧ Below w.heap.size w w' := by
  have hmi : ∀ v w, (Instr.makeInterface 74 v).run Tryz.prog w = .ok (.iface 74 v) w := by intros; kernel_rfl
  go_enter Tryz.func29, Tryz.ntmps29
  go_wp2
  go_ret
  exact ⟨rfl, below_mk _ _⟩

/-- the three blocks at a call's beginning: modes, event, result -/
structure Three (w : World) (g : Nat) (ms es rs : List Value) : Prop where
  m : AtL w g ms
  e : AtL w (g + 1) es
  r : AtM w (g + 1 + 1) rs
theorem Three.on {w w' : World} {g : Nat} {ms es rs : List Value} (h : Three w g ms es rs) (hb : Below w.heap.size w w') : Three w' g ms es rs := ⟨h.m.on hb, h.e.on hb, h.r.on hb⟩
theorem AtM3 (w : World) (ms : Array Value) (t1 : TypeId) (es : Array Value) (t2 : TypeId) (rs : List Value) (t3 : TypeId) : Three (((w.alloc (.cells ms t1)).alloc (.cells es t2)).alloc (.cells rs.toArray t3)) w.heap.size ms.toList es.toList rs := by
  refine ⟨((AtL.new w ms.toList t1).on (below_mk _ _)).on (below_mk _ _), ?_, atm_three w _ _ rs t3⟩
  have h := (AtL.new (w.alloc (.cells ms t1)) es.toList t2).on (below_mk _ (.cells rs.toArray t3))
  rwa [World.size_alloc] at h
/-- a code alone -/
theorem br_bare {w w1 : World} {g : Nat} {code : Int} {u1 u2 : Value} (hg : w.heap.size ≤ g) (hb : Below w.heap.size w w1) : NewBr w code [] (.returned (brV code (.slice none 0 0))) ((w1.setCell ⟨g, 0, none⟩ u1).setCell ⟨g, 1, none⟩ u2) :=
  ⟨_, rfl, own_nil _ _, (hb.setCell hg _).setCell hg _⟩











set_option maxRecDepth 100000 in
set_option maxHeartbeats 2000000 in
theorem EncodeEvent_bad (cu co : Bool) (mo : Int) (sg pa : Bool) (kind code mods button act col row : Int) (data : List UInt8) (p : Option Addr) (c : Nat) (w : World) (k : Int) (hk : ¬ k = 0) (HF : Hid (∀ W, Calls Tryz.prog 28 #[.agg #[.bool cu, .bool co, .int .i64 mo, .bool sg, .bool pa], .agg #[.int .i64 kind, .int .i64 code, .int .i64 mods, .int .i64 button, .int .i64 act, .int .i64 col, .int .i64 row, .slice p data.length c]] W fun en w' => en = .returned (.int .i64 k) ∧ Below W.heap.size W w')) :
    Calls Tryz.prog 16 #[.agg #[.bool cu, .bool co, .int .i64 mo, .bool sg, .bool pa], .agg #[.int .i64 kind, .int .i64 code, .int .i64 mods, .int .i64 button, .int .i64 act, .int .i64 col, .int .i64 row, .slice p data.length c]] w (NewBr w k []) := by
  go_enter Tryz.func16, Tryz.ntmps16
  go_wp2_with fail
  refine (HF.out _).mono ?_
  rintro en w1 ⟨rfl, hb⟩
  have hm := (AtM3 w #[.bool cu, .bool co, .int .i64 mo, .bool sg, .bool pa] 29 (#[.int .i64 kind, .int .i64 code, .int .i64 mods, .int .i64 button, .int .i64 act, .int .i64 col, .int .i64 row, .slice p data.length c]) 31 [.int .i64 0, .slice none 0 0] 37).on hb
  have HM := Lib.hid hm
  have HB := Lib.hid (below_on (below_three w _ _ _) hb)
  clear hb hm
  obtain ⟨m0, m1, m2, m3, m4⟩ := HM.out.m.five
  obtain ⟨z0, z1, z2, z3, z4, z5, z6, z7⟩ := AtL.eightE HM.out.e
  have q0 := HM.out.r.cells.get 0 rfl
  have q1 := HM.out.r.cells.get 1 rfl
  have hf := HM.out.r.free
  go_wp2_with fail
  exact bodyPost_ret (v := brV k (.slice none 0 0)) (by simp [results, Tryz.results16, brV, go_sem, q0, q1]) rfl (br_bare (by omega) HB.out)

set_option maxRecDepth 100000 in
set_option maxHeartbeats 2000000 in
theorem EncodeEvent_1 (cu co : Bool) (mo : Int) (sg pa : Bool) (code mods button act col row : Int) (data : List UInt8) (p : Option Addr) (c : Nat) (w : World) (HF : Hid (∀ W, Calls Tryz.prog 28 #[.agg #[.bool cu, .bool co, .int .i64 mo, .bool sg, .bool pa], .agg #[.int .i64 1, .int .i64 code, .int .i64 mods, .int .i64 button, .int .i64 act, .int .i64 col, .int .i64 row, .slice p data.length c]] W fun en w' => en = .returned (.int .i64 0) ∧ Below W.heap.size W w')) (L : List UInt8) (HX : Hid (∀ W, Below w.heap.size w W → Calls Tryz.prog 30 #[.agg #[.bool cu, .bool co, .int .i64 mo, .bool sg, .bool pa], .agg #[.int .i64 code, .int .i64 mods]] W (NewOwn W L))) :
    Calls Tryz.prog 16 #[.agg #[.bool cu, .bool co, .int .i64 mo, .bool sg, .bool pa], .agg #[.int .i64 1, .int .i64 code, .int .i64 mods, .int .i64 button, .int .i64 act, .int .i64 col, .int .i64 row, .slice p data.length c]] w (NewBr w 0 L) := by
  have hta1 : ∀ v w, (Instr.typeAssert (.iface 66 v) 63 66 true).run Tryz.prog w = .ok (.tuple #[v, .bool true]) w := by intros; kernel_rfl
  go_enter Tryz.func16, Tryz.ntmps16
  go_wp2_with fail
  refine (HF.out _).mono ?_
  rintro en w1 ⟨rfl, hb⟩
  have hm := (AtM3 w #[.bool cu, .bool co, .int .i64 mo, .bool sg, .bool pa] 29 (#[.int .i64 1, .int .i64 code, .int .i64 mods, .int .i64 button, .int .i64 act, .int .i64 col, .int .i64 row, .slice p data.length c]) 31 [.int .i64 0, .slice none 0 0] 37).on hb
  have HM := Lib.hid hm
  have HB := Lib.hid (below_on (below_three w _ _ _) hb)
  clear hb hm
  obtain ⟨m0, m1, m2, m3, m4⟩ := HM.out.m.five
  obtain ⟨z0, z1, z2, z3, z4, z5, z6, z7⟩ := AtL.eightE HM.out.e
  have q0 := HM.out.r.cells.get 0 rfl
  have q1 := HM.out.r.cells.get 1 rfl
  have hf := HM.out.r.free
  go_wp2_with fail
  refine (inputOf_1 code mods button act col row data p c _).mono ?_
  rintro en w2 ⟨rfl, hb⟩
  have HM2 := Lib.hid (HM.out.on hb)
  have HB2 := Lib.hid (below_on HB.out hb)
  clear hb HM HB
  clear m0 m1 m2 m3 m4 z0 z1 z2 z3 z4 z5 z6 z7 q0 q1 hf
  have HM3 := Lib.hid (HM2.out.on (below_mk w2 (.cells #[.int .i64 code, .int .i64 mods] 66)))
  have HB3 := Lib.hid (below_on HB2.out (below_mk w2 (.cells #[.int .i64 code, .int .i64 mods] 66)))
  obtain ⟨m0, m1, m2, m3, m4⟩ := HM3.out.m.five
  obtain ⟨z0, z1, z2, z3, z4, z5, z6, z7⟩ := AtL.eightE HM3.out.e
  have q0 := HM3.out.r.cells.get 0 rfl
  have q1 := HM3.out.r.cells.get 1 rfl
  have hf := HM3.out.r.free
  go_wp2_with fail
  refine (HX.out _ HB3.out).mono ?_
  rintro en w4 ⟨v, rfl, ho, hb⟩
  obtain ⟨p4, c4, hv⟩ := ho.slice
  subst hv
  have HM4 := Lib.hid (HM3.out.on hb)
  have HB4 := Lib.hid (below_on HB3.out hb)
  have HE : Hid (∀ u1 u2, NewBr w 0 L (.returned (brV 0 (.slice p4 L.length c4))) ((w4.setCell ⟨w.heap.size + 1 + 1, 0, none⟩ u1).setCell ⟨w.heap.size + 1 + 1, 1, none⟩ u2)) := fun u1 u2 => br_endg ho HM3.out.r.cells.1 (by omega) HB4.out
  clear hb ho
  clear m0 m1 m2 m3 m4 z0 z1 z2 z3 z4 z5 z6 z7 q0 q1 hf
  have q0 := HM4.out.r.cells.get 0 rfl
  have q1 := HM4.out.r.cells.get 1 rfl
  have hf := HM4.out.r.free
  go_wp2_with fail
  exact bodyPost_ret (v := brV 0 (.slice p4 L.length c4)) (by simp [results, Tryz.results16, brV, go_sem, q0, q1]) rfl (HE.out _ _)

set_option maxRecDepth 100000 in
set_option maxHeartbeats 2000000 in
theorem EncodeEvent_2 (cu co : Bool) (mo : Int) (sg pa : Bool) (code mods button act col row : Int) (data : List UInt8) (p : Option Addr) (c : Nat) (w : World) (HF : Hid (∀ W, Calls Tryz.prog 28 #[.agg #[.bool cu, .bool co, .int .i64 mo, .bool sg, .bool pa], .agg #[.int .i64 2, .int .i64 code, .int .i64 mods, .int .i64 button, .int .i64 act, .int .i64 col, .int .i64 row, .slice p data.length c]] W fun en w' => en = .returned (.int .i64 0) ∧ Below W.heap.size W w')) (r : Int) (L : List UInt8) (HX : Hid (∀ W, Below w.heap.size w W → Calls Tryz.prog 31 #[.agg #[.bool cu, .bool co, .int .i64 mo, .bool sg, .bool pa], .agg #[.int .i64 button, .int .i64 act, .int .i64 mods, .int .i64 col, .int .i64 row]] W (NewBr W r L))) :
    Calls Tryz.prog 16 #[.agg #[.bool cu, .bool co, .int .i64 mo, .bool sg, .bool pa], .agg #[.int .i64 2, .int .i64 code, .int .i64 mods, .int .i64 button, .int .i64 act, .int .i64 col, .int .i64 row, .slice p data.length c]] w (NewBr w r L) := by
  have hta1 : ∀ v w, (Instr.typeAssert (.iface 69 v) 63 66 true).run Tryz.prog w = .ok (.tuple #[.agg #[.int .i64 0, .int .i64 0], .bool false]) w := by intros; kernel_rfl
  have hta2 : ∀ v w, (Instr.typeAssert (.iface 69 v) 63 69 true).run Tryz.prog w = .ok (.tuple #[v, .bool true]) w := by intros; kernel_rfl
  go_enter Tryz.func16, Tryz.ntmps16
  go_wp2_with fail
  refine (HF.out _).mono ?_
  rintro en w1 ⟨rfl, hb⟩
  have hm := (AtM3 w #[.bool cu, .bool co, .int .i64 mo, .bool sg, .bool pa] 29 (#[.int .i64 2, .int .i64 code, .int .i64 mods, .int .i64 button, .int .i64 act, .int .i64 col, .int .i64 row, .slice p data.length c]) 31 [.int .i64 0, .slice none 0 0] 37).on hb
  have HM := Lib.hid hm
  have HB := Lib.hid (below_on (below_three w _ _ _) hb)
  clear hb hm
  obtain ⟨m0, m1, m2, m3, m4⟩ := HM.out.m.five
  obtain ⟨z0, z1, z2, z3, z4, z5, z6, z7⟩ := AtL.eightE HM.out.e
  have q0 := HM.out.r.cells.get 0 rfl
  have q1 := HM.out.r.cells.get 1 rfl
  have hf := HM.out.r.free
  go_wp2_with fail
  refine (inputOf_2 code mods button act col row data p c _).mono ?_
  rintro en w2 ⟨rfl, hb⟩
  have HM2 := Lib.hid (HM.out.on hb)
  have HB2 := Lib.hid (below_on HB.out hb)
  clear hb HM HB
  clear m0 m1 m2 m3 m4 z0 z1 z2 z3 z4 z5 z6 z7 q0 q1 hf
  have HM3 := Lib.hid (HM2.out.on (below_mk w2 (.cells #[.int .i64 button, .int .i64 act, .int .i64 mods, .int .i64 col, .int .i64 row] 69)))
  have HB3 := Lib.hid (below_on HB2.out (below_mk w2 (.cells #[.int .i64 button, .int .i64 act, .int .i64 mods, .int .i64 col, .int .i64 row] 69)))
  obtain ⟨m0, m1, m2, m3, m4⟩ := HM3.out.m.five
  obtain ⟨z0, z1, z2, z3, z4, z5, z6, z7⟩ := AtL.eightE HM3.out.e
  have q0 := HM3.out.r.cells.get 0 rfl
  have q1 := HM3.out.r.cells.get 1 rfl
  have hf := HM3.out.r.free
  go_wp2_with fail
  refine (HX.out _ HB3.out).mono ?_
  rintro en w4 ⟨v, rfl, ho, hb⟩
  obtain ⟨p4, c4, hv⟩ := ho.slice
  subst hv
  have HM4 := Lib.hid (HM3.out.on hb)
  have HB4 := Lib.hid (below_on HB3.out hb)
  unfold brV
  have HE : Hid (∀ u1 u2, NewBr w r L (.returned (brV r (.slice p4 L.length c4))) ((w4.setCell ⟨w.heap.size + 1 + 1, 0, none⟩ u1).setCell ⟨w.heap.size + 1 + 1, 1, none⟩ u2)) := fun u1 u2 => br_endg ho HM3.out.r.cells.1 (by omega) HB4.out
  clear hb ho
  clear m0 m1 m2 m3 m4 z0 z1 z2 z3 z4 z5 z6 z7 q0 q1 hf
  have q0 := HM4.out.r.cells.get 0 rfl
  have q1 := HM4.out.r.cells.get 1 rfl
  have hf := HM4.out.r.free
  go_wp2_with fail
  exact bodyPost_ret (v := brV r (.slice p4 L.length c4)) (by simp [results, Tryz.results16, brV, go_sem, q0, q1]) rfl (HE.out _ _)

set_option maxRecDepth 100000 in
set_option maxHeartbeats 2000000 in
theorem EncodeEvent_3 (cu co : Bool) (mo : Int) (sg pa : Bool) (code mods button act col row : Int) (data : List UInt8) (p : Option Addr) (c : Nat) (w : World) (HF : Hid (∀ W, Calls Tryz.prog 28 #[.agg #[.bool cu, .bool co, .int .i64 mo, .bool sg, .bool pa], .agg #[.int .i64 3, .int .i64 code, .int .i64 mods, .int .i64 button, .int .i64 act, .int .i64 col, .int .i64 row, .slice p data.length c]] W fun en w' => en = .returned (.int .i64 0) ∧ Below W.heap.size W w')) (L : List UInt8) (HX : Hid (∀ W, Below w.heap.size w W → Calls Tryz.prog 32 #[.agg #[.bool cu, .bool co, .int .i64 mo, .bool sg, .bool pa], .agg #[.slice p data.length c]] W (NewOwn W L))) :
    Calls Tryz.prog 16 #[.agg #[.bool cu, .bool co, .int .i64 mo, .bool sg, .bool pa], .agg #[.int .i64 3, .int .i64 code, .int .i64 mods, .int .i64 button, .int .i64 act, .int .i64 col, .int .i64 row, .slice p data.length c]] w (NewBr w 0 L) := by
  have hta1 : ∀ v w, (Instr.typeAssert (.iface 72 v) 63 66 true).run Tryz.prog w = .ok (.tuple #[.agg #[.int .i64 0, .int .i64 0], .bool false]) w := by intros; kernel_rfl
  have hta2 : ∀ v w, (Instr.typeAssert (.iface 72 v) 63 69 true).run Tryz.prog w = .ok (.tuple #[.agg #[.int .i64 0, .int .i64 0, .int .i64 0, .int .i64 0, .int .i64 0], .bool false]) w := by intros; kernel_rfl
  have hta3 : ∀ v w, (Instr.typeAssert (.iface 72 v) 63 72 true).run Tryz.prog w = .ok (.tuple #[v, .bool true]) w := by intros; kernel_rfl
  go_enter Tryz.func16, Tryz.ntmps16
  go_wp2_with fail
  refine (HF.out _).mono ?_
  rintro en w1 ⟨rfl, hb⟩
  have hm := (AtM3 w #[.bool cu, .bool co, .int .i64 mo, .bool sg, .bool pa] 29 (#[.int .i64 3, .int .i64 code, .int .i64 mods, .int .i64 button, .int .i64 act, .int .i64 col, .int .i64 row, .slice p data.length c]) 31 [.int .i64 0, .slice none 0 0] 37).on hb
  have HM := Lib.hid hm
  have HB := Lib.hid (below_on (below_three w _ _ _) hb)
  clear hb hm
  obtain ⟨m0, m1, m2, m3, m4⟩ := HM.out.m.five
  obtain ⟨z0, z1, z2, z3, z4, z5, z6, z7⟩ := AtL.eightE HM.out.e
  have q0 := HM.out.r.cells.get 0 rfl
  have q1 := HM.out.r.cells.get 1 rfl
  have hf := HM.out.r.free
  go_wp2_with fail
  refine (inputOf_3 code mods button act col row data p c _).mono ?_
  rintro en w2 ⟨rfl, hb⟩
  have HM2 := Lib.hid (HM.out.on hb)
  have HB2 := Lib.hid (below_on HB.out hb)
  clear hb HM HB
  clear m0 m1 m2 m3 m4 z0 z1 z2 z3 z4 z5 z6 z7 q0 q1 hf
  have HM3 := Lib.hid (HM2.out.on (below_mk w2 (.cells #[.slice p data.length c] 72)))
  have HB3 := Lib.hid (below_on HB2.out (below_mk w2 (.cells #[.slice p data.length c] 72)))
  obtain ⟨m0, m1, m2, m3, m4⟩ := HM3.out.m.five
  obtain ⟨z0, z1, z2, z3, z4, z5, z6, z7⟩ := AtL.eightE HM3.out.e
  have q0 := HM3.out.r.cells.get 0 rfl
  have q1 := HM3.out.r.cells.get 1 rfl
  have hf := HM3.out.r.free
  go_wp2_with fail
  refine (HX.out _ HB3.out).mono ?_
  rintro en w4 ⟨v, rfl, ho, hb⟩
  obtain ⟨p4, c4, hv⟩ := ho.slice
  subst hv
  have HM4 := Lib.hid (HM3.out.on hb)
  have HB4 := Lib.hid (below_on HB3.out hb)
  have HE : Hid (∀ u1 u2, NewBr w 0 L (.returned (brV 0 (.slice p4 L.length c4))) ((w4.setCell ⟨w.heap.size + 1 + 1, 0, none⟩ u1).setCell ⟨w.heap.size + 1 + 1, 1, none⟩ u2)) := fun u1 u2 => br_endg ho HM3.out.r.cells.1 (by omega) HB4.out
  clear hb ho
  clear m0 m1 m2 m3 m4 z0 z1 z2 z3 z4 z5 z6 z7 q0 q1 hf
  have q0 := HM4.out.r.cells.get 0 rfl
  have q1 := HM4.out.r.cells.get 1 rfl
  have hf := HM4.out.r.free
  go_wp2_with fail
  exact bodyPost_ret (v := brV 0 (.slice p4 L.length c4)) (by simp [results, Tryz.results16, brV, go_sem, q0, q1]) rfl (HE.out _ _)

set_option maxRecDepth 100000 in
set_option maxHeartbeats 2000000 in
theorem EncodeEvent_4 (cu co : Bool) (mo : Int) (sg pa : Bool) (code mods button act col row : Int) (data : List UInt8) (p : Option Addr) (c : Nat) (w : World) (HF : Hid (∀ W, Calls Tryz.prog 28 #[.agg #[.bool cu, .bool co, .int .i64 mo, .bool sg, .bool pa], .agg #[.int .i64 4, .int .i64 code, .int .i64 mods, .int .i64 button, .int .i64 act, .int .i64 col, .int .i64 row, .slice p data.length c]] W fun en w' => en = .returned (.int .i64 0) ∧ Below W.heap.size W w')) (hd : Bs w w.heap.size p data) (hp : p = none → c = 0) (hl : data.length ≤ 1000) :
    Calls Tryz.prog 16 #[.agg #[.bool cu, .bool co, .int .i64 mo, .bool sg, .bool pa], .agg #[.int .i64 4, .int .i64 code, .int .i64 mods, .int .i64 button, .int .i64 act, .int .i64 col, .int .i64 row, .slice p data.length c]] w (NewBr w 0 data) := by
  have hta1 : ∀ v w, (Instr.typeAssert (.iface 74 v) 63 66 true).run Tryz.prog w = .ok (.tuple #[.agg #[.int .i64 0, .int .i64 0], .bool false]) w := by intros; kernel_rfl
  have hta2 : ∀ v w, (Instr.typeAssert (.iface 74 v) 63 69 true).run Tryz.prog w = .ok (.tuple #[.agg #[.int .i64 0, .int .i64 0, .int .i64 0, .int .i64 0, .int .i64 0], .bool false]) w := by intros; kernel_rfl
  have hta3 : ∀ v w, (Instr.typeAssert (.iface 74 v) 63 72 true).run Tryz.prog w = .ok (.tuple #[.agg #[.slice none 0 0], .bool false]) w := by intros; kernel_rfl
  have hta4 : ∀ v w, (Instr.typeAssert (.iface 74 v) 63 74 true).run Tryz.prog w = .ok (.tuple #[v, .bool true]) w := by intros; kernel_rfl
  have HD := Lib.hid hd
  clear hd
  go_enter Tryz.func16, Tryz.ntmps16
  go_wp2_with fail
  refine (HF.out _).mono ?_
  rintro en w1 ⟨rfl, hb⟩
  have hm := (AtM3 w #[.bool cu, .bool co, .int .i64 mo, .bool sg, .bool pa] 29 (#[.int .i64 4, .int .i64 code, .int .i64 mods, .int .i64 button, .int .i64 act, .int .i64 col, .int .i64 row, .slice p data.length c]) 31 [.int .i64 0, .slice none 0 0] 37).on hb
  have HM := Lib.hid hm
  have HB := Lib.hid (below_on (below_three w _ _ _) hb)
  clear hb hm
  obtain ⟨m0, m1, m2, m3, m4⟩ := HM.out.m.five
  obtain ⟨z0, z1, z2, z3, z4, z5, z6, z7⟩ := AtL.eightE HM.out.e
  have q0 := HM.out.r.cells.get 0 rfl
  have q1 := HM.out.r.cells.get 1 rfl
  have hf := HM.out.r.free
  go_wp2_with fail
  refine (inputOf_4 code mods button act col row data p c _).mono ?_
  rintro en w2 ⟨rfl, hb⟩
  have HM2 := Lib.hid (HM.out.on hb)
  have HB2 := Lib.hid (below_on HB.out hb)
  clear hb HM HB
  clear m0 m1 m2 m3 m4 z0 z1 z2 z3 z4 z5 z6 z7 q0 q1 hf
  have HM3 := Lib.hid (HM2.out.on (below_mk w2 (.cells #[.slice p data.length c] 74)))
  have HB3 := Lib.hid (below_on HB2.out (below_mk w2 (.cells #[.slice p data.length c] 74)))
  obtain ⟨m0, m1, m2, m3, m4⟩ := HM3.out.m.five
  obtain ⟨z0, z1, z2, z3, z4, z5, z6, z7⟩ := AtL.eightE HM3.out.e
  have q0 := HM3.out.r.cells.get 0 rfl
  have q1 := HM3.out.r.cells.get 1 rfl
  have hf := HM3.out.r.free
  go_wp2_with fail
  refine (joined_one p c 1 data _ 24 (HD.out.on HB3.out) hp (by omega) _ (by simp)).mono ?_
  rintro en w4 ⟨v, rfl, ho, hb⟩
  obtain ⟨p4, c4, hv⟩ := ho.slice
  subst hv
  have HM4 := Lib.hid ((HM3.out.on (below_mk _ _)).on hb)
  have HB4 := Lib.hid (below_on (below_on HB3.out (below_mk _ _)) hb)
  have HE : Hid (∀ u1 u2, NewBr w 0 data (.returned (brV 0 (.slice p4 data.length c4))) ((w4.setCell ⟨w.heap.size + 1 + 1, 0, none⟩ u1).setCell ⟨w.heap.size + 1 + 1, 1, none⟩ u2)) := fun u1 u2 => br_endg ho (by have h1 := HM3.out.r.cells.1; simp at h1 ⊢; omega) (by omega) HB4.out
  clear hb ho
  clear m0 m1 m2 m3 m4 z0 z1 z2 z3 z4 z5 z6 z7 q0 q1 hf
  have q0 := HM4.out.r.cells.get 0 rfl
  have q1 := HM4.out.r.cells.get 1 rfl
  have hf := HM4.out.r.free
  go_wp2_with fail
  exact bodyPost_ret (v := brV 0 (.slice p4 data.length c4)) (by simp [results, Tryz.results16, brV, go_sem, q0, q1]) rfl (HE.out _ _)

theorem faultE_calls (md : Md) (e : Ev) (p : Option Addr) (c : Nat) (k : Int) (h : faultE md e = k) : Hid (∀ W, Calls Tryz.prog 28 #[mdV md, evV e p c] W fun en w' => en = .returned (.int .i64 k) ∧ Below W.heap.size W w') := fun W => by
  rw [← h]
  exact encodeFault_any md e p c W





theorem encEvent_bad {md : Md} {e : Ev} (hf : faultE md e ≠ 0) : encEvent md e = (faultE md e, []) := by
  have hk := ask_fault (k := e.kind) hf
  unfold encEvent
  rw [hk, if_pos hf]
theorem encEvent_good {md : Md} {e : Ev} (hf : faultE md e = 0) : encEvent md e = if e.kind = 1 then (0, keyE md e.code e.mods) else if e.kind = 2 then mouseR md e else if e.kind = 3 then (0, pasteE md e.data) else (0, e.data) := by
  have hk := ask_kind (k := e.kind) hf
  rw [if_neg (by simp)] at hk
  unfold encEvent
  rw [hk, if_neg (by simp)]
  split
  · rename_i h1
    unfold encKey
    rw [ask_kind hf, if_neg (by simp [h1])]
  split
  · rename_i h1
    unfold encMouse mouseR
    rw [ask_kind hf, if_neg (by simp [h1])]
  · rfl

theorem implEncodeEvent_any (md : Md) (e : Ev) (p : Option Addr) (c : Nat) (w : World) (hT : Pow w) (hd : Bs w w.heap.size p e.data) (hp : p = none → c = 0) : Calls Tryz.prog 16 #[mdV md, evV e p c] w (NewBr w (encEvent md e).1 (encEvent md e).2) := by
  by_cases hf : faultE md e = 0
  · rw [encEvent_good hf]
    have he := (fault_zero hf).2
    have HF := faultE_calls md e p c 0 hf
    rcases fault_kind he with h1 | h1 | h1 | h1
    · rw [if_pos h1]
      obtain ⟨g1, g2, g3⟩ := fault_key he h1
      obtain ⟨cu, co, mo, sg, pa⟩ := md
      obtain ⟨kind, code, mods, button, act, col, row, data⟩ := e
      dsimp only at *
      subst h1
      exact EncodeEvent_1 cu co mo sg pa code mods button act col row data p c w HF _ (Lib.hid fun W hb => keyBytes_any ⟨cu, co, mo, sg, pa⟩ code mods W (hT.on hb) g1 g2 g3)
    · rw [if_neg (by omega), if_pos h1]
      have g := fault_mouse he h1
      have HX := Lib.hid (fun W (hb : Below w.heap.size w W) => mouseResult_any md e W (hT.on hb) g)
      generalize mouseR md e = r at *
      clear g
      obtain ⟨cu, co, mo, sg, pa⟩ := md
      obtain ⟨kind, code, mods, button, act, col, row, data⟩ := e
      dsimp only at *
      subst h1
      exact EncodeEvent_2 cu co mo sg pa code mods button act col row data p c w HF _ _ HX
    · rw [if_neg (by omega), if_neg (by omega), if_pos h1]
      have hl := (fault_len he (.inl h1)).2
      obtain ⟨cu, co, mo, sg, pa⟩ := md
      obtain ⟨kind, code, mods, button, act, col, row, data⟩ := e
      dsimp only at *
      subst h1
      cases pa
      · exact EncodeEvent_3 cu co mo sg false code mods button act col row data p c w HF _ (Lib.hid fun W hb => pasteBytes_off cu co sg mo p c data W (hd.on hb) hp (by omega))
      · exact EncodeEvent_3 cu co mo sg true code mods button act col row data p c w HF _ (Lib.hid fun W hb => pasteBytes_on cu co sg mo p c data W (hT.on hb) (hd.on hb) hp (by omega))
    · rw [if_neg (by omega), if_neg (by omega), if_neg (by omega)]
      have hl := (fault_len he (.inr h1)).2
      obtain ⟨cu, co, mo, sg, pa⟩ := md
      obtain ⟨kind, code, mods, button, act, col, row, data⟩ := e
      dsimp only at *
      subst h1
      exact EncodeEvent_4 cu co mo sg pa code mods button act col row data p c w HF hd hp (by omega)
  · rw [encEvent_bad hf]
    have HF := faultE_calls md e p c _ rfl
    generalize faultE md e = k at *
    obtain ⟨cu, co, mo, sg, pa⟩ := md
    obtain ⟨kind, code, mods, button, act, col, row, data⟩ := e
    exact EncodeEvent_bad cu co mo sg pa kind code mods button act col row data p c w k hf HF

end Go.Proofs.YtjopjddhgaiddabGreatDoor
