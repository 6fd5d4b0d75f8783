/- What the laws over the encoder share: lengths, toEvent in memory of its own. -/
import Derived.Test.YtnmnklilmcpkaaaDoorQSpecEnc6
import Derived.Test.YtnmnklilmcpkaaaDoorQTokToTokRes
namespace Go.Proofs.YtnmnklilmcpkaaaDoor
open Go.RowKit
set_option linter.unusedVariables false
set_option linter.unusedSimpArgs false

theorem AtL.twoE {w : World} {b : Nat} {v0 v1 : Value} (h : AtL w b [v0, v1]) : w.cell? ⟨b, 0, none⟩ = some v0 ∧ w.cell? ⟨b, 1, none⟩ = some v1 := ⟨h.get 0 rfl, h.get 1 rfl⟩
theorem heldBr_marksE (w : World) (k n : Nat) (code : Int) (p : Option Addr) (c : Nat) (h : Bs w w.heap.size p (marksL k n)) (hl : n ≤ 1048576) (hk : k ≤ 1048576) :
    Calls Tryd.prog 25 #[brV code (.slice p n c), .int .i64 k] w fun en w' => en = .returned (.int .i64 ((k + n : Nat) : Int)) ∧ Below w.heap.size w w' := by
  have := heldBytesResult_any w k code p c (marksL k n) h (by rw [marksL_length]) (by rw [marksL_length]; exact hl) hk
  rw [marksL_length] at this
  exact this
theorem below_set2 {B : Nat} {x w : World} (h : Below B x w) (g : Nat) (hg : B ≤ g) (u v : Value) : Below B x ((w.setCell ⟨g, 0, none⟩ u).setCell ⟨g, 1, none⟩ v) := (h.setCell hg _).setCell hg _
theorem seq_len (priv : Bool) (nums : List Int) (fin : UInt8) (hin : inNum nums = true) (h4 : nums.length ≤ 4) : (seqB priv nums fin).length ≤ 42 := by
  have := pb_len priv nums fin hin h4
  unfold seqB
  simp only [List.length_append, List.length_cons, List.length_nil]
  omega
theorem putB_len (c : Int) : (putB c).length ≤ 4 := by have := put_small c; rw [put_len]; omega
theorem keyE_len (md : Md) (c m : Int) (hk : keyCode c = true) (h0 : 0 ≤ m) (h7 : m ≤ 7) : (keyE md c m).length ≤ 50 := by
  unfold keyE
  split
  · unfold letterB
    split
    · have := seq_len false [1, m + 1] (byteE (letterE c)) (inNum2 (by omega) (by omega) (by omega) (by omega)) (by simp); omega
    · split
      · simp
      · have := seq_len false [] (byteE (letterE c)) rfl (by simp); omega
  · rename_i hl
    split
    · have hr := tildeE_range c
      unfold tildeB
      split
      · have := seq_len false [tildeE c, m + 1] 126 (inNum2 (by omega) (by omega) (by omega) (by omega)) (by simp); omega
      · have := seq_len false [tildeE c] 126 (by simp [inNum, inR]; omega) (by simp); omega
    · rename_i ht
      have hT : Typed c m := ⟨hk, by simpa using hl, by simpa using ht, h0, h7⟩
      have hc := hT.code
      have hp := plain_len c m
      have hu := putB_len c
      unfold typedE
      split
      · omega
      · split
        · simp; omega
        · split
          · have := seq_len false [codeE c, m + 1] 117 (inNum2 hc.1 hc.2.1 (by omega) (by omega)) (by simp); omega
          · split
            · split <;> (simp; omega)
            · split <;> omega
theorem mouseE_len (md : Md) (e : Ev) (h : MouseOk e) : (mouseE md e).length ≤ 50 := by
  obtain ⟨b0, b2, a1, a3, m0, m7, x0, x9, y0, y9⟩ := h
  unfold mouseE
  split
  · have := evNum_range e.button e.act e.mods b0 (by omega) m0 m7
    have := seq_len true [evNum e.button e.act e.mods, e.col + 1, e.row + 1] (if e.act = 2 then 109 else 77) (inNum3 (by omega) (by omega) (by omega) (by omega) (by omega) (by omega)) (by simp)
    unfold sgrE
    omega
  · simp [clickE]
theorem mouseR_len (md : Md) (e : Ev) (h : MouseOk e) : (mouseR md e).2.length ≤ 50 := by
  unfold mouseR
  split
  · exact mouseE_len md e h
  · simp
theorem encKey_len (md : Md) (e : Ev) : (encKey md e).2.length ≤ 100 := by
  unfold encKey
  split
  · simp
  · rename_i hk
    have hk : askE md e 1 = 0 := by simpa using hk
    have hf : faultE md e = 0 := Classical.byContradiction fun h => by rw [ask_fault h] at hk; exact h hk
    have h1 : e.kind = 1 := Classical.byContradiction fun h => by rw [ask_kind hf, if_pos h] at hk; cases hk
    obtain ⟨g1, g2, g3⟩ := fault_key (fault_zero hf).2 h1
    exact Nat.le_trans (keyE_len md e.code e.mods g1 g2 g3) (by omega)
theorem encMouse_len (md : Md) (e : Ev) : (encMouse md e).2.length ≤ 100 := by
  unfold encMouse
  split
  · simp
  · rename_i hk
    have hk : askE md e 2 = 0 := by simpa using hk
    have hf : faultE md e = 0 := Classical.byContradiction fun h => by rw [ask_fault h] at hk; exact h hk
    have h1 : e.kind = 2 := Classical.byContradiction fun h => by rw [ask_kind hf, if_pos h] at hk; cases hk
    have := mouseR_len md e (fault_mouse (fault_zero hf).2 h1)
    unfold mouseR at this
    exact Nat.le_trans this (by omega)
theorem encEvent_len (md : Md) (e : Ev) : (encEvent md e).2.length ≤ 100 := by
  by_cases hf : faultE md e = 0
  · rw [encEvent_good hf]
    have he := (fault_zero hf).2
    rcases fault_kind he with h1 | h1 | h1 | h1
    · rw [if_pos h1]
      obtain ⟨g1, g2, g3⟩ := fault_key he h1
      have := keyE_len md e.code e.mods g1 g2 g3
      dsimp only
      omega
    · rw [if_neg (by omega), if_pos h1]
      exact Nat.le_trans (mouseR_len md e (fault_mouse he h1)) (by omega)
    · rw [if_neg (by omega), if_neg (by omega), if_pos h1]
      have hl := fault_len he (.inl h1)
      show (pasteE md e.data).length ≤ 100
      unfold pasteE
      split
      · simp [begB, finB]; omega
      · omega
    · rw [if_neg (by omega), if_neg (by omega), if_neg (by omega)]
      have hl := fault_len he (.inr h1)
      show e.data.length ≤ 100
      omega
  · rw [encEvent_bad hf]
    simp

set_option maxRecDepth 100000 in
set_option maxHeartbeats 2000000 in
theorem toEvent_own (e : Ev) (p : Option Addr) (c : Nat) (w : World) (h : Bs w w.heap.size p e.data) (hl : e.data.length ≤ 1048576) :
    Calls Tryd.prog 20 #[evV e p c] w fun en w' => ∃ g, en = .returned (evV e (some ⟨g, 0, none⟩) e.data.length) ∧ Own w' w.heap.size (.slice (some ⟨g, 0, none⟩) e.data.length e.data.length) e.data ∧ Below w.heap.size w w' := by
  unfold evV
  go_enter Tryd.func20, Tryd.ntmps20
  go_wp2_with fail
  refine (toByteS_any _ _ _ _ (((h.alloc _).alloc _).alloc _) hl).mono ?_
  rintro en w1 ⟨rfl, rfl⟩
  go_wp2
  refine bodyPost_ret (v := evV e (some ⟨w.heap.size + 1 + 1 + 1, 0, none⟩) e.data.length) (by simp [results, Tryd.results20, evV, go_sem]) rfl ⟨_, rfl, (own_lit _ e.data _ _ _ (by simp) rfl rfl hl).lower (by simp; omega), ?_⟩
  exact ((((Below.refl _ _).alloc (Nat.le_refl _) _).alloc (by simp) _).alloc (by simp; omega) _).alloc (by simp; omega) _

end Go.Proofs.YtnmnklilmcpkaaaDoor

/- The walk of the law over EncodeMouse. (Written by wip/gen_lawenc.py.) -/
namespace Go.Proofs.YtnmnklilmcpkaaaDoor
open Go.RowKit
set_option linter.unusedVariables false
set_option linter.unusedSimpArgs false

set_option maxRecDepth 100000 in
set_option maxHeartbeats 8000000 in
theorem lawEncodeMouse_any (md : Md) (e : Ev) (p : Option Addr) (c : Nat) (w : World) (h : Bs w w.heap.size p e.data) (hn : e.data.length ≤ 9223372036854775807) (hT : Pow w) :
    Calls Tryd.prog 5 #[mdV md, evV e p c] w fun en w' => en = .returned (.bool true) ∧ Below w.heap.size w w' := by
  have HMD := Lib.hid (fun W => toModes_any md W)
  have b0 := below_twoE w (.cells #[.bool md.cursor, .bool md.coded, .int .i64 md.mouse, .bool md.sgr, .bool md.paste] 34) (.cells #[.int .i64 e.kind, .int .i64 e.code, .int .i64 e.mods, .int .i64 e.button, .int .i64 e.act, .int .i64 e.col, .int .i64 e.row, .slice p e.data.length c] 35)
  by_cases hs : leftOf 1048576 e.data.length < 0
  · unfold mdV evV
    go_enter Tryd.func5, Tryd.ntmps5
    go_wp2_with (go_at_call 18; refine (szEvent_any e p c _ _ hn (by omega) (by omega)).mono ?_; rintro en w1 ⟨rfl, b1⟩)
    go_ret
    exact ⟨rfl, below_on b0 b1⟩
  have hs0 : 0 ≤ leftOf 1048576 e.data.length := by omega
  have hl : e.data.length ≤ 1048576 := by have := (leftOf_le hs0).2; omega
  generalize hr : leftOf 1048576 e.data.length = lf at *
  have HR := Lib.hid hr
  clear hr
  have hsm := encMouse_len md e
  have SP := Lib.hid (fun p c W (h : Bs W W.heap.size p e.data) (hp : p = none → c = 0) => specEncodeMouse_any md e p c W)
  have IP := Lib.hid (fun p c W (hT : Pow W) (h : Bs W W.heap.size p e.data) (hp : p = none → c = 0) => implEncodeMouse_any md e p c W hT)
  generalize (encMouse md e).1 = code at *
  generalize (encMouse md e).2 = r at *
  have MA : AtL ((w.alloc (.cells #[.bool md.cursor, .bool md.coded, .int .i64 md.mouse, .bool md.sgr, .bool md.paste] 34)).alloc (.cells #[.int .i64 e.kind, .int .i64 e.code, .int .i64 e.mods, .int .i64 e.button, .int .i64 e.act, .int .i64 e.col, .int .i64 e.row, .slice p e.data.length c] 35)) w.heap.size [.bool md.cursor, .bool md.coded, .int .i64 md.mouse, .bool md.sgr, .bool md.paste] := (AtL.new w [.bool md.cursor, .bool md.coded, .int .i64 md.mouse, .bool md.sgr, .bool md.paste] 34).on (below_mk _ _)
  have EA : AtL ((w.alloc (.cells #[.bool md.cursor, .bool md.coded, .int .i64 md.mouse, .bool md.sgr, .bool md.paste] 34)).alloc (.cells #[.int .i64 e.kind, .int .i64 e.code, .int .i64 e.mods, .int .i64 e.button, .int .i64 e.act, .int .i64 e.col, .int .i64 e.row, .slice p e.data.length c] 35)) (w.heap.size + 1) [.int .i64 e.kind, .int .i64 e.code, .int .i64 e.mods, .int .i64 e.button, .int .i64 e.act, .int .i64 e.col, .int .i64 e.row, .slice p e.data.length c] := by
    have h := AtL.new (w.alloc (.cells #[.bool md.cursor, .bool md.coded, .int .i64 md.mouse, .bool md.sgr, .bool md.paste] 34)) [.int .i64 e.kind, .int .i64 e.code, .int .i64 e.mods, .int .i64 e.button, .int .i64 e.act, .int .i64 e.col, .int .i64 e.row, .slice p e.data.length c] 35
    rwa [World.size_alloc] at h
  have HQ := Lib.hid h
  have HT := Lib.hid hT
  clear h hT
  have hsz := szEvent_any e p c
  unfold mdV evV at *
  go_enter Tryd.func5, Tryd.ntmps5
  go_wp2_with fail
  refine (hsz _ _ hn (by omega) (by omega)).mono ?_
  rw [HR.out]
  rintro en w1 ⟨rfl, b1⟩
  have HMA := Lib.hid (fun W (hW : Below w1.heap.size w1 W) => ((MA.on b1).on hW).five)
  have HEA := Lib.hid (fun W (hW : Below w1.heap.size w1 W) => AtL.eightE ((EA.on b1).on hW))
  have HB1 := Lib.hid (below_on b0 b1)
  clear MA EA b0 b1 hsz
  go_wp2_with fail
  go_cut [6] (fun s6 wx => ∃ g q d, s6 = .pointer (some ⟨g, 0, none⟩) ∧ AtL wx g [.int .i64 code, .slice q r.length d] ∧ Own wx w1.heap.size (.slice q r.length d) r ∧ Below w1.heap.size w1 wx ∧ (∀ j, (Value.slice q r.length d).ownBlock = some j → j ≠ g) ∧ w1.heap.size ≤ g)
  case first =>
    refine wp_region_noPanic ?_
    refine wp_region_held_drew (S := fun W' => Below (w1).heap.size (w1) W') (by kernel_rfl) (below_drewN (Below.refl _ _) 1) (fun hHeld => ?_)
    refine takeR 0 18 (.agg #[.bool md.cursor, .bool md.coded, .int .i64 md.mouse, .bool md.sgr, .bool md.paste]) (by kernel_rfl) (by kernel_rfl) (by kernel_rfl) (by kernel_rfl) (fun _ _ _ h => h) (by kernel_rfl) (fun w o hSw ho => ?_) hHeld ?_
    · obtain rfl := Option.some.inj ho; obtain ⟨z0, z1, z2, z3, z4⟩ := HMA.out _ hSw; go_simp
    simp only [Act.put, List.setIfInBounds_toArray, List.set_cons_zero, List.set_cons_succ]
    refine takeR 2 20 (.agg #[.int .i64 e.kind, .int .i64 e.code, .int .i64 e.mods, .int .i64 e.button, .int .i64 e.act, .int .i64 e.col, .int .i64 e.row, .slice p e.data.length c]) (by kernel_rfl) (by kernel_rfl) (by kernel_rfl) (by kernel_rfl) (fun _ _ _ h => h) (by kernel_rfl) (fun w o hSw ho => ?_) hHeld ?_
    · obtain rfl := Option.some.inj ho; obtain ⟨z0, z1, z2, z3, z4, z5, z6, z7⟩ := HEA.out _ hSw; go_simp
    simp only [Act.put, List.setIfInBounds_toArray, List.set_cons_zero, List.set_cons_succ]
    refine twoR 1 5 (by kernel_rfl) (by kernel_rfl) (by kernel_rfl) (fun o ho K' hK => ?_) (fun o ho K' hK => ?_)
    · obtain rfl := Option.some.inj ho
      clear ho
      go_simp
      refine (HMD.out _).mono ?_
      rintro en V1 ⟨rfl, hbx⟩
      have HD1 := Lib.hid (below_on hHeld hbx)
      clear hHeld
      go_wp2_with fail
      refine hK.out _ _ (HD1.out) (fun hHeld => ?_)
      clear hK K'
      try simp only [Act.put, List.setIfInBounds_toArray, List.set_cons_zero, List.set_cons_succ]
      clear hbx
      refine twoR 3 5 (by kernel_rfl) (by kernel_rfl) (by kernel_rfl) (fun o ho K' hK => ?_) (fun o ho K' hK => ?_)
      · obtain rfl := Option.some.inj ho
        clear ho
        go_simp
        refine (toEvent_own e p c _ (HQ.out.on (below_on HB1.out hHeld)) hl).mono ?_
        rintro en V2 ⟨gx, rfl, o3, hbx⟩
        have HX3 := Lib.hid o3.bs.2
        have HD2 := Lib.hid (below_on hHeld hbx)
        clear hHeld o3
        unfold evV
        go_wp2_with fail
        refine hK.out _ _ (HD2.out) (fun hHeld => ?_)
        clear hK K'
        try simp only [Act.put, List.setIfInBounds_toArray, List.set_cons_zero, List.set_cons_succ]
        clear hbx
        refine twoR 4 5 (by kernel_rfl) (by kernel_rfl) (by kernel_rfl) (fun o ho K' hK => ?_) (fun o ho K' hK => ?_)
        · obtain rfl := Option.some.inj ho
          clear ho
          go_simp
          refine (SP.out _ _ _ HX3.out (by simp)).mono ?_
          rintro en V3 ⟨v4, rfl, o4, hbx⟩
          obtain ⟨p4, c4, hv⟩ := o4.slice
          subst hv
          have HO4 := Lib.hid o4
          have hbs : w1.heap.size ≤ (V2).heap.size := hHeld.size
          have HD3 := Lib.hid (below_on hHeld hbx)
          clear hHeld o4
          unfold brV
          go_wp2_with fail
          refine hK.out _ _ (HD3.out) (fun hHeld => ?_)
          clear hK K'
          try simp only [Act.put, List.setIfInBounds_toArray, List.set_cons_zero, List.set_cons_succ]
          clear hbx
          refine oneR 5 (by kernel_rfl) (by kernel_rfl) (fun o ho K' hK => ?_)
          obtain rfl := Option.some.inj ho
          clear ho
          go_simp
          have HHL := Lib.hid hHeld
          refine hK.out _ _ (below_on hHeld (below_mk _ _)) (fun hHeld => ?_)
          clear hK K'
          try simp only [Act.put, List.setIfInBounds_toArray, List.set_cons_zero, List.set_cons_succ]
          refine oneR 6 (by kernel_rfl) (by kernel_rfl) (fun o ho K' hK => ?_)
          obtain rfl := Option.some.inj ho
          clear ho
          go_simp
          refine hK.out _ _ (below_on HHL.out (below_mk _ _)) (fun hHeld => ?_)
          clear hK K'
          try simp only [Act.put, List.setIfInBounds_toArray, List.set_cons_zero, List.set_cons_succ]
          refine wpAnyH_done (by kernel_rfl) ?_ _
          refine NoPanic.normal ?_
          have HA := Lib.hid (AtL.new (V3) [.int .i64 code, .slice p4 r.length c4] 31)
          have HO := Lib.hid ((HO4.out.lower hbs).on (below_mk (V3) (.cells #[.int .i64 code, .slice p4 r.length c4] 31)))
          have HN : Hid (∀ j, (Value.slice p4 r.length c4).ownBlock = some j → j ≠ (V3).heap.size) := fun j hj => Nat.ne_of_lt (HO4.out.lt j hj).2
          go_wp2_with fail
          go_meet
          exact ⟨_, p4, c4, rfl, HA.out, HO.out, hHeld, HN.out, HHL.out.size⟩
        · obtain rfl := Option.some.inj ho
          clear ho
          go_simp
          have HAT5 : Hid (AtM ((V2).alloc (.cells #[.int .i64 0, .slice none 0 0] 31)) ((V2).heap.size) [.int .i64 0, .slice none 0 0]) := AtM.new (V2) [.int .i64 0, .slice none 0 0] 31
          have hle5 : w1.heap.size ≤ (V2).heap.size := hHeld.size
          have HX3 := Lib.hid (HX3.out.on (below_mk (V2) (.cells #[.int .i64 0, .slice none 0 0] 31)))
          refine hK.out _ _ (below_on hHeld (below_mk _ _)) (fun hHeld => ?_)
          clear hK K'
          try simp only [Act.put, List.setIfInBounds_toArray, List.set_cons_zero, List.set_cons_succ]
          refine oneR 4 (by kernel_rfl) (by kernel_rfl) (fun o ho K' hK => ?_)
          obtain rfl := Option.some.inj ho
          clear ho
          go_simp
          have hlt : (V2).heap.size < (((V2).alloc (.cells #[.int .i64 0, .slice none 0 0] 31))).heap.size := HAT5.out.cells.1
          refine (SP.out _ _ _ HX3.out (by simp)).mono ?_
          rintro en V6 ⟨v4, rfl, o4, hbx⟩
          obtain ⟨p4, c4, hv⟩ := o4.slice
          subst hv
          have HO4 := Lib.hid o4
          have hbs : w1.heap.size ≤ (((V2).alloc (.cells #[.int .i64 0, .slice none 0 0] 31))).heap.size := hHeld.size
          have HD6 := Lib.hid (below_on hHeld hbx)
          clear hHeld o4
          unfold brV
          go_wp2_with fail
          refine hK.out _ _ (HD6.out) (fun hHeld => ?_)
          clear hK K'
          try simp only [Act.put, List.setIfInBounds_toArray, List.set_cons_zero, List.set_cons_succ]
          have HAT6 := Lib.hid (HAT5.out.on hbx)
          clear hbx
          have q0 := HAT6.out.cells.get 0 rfl
          have q1 := HAT6.out.cells.get 1 rfl
          have hfz := HAT6.out.free
          refine oneR 6 (by kernel_rfl) (by kernel_rfl) (fun o ho K' hK => ?_)
          obtain rfl := Option.some.inj ho
          clear ho
          go_simp
          refine hK.out _ _ (below_set2 hHeld ((V2).heap.size) hle5 _ _) (fun hHeld => ?_)
          clear hK K'
          try simp only [Act.put, List.setIfInBounds_toArray, List.set_cons_zero, List.set_cons_succ]
          refine wpAnyH_done (by kernel_rfl) ?_ _
          refine NoPanic.normal ?_
          have HA := Lib.hid (((HAT6.out.set 0 (.int .i64 code)).set 1 (.slice p4 r.length c4)).cells)
          have HO := Lib.hid (((HO4.out.setBelow (a := ⟨(V2).heap.size, 0, none⟩) hlt (.int .i64 code)).setBelow (a := ⟨(V2).heap.size, 1, none⟩) hlt (.slice p4 r.length c4)).lower hbs)
          have HN : Hid (∀ j, (Value.slice p4 r.length c4).ownBlock = some j → j ≠ (V2).heap.size) := fun j hj => Nat.ne_of_gt (Nat.lt_of_lt_of_le hlt (HO4.out.lt j hj).1)
          go_wp2_with fail
          go_meet
          exact ⟨_, p4, c4, rfl, HA.out, HO.out, hHeld, HN.out, hle5⟩
      · obtain rfl := Option.some.inj ho
        clear ho
        go_simp
        have HAT7 : Hid (AtM ((V1).alloc (.cells #[.int .i64 0, .slice none 0 0] 31)) ((V1).heap.size) [.int .i64 0, .slice none 0 0]) := AtM.new (V1) [.int .i64 0, .slice none 0 0] 31
        have hle7 : w1.heap.size ≤ (V1).heap.size := hHeld.size
        refine hK.out _ _ (below_on hHeld (below_mk _ _)) (fun hHeld => ?_)
        clear hK K'
        try simp only [Act.put, List.setIfInBounds_toArray, List.set_cons_zero, List.set_cons_succ]
        refine oneR 3 (by kernel_rfl) (by kernel_rfl) (fun o ho K' hK => ?_)
        obtain rfl := Option.some.inj ho
        clear ho
        go_simp
        refine (toEvent_own e p c _ (HQ.out.on (below_on HB1.out hHeld)) hl).mono ?_
        rintro en V8 ⟨gx, rfl, o3, hbx⟩
        have HX3 := Lib.hid o3.bs.2
        have HD8 := Lib.hid (below_on hHeld hbx)
        clear hHeld o3
        unfold evV
        go_wp2_with fail
        refine hK.out _ _ (HD8.out) (fun hHeld => ?_)
        clear hK K'
        try simp only [Act.put, List.setIfInBounds_toArray, List.set_cons_zero, List.set_cons_succ]
        have HAT8 := Lib.hid (HAT7.out.on hbx)
        clear hbx
        refine oneR 4 (by kernel_rfl) (by kernel_rfl) (fun o ho K' hK => ?_)
        obtain rfl := Option.some.inj ho
        clear ho
        go_simp
        have hlt : (V1).heap.size < (V8).heap.size := HAT8.out.cells.1
        refine (SP.out _ _ _ HX3.out (by simp)).mono ?_
        rintro en V9 ⟨v4, rfl, o4, hbx⟩
        obtain ⟨p4, c4, hv⟩ := o4.slice
        subst hv
        have HO4 := Lib.hid o4
        have hbs : w1.heap.size ≤ (V8).heap.size := hHeld.size
        have HD9 := Lib.hid (below_on hHeld hbx)
        clear hHeld o4
        unfold brV
        go_wp2_with fail
        refine hK.out _ _ (HD9.out) (fun hHeld => ?_)
        clear hK K'
        try simp only [Act.put, List.setIfInBounds_toArray, List.set_cons_zero, List.set_cons_succ]
        have HAT9 := Lib.hid (HAT8.out.on hbx)
        clear hbx
        have q0 := HAT9.out.cells.get 0 rfl
        have q1 := HAT9.out.cells.get 1 rfl
        have hfz := HAT9.out.free
        refine oneR 6 (by kernel_rfl) (by kernel_rfl) (fun o ho K' hK => ?_)
        obtain rfl := Option.some.inj ho
        clear ho
        go_simp
        refine hK.out _ _ (below_set2 hHeld ((V1).heap.size) hle7 _ _) (fun hHeld => ?_)
        clear hK K'
        try simp only [Act.put, List.setIfInBounds_toArray, List.set_cons_zero, List.set_cons_succ]
        refine wpAnyH_done (by kernel_rfl) ?_ _
        refine NoPanic.normal ?_
        have HA := Lib.hid (((HAT9.out.set 0 (.int .i64 code)).set 1 (.slice p4 r.length c4)).cells)
        have HO := Lib.hid (((HO4.out.setBelow (a := ⟨(V1).heap.size, 0, none⟩) hlt (.int .i64 code)).setBelow (a := ⟨(V1).heap.size, 1, none⟩) hlt (.slice p4 r.length c4)).lower hbs)
        have HN : Hid (∀ j, (Value.slice p4 r.length c4).ownBlock = some j → j ≠ (V1).heap.size) := fun j hj => Nat.ne_of_gt (Nat.lt_of_lt_of_le hlt (HO4.out.lt j hj).1)
        go_wp2_with fail
        go_meet
        exact ⟨_, p4, c4, rfl, HA.out, HO.out, hHeld, HN.out, hle7⟩
    · obtain rfl := Option.some.inj ho
      clear ho
      go_simp
      have HAT10 : Hid (AtM (w1.alloc (.cells #[.int .i64 0, .slice none 0 0] 31)).drew (w1.heap.size) [.int .i64 0, .slice none 0 0]) := AtM.new (w1.drew) [.int .i64 0, .slice none 0 0] 31
      have hle10 : w1.heap.size ≤ w1.heap.size := hHeld.size
      refine hK.out _ _ (below_on hHeld (below_mk _ _)) (fun hHeld => ?_)
      clear hK K'
      try simp only [Act.put, List.setIfInBounds_toArray, List.set_cons_zero, List.set_cons_succ]
      refine oneR 1 (by kernel_rfl) (by kernel_rfl) (fun o ho K' hK => ?_)
      obtain rfl := Option.some.inj ho
      clear ho
      go_simp
      refine (HMD.out _).mono ?_
      rintro en V11 ⟨rfl, hbx⟩
      have HD11 := Lib.hid (below_on hHeld hbx)
      clear hHeld
      go_wp2_with fail
      refine hK.out _ _ (HD11.out) (fun hHeld => ?_)
      clear hK K'
      try simp only [Act.put, List.setIfInBounds_toArray, List.set_cons_zero, List.set_cons_succ]
      have HAT11 := Lib.hid (HAT10.out.on hbx)
      clear hbx
      refine oneR 3 (by kernel_rfl) (by kernel_rfl) (fun o ho K' hK => ?_)
      obtain rfl := Option.some.inj ho
      clear ho
      go_simp
      refine (toEvent_own e p c _ (HQ.out.on (below_on HB1.out hHeld)) hl).mono ?_
      rintro en V12 ⟨gx, rfl, o3, hbx⟩
      have HX3 := Lib.hid o3.bs.2
      have HD12 := Lib.hid (below_on hHeld hbx)
      clear hHeld o3
      unfold evV
      go_wp2_with fail
      refine hK.out _ _ (HD12.out) (fun hHeld => ?_)
      clear hK K'
      try simp only [Act.put, List.setIfInBounds_toArray, List.set_cons_zero, List.set_cons_succ]
      have HAT12 := Lib.hid (HAT11.out.on hbx)
      clear hbx
      refine oneR 4 (by kernel_rfl) (by kernel_rfl) (fun o ho K' hK => ?_)
      obtain rfl := Option.some.inj ho
      clear ho
      go_simp
      have hlt : w1.heap.size < (V12).heap.size := HAT12.out.cells.1
      refine (SP.out _ _ _ HX3.out (by simp)).mono ?_
      rintro en V13 ⟨v4, rfl, o4, hbx⟩
      obtain ⟨p4, c4, hv⟩ := o4.slice
      subst hv
      have HO4 := Lib.hid o4
      have hbs : w1.heap.size ≤ (V12).heap.size := hHeld.size
      have HD13 := Lib.hid (below_on hHeld hbx)
      clear hHeld o4
      unfold brV
      go_wp2_with fail
      refine hK.out _ _ (HD13.out) (fun hHeld => ?_)
      clear hK K'
      try simp only [Act.put, List.setIfInBounds_toArray, List.set_cons_zero, List.set_cons_succ]
      have HAT13 := Lib.hid (HAT12.out.on hbx)
      clear hbx
      have q0 := HAT13.out.cells.get 0 rfl
      have q1 := HAT13.out.cells.get 1 rfl
      have hfz := HAT13.out.free
      refine oneR 6 (by kernel_rfl) (by kernel_rfl) (fun o ho K' hK => ?_)
      obtain rfl := Option.some.inj ho
      clear ho
      go_simp
      refine hK.out _ _ (below_set2 hHeld (w1.heap.size) hle10 _ _) (fun hHeld => ?_)
      clear hK K'
      try simp only [Act.put, List.setIfInBounds_toArray, List.set_cons_zero, List.set_cons_succ]
      refine wpAnyH_done (by kernel_rfl) ?_ _
      refine NoPanic.normal ?_
      have HA := Lib.hid (((HAT13.out.set 0 (.int .i64 code)).set 1 (.slice p4 r.length c4)).cells)
      have HO := Lib.hid (((HO4.out.setBelow (a := ⟨w1.heap.size, 0, none⟩) hlt (.int .i64 code)).setBelow (a := ⟨w1.heap.size, 1, none⟩) hlt (.slice p4 r.length c4)).lower hbs)
      have HN : Hid (∀ j, (Value.slice p4 r.length c4).ownBlock = some j → j ≠ w1.heap.size) := fun j hj => Nat.ne_of_gt (Nat.lt_of_lt_of_le hlt (HO4.out.lt j hj).1)
      go_wp2_with fail
      go_meet
      exact ⟨_, p4, c4, rfl, HA.out, HO.out, hHeld, HN.out, hle10⟩
  case rest =>
    obtain ⟨gL, qL, dL, rfl, haL, hoL, hbL, hnL, hgL⟩ := hcut
    obtain ⟨L, hren⟩ : ∃ V, V = wc := ⟨_, rfl⟩
    subst hren
    have HAL := Lib.hid (fun W (hW : Below L.heap.size L W) => AtL.twoE (haL.on hW))
    have HBL := Lib.hid (fun W (hW : Below L.heap.size L W) => hoL.bs.2.on hW)
    have HB2 := Lib.hid (below_on HB1.out hbL)
    have HMB := Lib.hid (fun W (hW : Below L.heap.size L W) => HMA.out W (below_on hbL hW))
    have HEB := Lib.hid (fun W (hW : Below L.heap.size L W) => HEA.out W (below_on hbL hW))
    clear haL hoL hbL hnL hgL HMA HEA SP
    obtain ⟨z0, z1, z2, z3, z4, z5, z6, z7⟩ := HEB.out L (Below.refl _ _)
    go_wp2_with fail
    refine (toEvent_own e p c _ (HQ.out.on HB2.out) hl).mono ?_
    rintro en w6 ⟨g6, rfl, o6, b6⟩
    have hx6 := AtL.new w6 [.int .i64 e.kind, .int .i64 e.code, .int .i64 e.mods, .int .i64 e.button, .int .i64 e.act, .int .i64 e.col, .int .i64 e.row, .slice (some ⟨g6, 0, none⟩) e.data.length e.data.length] 27
    have B6 := below_mk w6 (.cells #[.int .i64 e.kind, .int .i64 e.code, .int .i64 e.mods, .int .i64 e.button, .int .i64 e.act, .int .i64 e.col, .int .i64 e.row, .slice (some ⟨g6, 0, none⟩) e.data.length e.data.length] 27)
    have h6 := o6.lt g6 rfl
    have o6M := o6.on B6
    have d6M := below_on b6 B6
    have HTM := Lib.hid (HT.out.on (below_on HB2.out d6M))
    clear o6 b6 B6 z0 z1 z2 z3 z4 z5 z6 z7
    have hsz6 : (w6.alloc (.cells #[.int .i64 e.kind, .int .i64 e.code, .int .i64 e.mods, .int .i64 e.button, .int .i64 e.act, .int .i64 e.col, .int .i64 e.row, .slice (some ⟨g6, 0, none⟩) e.data.length e.data.length] 27)).heap.size = w6.heap.size + 1 := by simp
    unfold evV
    go_wp2_with fail
    generalize w6.alloc (.cells #[.int .i64 e.kind, .int .i64 e.code, .int .i64 e.mods, .int .i64 e.button, .int .i64 e.act, .int .i64 e.col, .int .i64 e.row, .slice (some ⟨g6, 0, none⟩) e.data.length e.data.length] 27) = M at *
    have HXM := Lib.hid (fun W (hW : Below M.heap.size M W) => AtL.eightE (hx6.on hW))
    have HOM := Lib.hid o6M
    have HDM := Lib.hid d6M
    have H6 := Lib.hid h6
    have HSZ6 := Lib.hid hsz6
    clear hx6 o6M d6M h6 hsz6
    go_cut [8] (fun s8 wx => ∃ g q d, s8 = .pointer (some ⟨g, 0, none⟩) ∧ AtL wx g [.int .i64 code, .slice q r.length d] ∧ Own wx M.heap.size (.slice q r.length d) r ∧ Below M.heap.size M wx ∧ (∀ j, (Value.slice q r.length d).ownBlock = some j → j ≠ g) ∧ M.heap.size ≤ g)
    case first =>
      refine wp_region_noPanic ?_
      refine wp_region_held_drew (S := fun W' => Below (M).heap.size (M) W') (by kernel_rfl) (below_drewN (Below.refl _ _) 1) (fun hHeld => ?_)
      refine takeR 0 25 (.agg #[.bool md.cursor, .bool md.coded, .int .i64 md.mouse, .bool md.sgr, .bool md.paste]) (by kernel_rfl) (by kernel_rfl) (by kernel_rfl) (by kernel_rfl) (fun _ _ _ h => h) (by kernel_rfl) (fun w o hSw ho => ?_) hHeld ?_
      · obtain rfl := Option.some.inj ho; obtain ⟨z0, z1, z2, z3, z4⟩ := HMB.out _ (below_on HDM.out hSw); go_simp
      simp only [Act.put, List.setIfInBounds_toArray, List.set_cons_zero, List.set_cons_succ]
      refine takeR 2 27 (.agg #[.int .i64 e.kind, .int .i64 e.code, .int .i64 e.mods, .int .i64 e.button, .int .i64 e.act, .int .i64 e.col, .int .i64 e.row, .slice (some ⟨g6, 0, none⟩) e.data.length e.data.length]) (by kernel_rfl) (by kernel_rfl) (by kernel_rfl) (by kernel_rfl) (fun _ _ _ h => h) (by kernel_rfl) (fun w o hSw ho => ?_) hHeld ?_
      · obtain rfl := Option.some.inj ho; obtain ⟨z0, z1, z2, z3, z4, z5, z6, z7⟩ := HXM.out _ hSw; go_simp
      simp only [Act.put, List.setIfInBounds_toArray, List.set_cons_zero, List.set_cons_succ]
      refine twoR 1 4 (by kernel_rfl) (by kernel_rfl) (by kernel_rfl) (fun o ho K' hK => ?_) (fun o ho K' hK => ?_)
      · obtain rfl := Option.some.inj ho
        clear ho
        go_simp
        refine (HMD.out _).mono ?_
        rintro en V14 ⟨rfl, hbx⟩
        have HD14 := Lib.hid (below_on hHeld hbx)
        clear hHeld
        go_wp2_with fail
        refine hK.out _ _ (HD14.out) (fun hHeld => ?_)
        clear hK K'
        try simp only [Act.put, List.setIfInBounds_toArray, List.set_cons_zero, List.set_cons_succ]
        clear hbx
        refine twoR 3 4 (by kernel_rfl) (by kernel_rfl) (by kernel_rfl) (fun o ho K' hK => ?_) (fun o ho K' hK => ?_)
        · obtain rfl := Option.some.inj ho
          clear ho
          go_simp
          refine (IP.out _ _ _ (HTM.out.on hHeld) (HOM.out.bs.2.on hHeld) (by simp)).mono ?_
          rintro en V15 ⟨v4, rfl, o4, hbx⟩
          obtain ⟨p4, c4, hv⟩ := o4.slice
          subst hv
          have HO4 := Lib.hid o4
          have hbs : M.heap.size ≤ (V14).heap.size := hHeld.size
          have HD15 := Lib.hid (below_on hHeld hbx)
          clear hHeld o4
          unfold brV
          go_wp2_with fail
          refine hK.out _ _ (HD15.out) (fun hHeld => ?_)
          clear hK K'
          try simp only [Act.put, List.setIfInBounds_toArray, List.set_cons_zero, List.set_cons_succ]
          clear hbx
          refine oneR 4 (by kernel_rfl) (by kernel_rfl) (fun o ho K' hK => ?_)
          obtain rfl := Option.some.inj ho
          clear ho
          go_simp
          have HHL := Lib.hid hHeld
          refine hK.out _ _ (below_on hHeld (below_mk _ _)) (fun hHeld => ?_)
          clear hK K'
          try simp only [Act.put, List.setIfInBounds_toArray, List.set_cons_zero, List.set_cons_succ]
          refine oneR 5 (by kernel_rfl) (by kernel_rfl) (fun o ho K' hK => ?_)
          obtain rfl := Option.some.inj ho
          clear ho
          go_simp
          refine hK.out _ _ (below_on HHL.out (below_mk _ _)) (fun hHeld => ?_)
          clear hK K'
          try simp only [Act.put, List.setIfInBounds_toArray, List.set_cons_zero, List.set_cons_succ]
          refine wpAnyH_done (by kernel_rfl) ?_ _
          refine NoPanic.normal ?_
          have HA := Lib.hid (AtL.new (V15) [.int .i64 code, .slice p4 r.length c4] 31)
          have HO := Lib.hid ((HO4.out.lower hbs).on (below_mk (V15) (.cells #[.int .i64 code, .slice p4 r.length c4] 31)))
          have HN : Hid (∀ j, (Value.slice p4 r.length c4).ownBlock = some j → j ≠ (V15).heap.size) := fun j hj => Nat.ne_of_lt (HO4.out.lt j hj).2
          go_wp2_with fail
          go_meet
          exact ⟨_, p4, c4, rfl, HA.out, HO.out, hHeld, HN.out, HHL.out.size⟩
        · obtain rfl := Option.some.inj ho
          clear ho
          go_simp
          have HAT17 : Hid (AtM ((V14).alloc (.cells #[.int .i64 0, .slice none 0 0] 31)) ((V14).heap.size) [.int .i64 0, .slice none 0 0]) := AtM.new (V14) [.int .i64 0, .slice none 0 0] 31
          have hle17 : M.heap.size ≤ (V14).heap.size := hHeld.size
          refine hK.out _ _ (below_on hHeld (below_mk _ _)) (fun hHeld => ?_)
          clear hK K'
          try simp only [Act.put, List.setIfInBounds_toArray, List.set_cons_zero, List.set_cons_succ]
          refine oneR 3 (by kernel_rfl) (by kernel_rfl) (fun o ho K' hK => ?_)
          obtain rfl := Option.some.inj ho
          clear ho
          go_simp
          have hlt : (V14).heap.size < (((V14).alloc (.cells #[.int .i64 0, .slice none 0 0] 31))).heap.size := HAT17.out.cells.1
          refine (IP.out _ _ _ (HTM.out.on hHeld) (HOM.out.bs.2.on hHeld) (by simp)).mono ?_
          rintro en V18 ⟨v4, rfl, o4, hbx⟩
          obtain ⟨p4, c4, hv⟩ := o4.slice
          subst hv
          have HO4 := Lib.hid o4
          have hbs : M.heap.size ≤ (((V14).alloc (.cells #[.int .i64 0, .slice none 0 0] 31))).heap.size := hHeld.size
          have HD18 := Lib.hid (below_on hHeld hbx)
          clear hHeld o4
          unfold brV
          go_wp2_with fail
          refine hK.out _ _ (HD18.out) (fun hHeld => ?_)
          clear hK K'
          try simp only [Act.put, List.setIfInBounds_toArray, List.set_cons_zero, List.set_cons_succ]
          have HAT18 := Lib.hid (HAT17.out.on hbx)
          clear hbx
          have q0 := HAT18.out.cells.get 0 rfl
          have q1 := HAT18.out.cells.get 1 rfl
          have hfz := HAT18.out.free
          refine oneR 5 (by kernel_rfl) (by kernel_rfl) (fun o ho K' hK => ?_)
          obtain rfl := Option.some.inj ho
          clear ho
          go_simp
          refine hK.out _ _ (below_set2 hHeld ((V14).heap.size) hle17 _ _) (fun hHeld => ?_)
          clear hK K'
          try simp only [Act.put, List.setIfInBounds_toArray, List.set_cons_zero, List.set_cons_succ]
          refine wpAnyH_done (by kernel_rfl) ?_ _
          refine NoPanic.normal ?_
          have HA := Lib.hid (((HAT18.out.set 0 (.int .i64 code)).set 1 (.slice p4 r.length c4)).cells)
          have HO := Lib.hid (((HO4.out.setBelow (a := ⟨(V14).heap.size, 0, none⟩) hlt (.int .i64 code)).setBelow (a := ⟨(V14).heap.size, 1, none⟩) hlt (.slice p4 r.length c4)).lower hbs)
          have HN : Hid (∀ j, (Value.slice p4 r.length c4).ownBlock = some j → j ≠ (V14).heap.size) := fun j hj => Nat.ne_of_gt (Nat.lt_of_lt_of_le hlt (HO4.out.lt j hj).1)
          go_wp2_with fail
          go_meet
          exact ⟨_, p4, c4, rfl, HA.out, HO.out, hHeld, HN.out, hle17⟩
      · obtain rfl := Option.some.inj ho
        clear ho
        go_simp
        have HAT19 : Hid (AtM (M.alloc (.cells #[.int .i64 0, .slice none 0 0] 31)).drew (M.heap.size) [.int .i64 0, .slice none 0 0]) := AtM.new (M.drew) [.int .i64 0, .slice none 0 0] 31
        have hle19 : M.heap.size ≤ M.heap.size := hHeld.size
        refine hK.out _ _ (below_on hHeld (below_mk _ _)) (fun hHeld => ?_)
        clear hK K'
        try simp only [Act.put, List.setIfInBounds_toArray, List.set_cons_zero, List.set_cons_succ]
        refine oneR 1 (by kernel_rfl) (by kernel_rfl) (fun o ho K' hK => ?_)
        obtain rfl := Option.some.inj ho
        clear ho
        go_simp
        refine (HMD.out _).mono ?_
        rintro en V20 ⟨rfl, hbx⟩
        have HD20 := Lib.hid (below_on hHeld hbx)
        clear hHeld
        go_wp2_with fail
        refine hK.out _ _ (HD20.out) (fun hHeld => ?_)
        clear hK K'
        try simp only [Act.put, List.setIfInBounds_toArray, List.set_cons_zero, List.set_cons_succ]
        have HAT20 := Lib.hid (HAT19.out.on hbx)
        clear hbx
        refine oneR 3 (by kernel_rfl) (by kernel_rfl) (fun o ho K' hK => ?_)
        obtain rfl := Option.some.inj ho
        clear ho
        go_simp
        have hlt : M.heap.size < (V20).heap.size := HAT20.out.cells.1
        refine (IP.out _ _ _ (HTM.out.on hHeld) (HOM.out.bs.2.on hHeld) (by simp)).mono ?_
        rintro en V21 ⟨v4, rfl, o4, hbx⟩
        obtain ⟨p4, c4, hv⟩ := o4.slice
        subst hv
        have HO4 := Lib.hid o4
        have hbs : M.heap.size ≤ (V20).heap.size := hHeld.size
        have HD21 := Lib.hid (below_on hHeld hbx)
        clear hHeld o4
        unfold brV
        go_wp2_with fail
        refine hK.out _ _ (HD21.out) (fun hHeld => ?_)
        clear hK K'
        try simp only [Act.put, List.setIfInBounds_toArray, List.set_cons_zero, List.set_cons_succ]
        have HAT21 := Lib.hid (HAT20.out.on hbx)
        clear hbx
        have q0 := HAT21.out.cells.get 0 rfl
        have q1 := HAT21.out.cells.get 1 rfl
        have hfz := HAT21.out.free
        refine oneR 5 (by kernel_rfl) (by kernel_rfl) (fun o ho K' hK => ?_)
        obtain rfl := Option.some.inj ho
        clear ho
        go_simp
        refine hK.out _ _ (below_set2 hHeld (M.heap.size) hle19 _ _) (fun hHeld => ?_)
        clear hK K'
        try simp only [Act.put, List.setIfInBounds_toArray, List.set_cons_zero, List.set_cons_succ]
        refine wpAnyH_done (by kernel_rfl) ?_ _
        refine NoPanic.normal ?_
        have HA := Lib.hid (((HAT21.out.set 0 (.int .i64 code)).set 1 (.slice p4 r.length c4)).cells)
        have HO := Lib.hid (((HO4.out.setBelow (a := ⟨M.heap.size, 0, none⟩) hlt (.int .i64 code)).setBelow (a := ⟨M.heap.size, 1, none⟩) hlt (.slice p4 r.length c4)).lower hbs)
        have HN : Hid (∀ j, (Value.slice p4 r.length c4).ownBlock = some j → j ≠ M.heap.size) := fun j hj => Nat.ne_of_gt (Nat.lt_of_lt_of_le hlt (HO4.out.lt j hj).1)
        go_wp2_with fail
        go_meet
        exact ⟨_, p4, c4, rfl, HA.out, HO.out, hHeld, HN.out, hle19⟩
    case rest =>
      obtain ⟨gG, qG, dG, rfl, haG, hoG, hbG, hnG, hgG⟩ := hcut
      obtain ⟨N, hren⟩ : ∃ V, V = wc := ⟨_, rfl⟩
      subst hren
      have hLN := below_on HDM.out hbG
      have HXN := Lib.hid (fun W (hW : Below N.heap.size N W) => HXM.out W (below_on hbG hW))
      have HON := Lib.hid (HOM.out.on hbG)
      have hMN := hbG.size
      clear HXM HOM
      obtain ⟨y0, y1⟩ := HAL.out N hLN
      obtain ⟨x0, x1⟩ := AtL.twoE haG
      go_wp2_with fail
      refine (eqBytesResult_same code qG qL dG dL r _ hoG.bs.2 (HBL.out N hLN) (by omega)).mono ?_
      rintro en w8 ⟨rfl, b8⟩
      clear y0 y1 x0 x1
      have HL8 := Lib.hid (below_on hLN b8)
      have HN8 := Lib.hid b8
      have haG8 := haG.on b8
      have hoG8 := hoG.on b8
      have hon8 := HON.out.on b8
      clear haG hoG hLN b8 HON
      go_wp2_with fail
      refine wp_region_noPanic ?_
      refine wp_region_held_drew (S := fun W' => Below (w8).heap.size (w8) W') (by kernel_rfl) (below_drewN (Below.refl _ _) 1) (fun hHeld => ?_)
      refine takeR 0 33 (.agg #[.int .i64 e.kind, .int .i64 e.code, .int .i64 e.mods, .int .i64 e.button, .int .i64 e.act, .int .i64 e.col, .int .i64 e.row, .slice (some ⟨g6, 0, none⟩) e.data.length e.data.length]) (by kernel_rfl) (by kernel_rfl) (by kernel_rfl) (by kernel_rfl) (fun _ _ _ h => h) (by kernel_rfl) (fun w o hSw ho => ?_) hHeld ?_
      · obtain rfl := Option.some.inj ho; obtain ⟨z0, z1, z2, z3, z4, z5, z6, z7⟩ := HXN.out _ (below_on HN8.out hSw); go_simp
      simp only [Act.put, List.setIfInBounds_toArray, List.set_cons_zero, List.set_cons_succ]
      refine takeR 1 34 (.agg #[.int .i64 e.kind, .int .i64 e.code, .int .i64 e.mods, .int .i64 e.button, .int .i64 e.act, .int .i64 e.col, .int .i64 e.row, .slice p e.data.length c]) (by kernel_rfl) (by kernel_rfl) (by kernel_rfl) (by kernel_rfl) (fun _ _ _ h => h) (by kernel_rfl) (fun w o hSw ho => ?_) hHeld ?_
      · obtain rfl := Option.some.inj ho; obtain ⟨z0, z1, z2, z3, z4, z5, z6, z7⟩ := HEB.out _ (below_on HL8.out hSw); go_simp
      simp only [Act.put, List.setIfInBounds_toArray, List.set_cons_zero, List.set_cons_succ]
      refine oneR 2 (by kernel_rfl) (by kernel_rfl) (fun o ho K' hK => ?_)
      obtain rfl := Option.some.inj ho
      clear ho
      go_simp
      refine (toEvent_own e p c _ (HQ.out.on (below_on HB2.out (below_on HL8.out hHeld))) hl).mono ?_
      rintro en w9 ⟨g9, rfl, o9, b9⟩
      have HO9 := Lib.hid o9.bs.2
      have HD9 := Lib.hid (below_on hHeld b9)
      clear o9 b9 hHeld
      unfold evV
      go_wp2_with fail
      refine hK.out _ _ (HD9.out) (fun hHeld => ?_)
      clear hK K'
      try simp only [Act.put, List.setIfInBounds_toArray, List.set_cons_zero, List.set_cons_succ]
      refine oneR 3 (by kernel_rfl) (by kernel_rfl) (fun o ho K' hK => ?_)
      obtain rfl := Option.some.inj ho
      clear ho
      go_simp
      refine (eqEvent_same e _ _ _ _ _ (hon8.bs.2.on hHeld) HO9.out hl).mono ?_
      rintro en w10 ⟨rfl, b10⟩
      have HD10 := Lib.hid (below_on hHeld b10)
      clear b10 hHeld
      go_wp2_with fail
      refine hK.out _ _ (HD10.out) (fun hHeld => ?_)
      clear hK K'
      try simp only [Act.put, List.setIfInBounds_toArray, List.set_cons_zero, List.set_cons_succ]
      refine takeR 4 37 (.bool false) (by kernel_rfl) (by kernel_rfl) (by kernel_rfl) (by kernel_rfl) (fun _ _ _ h => h) (by kernel_rfl) (fun w o hSw ho => ?_) hHeld ?_
      · obtain rfl := Option.some.inj ho; go_simp
      simp only [Act.put, List.setIfInBounds_toArray, List.set_cons_zero, List.set_cons_succ]
      refine wpAnyH_done (by kernel_rfl) ?_ _
      refine NoPanic.normal ?_
      have HL10 := Lib.hid (below_on HL8.out hHeld)
      have haG10 := haG8.on hHeld
      have hoG10 := hoG8.on hHeld
      have hon10 := hon8.on hHeld
      obtain ⟨z0, z1, z2, z3, z4, z5, z6, z7⟩ := HXN.out _ (below_on HN8.out hHeld)
      have hME := markEvent_any w10 L.heap.size 1 e (some ⟨g6, 0, none⟩) e.data.length hon10 hl (by omega)
      unfold evV at hME
      clear haG8 hoG8 hon8 HXN HN8 hHeld HD9 HD10 HO9 HL8
      go_wp2_with fail
      refine hME.mono ?_
      rintro en w13 ⟨rfl, o13, g13⟩
      clear z0 z1 z2 z3 z4 z5 z6 z7 hME o13
      have h6a := H6.out.1
      have h6b := H6.out.2
      have hm6 := HSZ6.out
      have haG13 := haG10.far g13 (fun e' => by have e2 : gG = g6 := by simpa [Value.ownBlock] using e'
                                                omega)
      have hoG13 := hoG10.far g13 (fun j hj e' => by have h1 := (hoG10.lt j hj).1; have e2 : j = g6 := by simpa [Value.ownBlock] using e'
                                                     omega)
      have HL13 : Hid (Below L.heap.size L w13) := HL10.out.trans (below_of_grown g13 HL10.out.size (fun j hj => by have e2 : g6 = j := by simpa [Value.ownBlock] using hj
                                                                                                                    omega))
      clear haG10 hoG10 hon10 g13 HL10 hm6
      obtain ⟨y0, y1⟩ := HAL.out _ HL13.out
      obtain ⟨x0, x1⟩ := AtL.twoE haG13
      go_wp2_with fail
      refine (eqBytesResult_same code qG qL dG dL r _ hoG13.bs.2 (HBL.out _ HL13.out) (by omega)).mono ?_
      rintro en w14 ⟨rfl, b14⟩
      clear y0 y1 x0 x1
      have haG14 := haG13.on b14
      have hoG14 := hoG13.on b14
      have HL14 := Lib.hid (below_on HL13.out b14)
      clear b14 haG13 hoG13 HL13
      obtain ⟨x0, x1⟩ := AtL.twoE haG14
      go_wp2_with fail
      refine (markBytesResult_any _ _ 1 code qG dG r hoG14 (by omega) (by omega)).mono ?_
      rintro en w17 ⟨rfl, o17, g17⟩
      clear x0 x1
      have haG17 := haG14.far g17 (fun e' => hnG gG e'.symm rfl)
      have hlG := hoG14.lt
      have HL17 : Hid (Below L.heap.size L w17) := HL14.out.trans (below_of_grown g17 HL14.out.size (fun j hj => by have h1 := (hlG j hj).1; have h2 := HDM.out.size; omega))
      clear haG14 hoG14 HL14 g17 hlG
      obtain ⟨x0, x1⟩ := AtL.twoE haG17
      go_wp2_with fail
      refine (heldBr_marksE _ 1 r.length code qG dG o17.bs.2 (by omega) (by omega)).mono ?_
      rintro en w19 ⟨rfl, b19⟩
      clear x0 x1
      have haG19 := haG17.on b19
      have hbs19 := o17.bs.2.on b19
      have HL19 := Lib.hid (below_on HL17.out b19)
      have HAG := Lib.hid (fun W (hW : Below w19.heap.size w19 W) => AtL.twoE (haG19.on hW))
      have HBG := Lib.hid (fun W (hW : Below w19.heap.size w19 W) => hbs19.on hW)
      have HB19 := Lib.hid (below_on HB2.out HL19.out)
      have HT19 := Lib.hid (HT.out.on HB19.out)
      clear b19 haG17 haG19 hbs19 o17 HL17
      go_upto_region 24 with (fail)
      go_cut [12] (fun s12 wx => ∃ g q d, s12 = .pointer (some ⟨g, 0, none⟩) ∧ AtL wx g [.int .i64 code, .slice q r.length d] ∧ Own wx w19.heap.size (.slice q r.length d) r ∧ Below w19.heap.size w19 wx ∧ (∀ j, (Value.slice q r.length d).ownBlock = some j → j ≠ g) ∧ w19.heap.size ≤ g)
      case first =>
        refine wp_region_noPanic ?_
        refine wp_region_held_drew (S := fun W' => Below (w19).heap.size (w19) W') (by kernel_rfl) (below_drewN (Below.refl _ _) 1) (fun hHeld => ?_)
        refine takeR 0 60 (.agg #[.bool md.cursor, .bool md.coded, .int .i64 md.mouse, .bool md.sgr, .bool md.paste]) (by kernel_rfl) (by kernel_rfl) (by kernel_rfl) (by kernel_rfl) (fun _ _ _ h => h) (by kernel_rfl) (fun w o hSw ho => ?_) hHeld ?_
        · obtain rfl := Option.some.inj ho; obtain ⟨z0, z1, z2, z3, z4⟩ := HMB.out _ (below_on HL19.out hSw); go_simp
        simp only [Act.put, List.setIfInBounds_toArray, List.set_cons_zero, List.set_cons_succ]
        refine takeR 2 62 (.agg #[.int .i64 e.kind, .int .i64 e.code, .int .i64 e.mods, .int .i64 e.button, .int .i64 e.act, .int .i64 e.col, .int .i64 e.row, .slice p e.data.length c]) (by kernel_rfl) (by kernel_rfl) (by kernel_rfl) (by kernel_rfl) (fun _ _ _ h => h) (by kernel_rfl) (fun w o hSw ho => ?_) hHeld ?_
        · obtain rfl := Option.some.inj ho; obtain ⟨z0, z1, z2, z3, z4, z5, z6, z7⟩ := HEB.out _ (below_on HL19.out hSw); go_simp
        simp only [Act.put, List.setIfInBounds_toArray, List.set_cons_zero, List.set_cons_succ]
        refine twoR 1 5 (by kernel_rfl) (by kernel_rfl) (by kernel_rfl) (fun o ho K' hK => ?_) (fun o ho K' hK => ?_)
        · obtain rfl := Option.some.inj ho
          clear ho
          go_simp
          refine (HMD.out _).mono ?_
          rintro en V22 ⟨rfl, hbx⟩
          have HD22 := Lib.hid (below_on hHeld hbx)
          clear hHeld
          go_wp2_with fail
          refine hK.out _ _ (HD22.out) (fun hHeld => ?_)
          clear hK K'
          try simp only [Act.put, List.setIfInBounds_toArray, List.set_cons_zero, List.set_cons_succ]
          clear hbx
          refine twoR 3 5 (by kernel_rfl) (by kernel_rfl) (by kernel_rfl) (fun o ho K' hK => ?_) (fun o ho K' hK => ?_)
          · obtain rfl := Option.some.inj ho
            clear ho
            go_simp
            refine (toEvent_own e p c _ (HQ.out.on (below_on HB19.out hHeld)) hl).mono ?_
            rintro en V23 ⟨gx, rfl, o3, hbx⟩
            have HX3 := Lib.hid o3.bs.2
            have HD23 := Lib.hid (below_on hHeld hbx)
            clear hHeld o3
            unfold evV
            go_wp2_with fail
            refine hK.out _ _ (HD23.out) (fun hHeld => ?_)
            clear hK K'
            try simp only [Act.put, List.setIfInBounds_toArray, List.set_cons_zero, List.set_cons_succ]
            clear hbx
            refine twoR 4 5 (by kernel_rfl) (by kernel_rfl) (by kernel_rfl) (fun o ho K' hK => ?_) (fun o ho K' hK => ?_)
            · obtain rfl := Option.some.inj ho
              clear ho
              go_simp
              refine (IP.out _ _ _ (HT19.out.on hHeld) HX3.out (by simp)).mono ?_
              rintro en V24 ⟨v4, rfl, o4, hbx⟩
              obtain ⟨p4, c4, hv⟩ := o4.slice
              subst hv
              have HO4 := Lib.hid o4
              have hbs : w19.heap.size ≤ (V23).heap.size := hHeld.size
              have HD24 := Lib.hid (below_on hHeld hbx)
              clear hHeld o4
              unfold brV
              go_wp2_with fail
              refine hK.out _ _ (HD24.out) (fun hHeld => ?_)
              clear hK K'
              try simp only [Act.put, List.setIfInBounds_toArray, List.set_cons_zero, List.set_cons_succ]
              clear hbx
              refine oneR 5 (by kernel_rfl) (by kernel_rfl) (fun o ho K' hK => ?_)
              obtain rfl := Option.some.inj ho
              clear ho
              go_simp
              have HHL := Lib.hid hHeld
              refine hK.out _ _ (below_on hHeld (below_mk _ _)) (fun hHeld => ?_)
              clear hK K'
              try simp only [Act.put, List.setIfInBounds_toArray, List.set_cons_zero, List.set_cons_succ]
              refine oneR 6 (by kernel_rfl) (by kernel_rfl) (fun o ho K' hK => ?_)
              obtain rfl := Option.some.inj ho
              clear ho
              go_simp
              refine hK.out _ _ (below_on HHL.out (below_mk _ _)) (fun hHeld => ?_)
              clear hK K'
              try simp only [Act.put, List.setIfInBounds_toArray, List.set_cons_zero, List.set_cons_succ]
              refine wpAnyH_done (by kernel_rfl) ?_ _
              refine NoPanic.normal ?_
              have HA := Lib.hid (AtL.new (V24) [.int .i64 code, .slice p4 r.length c4] 31)
              have HO := Lib.hid ((HO4.out.lower hbs).on (below_mk (V24) (.cells #[.int .i64 code, .slice p4 r.length c4] 31)))
              have HN : Hid (∀ j, (Value.slice p4 r.length c4).ownBlock = some j → j ≠ (V24).heap.size) := fun j hj => Nat.ne_of_lt (HO4.out.lt j hj).2
              go_wp2_with fail
              go_meet
              exact ⟨_, p4, c4, rfl, HA.out, HO.out, hHeld, HN.out, HHL.out.size⟩
            · obtain rfl := Option.some.inj ho
              clear ho
              go_simp
              have HAT26 : Hid (AtM ((V23).alloc (.cells #[.int .i64 0, .slice none 0 0] 31)) ((V23).heap.size) [.int .i64 0, .slice none 0 0]) := AtM.new (V23) [.int .i64 0, .slice none 0 0] 31
              have hle26 : w19.heap.size ≤ (V23).heap.size := hHeld.size
              have HX3 := Lib.hid (HX3.out.on (below_mk (V23) (.cells #[.int .i64 0, .slice none 0 0] 31)))
              refine hK.out _ _ (below_on hHeld (below_mk _ _)) (fun hHeld => ?_)
              clear hK K'
              try simp only [Act.put, List.setIfInBounds_toArray, List.set_cons_zero, List.set_cons_succ]
              refine oneR 4 (by kernel_rfl) (by kernel_rfl) (fun o ho K' hK => ?_)
              obtain rfl := Option.some.inj ho
              clear ho
              go_simp
              have hlt : (V23).heap.size < (((V23).alloc (.cells #[.int .i64 0, .slice none 0 0] 31))).heap.size := HAT26.out.cells.1
              refine (IP.out _ _ _ (HT19.out.on hHeld) HX3.out (by simp)).mono ?_
              rintro en V27 ⟨v4, rfl, o4, hbx⟩
              obtain ⟨p4, c4, hv⟩ := o4.slice
              subst hv
              have HO4 := Lib.hid o4
              have hbs : w19.heap.size ≤ (((V23).alloc (.cells #[.int .i64 0, .slice none 0 0] 31))).heap.size := hHeld.size
              have HD27 := Lib.hid (below_on hHeld hbx)
              clear hHeld o4
              unfold brV
              go_wp2_with fail
              refine hK.out _ _ (HD27.out) (fun hHeld => ?_)
              clear hK K'
              try simp only [Act.put, List.setIfInBounds_toArray, List.set_cons_zero, List.set_cons_succ]
              have HAT27 := Lib.hid (HAT26.out.on hbx)
              clear hbx
              have q0 := HAT27.out.cells.get 0 rfl
              have q1 := HAT27.out.cells.get 1 rfl
              have hfz := HAT27.out.free
              refine oneR 6 (by kernel_rfl) (by kernel_rfl) (fun o ho K' hK => ?_)
              obtain rfl := Option.some.inj ho
              clear ho
              go_simp
              refine hK.out _ _ (below_set2 hHeld ((V23).heap.size) hle26 _ _) (fun hHeld => ?_)
              clear hK K'
              try simp only [Act.put, List.setIfInBounds_toArray, List.set_cons_zero, List.set_cons_succ]
              refine wpAnyH_done (by kernel_rfl) ?_ _
              refine NoPanic.normal ?_
              have HA := Lib.hid (((HAT27.out.set 0 (.int .i64 code)).set 1 (.slice p4 r.length c4)).cells)
              have HO := Lib.hid (((HO4.out.setBelow (a := ⟨(V23).heap.size, 0, none⟩) hlt (.int .i64 code)).setBelow (a := ⟨(V23).heap.size, 1, none⟩) hlt (.slice p4 r.length c4)).lower hbs)
              have HN : Hid (∀ j, (Value.slice p4 r.length c4).ownBlock = some j → j ≠ (V23).heap.size) := fun j hj => Nat.ne_of_gt (Nat.lt_of_lt_of_le hlt (HO4.out.lt j hj).1)
              go_wp2_with fail
              go_meet
              exact ⟨_, p4, c4, rfl, HA.out, HO.out, hHeld, HN.out, hle26⟩
          · obtain rfl := Option.some.inj ho
            clear ho
            go_simp
            have HAT28 : Hid (AtM ((V22).alloc (.cells #[.int .i64 0, .slice none 0 0] 31)) ((V22).heap.size) [.int .i64 0, .slice none 0 0]) := AtM.new (V22) [.int .i64 0, .slice none 0 0] 31
            have hle28 : w19.heap.size ≤ (V22).heap.size := hHeld.size
            refine hK.out _ _ (below_on hHeld (below_mk _ _)) (fun hHeld => ?_)
            clear hK K'
            try simp only [Act.put, List.setIfInBounds_toArray, List.set_cons_zero, List.set_cons_succ]
            refine oneR 3 (by kernel_rfl) (by kernel_rfl) (fun o ho K' hK => ?_)
            obtain rfl := Option.some.inj ho
            clear ho
            go_simp
            refine (toEvent_own e p c _ (HQ.out.on (below_on HB19.out hHeld)) hl).mono ?_
            rintro en V29 ⟨gx, rfl, o3, hbx⟩
            have HX3 := Lib.hid o3.bs.2
            have HD29 := Lib.hid (below_on hHeld hbx)
            clear hHeld o3
            unfold evV
            go_wp2_with fail
            refine hK.out _ _ (HD29.out) (fun hHeld => ?_)
            clear hK K'
            try simp only [Act.put, List.setIfInBounds_toArray, List.set_cons_zero, List.set_cons_succ]
            have HAT29 := Lib.hid (HAT28.out.on hbx)
            clear hbx
            refine oneR 4 (by kernel_rfl) (by kernel_rfl) (fun o ho K' hK => ?_)
            obtain rfl := Option.some.inj ho
            clear ho
            go_simp
            have hlt : (V22).heap.size < (V29).heap.size := HAT29.out.cells.1
            refine (IP.out _ _ _ (HT19.out.on hHeld) HX3.out (by simp)).mono ?_
            rintro en V30 ⟨v4, rfl, o4, hbx⟩
            obtain ⟨p4, c4, hv⟩ := o4.slice
            subst hv
            have HO4 := Lib.hid o4
            have hbs : w19.heap.size ≤ (V29).heap.size := hHeld.size
            have HD30 := Lib.hid (below_on hHeld hbx)
            clear hHeld o4
            unfold brV
            go_wp2_with fail
            refine hK.out _ _ (HD30.out) (fun hHeld => ?_)
            clear hK K'
            try simp only [Act.put, List.setIfInBounds_toArray, List.set_cons_zero, List.set_cons_succ]
            have HAT30 := Lib.hid (HAT29.out.on hbx)
            clear hbx
            have q0 := HAT30.out.cells.get 0 rfl
            have q1 := HAT30.out.cells.get 1 rfl
            have hfz := HAT30.out.free
            refine oneR 6 (by kernel_rfl) (by kernel_rfl) (fun o ho K' hK => ?_)
            obtain rfl := Option.some.inj ho
            clear ho
            go_simp
            refine hK.out _ _ (below_set2 hHeld ((V22).heap.size) hle28 _ _) (fun hHeld => ?_)
            clear hK K'
            try simp only [Act.put, List.setIfInBounds_toArray, List.set_cons_zero, List.set_cons_succ]
            refine wpAnyH_done (by kernel_rfl) ?_ _
            refine NoPanic.normal ?_
            have HA := Lib.hid (((HAT30.out.set 0 (.int .i64 code)).set 1 (.slice p4 r.length c4)).cells)
            have HO := Lib.hid (((HO4.out.setBelow (a := ⟨(V22).heap.size, 0, none⟩) hlt (.int .i64 code)).setBelow (a := ⟨(V22).heap.size, 1, none⟩) hlt (.slice p4 r.length c4)).lower hbs)
            have HN : Hid (∀ j, (Value.slice p4 r.length c4).ownBlock = some j → j ≠ (V22).heap.size) := fun j hj => Nat.ne_of_gt (Nat.lt_of_lt_of_le hlt (HO4.out.lt j hj).1)
            go_wp2_with fail
            go_meet
            exact ⟨_, p4, c4, rfl, HA.out, HO.out, hHeld, HN.out, hle28⟩
        · obtain rfl := Option.some.inj ho
          clear ho
          go_simp
          have HAT31 : Hid (AtM (w19.alloc (.cells #[.int .i64 0, .slice none 0 0] 31)).drew (w19.heap.size) [.int .i64 0, .slice none 0 0]) := AtM.new (w19.drew) [.int .i64 0, .slice none 0 0] 31
          have hle31 : w19.heap.size ≤ w19.heap.size := hHeld.size
          refine hK.out _ _ (below_on hHeld (below_mk _ _)) (fun hHeld => ?_)
          clear hK K'
          try simp only [Act.put, List.setIfInBounds_toArray, List.set_cons_zero, List.set_cons_succ]
          refine oneR 1 (by kernel_rfl) (by kernel_rfl) (fun o ho K' hK => ?_)
          obtain rfl := Option.some.inj ho
          clear ho
          go_simp
          refine (HMD.out _).mono ?_
          rintro en V32 ⟨rfl, hbx⟩
          have HD32 := Lib.hid (below_on hHeld hbx)
          clear hHeld
          go_wp2_with fail
          refine hK.out _ _ (HD32.out) (fun hHeld => ?_)
          clear hK K'
          try simp only [Act.put, List.setIfInBounds_toArray, List.set_cons_zero, List.set_cons_succ]
          have HAT32 := Lib.hid (HAT31.out.on hbx)
          clear hbx
          refine oneR 3 (by kernel_rfl) (by kernel_rfl) (fun o ho K' hK => ?_)
          obtain rfl := Option.some.inj ho
          clear ho
          go_simp
          refine (toEvent_own e p c _ (HQ.out.on (below_on HB19.out hHeld)) hl).mono ?_
          rintro en V33 ⟨gx, rfl, o3, hbx⟩
          have HX3 := Lib.hid o3.bs.2
          have HD33 := Lib.hid (below_on hHeld hbx)
          clear hHeld o3
          unfold evV
          go_wp2_with fail
          refine hK.out _ _ (HD33.out) (fun hHeld => ?_)
          clear hK K'
          try simp only [Act.put, List.setIfInBounds_toArray, List.set_cons_zero, List.set_cons_succ]
          have HAT33 := Lib.hid (HAT32.out.on hbx)
          clear hbx
          refine oneR 4 (by kernel_rfl) (by kernel_rfl) (fun o ho K' hK => ?_)
          obtain rfl := Option.some.inj ho
          clear ho
          go_simp
          have hlt : w19.heap.size < (V33).heap.size := HAT33.out.cells.1
          refine (IP.out _ _ _ (HT19.out.on hHeld) HX3.out (by simp)).mono ?_
          rintro en V34 ⟨v4, rfl, o4, hbx⟩
          obtain ⟨p4, c4, hv⟩ := o4.slice
          subst hv
          have HO4 := Lib.hid o4
          have hbs : w19.heap.size ≤ (V33).heap.size := hHeld.size
          have HD34 := Lib.hid (below_on hHeld hbx)
          clear hHeld o4
          unfold brV
          go_wp2_with fail
          refine hK.out _ _ (HD34.out) (fun hHeld => ?_)
          clear hK K'
          try simp only [Act.put, List.setIfInBounds_toArray, List.set_cons_zero, List.set_cons_succ]
          have HAT34 := Lib.hid (HAT33.out.on hbx)
          clear hbx
          have q0 := HAT34.out.cells.get 0 rfl
          have q1 := HAT34.out.cells.get 1 rfl
          have hfz := HAT34.out.free
          refine oneR 6 (by kernel_rfl) (by kernel_rfl) (fun o ho K' hK => ?_)
          obtain rfl := Option.some.inj ho
          clear ho
          go_simp
          refine hK.out _ _ (below_set2 hHeld (w19.heap.size) hle31 _ _) (fun hHeld => ?_)
          clear hK K'
          try simp only [Act.put, List.setIfInBounds_toArray, List.set_cons_zero, List.set_cons_succ]
          refine wpAnyH_done (by kernel_rfl) ?_ _
          refine NoPanic.normal ?_
          have HA := Lib.hid (((HAT34.out.set 0 (.int .i64 code)).set 1 (.slice p4 r.length c4)).cells)
          have HO := Lib.hid (((HO4.out.setBelow (a := ⟨w19.heap.size, 0, none⟩) hlt (.int .i64 code)).setBelow (a := ⟨w19.heap.size, 1, none⟩) hlt (.slice p4 r.length c4)).lower hbs)
          have HN : Hid (∀ j, (Value.slice p4 r.length c4).ownBlock = some j → j ≠ w19.heap.size) := fun j hj => Nat.ne_of_gt (Nat.lt_of_lt_of_le hlt (HO4.out.lt j hj).1)
          go_wp2_with fail
          go_meet
          exact ⟨_, p4, c4, rfl, HA.out, HO.out, hHeld, HN.out, hle31⟩
      case rest =>
        obtain ⟨gH, qH, dH, rfl, haH, hoH, hbH, hnH, hgH⟩ := hcut
        obtain ⟨P, hren⟩ : ∃ V, V = wc := ⟨_, rfl⟩
        subst hren
        obtain ⟨y0, y1⟩ := HAL.out P (below_on HL19.out hbH)
        obtain ⟨x0, x1⟩ := AtL.twoE haH
        go_wp2_with fail
        refine (eqBytesResult_same code qH qL dH dL r _ hoH.bs.2 (HBL.out P (below_on HL19.out hbH)) (by omega)).mono ?_
        rintro en w25 ⟨rfl, b25⟩
        clear y0 y1 x0 x1
        have hb25 := below_on hbH b25
        obtain ⟨x0, x1⟩ := HAG.out _ hb25
        go_wp2_with fail
        refine (heldBr_marksE _ 1 r.length code qG dG (HBG.out _ hb25) (by omega) (by omega)).mono ?_
        rintro en w28 ⟨rfl, b28⟩
        go_wp2_with fail
        go_ret
        exact ⟨rfl, below_on HB19.out (below_on hb25 b28)⟩

end Go.Proofs.YtnmnklilmcpkaaaDoor
