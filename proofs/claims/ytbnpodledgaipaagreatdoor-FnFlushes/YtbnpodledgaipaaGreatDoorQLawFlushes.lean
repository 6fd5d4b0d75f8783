/- FnFlushes: the law's walk. -/
import Derived.Test.YtbnpodledgaipaaGreatDoorQDrawsKToDrawsK4
import Derived.Test.YtbnpodledgaipaaGreatDoorQFlush4
import Derived.Test.YtbnpodledgaipaaGreatDoorQFlush3
import Derived.Test.YtbnpodledgaipaaGreatDoorQLwTok
import Derived.Test.YtbnpodledgaipaaGreatDoorQFaultToLws
import Derived.Test.YtbnpodledgaipaaGreatDoorQTokFacts
import Derived.Test.YtbnpodledgaipaaGreatDoorQTakes
import Derived.Test.YtbnpodledgaipaaGreatDoorQTokToTokLaw
namespace Go.Proofs.YtbnpodledgaipaaGreatDoor
open Go.RowKit
set_option linter.unusedVariables false

set_option maxRecDepth 100000 in
set_option maxHeartbeats 2000000 in
theorem lawFlushes_any (q : Option Addr) (c : Nat) (l : List UInt8) (w : World) (h : Bs w w.heap.size q l) (ht : Tabs w) :
    Calls Tryz.prog 4 #[.slice q l.length c] w fun e w' => e = .returned (.bool true) ∧ Below w.heap.size w w' := by
  by_cases hbig : (1048576 : Int) < (l.length : Int)
  · go_enter Tryz.func4, Tryz.ntmps4
    go_wp2_with fail
    refine (lwBig_any _ _ _ _).mono ?_
    rw [decide_eq_true hbig]
    rintro e w1 ⟨rfl, rfl⟩
    go_wp2_with fail
    go_ret
    exact ⟨rfl, Below.refl _ _⟩
  have hl : l.length ≤ 1048576 := by omega
  have HF := Lib.hid (decide_eq_false hbig)
  clear hbig
  have HD := Lib.hid (drawFlushToken_any q c l w h hl)
  have HT := Lib.hid ht
  clear h ht
  go_enter Tryz.func4, Tryz.ntmps4
  go_wp2_with fail
  refine (lwBig_any _ _ _ _).mono ?_
  rw [HF.out]
  rintro e w1 ⟨rfl, rfl⟩
  clear HF
  go_wp2_with fail
  refine HD.out.mono ?_
  rintro e w1 ⟨b, cap, bs, pr, rfl, hlen, hcap, hbs, hb1⟩
  have HB1 := Lib.hid hb1
  have HX1 := Lib.hid hbs
  have HT1 := Lib.hid (HT.out.on hb1)
  clear hb1 hbs HD HT
  have hgood := flushTok_good bs pr
  have hsm := flushTok_small bs pr
  have hnone : bs = [] → (flushTok bs pr).code = 4 := fun e => by subst e; rfl
  have SP := Lib.hid (fun W' h => specFlushToken_any (some ⟨b, 0, none⟩) cap bs pr W' h hcap (by omega))
  have IP := Lib.hid (fun W' h hT => implFlushToken_any (some ⟨b, 0, none⟩) cap bs pr W' h hT hcap (by omega))
  generalize flushTok bs pr = t at *
  go_wp2_with fail
  refine (IP.out _ HX1.out HT1.out).mono ?_
  rintro e w2 ⟨v, rfl, ho2, hb2⟩
  obtain ⟨pp, cc, hv⟩ := ho2.slice
  subst hv
  have B2 := below_mk w2 (.cells #[.int .i64 t.code, .int .i64 t.ev.kind, .int .i64 t.ev.code, .int .i64 t.ev.mods, .int .i64 t.ev.button, .int .i64 t.ev.act, .int .i64 t.ev.col, .int .i64 t.ev.row, .slice pp t.ev.data.length cc, .int .i64 t.size, .bool t.paste, .bool t.none] 30)
  have X2 : AtL (w2.alloc (.cells #[.int .i64 t.code, .int .i64 t.ev.kind, .int .i64 t.ev.code, .int .i64 t.ev.mods, .int .i64 t.ev.button, .int .i64 t.ev.act, .int .i64 t.ev.col, .int .i64 t.ev.row, .slice pp t.ev.data.length cc, .int .i64 t.size, .bool t.paste, .bool t.none] 30)) w2.heap.size (tkL t (.slice pp t.ev.data.length cc)) := AtL.new w2 (tkL t (.slice pp t.ev.data.length cc)) 30
  have O2 := (ho2.on B2).bs.2
  have D2 := (HX1.out.on hb2).on B2
  have E2 := below_on (below_on HB1.out hb2) B2
  have HG := Lib.hid (And.intro hgood hnone)
  clear ho2 hb2 HX1 HB1 HT1 B2 hgood hnone IP
  unfold tkV
  go_wp2_with fail
  generalize w2.alloc (.cells #[.int .i64 t.code, .int .i64 t.ev.kind, .int .i64 t.ev.code, .int .i64 t.ev.mods, .int .i64 t.ev.button, .int .i64 t.ev.act, .int .i64 t.ev.col, .int .i64 t.ev.row, .slice pp t.ev.data.length cc, .int .i64 t.size, .bool t.paste, .bool t.none] 30) = W at *
  have HS : Hid (∀ W', Below W.heap.size W W' → Calls Tryz.prog 21 #[.slice (some ⟨b, 0, none⟩) bs.length cap, .bool pr] W' fun e W2 => ∃ p2 c2, e = .returned (.agg #[.int .i64 t.code, .int .i64 t.ev.kind, .int .i64 t.ev.code, .int .i64 t.ev.mods, .int .i64 t.ev.button, .int .i64 t.ev.act, .int .i64 t.ev.col, .int .i64 t.ev.row, .slice p2 t.ev.data.length c2, .int .i64 t.size, .bool t.paste, .bool t.none]) ∧ Bs W2 W2.heap.size p2 t.ev.data ∧ Below W.heap.size W W2) := fun W' hb =>
    (SP.out W' (D2.on hb)).mono fun _ _ ⟨v, he, ho, hb2⟩ => by
      obtain ⟨p2, c2, hv⟩ := ho.slice
      subst hv
      exact ⟨p2, c2, he, ho.bs.2, below_on hb hb2⟩
  have HL : Hid (∀ W' p2 c2, Bs W' W'.heap.size p2 t.ev.data → Below W.heap.size W W' → Calls Tryz.prog 15 #[.agg #[.int .i64 t.code, .int .i64 t.ev.kind, .int .i64 t.ev.code, .int .i64 t.ev.mods, .int .i64 t.ev.button, .int .i64 t.ev.act, .int .i64 t.ev.col, .int .i64 t.ev.row, .slice pp t.ev.data.length cc, .int .i64 t.size, .bool t.paste, .bool t.none], .agg #[.int .i64 t.code, .int .i64 t.ev.kind, .int .i64 t.ev.code, .int .i64 t.ev.mods, .int .i64 t.ev.button, .int .i64 t.ev.act, .int .i64 t.ev.col, .int .i64 t.ev.row, .slice p2 t.ev.data.length c2, .int .i64 t.size, .bool t.paste, .bool t.none]] W' fun e W2 => e = .returned (.bool true) ∧ Below W.heap.size W W2) := fun W' p2 c2 h2 hb =>
    (lwToken_same t pp p2 cc c2 W' (O2.on hb) h2 (by omega)).mono fun _ _ ⟨he, hb2⟩ => ⟨he, below_on hb hb2⟩
  have HA := Lib.hid (fun W' (hb : Below W.heap.size W W') => (X2.on hb).tk)
  have HX := Lib.hid (And.intro X2 E2)
  clear X2 O2 D2 E2 SP
  refine wp_region_noPanic ?_
  refine wp_region_held_drew (S := fun W' => Below (W).heap.size (W) W') (by kernel_rfl) (below_drewN (Below.refl _ _) 1) (fun hHeld => ?_)
  refine takeR 0 16 (.agg #[.int .i64 t.code, .int .i64 t.ev.kind, .int .i64 t.ev.code, .int .i64 t.ev.mods, .int .i64 t.ev.button, .int .i64 t.ev.act, .int .i64 t.ev.col, .int .i64 t.ev.row, .slice pp t.ev.data.length cc, .int .i64 t.size, .bool t.paste, .bool t.none]) (by kernel_rfl) (by kernel_rfl) (by kernel_rfl) (by kernel_rfl) (fun _ _ _ h => h) (by kernel_rfl) (fun w o hSw ho => ?_) hHeld ?_
  · obtain rfl := Option.some.inj ho; obtain ⟨z0, z1, z2, z3, z4, z5, z6, z7, z8, z9, z10, z11⟩ := HA.out _ hSw; go_simp
  simp only [Act.put, List.setIfInBounds_toArray, List.set_cons_zero, List.set_cons_succ]
  refine takeR 1 17 (.slice (some ⟨b, 0, none⟩) bs.length cap) (by kernel_rfl) (by kernel_rfl) (by kernel_rfl) (by kernel_rfl) (fun _ _ _ h => h) (by kernel_rfl) (fun w o hSw ho => ?_) hHeld ?_
  · obtain rfl := Option.some.inj ho; go_simp
  simp only [Act.put, List.setIfInBounds_toArray, List.set_cons_zero, List.set_cons_succ]
  refine takeR 2 18 (.bool pr) (by kernel_rfl) (by kernel_rfl) (by kernel_rfl) (by kernel_rfl) (fun _ _ _ h => h) (by kernel_rfl) (fun w o hSw ho => ?_) hHeld ?_
  · obtain rfl := Option.some.inj ho; go_simp
  simp only [Act.put, List.setIfInBounds_toArray, List.set_cons_zero, List.set_cons_succ]
  refine oneR 3 (by kernel_rfl) (by kernel_rfl) (fun o ho K' hK => ?_)
  obtain rfl := Option.some.inj ho
  clear ho
  go_simp
  refine (HS.out _ hHeld).mono ?_
  rintro e W1 ⟨p2, c2, rfl, hx, hc1⟩
  clear hHeld
  go_wp2_with fail
  refine hK.out _ _ (hc1) (fun hHeld => ?_)
  clear hK K'
  try simp only [Act.put, List.setIfInBounds_toArray, List.set_cons_zero, List.set_cons_succ]
  refine oneR 4 (by kernel_rfl) (by kernel_rfl) (fun o ho K' hK => ?_)
  obtain rfl := Option.some.inj ho
  clear ho
  go_simp
  refine (HL.out _ _ _ hx hc1).mono ?_
  rintro e W2 ⟨rfl, hd⟩
  clear hHeld
  go_wp2_with fail
  refine hK.out _ _ (hd) (fun hHeld => ?_)
  clear hK K'
  try simp only [Act.put, List.setIfInBounds_toArray, List.set_cons_zero, List.set_cons_succ]
  refine takeR 5 21 (.bool false) (by kernel_rfl) (by kernel_rfl) (by kernel_rfl) (by kernel_rfl) (fun _ _ _ h => h) (by kernel_rfl) (fun w o hSw ho => ?_) hHeld ?_
  · obtain rfl := Option.some.inj ho; go_simp
  simp only [Act.put, List.setIfInBounds_toArray, List.set_cons_zero, List.set_cons_succ]
  refine wpAnyH_done (by kernel_rfl) ?_ _
  refine NoPanic.normal ?_
  have X3 := HX.out.1.on hHeld
  have E3 := below_on HX.out.2 hHeld
  clear HX HA HS HL hx hc1 hd hHeld
  obtain ⟨z0, z1, z2, z3, z4, z5, z6, z7, z8, z9, z10, z11⟩ := X3.tk
  by_cases hne : bs = []
  · have h4 := HG.out.2 hne
    subst hne
    go_wp2_with fail
    go_ret
    exact ⟨rfl, E3⟩
  · obtain ⟨h0, ⟨k, hk, hk1, hk2⟩, hev⟩ := HG.out.1 hne
    have hpos : 0 < bs.length := List.length_pos_iff.2 hne
    have hz : ¬ (bs.length : Int) = 0 := by omega
    have hk3 : (1 : Int) ≤ (k : Int) := by omega
    have hk4 : (k : Int) ≤ (bs.length : Int) := by omega
    have HEV := Lib.hid hev
    clear hev HG
    cases hn : t.none
    · have hfl : t.ev.fault = 0 := by rcases HEV.out with h | h
                                      · rw [hn] at h; cases h
                                      · exact h
      rw [hn] at z11
      have HFL := Lib.hid hfl
      clear hfl
      go_wp2_with fail
      refine (implEventFault_any t.ev pp cc _).mono ?_
      rw [HFL.out]
      rintro e W4 ⟨rfl, hb4⟩
      have E4 := below_on E3 hb4
      clear z0 z1 z2 z3 z4 z5 z6 z7 z8 z9 z10 z11 hb4
      go_wp2_with fail
      go_ret
      exact ⟨rfl, E4⟩
    · rw [hn] at z11
      go_wp2_with fail
      go_ret
      exact ⟨rfl, E3⟩

end Go.Proofs.YtbnpodledgaipaaGreatDoor
