/- What the laws over answers with a decoder share. -/
import Derived.Test.YtbnpodledgaipaaGreatDoorQEvs4ToDrMark
import Derived.Test.YtbnpodledgaipaaGreatDoorQLaidToOpenDc
import Derived.Test.YtbnpodledgaipaaGreatDoorQTokToTokLaw2
import Derived.Test.YtbnpodledgaipaaGreatDoorQPutToMarksBig
namespace Go.Proofs.YtbnpodledgaipaaGreatDoor
open Go.RowKit
set_option linter.unusedVariables false

def drL (r : Dr) (p : Option Addr) (c : Nat) (q : Option Addr) (d : Nat) : List Value := [.int .i64 r.code, .slice p r.dc.pend.length c, .bool r.dc.paste, .int .i64 r.dc.due, .slice q r.evs.length d]

/-- an answer of a size that the marks bear -/
structure SmallDr (r : Dr) : Prop where
  pend : r.dc.pend.length ≤ 10000
  evs : r.evs.length ≤ 20000
  data : ∀ e ∈ r.evs, e.data.length ≤ 32
theorem SmallDr.top {r : Dr} (h : SmallDr r) {rows : List EvRow} (hr : rows.map Prod.fst = r.evs) : drTop 1 r rows ≤ 1000000 ∧ rows.length ≤ 1000000 := by
  have e : rows.length = r.evs.length := by rw [← hr, List.length_map]
  have hd : ∀ x ∈ rows, x.1.data.length ≤ 32 := fun x hx => h.data x.1 (by rw [← hr]; exact List.mem_map_of_mem hx)
  have h1 := mkTop_bound rows (1 + r.dc.pend.length) hd
  have h2 := h.pend
  have h3 := h.evs
  unfold drTop
  refine ⟨?_, by omega⟩
  rw [e] at h1
  omega

theorem certTok_small (l : List UInt8) (q : Bool) : (certTok l q).ev.data.length ≤ 32 := by
  unfold certTok
  split
  · exact firstPaste_small l
  · exact firstTok_small l
theorem bad_small (c : Int) : SmallDr (badDr c) := ⟨by simp [badDr], by simp [badDr], by simp [badDr]⟩
theorem tickRes_small (d : Dc) (now : Int) : SmallDr (tickRes d now) := by
  unfold tickRes
  split
  · exact bad_small _
  rename_i hf
  have hf0 : dcFault d = 0 := by simpa using hf
  have hlen := dcFault_len hf0
  split
  · exact bad_small _
  split
  · exact ⟨by show d.pend.length ≤ 10000; omega, by simp, by simp⟩
  · have h1 := takeAll_len flushTok_goodRule d.pend d.paste
    exact ⟨by simp, by show (takeAll flushTok d.pend d.paste).1.length ≤ 20000; omega, takeAll_small flushTok_goodRule (fun l q => flushTok_small l q) d.pend d.paste⟩
theorem feedRes_small (d : Dc) (data : List UInt8) (now : Int) : SmallDr (feedRes d data now) := by
  unfold feedRes
  split
  · exact bad_small _
  rename_i hf
  have hf0 : dcFault d = 0 := by simpa using hf
  have hlen := dcFault_len hf0
  split
  · exact bad_small _
  split
  · exact bad_small _
  · rename_i h200 _
    have h1 := takeAll_len certTok_good (d.pend ++ data) d.paste
    rw [List.length_append] at h1
    exact ⟨by show (takeAll certTok (d.pend ++ data) d.paste).2.1.length ≤ 10000; omega, by show (takeAll certTok (d.pend ++ data) d.paste).1.length ≤ 20000; omega, takeAll_small certTok_good certTok_small (d.pend ++ data) d.paste⟩

/-- a block below the answer's own is written -/
theorem DrOwn.far {base : Nat} {r : Dr} {v u : Value} {rows : List EvRow} {w w' : World} (h : DrOwn base r v u rows w) {row : Option Nat} (hg : w.grownBy w' row) (hr : ∀ j, row = some j → j < base) : DrOwn base r v u rows w' := by
  have hne : ∀ j, base ≤ j → some j ≠ row := fun j hj e => by have := hr j e.symm; omega
  refine ⟨h.evs, h.pend.far hg (fun g hg' => hne g (h.pend.lt g hg').1), h.own.kept hg ?_ (fun r hr' j hj => hne j ((h.own.2 r hr').lt j hj).1), h.apart, h.off⟩
  cases hu : u.ownBlock with
  | none => exact .inr rfl
  | some j => exact .inl (hne j (h.own.lt j hu).1)
/-- the answer's own blocks lie below n -/
theorem DrOwn.under {base : Nat} {r : Dr} {v u : Value} {rows : List EvRow} {w : World} (h : DrOwn base r v u rows w) {j : Nat} (hj : w.heap.size ≤ j) : v.ownBlock ≠ some j ∧ ¬ MarkP u rows j := by
  refine ⟨fun e => by have := (h.pend.lt j e).2; omega, ?_⟩
  rintro (e | ⟨x, hx, e⟩)
  · have := (h.own.lt j e).2; omega
  · have := ((h.own.2 x hx).lt j e).2; omega
theorem AtL.kept {w w' : World} {b : Nat} {vs : List Value} (h : AtL w b vs) (hs : w.heap.size ≤ w'.heap.size) (hb : w'.heap[b]? = w.heap[b]?) : AtL w' b vs := h.keep hs fun o => World.cell?_of_block (a := ⟨b, o, none⟩) hb

end Go.Proofs.YtbnpodledgaipaaGreatDoor

/- The walk of the law over FeedDecoder. (Written by wip/gen_lawdec.py.) -/
namespace Go.Proofs.YtbnpodledgaipaaGreatDoor
open Go.RowKit
set_option linter.unusedVariables false

set_option maxRecDepth 100000 in
set_option maxHeartbeats 4000000 in
theorem lawFeedDecoder_any (a : Dc) (p pd : Option Addr) (c cd : Nat) (bs : List UInt8) (now : Int) (w : World) (h : Bs w w.heap.size p a.pend) (hn : a.pend.length ≤ 9223372036854775807) (hbs : Bs w w.heap.size pd bs) (ht : Tabs w) :
    Calls Tryz.prog 7 #[dcV a p c, .slice pd bs.length cd, .int .i64 now] w fun e w' => e = .returned (.bool true) ∧ Below w.heap.size w w' := by
  have b0 := below_mk w (.cells (dcL a p c).toArray 60)
  have A0 := AtL.new w (dcL a p c) 60
  unfold dcL at b0 A0
  unfold dcV
  by_cases hbig : (1048576 : Int) < (bs.length : Int)
  · go_enter Tryz.func7, Tryz.ntmps7
    go_wp2_with fail
    go_ret
    exact ⟨rfl, b0⟩
  have hbl : bs.length ≤ 1048576 := by omega
  by_cases hs : leftOf 1048576 a.pend.length < 0
  · go_enter Tryz.func7, Tryz.ntmps7
    go_wp2_with (go_at_call 39; refine (szDecoder_any a p c _ _ hn (by omega) (by omega)).mono ?_; rintro en w1 ⟨rfl, b1⟩)
    go_ret
    exact ⟨rfl, below_on b0 b1⟩
  have hs0 : 0 ≤ leftOf 1048576 a.pend.length := by omega
  have hl : a.pend.length ≤ 1048576 := by have := (leftOf_le hs0).2; omega
  generalize hr : leftOf 1048576 a.pend.length = lf at *
  have HR := Lib.hid hr
  clear hr
  have hsm := feedRes_small a bs now
  have SP := Lib.hid (fun (p : Option Addr) (ad : Addr) (cd : Nat) (W : World) h hc hb => specFeed_any a p ad a.pend.length cd bs now W h hc hl hb hbl)
  have IP := Lib.hid (fun (p : Option Addr) (ad : Addr) (c cd : Nat) (W : World) h hp hc hb hpd (hW : Below w.heap.size w W) => implFeed_any a p (some ad) c cd bs now W h hp hc hl hb hpd hbl (ht.on hW))
  generalize feedRes a bs now = r at *
  have HSM := Lib.hid hsm
  have hpl := hsm.pend
  have hel := hsm.evs
  have hdd : ∀ e ∈ r.evs, e.data.length ≤ 1048576 := fun e he => by have := HSM.out.data e he; omega
  have HDD := Lib.hid hdd
  clear hsm hdd
  go_enter Tryz.func7, Tryz.ntmps7
  go_wp2_with fail
  refine (szDecoder_any a p c _ _ hn (by omega) (by omega)).mono ?_
  rw [HR.out]
  rintro en w1 ⟨rfl, b1⟩
  have A1 := A0.on b1
  have D1 := below_on b0 b1
  clear b0 b1 A0
  obtain ⟨x0, x1, x2⟩ := A1.three
  go_wp2_with fail
  refine (toDecoder_any a p c _ (h.on D1) hl).mono ?_
  rintro e w2 ⟨p2, rfl, o2, b2⟩
  clear x0 x1 x2
  have A2 := A1.on b2
  have D2 := below_on D1 b2
  have HO2 := Lib.hid o2
  clear A1 D1 b2 o2
  unfold dcV
  go_wp2_with fail
  refine (toByteS_x pd cd bs _ (hbs.on D2) hbl).mono ?_
  rintro e w2b ⟨g2b, rfl, hg2b, o2b, b2b⟩
  have HO2b := Lib.hid o2b
  have A2b := A2.on b2b
  have D2b := below_on D2 b2b
  have n2 := (HO2.out.on b2b).bs.2
  clear A2 D2 b2b o2b hg2b HO2
  go_wp2_with fail
  refine (SP.out _ _ _ _ n2 (Nat.le_refl _) HO2b.out.bs.2).mono ?_
  rintro e w3 ⟨v3, u3, rows3, rfl, hw3, b3⟩
  have A3 := A2b.on b3
  have D3 := below_on D2b b3
  clear n2 HO2b A2b D2b b3
  obtain ⟨p3, c3, q3, d3, hv3, hu3, hat3⟩ := hw3.at
  subst hv3 hu3
  clear hw3
  have B3 := below_mk w3 (.cells #[.int .i64 r.code, .slice p3 r.dc.pend.length c3, .bool r.dc.paste, .int .i64 r.dc.due, .slice q3 r.evs.length d3] 43)
  have AL := A3.on B3
  have DL := below_on D3 B3
  have RL := hat3.on B3
  have XL := AtL.new w3 (drL r p3 c3 q3 d3) 43
  unfold drL at XL
  clear A3 D3 hat3 B3
  obtain ⟨x0, x1, x2⟩ := AL.three
  go_wp2_with fail
  generalize w3.alloc (.cells #[.int .i64 r.code, .slice p3 r.dc.pend.length c3, .bool r.dc.paste, .int .i64 r.dc.due, .slice q3 r.evs.length d3] 43) = L at *
  have HAL := Lib.hid AL
  have HDL := Lib.hid DL
  have HRL := Lib.hid RL
  have HXL := Lib.hid XL
  clear AL DL RL XL
  refine (toDecoder_any a p c _ (h.on HDL.out) hl).mono ?_
  rintro e w4 ⟨p4, rfl, o4, b4⟩
  clear x0 x1 x2
  unfold dcV
  have B4 := below_mk w4 (.cells #[.slice p4 a.pend.length a.pend.length, .bool a.paste, .int .i64 a.due] 38)
  have HX4 := Lib.hid (AtL.new w4 [.slice p4 a.pend.length a.pend.length, .bool a.paste, .int .i64 a.due] 38)
  have HO4 := Lib.hid (o4.on B4)
  have HL4 := Lib.hid (below_on b4 B4)
  have hg4 : ∀ g, (Value.slice p4 a.pend.length a.pend.length).ownBlock = some g → L.heap.size ≤ g ∧ g < w4.heap.size := o4.lt
  have HG4 := Lib.hid hg4
  clear o4 b4 B4 hg4
  have HMW0 : Hid (w4.heap.size ≤ (w4.alloc (.cells #[.slice p4 a.pend.length a.pend.length, .bool a.paste, .int .i64 a.due] 38)).heap.size) := by show _ ≤ _; simp
  have HLM0 : Hid (L.heap.size ≤ (w4.alloc (.cells #[.slice p4 a.pend.length a.pend.length, .bool a.paste, .int .i64 a.due] 38)).heap.size) := HL4.out.size
  go_wp2_with fail
  generalize w4.alloc (.cells #[.slice p4 a.pend.length a.pend.length, .bool a.paste, .int .i64 a.due] 38) = M at *
  refine (toByteS_x pd cd bs _ (hbs.on (below_on HDL.out HL4.out)) hbl).mono ?_
  rintro e w4b ⟨g4b, rfl, hg4b, o4b, b4b⟩
  have HO4b := Lib.hid o4b
  have HG4b : Hid (M.heap.size ≤ g4b ∧ g4b < w4b.heap.size) := o4b.lt g4b rfl
  have HXb := Lib.hid (HX4.out.on b4b)
  have HOb := Lib.hid (HO4.out.on b4b)
  have HLb := Lib.hid (below_on HL4.out b4b)
  clear o4b b4b hg4b HX4 HO4 HL4
  have HX4 := HXb
  have HO4 := HOb
  have HL4 := HLb
  clear HXb HOb HLb
  have hMM : M.heap.size ≤ w4b.heap.size := by have := HG4b.out; omega
  obtain ⟨x0, x1, x2⟩ := HX4.out.three
  go_wp2_with fail
  refine (IP.out _ _ _ _ _ HO4.out.bs.2 HO4.out.room.2.2 (Nat.le_refl _) HO4b.out.bs.2 (by simp) (below_on HDL.out HL4.out)).mono ?_
  rintro e w5 ⟨v5, u5, rows5, rfl, hw5, b5⟩
  clear x0 x1 x2
  obtain ⟨p5, c5, q5, d5, hv5, hu5, hat5⟩ := hw5.at
  subst hv5 hu5
  have hrw := hw5.evs
  have htop := HSM.out.top hrw
  have HTOP := Lib.hid htop
  have HRW := Lib.hid hrw
  have hund : ∀ j, w5.heap.size ≤ j → (Value.slice p5 r.dc.pend.length c5).ownBlock ≠ some j ∧ ¬ MarkP (.slice q5 r.evs.length d5) rows5 j := fun j hj => hw5.under hj
  have HUND := Lib.hid hund
  have B5 := below_mk w5 (.cells #[.int .i64 r.code, .slice p5 r.dc.pend.length c5, .bool r.dc.paste, .int .i64 r.dc.due, .slice q5 r.evs.length d5] 43)
  have HX5 := Lib.hid ((HX4.out.on b5).on B5)
  have HO5 := Lib.hid ((HO4.out.on b5).on B5)
  have HL5 := Lib.hid (below_on (below_on HL4.out b5) B5)
  have HW5 := Lib.hid (hw5.on B5)
  have HT5 := Lib.hid (hat5.on B5)
  have HY5 := Lib.hid (AtL.new w5 (drL r p5 c5 q5 d5) 43)
  have hM5 : w4b.heap.size ≤ w5.heap.size := b5.size
  have HB5 := Lib.hid ((HO4b.out.on b5).on B5)
  have HMW : Hid (w4.heap.size ≤ M.heap.size) := HMW0.out
  have HLM : Hid (L.heap.size ≤ M.heap.size) := HLM0.out
  have HLW : Hid (L.heap.size ≤ w4b.heap.size) := HL4.out.size
  unfold drL at HY5
  clear hw5 b5 hat5 B5 htop hrw hund HX4 HO4 HL4
  have HRL5 := Lib.hid (HRL.out.on HL5.out)
  obtain ⟨s0, s1, s2, s3, s4⟩ := (HXL.out.on HL5.out).five
  obtain ⟨y0, y1, y2, y3, y4⟩ := HY5.out.five
  go_wp2_with fail
  generalize w5.alloc (.cells #[.int .i64 r.code, .slice p5 r.dc.pend.length c5, .bool r.dc.paste, .int .i64 r.dc.due, .slice q5 r.evs.length d5] 43) = N at *
  refine (eqDecodeResult_same r p5 p3 q5 q3 c5 c3 d5 d3 N HT5.out HRL5.out (by omega) (by omega) HDD.out).mono ?_
  rintro e w6 ⟨rfl, b6⟩
  clear s0 s1 s2 s3 s4 y0 y1 y2 y3 y4
  have HX6 := Lib.hid (HX5.out.on b6)
  have HO6 := Lib.hid (HO5.out.on b6)
  have HL6 := Lib.hid (below_on HL5.out b6)
  have HW6 := Lib.hid (HW5.out.on b6)
  have HY6 := Lib.hid (HY5.out.on b6)
  have HB6 := Lib.hid (HB5.out.on b6)
  clear b6 HX5 HO5 HL5 HW5 HY5 HT5 HRL5
  have HA6 := Lib.hid (HAL.out.on HL6.out)
  have HD6 := Lib.hid (below_on HDL.out HL6.out)
  have HX7 := Lib.hid (fun W' (hb : Below w6.heap.size w6 W') => (HX6.out.on hb).three)
  have HA7 := Lib.hid (fun W' (hb : Below w6.heap.size w6 W') => (HA6.out.on hb).three)
  have HT7 : Hid (∀ W', Below w6.heap.size w6 W' → Calls Tryz.prog 40 #[.agg #[.slice p a.pend.length c, .bool a.paste, .int .i64 a.due]] W' fun e W2 => ∃ p1, e = .returned (.agg #[.slice p1 a.pend.length a.pend.length, .bool a.paste, .int .i64 a.due]) ∧ Bs W2 W2.heap.size p1 a.pend ∧ Below W'.heap.size W' W2 ∧ Below w6.heap.size w6 W2) := fun W' hb =>
    (toDecoder_any a p c W' (h.on (below_on HD6.out hb)) hl).mono fun _ _ ⟨p1, he, ho, hb2⟩ => ⟨p1, he, ho.bs.2, hb2, below_on hb hb2⟩
  have HE7 : Hid (∀ W' p1, Bs W' W'.heap.size p1 a.pend → Below w6.heap.size w6 W' → Calls Tryz.prog 43 #[.agg #[.slice p4 a.pend.length a.pend.length, .bool a.paste, .int .i64 a.due], .agg #[.slice p1 a.pend.length a.pend.length, .bool a.paste, .int .i64 a.due]] W' fun e W2 => e = .returned (.bool true) ∧ Below w6.heap.size w6 W2) := fun W' p1 h1 hb =>
    (eqDecoder_same a p4 p1 _ _ W' (HO6.out.bs.2.on hb) h1 hl).mono fun _ _ ⟨he, hb2⟩ => ⟨he, below_on hb hb2⟩
  go_upto_region 13 with (fail)
  refine wp_region_noPanic ?_
  refine wp_region_held_drew (S := fun W' => Below (w6).heap.size (w6) W') (by kernel_rfl) (below_drewN (Below.refl _ _) 1) (fun hHeld => ?_)
  refine takeR 0 42 (.agg #[.slice p4 a.pend.length a.pend.length, .bool a.paste, .int .i64 a.due]) (by kernel_rfl) (by kernel_rfl) (by kernel_rfl) (by kernel_rfl) (fun _ _ _ h => h) (by kernel_rfl) (fun w o hSw ho => ?_) hHeld ?_
  · obtain rfl := Option.some.inj ho; obtain ⟨z0, z1, z2⟩ := HX7.out _ hSw; go_simp
  simp only [Act.put, List.setIfInBounds_toArray, List.set_cons_zero, List.set_cons_succ]
  refine takeR 1 43 (.agg #[.slice p a.pend.length c, .bool a.paste, .int .i64 a.due]) (by kernel_rfl) (by kernel_rfl) (by kernel_rfl) (by kernel_rfl) (fun _ _ _ h => h) (by kernel_rfl) (fun w o hSw ho => ?_) hHeld ?_
  · obtain rfl := Option.some.inj ho; obtain ⟨z0, z1, z2⟩ := HA7.out _ hSw; go_simp
  simp only [Act.put, List.setIfInBounds_toArray, List.set_cons_zero, List.set_cons_succ]
  refine oneR 2 (by kernel_rfl) (by kernel_rfl) (fun o ho K' hK => ?_)
  obtain rfl := Option.some.inj ho
  clear ho
  go_simp
  refine (HT7.out _ hHeld).mono ?_
  rintro e V7 ⟨r7, rfl, hx7, hb7, hc7⟩
  clear hHeld
  go_wp2_with fail
  refine hK.out _ _ (hc7) (fun hHeld => ?_)
  clear hK K'
  try simp only [Act.put, List.setIfInBounds_toArray, List.set_cons_zero, List.set_cons_succ]
  refine oneR 3 (by kernel_rfl) (by kernel_rfl) (fun o ho K' hK => ?_)
  obtain rfl := Option.some.inj ho
  clear ho
  go_simp
  refine (HE7.out _ _ hx7 hc7).mono ?_
  rintro e w8 ⟨rfl, hd7⟩
  clear hHeld
  go_wp2_with fail
  refine hK.out _ _ (hd7) (fun hHeld => ?_)
  clear hK K'
  try simp only [Act.put, List.setIfInBounds_toArray, List.set_cons_zero, List.set_cons_succ]
  refine takeR 4 46 (.bool false) (by kernel_rfl) (by kernel_rfl) (by kernel_rfl) (by kernel_rfl) (fun _ _ _ h => h) (by kernel_rfl) (fun w o hSw ho => ?_) hHeld ?_
  · obtain rfl := Option.some.inj ho; go_simp
  simp only [Act.put, List.setIfInBounds_toArray, List.set_cons_zero, List.set_cons_succ]
  refine wpAnyH_done (by kernel_rfl) ?_ _
  refine NoPanic.normal ?_
  have HX8 := Lib.hid (HX6.out.on hHeld)
  have HO8 := Lib.hid (HO6.out.on hHeld)
  have HL8 := Lib.hid (below_on HL6.out hHeld)
  have HW8 := Lib.hid (HW6.out.on hHeld)
  have HY8 := Lib.hid (HY6.out.on hHeld)
  have HB8 := Lib.hid (HB6.out.on hHeld)
  clear HX7 HA7 HT7 HE7 hx7 hb7 hc7 hd7 hHeld HX6 HO6 HL6 HW6 HY6 HA6 HD6
  go_wp2_with fail
  refine (toByteS_new pd cd bs _ (hbs.on (below_on HDL.out HL8.out)) hbl).mono ?_
  rintro e w8b ⟨p8b, rfl, n8b, b8b⟩
  go_wp2_with fail
  refine (eqByteS_same _ _ _ _ bs _ (HB8.out.on b8b).bs.2 n8b hbl).mono ?_
  rintro e w8c ⟨rfl, b8c⟩
  have HX8c := Lib.hid ((HX8.out.on b8b).on b8c)
  have HO8c := Lib.hid ((HO8.out.on b8b).on b8c)
  have HL8c := Lib.hid (below_on (below_on HL8.out b8b) b8c)
  have HW8c := Lib.hid ((HW8.out.on b8b).on b8c)
  have HY8c := Lib.hid ((HY8.out.on b8b).on b8c)
  have HB8c := Lib.hid ((HB8.out.on b8b).on b8c)
  clear HX8 HO8 HL8 HW8 HY8 HB8 b8b b8c n8b
  obtain ⟨x0, x1, x2⟩ := HX8c.out.three
  go_wp2_with fail
  refine (markDecoder_any _ L.heap.size 1 a p4 a.pend.length HO8c.out hl (by omega)).mono ?_
  rintro e w9 ⟨rfl, ho9, hg9⟩
  have hlo : ∀ j, (Value.slice p4 a.pend.length a.pend.length).ownBlock = some j → L.heap.size ≤ j ∧ j < M.heap.size := fun j hj => by have h1 := HG4.out j hj; have h2 := HMW.out; exact ⟨h1.1, by omega⟩
  have HL9 := Lib.hid (HL8c.out.trans (below_of_grown hg9 HL8c.out.size (fun j hj => (hlo j hj).1)))
  have HW9 := Lib.hid (HW8c.out.far hg9 (fun j hj => by have := (hlo j hj).2; omega))
  have HY9 := Lib.hid (HY8c.out.far hg9 (fun e => by have := (hlo _ e.symm).2; omega))
  have HB9 := Lib.hid (HB8c.out.far hg9 (fun j hj e => by have e' : g4b = j := by simpa [Value.ownBlock] using hj
                                                          have := (hlo _ e.symm).2; have := HG4b.out; omega))
  clear x0 x1 x2 ho9 hg9 HX8c HO8c HL8c HW8c HY8c HB8c hlo
  go_wp2_with fail
  have e1 : ((1 + a.pend.length : Nat) : Int) = ((1 + a.pend.length : Nat) : Int) := rfl
  refine (markByteS_any2 _ M.heap.size (1 + a.pend.length) _ bs HB9.out hbl (by omega)).mono ?_
  rintro e w9b ⟨rfl, ho9b, hg9b⟩
  have hlob : ∀ j, (Value.slice (some ⟨g4b, 0, none⟩) bs.length bs.length).ownBlock = some j → M.heap.size ≤ j ∧ j < w4b.heap.size := fun j hj => by
    have e' : g4b = j := by simpa [Value.ownBlock] using hj
    have := HG4b.out
    omega
  have HL9b := Lib.hid (HL9.out.trans (below_of_grown hg9b HL9.out.size (fun j hj => by have := (hlob j hj).1; have := HMW.out; have := HLM.out; omega)))
  have HW9b := Lib.hid (HW9.out.far hg9b (fun j hj => (hlob j hj).2))
  have HY9b := Lib.hid (HY9.out.far hg9b (fun e => by have := (hlob _ e.symm).2; omega))
  clear ho9b hg9b HL9 HW9 HY9 HB9 hlob e1
  have HL9 := HL9b
  have HW9 := HW9b
  have HY9 := HY9b
  clear HL9b HW9b HY9b
  generalize w9b = w9c at *
  have HRL9 := Lib.hid (HRL.out.on HL9.out)
  obtain ⟨p5', c5', q5', d5', ev5, eu5, hat9⟩ := HW9.out.at
  simp only [Value.slice.injEq] at ev5 eu5
  obtain ⟨rfl, -, rfl⟩ := ev5
  obtain ⟨rfl, -, rfl⟩ := eu5
  have HT9 := Lib.hid hat9
  clear hat9
  obtain ⟨s0, s1, s2, s3, s4⟩ := (HXL.out.on HL9.out).five
  obtain ⟨y0, y1, y2, y3, y4⟩ := HY9.out.five
  have hng : ¬ (((1 + a.pend.length + bs.length : Nat) : Int)) < 0 := by omega
  go_wp2_with fail
  refine (eqDecodeResult_same r p5 p3 q5 q3 c5 c3 d5 d3 _ HT9.out HRL9.out (by omega) (by omega) HDD.out).mono ?_
  rintro e w10 ⟨rfl, b10⟩
  clear s0 s1 s2 s3 s4 y0 y1 y2 y3 y4
  have HL10 := Lib.hid (below_on HL9.out b10)
  have HW10 := Lib.hid (HW9.out.on b10)
  have HY10 := Lib.hid (HY9.out.on b10)
  clear b10 HL9 HW9 HY9 HT9 HRL9
  obtain ⟨y0, y1, y2, y3, y4⟩ := HY10.out.five
  go_wp2_with fail
  refine (markDecodeResult_any _ w4b.heap.size 1 r p5 q5 c5 d5 rows5 HW10.out (Nat.le_trans hM5 (Nat.le_of_lt HY10.out.1)) (by omega) (by omega) HTOP.out.1 HTOP.out.2).mono ?_
  rintro e w11 ⟨rfl, hm11, hb11, hk11⟩
  have HL11 := Lib.hid (HL10.out.trans (hb11.mono HLW.out))
  have HM11 := Lib.hid hm11
  have HY11 := Lib.hid (HY10.out.kept hb11.size (hk11 _ HY10.out.1 (HUND.out _ (Nat.le_refl _)).1 (HUND.out _ (Nat.le_refl _)).2))
  clear y0 y1 y2 y3 y4 hm11 hb11 hk11 HL10 HW10 HY10
  have htp : ¬ ((drTop 1 r rows5 : Nat) : Int) < 0 := by omega
  have hnt : (((drTop 1 r rows5 : Nat) : Int) != ((drTop 1 r rows5 : Nat) : Int)) = false := by simp
  have HD1 := Lib.hid (fun W hm => heldDecodeResult_any W 1 r p5 q5 c5 d5 rows5 hm HRW.out (by omega) (by omega) HTOP.out.1 HTOP.out.2)
  generalize drTop 1 r rows5 = tp at *
  obtain ⟨y0, y1, y2, y3, y4⟩ := HY11.out.five
  go_wp2_with fail
  refine (HD1.out _ HM11.out).mono ?_
  rintro e w12 ⟨rfl, b12⟩
  have HL12 := Lib.hid (below_on HL11.out b12)
  have HM12 := Lib.hid (HM11.out.on b12)
  have HY12 := Lib.hid (HY11.out.on b12)
  clear y0 y1 y2 y3 y4 b12 HL11 HM11 HY11
  obtain ⟨x0, x1, x2⟩ := (HAL.out.on HL12.out).three
  go_wp2_with fail
  refine (toDecoder_any a p c _ (h.on (below_on HDL.out HL12.out)) hl).mono ?_
  rintro e w13 ⟨p13, rfl, o13, b13⟩
  clear x0 x1 x2
  unfold dcV
  have HL13 := Lib.hid (below_on HL12.out b13)
  have HM13 := Lib.hid (HM12.out.on b13)
  have HY13 := Lib.hid (HY12.out.on b13)
  have HO13 := Lib.hid o13
  clear b13 o13 HL12 HM12 HY12
  go_wp2_with fail
  refine (toByteS_x pd cd bs _ (hbs.on (below_on HDL.out HL13.out)) hbl).mono ?_
  rintro e w13b ⟨g13b, rfl, hg13b, o13b, b13b⟩
  have HB13 := Lib.hid o13b
  have HL13b := Lib.hid (below_on HL13.out b13b)
  have HM13b := Lib.hid (HM13.out.on b13b)
  have HY13b := Lib.hid (HY13.out.on b13b)
  have HO13b := Lib.hid (HO13.out.on b13b)
  clear o13b b13b hg13b HL13 HM13 HY13 HO13
  have HL13 := HL13b
  have HM13 := HM13b
  have HY13 := HY13b
  have HO13 := HO13b
  clear HL13b HM13b HY13b HO13b
  go_wp2_with fail
  refine (IP.out _ _ _ _ _ HO13.out.bs.2 HO13.out.room.2.2 (Nat.le_refl _) HB13.out.bs.2 (by simp) (below_on HDL.out HL13.out)).mono ?_
  rintro e w14 ⟨v14, u14, rows14, rfl, hw14, b14⟩
  obtain ⟨p14, c14, q14, d14, hv14, hu14, hat14⟩ := hw14.at
  subst hv14 hu14
  have B14 := below_mk w14 (.cells #[.int .i64 r.code, .slice p14 r.dc.pend.length c14, .bool r.dc.paste, .int .i64 r.dc.due, .slice q14 r.evs.length d14] 43)
  have HL14 := Lib.hid (below_on (below_on HL13.out b14) B14)
  have HM14 := Lib.hid ((HM13.out.on b14).on B14)
  have HY14 := Lib.hid ((HY13.out.on b14).on B14)
  have HT14 := Lib.hid (hat14.on B14)
  have HZ14 := Lib.hid (AtL.new w14 (drL r p14 c14 q14 d14) 43)
  unfold drL at HZ14
  clear hw14 hat14 b14 B14 HL13 HM13 HY13 HO13
  obtain ⟨s0, s1, s2, s3, s4⟩ := (HXL.out.on HL14.out).five
  obtain ⟨y0, y1, y2, y3, y4⟩ := HZ14.out.five
  have HRL14 := Lib.hid (HRL.out.on HL14.out)
  go_wp2_with fail
  generalize w14.alloc (.cells #[.int .i64 r.code, .slice p14 r.dc.pend.length c14, .bool r.dc.paste, .int .i64 r.dc.due, .slice q14 r.evs.length d14] 43) = W14 at *
  refine (eqDecodeResult_same r p14 p3 q14 q3 c14 c3 d14 d3 W14 HT14.out HRL14.out (by omega) (by omega) HDD.out).mono ?_
  rintro e w15 ⟨rfl, b15⟩
  clear s0 s1 s2 s3 s4 y0 y1 y2 y3 y4
  have HL15 := Lib.hid (below_on HL14.out b15)
  have HM15 := Lib.hid (HM14.out.on b15)
  have HY15 := Lib.hid (HY14.out.on b15)
  clear b15 HL14 HM14 HY14 HT14 HZ14 HRL14
  obtain ⟨y0, y1, y2, y3, y4⟩ := HY15.out.five
  go_wp2_with fail
  refine (HD1.out _ HM15.out).mono ?_
  rintro e w16 ⟨rfl, b16⟩
  have HEND := Lib.hid (below_on (below_on HDL.out HL15.out) b16)
  clear y0 y1 y2 y3 y4 b16 HL15 HM15 HY15
  go_wp2_with fail
  go_ret
  exact ⟨rfl, HEND.out⟩

end Go.Proofs.YtbnpodledgaipaaGreatDoor
