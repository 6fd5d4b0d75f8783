/- l4Tick and TickDecoder of the model. -/
import Derived.Test.YtbnpodledgaipaaGreatDoorQDrToSpecFeed3
import Derived.Test.YtbnpodledgaipaaGreatDoorQFlush3ToFlush4
namespace Go.Proofs.YtbnpodledgaipaaGreatDoor
open Go.RowKit
set_option linter.unusedVariables false

/-- bytes that time alone resolves -/
def Tickable (l : List UInt8) (q : Bool) : Prop := l = [] ∨ q = true ∨ (q = false ∧ (firstTok l).code = 6)
theorem tickable_of {d : Dc} (h : dcFault d = 0) : Tickable d.pend d.paste := by
  by_cases h0 : d.pend = []
  · exact .inl h0
  · have h6 := dcFault_six h h0
    unfold certTok at h6
    cases hq : d.paste
    · rw [hq, if_neg (by simp)] at h6; exact .inr (.inr ⟨rfl, h6⟩)
    · exact .inr (.inl rfl)
theorem tick_step {l : List UInt8} {q : Bool} (h : Tickable l q) (hne : l ≠ []) : (flushTok l q).paste = q ∧ (flushTok l q).none = false ∧ Tickable (l.drop (flushTok l q).size.toNat) q := by
  rcases h with h | h | ⟨h, h6⟩
  · exact absurd h hne
  · subst h
    unfold flushTok
    rw [if_neg hne, if_pos rfl]
    exact ⟨rfl, rfl, .inr (.inl rfl)⟩
  · subst h
    obtain ⟨_, e, hs⟩ := flush_one l h6
    rw [e]
    refine ⟨?_, ?_, .inl (by rw [hs]; simp)⟩
    · unfold asTok; split
      · rfl
      split <;> rfl
    · unfold asTok; split
      · rfl
      split <;> rfl

theorem SKeep.pushT {E : TEnv} {v0 : Value} {B1 : Nat} {l' : List UInt8} {q' : Bool} {p' : Option Addr} {c' : Nat} {ev : Value} {rows : List EvRow} {W : World} (hf : GoodRule E.f) (h : SKeep E v0 B1 l' q' p' c' ev rows W) (hc : (E.f l' q').code = 0) (hn : (E.f l' q').none = false) (hq : (E.f l' q').paste = q')
    {k : Nat} (hk : (E.f l' q').size = (k : Int)) {p'' : Option Addr} {c'' : Nat} (hc'' : c'' = c' - k) (hp'' : p'' = if c' = k then p' else p'.map (·.add k)) {pp : Option Addr} {cc : Nat} {X : Nat} (hX : B1 ≤ X)
    (how : Own W X (.slice pp (E.f l' q').ev.data.length cc) (E.f l' q').ev.data) (hap : Apart (rows ++ [((E.f l' q').ev, pp, cc)]))
    {ev' : Value} {W3 : World} {o : Obj} (ho : W3.ownsRow B1 26 8 ev' (rows.length + 1) (rows.flatMap rowCells ++ rowCells ((E.f l' q').ev, pp, cc))) (hg : (W.alloc o).grownBy W3 ev.ownBlock) :
    SKeep E v0 B1 (l'.drop k) q' p'' c'' ev' (rows ++ [((E.f l' q').ev, pp, cc)]) W3 := by
  obtain ⟨⟨k', hk', h1, h2⟩, _⟩ := hf l' q' hc
  obtain rfl : k' = k := by omega
  obtain ⟨d1, d2, d3⟩ := drop_slice h.bs h.nil h.cap k' h2
  rw [← hp''] at d1 d2
  rw [← hc''] at d2 d3
  have hlow := h.low
  have hb1 := h.b1
  have hb2 := h.b2
  have e : l'.drop k' = l'.drop (E.f l' q').size.toNat := by rw [hk]; simp
  have hbm := below_mk W o
  have hev2 := h.evs.below hbm
  have how2 := (how.on hbm).lower hX
  have hblk : ∀ j, ev.ownBlock = some j → B1 ≤ j := fun j hj => (h.evs.lt j hj).1
  have hB : ∀ j, j < B1 → some j ≠ ev.ownBlock := fun j hj e => by have := hblk j e.symm; omega
  have hbs := d1.below (hbm.mono hb2)
  have hgr : E.w.grownBy W3 (some E.db) := by
    have g1 := grown_on h.grown hbm
    exact ⟨hg.os.trans g1.os, hg.tape.trans g1.tape, hg.output.trans g1.output, Nat.le_trans g1.size hg.size, fun j hj hne => (hg.block j (Nat.lt_of_lt_of_le hj g1.size) (hB _ (by omega))).trans (g1.block j hj hne)⟩
  refine ⟨?_, ?_, hev2.append (r := ((E.f l' q').ev, pp, cc)) how2 ho hg, hap, (h.dec.on hbm).far hg (hB _ (by omega)), hbs.keep (Nat.le_refl _) (fun a ha => World.cell?_of_block (hg.block a.block (by simp; omega) (hB _ ha))), d3, d2, hgr, hlow, hb1, ?_⟩
  · have := takeAll_step hf hc
    rw [hq] at this
    rw [h.all, this, e]
    unfold tkEvs
    rw [if_neg (by rw [hn]; simp)]
    simp
  · have := h.len; rw [List.length_append]; simp; omega
  · have := hg.size; simp at this; omega
theorem SKeep.lastT {E : TEnv} {v0 : Value} {B1 : Nat} {q' : Bool} {p' : Option Addr} {c' : Nat} {ev : Value} {rows : List EvRow} {W : World} (h : SKeep E v0 B1 [] q' p' c' ev rows W) (hc : ¬ (E.f [] q').code = 0) :
    TakenP E.w E.db 0 (rows.map Prod.fst, [], q') (.returned ev) ((W.setCell ⟨E.db, 0, none⟩ (.slice none 0 0)).setCell ⟨E.db, 2, none⟩ (.int .i64 0)) := by
  have hlow := h.low
  have hb1 := h.b1
  exact ⟨ev, rows, none, 0, rfl, rfl, ((h.evs.setBelow (b := E.db) (i := 0) (by omega) _).setBelow (b := E.db) (i := 2) (by omega) _).lower hb1, h.apart, (h.dec.set 0 (.slice none 0 0)).set 2 (.int .i64 0), own_nil _ _, fun x _ j _ e => by simp [Value.ownBlock] at e, grown_trans (grown_trans h.grown (grown_cell _ E.db 0 _)) (grown_cell _ E.db 2 _)⟩

def TkRel (E : TEnv) (v0 : Value) (B1 : Nat) (ev b : Value) (W : World) : Prop := ∃ l' p' c' rows, b = .slice p' l'.length c' ∧ Tickable l' E.q ∧ SKeep E v0 B1 l' E.q p' c' ev rows W

set_option maxRecDepth 100000 in
set_option maxHeartbeats 4000000 in
theorem l4Tick_main (d : Dc) (db : Nat) (p : Option Addr) (c : Nat) (now : Int) (w : World) (hd : AtM w db (dcL d p c)) (h : Bs w w.heap.size p d.pend) (hp : p = none → c = 0) (hc : d.pend.length ≤ c) (hl : d.pend.length ≤ 100000) (hne : d.pend ≠ []) (hdue : ¬ now < d.due) (htk : Tickable d.pend d.paste) :
    Calls Tryz.prog 100 #[.pointer (some ⟨db, 0, none⟩), .int .i64 now] w (TakenP w db 0 ((takeAll flushTok d.pend d.paste).1, [], d.paste)) := by
  obtain ⟨d0, d1, d2⟩ := AtL.three hd.cells
  have dl := hd.cells.1
  have hzb : ((d.pend.length : Int) == 0) = false := by simpa using hne
  have HX := Lib.hid (And.intro hd (And.intro h (And.intro hp htk)))
  clear hd h hp htk hne
  obtain ⟨i1, hi, hz0, hz1, hz2⟩ := info_parts Tryz.info_evd
  have HI1 := Lib.hid (And.intro hi (And.intro hz0 (And.intro hz1 hz2)))
  clear hi hz0 hz1 hz2
  have HFIRST : Hid (SKeep ⟨w, db, 0, flushTok, none, 0, d.pend, d.paste, d.due⟩ (.slice p d.pend.length c) w.heap.size d.pend d.paste p c (.slice (some ⟨w.heap.size, 0, none⟩) 0 0) [] (w.alloc (.cells #[] 26))) :=
    ⟨by simp, by simp, evs_empty w, by simp [Apart], HX.out.1.on (below_mk _ _), HX.out.2.1.below (below_mk _ _), hc, HX.out.2.2.1, grown_of_below (below_mk _ _) _, dl, Nat.le_refl _, by simp⟩
  go_enter Tryz.func100, Tryz.ntmps100
  go_wp2_with fail
  go_loopw [5, 6, 7] (fun ev b _ W => TkRel ⟨w, db, 0, flushTok, none, 0, d.pend, d.paste, d.due⟩ (.slice p d.pend.length c) w.heap.size ev b W) (fun _ b _ _ => lenOf b)
  case atStart => exact ⟨d.pend, p, c, [], rfl, HX.out.2.2.2, HFIRST.out⟩
  case round =>
    obtain ⟨l', p', c', rows, rfl, htk, hK⟩ := hrel
    dsimp only at htk hK
    clear HFIRST d0 d1 d2
    have HTK := Lib.hid htk
    have HKK := Lib.hid hK
    have hlr : rows.length + l'.length ≤ 100000 := by have := hK.len; dsimp only at this; omega
    have hlow2 : w.heap.size ≤ wr.heap.size := hK.b2
    by_cases hr : l' = []
    · subst hr
      have hdd := hK.dec
      obtain ⟨e0, e1, e2⟩ := AtL.three hdd.cells
      have ef := hdd.free
      dsimp only at e0 e1 e2 ef
      have hall : (takeAll flushTok d.pend d.paste).1 = rows.map Prod.fst := by
        have h1 := hK.all
        dsimp only at h1
        rw [h1, takeAll_stop (by simp [flushTok, badTk])]
        simp
      have HE := Lib.hid (hK.lastT (by simp [flushTok, badTk]))
      have HAL := Lib.hid hall
      clear hK htk hdd hall
      go_wp2_with fail
      go_ret
      rw [HAL.out]
      exact HE.out
    · have hpos : 0 < l'.length := List.length_pos_iff.2 hr
      have hposI : (0 : Int) < (l'.length : Int) := by omega
      have d1 := hK.dec.cells.get 1 rfl
      have HL4 := Lib.hid (specFlushToken_any p' c' l' d.paste wr (hK.bs.more hK.b2) hK.cap (by omega))
      have HST := Lib.hid (tick_step htk hr)
      obtain ⟨hcode, ⟨k, hk, hk1, hk2⟩, _⟩ := flushTok_good l' d.paste hr
      have HCO := Lib.hid hcode
      have HKZ := Lib.hid hk
      have hkI : (k : Int) ≤ (l'.length : Int) := by omega
      dsimp only at d1
      clear hK htk hcode hk hr
      go_wp2_with fail
      refine HL4.out.mono ?_
      rintro e w3 ⟨v3, rfl, ho3, hb3⟩
      obtain ⟨pp, cc, hv⟩ := ho3.slice
      subst hv
      have B4 := below_mk w3 (.cells (tkL (flushTok l' d.paste) (.slice pp (flushTok l' d.paste).ev.data.length cc)).toArray 30)
      have HK4 := Lib.hid ((HKK.out.on hb3).on B4)
      have HO4 := Lib.hid (ho3.on B4)
      have HAP := Lib.hid (HKK.out.apart.fresh HKK.out.evs (r := ((flushTok l' d.paste).ev, pp, cc)) ho3)
      have HT4 := Lib.hid (AtM.new w3 (tkL (flushTok l' d.paste) (.slice pp (flushTok l' d.paste).ev.data.length cc)) 30)
      unfold tkL at HK4 HO4 HT4
      have hsz3 := hb3.size
      clear ho3 hb3 B4 HL4 d1
      unfold tkV
      go_upto_region 7 with (fail)
      refine wp_gen (fun W => SKeep ⟨w, db, 0, flushTok, none, 0, d.pend, d.paste, d.due⟩ (.slice p d.pend.length c) w.heap.size l' d.paste p' c' u5 rows W ∧ AtM W w3.heap.size [.int .i64 (flushTok l' d.paste).code, .int .i64 (flushTok l' d.paste).ev.kind, .int .i64 (flushTok l' d.paste).ev.code, .int .i64 (flushTok l' d.paste).ev.mods, .int .i64 (flushTok l' d.paste).ev.button, .int .i64 (flushTok l' d.paste).ev.act, .int .i64 (flushTok l' d.paste).ev.col, .int .i64 (flushTok l' d.paste).ev.row, .slice pp (flushTok l' d.paste).ev.data.length cc, .int .i64 (flushTok l' d.paste).size, .bool (flushTok l' d.paste).paste, .bool (flushTok l' d.paste).none] ∧ Own W wr.heap.size (.slice pp (flushTok l' d.paste).ev.data.length cc) (flushTok l' d.paste).ev.data) ⟨HK4.out, HT4.out, HO4.out⟩ (fun W4 hM => ?_)
      clear HK4 HT4 HO4
      obtain ⟨hK4, hT4, hO4⟩ := hM
      obtain ⟨a0, a1, a2, a3, a4, a5, a6, a7, a8, a9, a10, a11⟩ := AtL.twelve hT4.cells
      rw [HKZ.out] at a9
      have HK4 := Lib.hid hK4
      have HO4 := Lib.hid hO4
      have HT4 := Lib.hid hT4
      have hRl := hT4.cells.1
      have hcapI := hK4.cap
      clear hK4 hT4 hO4
      have HEV : Hid (∀ o, EvsOwn (W4.alloc o) w.heap.size u5 rows) := fun o => HK4.out.evs.alloc o
      have HSW : Hid (w.heap.size ≤ W4.heap.size) := HK4.out.b2
      by_cases hck : c' = k
      all_goals
        go_wp2_with (at_builtin; refine wpList_append_own_at _ rfl _ _ 41 rfl w.heap.size 26 i1 _ 8 80 Tryz.underlying41 HI1.out.1 HI1.out.2.1 HI1.out.2.2.1 HI1.out.2.2.2 rfl (by decide) _ _ _ rfl (HEV.out _).1 ⟨W4.heap.size, 0, none⟩ 1 1 (rowCells ((flushTok l' d.paste).ev, pp, cc)) rfl (by simp [row_len]) ?c1 ?c2 ?c3 ?c4 ?c5 ?_)
        case c1 => exact row_at _ ((flushTok l' d.paste).ev, pp, cc) _ _ (by simp)
        case c2 => exact row_one _
        case c3 => unfold maxLen; omega
        case c4 => omega
        case c5 => have := HSW.out; simp; omega
        intro v' w5 hown' hgrow hnil hblk
        have HP := Lib.hid (HK4.out.pushT flushTok_goodRule HCO.out HST.out.2.1 HST.out.1 HKZ.out (p'' := if c' = k then p' else p'.map (·.add k)) (c'' := c' - k) rfl rfl hlow2 HO4.out HAP.out hown' hgrow)
        have s9 : w5.cell? ⟨w3.heap.size, 9, none⟩ = some (.int .i64 (k : Int)) := by
          have h1 := (HT4.out.on (below_mk W4 _)).far hgrow (fun e => by have := (HKK.out.evs.lt _ e.symm).2; omega)
          rw [← HKZ.out]
          exact h1.cells.get 9 rfl
        clear hown' hgrow hnil hblk a0 a1 a2 a3 a4 a5 a6 a7 a8 a9 a10 a11
        go_wp2_with fail
        refine ⟨⟨l'.drop k, (if c' = k then p' else p'.map (·.add k)), c' - k, _, ?_, ?_, HP.out⟩, ?_⟩
        · simp [hck]
        · have h1 := HST.out.2.2; rw [HKZ.out] at h1; simpa using h1
        · show l'.length - k < l'.length; omega

/-- nothing is done: the answer is the decoder as it was -/
theorem l4Tick_idle (d : Dc) (db : Nat) (p : Option Addr) (c : Nat) (now : Int) (w : World) (hd : AtM w db (dcL d p c)) (hidle : d.pend = [] ∨ now < d.due) :
    Calls Tryz.prog 100 #[.pointer (some ⟨db, 0, none⟩), .int .i64 now] w fun e w' => e = .returned (.slice none 0 0) ∧ w = w' := by
  obtain ⟨d0, d1, d2⟩ := AtL.three hd.cells
  clear hd
  by_cases hz : d.pend.length = 0
  · have hzb : ((d.pend.length : Int) == 0) = true := by simp [hz]
    clear hz hidle
    go_enter Tryz.func100, Tryz.ntmps100
    go_wp2_with fail
    go_ret
    exact ⟨rfl, rfl⟩
  · have hzb : ((d.pend.length : Int) == 0) = false := by simpa using hz
    have hlt : now < d.due := by
      rcases hidle with h | h
      · rw [h] at hz; exact absurd rfl hz
      · exact h
    clear hz hidle
    go_enter Tryz.func100, Tryz.ntmps100
    go_wp2_with fail
    go_ret
    exact ⟨rfl, rfl⟩

theorem idle_taken {w : World} {db : Nat} {d : Dc} {p : Option Addr} {c : Nat} {B : Nat} (hd : AtM w db (dcL d p c)) (ho : Own w B (.slice p d.pend.length c) d.pend) : DrOwn B ⟨0, d, []⟩ (.slice p d.pend.length c) (.slice none 0 0) [] w := ⟨rfl, ho, evs_nil _ _, by simp [Apart], by simp⟩

set_option maxRecDepth 100000 in
set_option maxHeartbeats 4000000 in
theorem specTick_any (d : Dc) (p : Option Addr) (c : Nat) (now : Int) (w : World) (h : Bs w w.heap.size p d.pend) (hc : d.pend.length ≤ c) (hl : d.pend.length ≤ 1048576) :
    Calls Tryz.prog 37 #[dcV d p c, .int .i64 now] w (NewDr w (tickRes d now)) := by
  have HX := Lib.hid h
  obtain ⟨A0, R0, D0⟩ := two_in w d p c 38 43
  have HF := Lib.hid (fun W (hb : Below w.heap.size w W) => specDecoderFault_any d p c W (h.on hb) hc hl)
  clear h
  unfold dcV
  have HA0 := Lib.hid A0
  have HR0 := Lib.hid R0
  have HD0 := Lib.hid D0
  clear A0 R0 D0
  by_cases hf : dcFault d = 0
  · have hlen := dcFault_len hf
    have HZ := Lib.hid hf
    by_cases hnow : inR now 0 1000000 = false
    · have e : tickRes d now = badDr 3 := by unfold tickRes; rw [if_neg (by simp [hf]), if_pos hnow]
      rw [e]
      clear e hf
      have HNW := Lib.hid hnow
      clear hnow
      go_enter Tryz.func37, Tryz.ntmps37
      go_wp2_with fail
      refine (HF.out _ HD0.out).mono ?_
      rw [HZ.out]
      rintro e w1 ⟨rfl, hb1⟩
      go_wp2_with fail
      refine (l4Now_any now _).mono ?_
      rw [HNW.out]
      rintro e w2 ⟨rfl, rfl⟩
      have hr1 := HR0.out.on hb1
      obtain ⟨r0, r1, r2, r3, r4⟩ := hr1.cells.five
      have hfr := hr1.free
      have HE := Lib.hid (dr_bad (c := 3) (below_on HD0.out hb1))
      clear hb1 hr1
      go_wp2_with fail
      refine bodyPost_ret (v := .agg #[.int .i64 3, .slice none 0 0, .bool false, .int .i64 0, .slice none 0 0]) ?_ rfl HE.out
      simp [results, Tryz.results37, go_sem, r0, r1, r2, r3, r4]
    · have hnow2 : inR now 0 1000000 = true := by simpa using hnow
      have HNW := Lib.hid hnow2
      by_cases hidle : d.pend = [] ∨ now < d.due
      · have e : tickRes d now = ⟨0, d, []⟩ := by unfold tickRes; rw [if_neg (by simp [hf]), if_neg hnow, if_pos hidle]
        rw [e]
        clear e hf hnow hnow2
        have HID := Lib.hid hidle
        clear hidle
        go_enter Tryz.func37, Tryz.ntmps37
        go_wp2_with fail
        refine (HF.out _ HD0.out).mono ?_
        rw [HZ.out]
        rintro e w1 ⟨rfl, hb1⟩
        go_wp2_with fail
        refine (l4Now_any now _).mono ?_
        rw [HNW.out]
        rintro e w2 ⟨rfl, rfl⟩
        have HR2 := Lib.hid (HR0.out.on hb1)
        have HA2 := Lib.hid (HA0.out.on hb1)
        have HD2 := Lib.hid (below_on HD0.out hb1)
        clear hb1 HR0 HA0 HD0
        go_wp2_with fail
        refine (l4Copy_any d p c _ _ HA2.out.cells (HX.out.on HD2.out) hl).mono ?_
        rintro e w3 ⟨p3, c3, rfl, ho3, hb3⟩
        unfold dcV
        have B4 := below_mk w3 (.cells (dcL d p3 c3).toArray 38)
        have HA4 := Lib.hid (AtM.new w3 (dcL d p3 c3) 38)
        have HR4 := Lib.hid ((HR2.out.on hb3).on B4)
        have HD4 := Lib.hid (below_on (below_on HD2.out hb3) B4)
        have HO4 := Lib.hid (ho3.on B4)
        have hsz3 : w.heap.size + 1 < w3.heap.size := (HR2.out.on hb3).cells.1
        have hsz1 : w.heap.size + 1 < w1.heap.size := HR2.out.cells.1
        unfold dcL at HA4 HR4 HD4 HO4
        have hroom := HO4.out.room
        clear ho3 hb3 B4 HR2 HA2
        go_wp2_with fail
        refine (l4Tick_idle d _ p3 c3 now _ HA4.out HID.out).mono ?_
        rintro e w5 ⟨rfl, rfl⟩
        obtain ⟨e0, e1, e2⟩ := AtL.three HA4.out.cells
        have hr5 := HR4.out
        obtain ⟨r0, r1, r2, r3, r4⟩ := hr5.cells.five
        have hfr := hr5.free
        have HE := Lib.hid (fun vs => (show NewDr w ⟨0, d, []⟩ (.returned (.agg #[.int .i64 0, .slice p3 d.pend.length c3, .bool d.paste, .int .i64 d.due, .slice none 0 0])) (sets _ (w.heap.size + 1) 0 vs) from
          ⟨_, _, [], rfl, ((idle_taken HA4.out HO4.out).sets (b := w.heap.size + 1) (by omega) vs 0).lower (by omega), sets_below (by omega) vs 0 _ _ HD4.out⟩))
        generalize w3.alloc (.cells #[.slice p3 d.pend.length c3, .bool d.paste, .int .i64 d.due] 38) = W5 at *
        clear hr5 HR4 HA4 HD4 HO4 hroom
        go_wp2_with fail
        refine bodyPost_ret (v := .agg #[.int .i64 0, .slice p3 d.pend.length c3, .bool d.paste, .int .i64 d.due, .slice none 0 0]) ?_ rfl (HE.out [.int .i64 0, .slice p3 d.pend.length c3, .bool d.paste, .int .i64 d.due, .slice none 0 0])
        simp [results, Tryz.results37, go_sem, r0, r1, r2, r3, r4]
      · have e : tickRes d now = ⟨0, ⟨[], d.paste, 0⟩, (takeAll flushTok d.pend d.paste).1⟩ := by unfold tickRes; rw [if_neg (by simp [hf]), if_neg hnow, if_neg hidle]
        rw [e]
        clear e
        have hne : d.pend ≠ [] := fun e => hidle (.inl e)
        have hdue : ¬ now < d.due := fun e => hidle (.inr e)
        have HTM := Lib.hid (fun db p c w h1 h2 h3 h4 => l4Tick_main d db p c now w h1 h2 h3 h4 (by omega) hne hdue (tickable_of hf))
        generalize (takeAll flushTok d.pend d.paste).1 = evs at *
        clear hf hnow hnow2 hidle hne hdue
        go_enter Tryz.func37, Tryz.ntmps37
        go_wp2_with fail
        refine (HF.out _ HD0.out).mono ?_
        rw [HZ.out]
        rintro e w1 ⟨rfl, hb1⟩
        go_wp2_with fail
        refine (l4Now_any now _).mono ?_
        rw [HNW.out]
        rintro e w2 ⟨rfl, rfl⟩
        have HR2 := Lib.hid (HR0.out.on hb1)
        have HA2 := Lib.hid (HA0.out.on hb1)
        have HD2 := Lib.hid (below_on HD0.out hb1)
        clear hb1 HR0 HA0 HD0
        go_wp2_with fail
        refine (l4Copy_any d p c _ _ HA2.out.cells (HX.out.on HD2.out) hl).mono ?_
        rintro e w3 ⟨p3, c3, rfl, ho3, hb3⟩
        unfold dcV
        have B4 := below_mk w3 (.cells (dcL d p3 c3).toArray 38)
        have HA4 := Lib.hid (AtM.new w3 (dcL d p3 c3) 38)
        have HR4 := Lib.hid ((HR2.out.on hb3).on B4)
        have HD4 := Lib.hid (below_on (below_on HD2.out hb3) B4)
        have HO4 := Lib.hid (ho3.on B4)
        have hsz3 : w.heap.size + 1 < w3.heap.size := (HR2.out.on hb3).cells.1
        have hsz1 : w.heap.size + 1 < w1.heap.size := HR2.out.cells.1
        unfold dcL at HA4 HR4 HD4 HO4
        have hroom := HO4.out.room
        clear ho3 hb3 B4 HR2 HA2
        go_wp2_with fail
        refine (HTM.out _ _ _ _ HA4.out HO4.out.bs.2 hroom.2.2 hroom.2.1).mono ?_
        rintro e w5 ⟨v5, rows, p5, c5, rfl, hrows, hevs, hap, hdec, hpend, hoff, hgr⟩
        obtain ⟨p6, c6, hv⟩ := hevs.slice
        subst hv
        obtain ⟨e0, e1, e2⟩ := AtL.three hdec.cells
        have hr5 := HR4.out.far hgr (by intro e; injection e; omega)
        obtain ⟨r0, r1, r2, r3, r4⟩ := hr5.cells.five
        have hfr := hr5.free
        have HD5 := Lib.hid (HD4.out.grown hgr HD4.out.size (fun k hk => by injection hk; omega))
        have HE := Lib.hid (fun vs => dr_taken (w := w) (due := 0) hrows hevs hap hpend hoff HD5.out (by simp; omega) vs)
        dsimp only at e0 e1 e2
        clear hrows hevs hap hdec hpend hoff hgr hr5 HR4 HA4 HD4 HO4
        go_wp2_with fail
        refine bodyPost_ret (v := .agg #[.int .i64 0, .slice p5 0 c5, .bool d.paste, .int .i64 0, .slice p6 rows.length c6]) ?_ rfl (HE.out [.int .i64 0, .slice p5 0 c5, .bool d.paste, .int .i64 0, .slice p6 rows.length c6])
        simp [results, Tryz.results37, go_sem, r0, r1, r2, r3, r4]
  · have e : tickRes d now = badDr (dcFault d) := by unfold tickRes; rw [if_pos hf]
    rw [e]
    clear e
    have hfb : ((dcFault d) != 0) = true := by simpa using hf
    generalize dcFault d = fc at *
    clear hf
    go_enter Tryz.func37, Tryz.ntmps37
    go_wp2_with fail
    refine (HF.out _ HD0.out).mono ?_
    rintro e w1 ⟨rfl, hb1⟩
    have hr1 := HR0.out.on hb1
    obtain ⟨r0, r1, r2, r3, r4⟩ := hr1.cells.five
    have hfr := hr1.free
    have HE := Lib.hid (dr_bad (c := fc) (below_on HD0.out hb1))
    clear hb1 hr1
    go_wp2_with fail
    refine bodyPost_ret (v := .agg #[.int .i64 fc, .slice none 0 0, .bool false, .int .i64 0, .slice none 0 0]) ?_ rfl HE.out
    simp [results, Tryz.results37, go_sem, r0, r1, r2, r3, r4]

end Go.Proofs.YtbnpodledgaipaaGreatDoor
