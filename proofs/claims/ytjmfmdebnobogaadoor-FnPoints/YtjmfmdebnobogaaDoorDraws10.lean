/- DrawSameEvents. -/
import Derived.Test.YtjmfmdebnobogaaDoorEvRows
import Derived.Maps.AppendAt
namespace Go.Proofs.YtjmfmdebnobogaaDoor
open Go.RowKit

/-- what a draw of two slices of events leaves -/
def TwoEvs (w : World) (e : Ending) (w' : World) : Prop :=
  ∃ p c q d, ∃ x y : List Ev, e = .returned (.tuple #[.slice p x.length c, .slice q y.length d]) ∧ x.length ≤ 3 ∧ y.length ≤ 3 ∧ (∀ e ∈ x ++ y, e.data.length ≤ 40) ∧ Es w' w'.heap.size p x ∧ Es w' w'.heap.size q y ∧ Below w.heap.size w w'

theorem two_end {w W : World} {base b2 : Nat} {p q : Option Addr} {n m c d : Nat} {ra rb : List EvRow} (ha : EvsOwn W base (.slice p n c) ra) (hb : EvsOwn W b2 (.slice q m d) rb) (h1 : ra.length ≤ 3) (h2 : rb.length ≤ 3)
    (hd : ∀ r ∈ ra ++ rb, r.1.data.length ≤ 40) (hw : Below w.heap.size w W) : TwoEvs w (.returned (.tuple #[.slice p n c, .slice q m d])) W := by
  obtain ⟨rfl, ea⟩ := ha.es
  obtain ⟨rfl, eb⟩ := hb.es
  refine ⟨p, c, q, d, ra.map Prod.fst, rb.map Prod.fst, by rw [List.length_map, List.length_map], by simpa using h1, by simpa using h2, ?_, ea, eb, hw⟩
  intro e he
  rw [← List.map_append] at he
  obtain ⟨r, hr, rfl⟩ := List.mem_map.1 he
  exact hd r hr

/-- the loop's relation -/
def EvsRel2 (w : World) (q : Option Addr) (c : Nat) (l : List UInt8) (k : Nat) (va vb n : Value) (W : World) : Prop :=
  ∃ (j : Nat) (ra rb : List EvRow), n = .int .i64 j ∧ ra.length + j = k ∧ rb.length = ra.length ∧ EvsOwn W (w.heap.size + 1) va ra ∧ EvsOwn W (w.heap.size + 1) vb rb ∧ va.ownBlock ≠ vb.ownBlock ∧
    va ≠ .slice none 0 0 ∧ vb ≠ .slice none 0 0 ∧ (∀ r ∈ ra ++ rb, r.1.data.length ≤ 40 ∧ 0 ≤ r.1.mods ∧ r.1.mods ≤ 7) ∧ Src W w.heap.size q c l (1 + 40 * ra.length) ∧ Below w.heap.size w W

theorem evs_none (w : World) (t : Nat) (hb : t ≤ w.heap.size) : EvsOwn (w.alloc (.cells #[] 33)) t (.slice (some ⟨w.heap.size, 0, none⟩) 0 0) [] :=
  ⟨World.ownsRow_made w #[] 0 hb (by simp [maxLen]) (by simp), by simp⟩

theorem Tryd.info_evd : (Tryd.prog.info? 33).map (fun i => (i.zero, i.size, i.bytes)) = some (some (.agg #[.int .i64 0, .int .i64 0, .int .i64 0, .int .i64 0, .int .i64 0, .int .i64 0, .int .i64 0, .slice none 0 0]), 8, 80) := by kernel_rfl

theorem row_len (r : EvRow) : (rowCells r).length = 8 := by simp [rowCells, evC]
theorem row_one (r : EvRow) : ∀ u ∈ rowCells r, u.oneCell' = true := by
  intro u hu
  simp [rowCells, evC] at hu
  rcases hu with rfl | rfl | rfl | rfl | rfl | rfl | rfl | rfl <;> rfl
theorem row_at (W : World) (r : EvRow) (t : TypeId) (b : Nat) (hb : b = W.heap.size) : ∀ j u, (rowCells r)[j]? = some u → (W.alloc (.cells (evC r.1 r.2.1 r.2.2) t)).cell? ((⟨b, 0, none⟩ : Addr).add j) = some u := by
  intro j u hj
  have ea : (⟨b, 0, none⟩ : Addr).add j = ⟨b, j, none⟩ := by simp [Addr.add]; omega
  rw [ea, World.cell?_alloc_at _ _ _ _ hb]
  simpa [rowCells] using hj

set_option maxRecDepth 100000 in
set_option maxHeartbeats 1000000 in
theorem drawSameEvents_any (q : Option Addr) (c : Nat) (l : List UInt8) (w : World) (h : Bs w w.heap.size q l) (hl : l.length ≤ 1048576) :
    Calls Tryd.prog 13 #[.slice q l.length c] w (TwoEvs w) := by
  have H := Lib.hid (l1Source_any q c l w h)
  have HL := Lib.hid hl
  clear h hl
  obtain ⟨i0, hi, hz0, hz1, hz2⟩ := info_parts Tryd.info_evd
  have HI := Lib.hid (And.intro hi (And.intro hz0 (And.intro hz1 hz2)))
  clear hi hz0 hz1 hz2
  go_enter Tryd.func13, Tryd.ntmps13
  go_wp2_with fail
  refine H.out.mono ?_
  rintro e w1 ⟨rfl, hs1, hb1⟩
  have HS1 := Lib.hid hs1
  clear hs1
  go_wp2_with fail
  refine (l1Next_src _ q c _ l 4 _ ((HS1.out.grown (World.grownBy_alloc w1 _ none) (by simp)).grown (World.grownBy_alloc _ _ none) (by simp)) HL.out (by omega) (by omega) (by omega)).mono ?_
  rintro e w2 ⟨v, rfl, ⟨hv0, hv1⟩, hs2, hg2⟩
  obtain ⟨k, rfl⟩ := Int.eq_ofNat_of_zero_le hv0
  have HS2 := Lib.hid hs2
  have HG2 := Lib.hid hg2
  clear hs2 hg2
  go_wp2
  go_loopw [5, 6, 7] (fun va vb n W => EvsRel2 w q c l k va vb n W) (fun _ _ n _ => (intOf n).toNat)
  case atStart =>
    have hz1 : w.heap.size < w1.heap.size := HS1.out.choose_spec.2.2
    refine ⟨k, [], [], rfl, by simp, rfl, ((evs_none w1 (w.heap.size + 1) (by omega)).alloc _).src HG2.out (Nat.lt_succ_self _), ?_, by simp [Value.ownBlock], by simp, by simp, by simp, HS2.out, ((hb1.alloc hb1.size _).alloc (by simp; have := hb1.size; omega) _).grown HG2.out (by simp; omega) (by simp)⟩
    have := (evs_none (w1.alloc (.cells #[] 33)) (w.heap.size + 1) (by simp; omega)).src HG2.out (Nat.lt_succ_self _)
    simpa using this
  case round =>
    obtain ⟨j, ra, rb, rfl, hj, hrb, hoa, hob, hne, hna, hnb, hbd, hs, hbl⟩ := hrel
    have HA := Lib.hid hoa
    have HB := Lib.hid hob
    have HS := Lib.hid hs
    have HBD := Lib.hid hbd
    have HRB := Lib.hid hrb
    clear hoa hob hs hbd hrb
    by_cases hlt : 0 < j
    · go_wp2_with fail
      refine (l1Draw_any _ q c _ l _ HS.out HL.out (by omega)).mono ?_
      rintro e w3 ⟨ev, p, cp, rfl, hlen, hm0, hm1, hde⟩
      have hgl : w.heap.size < wr.heap.size := HS.out.choose_spec.2.2
      have hsz3 := hde.kept.size
      have HA3 := Lib.hid (fun o o' => ((HA.out.src hde.kept (Nat.lt_succ_self _)).alloc o).alloc o')
      have HB3 := Lib.hid (fun o o' => ((HB.out.src hde.kept (Nat.lt_succ_self _)).alloc o).alloc o')
      have HO3 := Lib.hid (fun o o' => (((hde.own.lower (base' := w.heap.size + 1) (by omega)).on ((Below.refl _ _).alloc (Nat.le_refl _) o)).on ((Below.refl _ _).alloc (Nat.le_refl _) o')))
      have HS3 := Lib.hid (fun o o' => (hde.src.grown (World.grownBy_alloc w3 o none) (by simp)).grown (World.grownBy_alloc _ o' none) (by simp))
      have hbl3 : Below w.heap.size w w3 := hbl.grown hde.kept hbl.size (by simp)
      have HE3 := Lib.hid (EvAt.new w3 ev p cp 33)
      clear hde
      unfold evV
      go_wp2_with (at_builtin; refine wpList_append_own_at _ rfl _ _ 35 rfl (w.heap.size + 1) 33 i0 _ 8 80 Tryd.underlying35 HI.out.1 HI.out.2.1 HI.out.2.2.1 HI.out.2.2.2 rfl (by decide) _ _ _ rfl (HA3.out _ _).1 ⟨w3.heap.size + 1, 0, none⟩ 1 1 (rowCells (ev, p, cp)) rfl (by simp [row_len]) ?c1 ?c2 ?c3 ?c4 ?c5 ?_)
      case c1 => exact row_at _ (ev, p, cp) _ _ (by simp)
      case c2 => exact row_one _
      case c3 => unfold maxLen; omega
      case c4 => omega
      case c5 => simp; omega
      intro va' w4 hown' hgrow hnil hblk
      have hra := (HA3.out (.cells (evC ev p cp) 33) (.cells (evC ev p cp) 33))
      have HA4 := Lib.hid (hra.append (r := (ev, p, cp)) (HO3.out _ _) hown' hgrow)
      have HB4 := Lib.hid ((HB3.out (.cells (evC ev p cp) 33) (.cells (evC ev p cp) 33)).beside hra.1 hne hgrow)
      have HO4 := Lib.hid (HA4.out.2 (ev, p, cp) (by simp))
      have HS4 := Lib.hid ((HS3.out _ _).grown hgrow (fun j hj => by have := (HA.out.lt j hj).1; omega))
      have hbl4 : Below w.heap.size w w4 := ((hbl3.alloc hbl3.size _).alloc (by simp; have := hbl3.size; omega) _).grown hgrow (by simp; have := hbl3.size; omega) (fun j hj => by have := (HA.out.lt j hj).1; omega)
      have HE4 : Hid (EvAt w4 w3.heap.size 0 ev p cp) := Lib.hid ((HE3.out.below ((Below.refl _ _).alloc (Nat.le_refl _) _) (by simp)).keep fun o => World.cell?_of_block (a := ⟨w3.heap.size, o, none⟩) (hgrow.block _ (by simp; omega) (fun e => absurd ((HA.out.lt w3.heap.size e.symm).2) (by omega))))
      have hne4 : va'.ownBlock ≠ u6.ownBlock := by
        rcases hblk with h | h
        · rw [h]; exact hne
        · rw [h]; intro e; have := (HB.out.lt _ e.symm).2; omega
      have hnil4 : va' ≠ .slice none 0 0 := fun e => hnil e
      have hsz4 := hgrow.size
      rw [World.size_alloc, World.size_alloc] at hsz4
      clear hown' hgrow hnil hblk hra HA3 HB3 HO3 HS3 HE3 HA
      go_wp2_with fail
      refine (l1Event_any ev p cp w3.heap.size 0 w4 HE4.out HO4.out.bs.2 (by omega)).mono ?_
      rintro e w5 ⟨p5, c5, rfl, ho5, hb5⟩
      have HA5 := Lib.hid (fun o => (HA4.out.below hb5).alloc o)
      have HB5 := Lib.hid (fun o => (HB4.out.below hb5).alloc o)
      have HO5 := Lib.hid (fun o => ((ho5.lower (base' := w.heap.size + 1) (by omega)).on ((Below.refl _ _).alloc (Nat.le_refl _) o)))
      have HS5 := Lib.hid (fun o => (HS4.out.below hb5).grown (World.grownBy_alloc w5 o none) (by simp))
      have hbl5 : Below w.heap.size w w5 := hbl4.trans (hb5.mono hbl4.size)
      have hsz5 := hb5.size
      clear ho5 hb5 HE4 HO4
      unfold evV
      go_wp2_with (at_builtin; refine wpList_append_own_at _ rfl _ _ 35 rfl (w.heap.size + 1) 33 i0 _ 8 80 Tryd.underlying35 HI.out.1 HI.out.2.1 HI.out.2.2.1 HI.out.2.2.2 rfl (by decide) _ _ _ rfl (HB5.out _).1 ⟨w5.heap.size, 0, none⟩ 1 1 (rowCells (ev, p5, c5)) rfl (by simp [row_len]) ?d1 ?d2 ?d3 ?d4 ?d5 ?_)
      case d1 => exact row_at _ (ev, p5, c5) _ _ rfl
      case d2 => exact row_one _
      case d3 => have := HRB.out; unfold maxLen; omega
      case d4 => have := HRB.out; omega
      case d5 => simp; omega
      intro vb' w6 hown' hgrow hnil hblk
      have hrb6 := HB5.out (.cells (evC ev p5 c5) 33)
      have HB6 := Lib.hid (hrb6.append (r := (ev, p5, c5)) (HO5.out _) hown' hgrow)
      have HA6 := Lib.hid ((HA5.out (.cells (evC ev p5 c5) 33)).beside hrb6.1 (Ne.symm hne4) hgrow)
      have HS6 := Lib.hid ((HS5.out _).grown hgrow (fun j hj => by have := (HB.out.lt j hj).1; omega))
      have hbl6 : Below w.heap.size w w6 := (hbl5.alloc hbl5.size _).grown hgrow (by simp; have := hbl5.size; omega) (fun j hj => by have := (HB.out.lt j hj).1; omega)
      have hne6 : va'.ownBlock ≠ vb'.ownBlock := by
        rcases hblk with h | h
        · rw [h]; exact hne4
        · rw [h]; intro e; have := (HA4.out.lt _ e).2; omega
      have hnil6 : vb' ≠ .slice none 0 0 := fun e => hnil e
      clear hown' hgrow hnil hblk hrb6 HA5 HB5 HO5 HS5
      go_wp2
      refine ⟨⟨j - 1, ra ++ [(ev, p, cp)], rb ++ [(ev, p5, c5)], by go_num, by simp; omega, by simp [HRB.out], HA6.out, HB6.out, hne6, hnil4, hnil6, ?_, HS6.out.more (by simp; omega), hbl6⟩, by simp [intOf]; omega⟩
      intro r hr
      simp only [List.mem_append, List.mem_singleton] at hr
      rcases hr with (hr | rfl) | (hr | rfl)
      · exact HBD.out r (List.mem_append.2 (.inl hr))
      · exact ⟨hlen, hm0, hm1⟩
      · exact HBD.out r (List.mem_append.2 (.inr hr))
      · exact ⟨hlen, hm0, hm1⟩
    · have hj0 : j = 0 := by omega
      subst hj0
      have hl1 : ra.length ≤ 3 := by omega
      have hl2 : rb.length ≤ 3 := by have := HRB.out; omega
      have hdd : ∀ r ∈ ra ++ rb, r.1.data.length ≤ 40 := fun r hr => (HBD.out r hr).1
      have HDD := Lib.hid hdd
      have HNE := Lib.hid hne
      obtain ⟨ga, ca, rfl, _, _, _⟩ := HA.out.place hna
      obtain ⟨gb, cb, rfl, hgb, hgl, hfr⟩ := HB.out.place hnb
      clear hdd hne hna hnb
      match rb, HB, HRB, HBD, HDD, hl2 with
      | [], HB, HRB, HBD, HDD, hl2 =>
        go_wp2
        go_ret2
        exact two_end HA.out HB.out hl1 hl2 HDD.out hbl
      | r :: rs, HB, HRB, HBD, HDD, hl2 =>
        go_wp2_with fail
        refine (l1Chance_any _ q c _ l 2 _ HS.out HL.out (by omega) (by omega) (by omega)).mono ?_
        rintro e w7 ⟨v7, rfl, hs7, hg7⟩
        have HA7 := Lib.hid (HA.out.src hg7 (Nat.lt_succ_self _))
        have HB7 := Lib.hid (HB.out.src hg7 (Nat.lt_succ_self _))
        have hbl7 : Below w.heap.size w w7 := hbl.grown hg7 hbl.size (by simp)
        obtain ⟨gb', cb', ev, _, _, hfr7⟩ := HB7.out.place (by simp)
        simp only [Value.slice.injEq, Option.some.injEq, Addr.mk.injEq] at ev
        obtain ⟨⟨rfl, -, -⟩, -, rfl⟩ := ev
        have hm := HBD.out r (by simp)
        obtain ⟨hm0, hm1⟩ := hm.2
        clear hs7 hg7 hm
        cases v7
        · go_wp2
          go_ret2
          exact two_end HA7.out HB7.out hl1 hl2 HDD.out hbl7
        · have hc2 : w7.cell? ⟨gb, 2, none⟩ = some (.int .i64 r.1.mods) := World.ownsRow.cellAt HB7.out.1 2 (by simp; omega)
          have hf2 := hfr7 2
          clear hfr7 hfr
          go_wp2
          go_ret2
          have hA8 := HA7.out.beside HB7.out.1 (Ne.symm HNE.out) (World.ownsRow.stored HB7.out.1 2 (.int .i64 (r.1.mods + 1))).2
          refine two_end hA8 (HB7.out.bump (r.1.mods + 1)) hl1 hl2 ?_ (hbl7.setCell (by show w.heap.size ≤ gb; omega) _)
          intro x hx
          rcases List.mem_append.1 hx with hx | hx
          · exact HDD.out x (List.mem_append.2 (.inl hx))
          · rcases List.mem_cons.1 hx with rfl | hx
            · exact HDD.out r (by simp)
            · exact HDD.out x (by simp [hx])

end Go.Proofs.YtjmfmdebnobogaaDoor
