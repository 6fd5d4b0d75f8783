/- The walk of the law over PartsBytes. -/
import Derived.Test.YtjmfmdebnobogaaDoorPbImpl
namespace Go.Proofs.YtjmfmdebnobogaaDoor
open Go.RowKit

/-- the numbers as cells -/
def icells (l : List Int) : Array Value := (l.map (Value.int .i64)).toArray
/-- what toInt64S has filled behind k rounds -/
def filledI (l : List Int) (k : Nat) : Array Value := ((l.take k).map (Value.int .i64) ++ List.replicate (l.length - k) (Value.int .i64 0)).toArray
theorem filledI_zero (l : List Int) : filledI l 0 = madeCells #[.int .i64 0] l.length := by
  apply Array.toList_inj.1
  rw [toList_madeCells_one]
  simp [filledI]
theorem filledI_all (l : List Int) : filledI l l.length = icells l := by simp [filledI, icells]
theorem filledI_size (l : List Int) (k : Nat) (h : k ≤ l.length) : (filledI l k).size = l.length := by simp [filledI]; omega
theorem filledI_succ (l : List Int) (k : Nat) (h : k < l.length) : (filledI l k).setIfInBounds k (.int .i64 (l.getD k 0)) = filledI l (k + 1) := by
  have e : l.length - k = (l.length - (k + 1)) + 1 := by omega
  have ht : l.take (k + 1) = l.take k ++ [l.getD k 0] := by rw [List.take_succ_eq_append_getElem h, List.getD_eq_getElem?_getD, List.getElem?_eq_getElem h]; rfl
  have hlen : ((l.take k).map (Value.int .i64)).length = k := by simp; omega
  apply Array.toList_inj.1
  simp only [filledI, Array.toList_setIfInBounds, ht, List.map_append, e]
  rw [List.replicate_succ, List.set_append_right _ _ (by omega), hlen]
  simp
theorem filledI_get (l : List Int) (k : Nat) (h : k < l.length) : (filledI l k)[k]? = some (.int .i64 0) := by
  have hlen : ((l.take k).map (Value.int .i64)).length = k := by simp; omega
  simp only [filledI, List.getElem?_toArray]
  rw [List.getElem?_append_right (Nat.le_of_eq hlen), hlen, Nat.sub_self, List.getElem?_replicate, if_pos (by omega)]

set_option maxHeartbeats 1000000 in
theorem toInt64S_any (p : Option Addr) (c : Nat) (l : List Int) (w : World) (h : Is w w.heap.size p l) (hl : l.length ≤ 1048576) :
    Calls Tryd.prog 36 #[.slice p l.length c] w fun e w' => e = .returned (.slice (some ⟨w.heap.size, 0, none⟩) l.length l.length) ∧ w.alloc (.cells (icells l) 2) = w' := by
  have hmk := run_make_row' (P := Tryd.prog) 48 2 (.int .i64 0) 8 Tryd.underlying48 Tryd.info_i64 rfl .i64 .i64 l.length (by omega) (by omega)
  rw [← filledI_zero] at hmk
  have H := Lib.hid h
  clear h
  go_enter Tryd.func36, Tryd.ntmps36
  go_wp2
  go_loopw [4] (fun i wr => ∃ k : Nat, k ≤ l.length ∧ i = .int .i64 k ∧ wr = w.alloc (.cells (filledI l k) 2)) (fun i _ => l.length - (intOf i).toNat)
  case atStart => exact ⟨0, by omega, rfl, rfl⟩
  case round =>
    obtain ⟨k, hk, rfl, rfl⟩ := hrel
    clear hmk
    by_cases hlt : k < l.length
    · obtain ⟨b, off, rfl, hb, hc⟩ := H.out (by intro e; simp [e] at hlt)
      have hc0 := hc k hlt
      clear hc
      have hs := filledI_size l k hk
      have hg := filledI_get l k hlt
      have HS := Lib.hid (filledI_succ l k hlt)
      generalize l.getD k 0 = x at *
      go_wp2
      exact ⟨⟨k + 1, by omega, by go_num, by rw [HS.out]⟩, by simp [intOf]; omega⟩
    · obtain rfl : k = l.length := by omega
      have HF := Lib.hid (filledI_all l)
      go_wp2
      go_ret
      exact ⟨rfl, by rw [HF.out]⟩

/-- toInt64S: a slice of the call's own -/
def NewXI (w : World) (l : List Int) (e : Ending) (w' : World) : Prop :=
  ∃ g, e = .returned (.slice (some ⟨g, 0, none⟩) l.length l.length) ∧ g = w.heap.size ∧ OwnI w' w.heap.size (.slice (some ⟨g, 0, none⟩) l.length l.length) l ∧ Below w.heap.size w w'
theorem ownI_lit (w : World) (l : List Int) (hm : l.length ≤ 1048576) : OwnI (w.alloc (.cells (icells l) 2)) w.heap.size (.slice (some ⟨w.heap.size, 0, none⟩) l.length l.length) l := by
  have h := World.ownsRow_lit (base := w.heap.size) (e := 2) (size := 1) w (icells l) l.length (Nat.le_refl _) (by simp [maxLen]; omega) (by simp [icells])
  simpa [OwnI, icells] using h
theorem toInt64S_own (p : Option Addr) (c : Nat) (l : List Int) (w : World) (h : Is w w.heap.size p l) (hl : l.length ≤ 1048576) :
    Calls Tryd.prog 36 #[.slice p l.length c] w (NewXI w l) :=
  (toInt64S_any p c l w h hl).mono fun _ _ ⟨he, hw⟩ => ⟨_, he, rfl, by subst hw; exact ownI_lit w l hl, by subst hw; exact below_mk _ _⟩

theorem heldBr_marks (w : World) (k n : Nat) (code : Int) (p : Option Addr) (c : Nat) (h : Bs w w.heap.size p (marksL k n)) (hl : n ≤ 1048576) (hk : k ≤ 1048576) :
    Calls Tryd.prog 41 #[brV code (.slice p n c), .int .i64 k] w fun en w' => en = .returned (.int .i64 ((k + n : Nat) : Int)) ∧ Below w.heap.size w w' := by
  have := heldBytesResult_any w k code p c (marksL k n) h (by rw [marksL_length]) (by rw [marksL_length]; exact hl) hk
  rw [marksL_length] at this
  exact this

theorem pbRes_small (priv : Bool) (nums : List Int) (fin : UInt8) : (pbRes priv nums fin).length ≤ 100 := by
  unfold pbRes
  split
  · simp
  split
  · simp
  split
  · simp
  · have h1 : inNum nums = true := by simp_all
    have := jn_len nums h1
    have h2 : (mark priv).length ≤ 1 := by unfold mark; split <;> simp
    simp [pb]
    omega

theorem AtL.two {w : World} {b : Nat} {v0 v1 : Value} (h : AtL w b [v0, v1]) : w.cell? ⟨b, 0, none⟩ = some v0 ∧ w.cell? ⟨b, 1, none⟩ = some v1 := ⟨h.get 0 rfl, h.get 1 rfl⟩

set_option maxHeartbeats 4000000 in
theorem lawPartsBytes_any (priv : Bool) (p : Option Addr) (c : Nat) (a : List Int) (fin : UInt8) (w : World) (h : Is w w.heap.size p a) (hT : Lib.TabIs Tryd.prog w "internal/strconv.uint64pow10" .u64 Lib.pow10Tab) :
    Calls Tryd.prog 5 #[.bool priv, .slice p a.length c, .int .u8 (fin.toNat : Int)] w fun e w' => e = .returned (.bool true) ∧ Below w.heap.size w w' := by
  by_cases ha1 : (1048576 : Int) < (a.length : Int)
  · go_enter Tryd.func5, Tryd.ntmps5
    go_wp2
    go_ret
    exact ⟨rfl, Below.refl _ _⟩
  have hal : a.length ≤ 1048576 := by omega
  have hsm := pbRes_small priv a fin
  have HT := Lib.hid (Lib.tabBelow_of_tabIs hT)
  clear hT
  have SP := Lib.hid (fun p c w h => specPartsBytes_any priv p c a fin w h hal)
  have IP : Hid (∀ p c w', Is w' w'.heap.size p a → Below w.heap.size w w' → Calls Tryd.prog 32 #[.bool priv, .slice p a.length c, .int .u8 (fin.toNat : Int)] w' (NewBr w' (pbCode a fin) (pbRes priv a fin))) := fun p c w' h hb => by
    cases priv
    · exact implPartsBytes_false p c a fin w' h hal (HT.out w' hb)
    · exact implPartsBytes_true p c a fin w' h hal (HT.out w' hb)
  generalize pbRes priv a fin = r at *
  generalize pbCode a fin = code at *
  clear HT
  go_enter Tryd.func5, Tryd.ntmps5
  go_wp2_with fail
  refine (toInt64S_own _ _ _ _ h hal).mono ?_
  rintro e w1 ⟨g1, rfl, hg1, o1, b1⟩
  clear hg1
  go_wp2_with fail
  refine (SP.out _ _ _ o1.is.2).mono ?_
  rintro e w2 ⟨v, rfl, o2, b2⟩
  obtain ⟨p2, c2, hv⟩ := o2.slice
  subst hv
  unfold brV
  have B2 := below_mk w2 (.cells #[.int .i64 code, .slice p2 r.length c2] 26)
  have X2 := AtL.new w2 [.int .i64 code, .slice p2 r.length c2] 26
  have D2 := below_on (below_on b1 b2) B2
  have O2 := o2.on B2
  have r2 : ∀ g, (Value.slice p2 r.length c2).ownBlock = some g → g < w2.heap.size := fun g hg => (o2.lt g hg).2
  clear o2 o1
  go_wp2_with fail
  refine (toInt64S_own _ _ _ _ (h.on D2) hal).mono ?_
  rintro e w3 ⟨g3, rfl, hg3, o3, b3⟩
  clear hg3
  have r3 := o3.lt g3 rfl
  rw [World.size_alloc] at r3
  have D3 := below_on D2 b3
  have X3 := X2.on b3
  have O3 := O2.on b3
  clear X2 O2
  go_wp2_with fail
  refine (IP.out _ _ _ o3.is.2 D3).mono ?_
  rintro e w4 ⟨v, rfl, o4, b4⟩
  obtain ⟨p4, c4, hv⟩ := o4.slice
  subst hv
  unfold brV
  have B4 := below_mk w4 (.cells #[.int .i64 code, .slice p4 r.length c4] 26)
  have Y4 := AtL.new w4 [.int .i64 code, .slice p4 r.length c4] 26
  have D4 := below_on (below_on D3 b4) B4
  have X4 := (X3.on b4).on B4
  have O4 := (O3.on b4).on B4
  have x4 := (o3.on b4).on B4
  have G4 := o4.on B4
  have r4 : ∀ g, (Value.slice p4 r.length c4).ownBlock = some g → w3.heap.size ≤ g ∧ g < w4.heap.size := o4.lt
  clear X3 O3 o3 o4
  obtain ⟨y0, y1⟩ := X4.two
  go_wp2_with fail
  refine (eqBytesResult_same code p4 p2 c4 c2 r _ G4.bs.2 O4.bs.2 (by omega)).mono ?_
  rintro e w5 ⟨rfl, b5⟩
  clear y0 y1
  have D5 := below_on D4 b5
  go_wp2_with fail
  refine (toInt64S_own _ _ _ _ (h.on D5) hal).mono ?_
  rintro e w6 ⟨g6, rfl, hg6, n6, b6⟩
  clear hg6
  go_wp2_with fail
  refine (eqInt64S_same _ _ _ _ _ _ ((x4.on b5).on b6).is.2 n6.is.2 hal).mono ?_
  rintro e w7 ⟨rfl, b7⟩
  have D7 := below_on (below_on D5 b6) b7
  have X7 := ((X4.on b5).on b6).on b7
  have Y7 := ((Y4.on b5).on b6).on b7
  have O7 := ((O4.on b5).on b6).on b7
  have G7 := ((G4.on b5).on b6).on b7
  have x7 := ((x4.on b5).on b6).on b7
  clear X4 Y4 O4 G4 x4 n6
  go_wp2_with fail
  refine (markInt64S_any _ _ 1 _ a x7 hal (by omega)).mono ?_
  rintro e w8 ⟨rfl, x8, g8⟩
  have X8 := X7.far g8 (fun e => by have e' : w2.heap.size = g3 := by simpa [Value.ownBlock] using e
                                    omega)
  have Y8 := Y7.far g8 (fun e => by have e' : w4.heap.size = g3 := by simpa [Value.ownBlock] using e
                                    have := b4.size; omega)
  have O8 := O7.far g8 (fun g hg e => by have h1 := r2 g hg; have e' : g = g3 := by simpa [Value.ownBlock] using e
                                         omega)
  have G8 := G7.far g8 (fun g hg e => by have h1 := r4 g hg; have e' : g = g3 := by simpa [Value.ownBlock] using e
                                         omega)
  have D8 : Below w.heap.size w w8 := D7.trans (below_of_grown g8 D7.size (fun g hg => by have e' : g3 = g := by simpa [Value.ownBlock] using hg
                                                                                          have := b1.size; have := b2.size; omega))
  clear X7 Y7 O7 G7 x7 x8
  obtain ⟨y0, y1⟩ := X8.two
  obtain ⟨z0, z1⟩ := Y8.two
  go_wp2_with fail
  refine (eqBytesResult_same code p4 p2 c4 c2 r _ G8.bs.2 O8.bs.2 (by omega)).mono ?_
  rintro e w9 ⟨rfl, b9⟩
  clear y0 y1 z0 z1
  have Y9 := Y8.on b9
  obtain ⟨z0, z1⟩ := Y9.two
  go_wp2_with fail
  refine (markBytesResult_any _ _ 1 code p4 c4 r (G8.on b9) (by omega) (by omega)).mono ?_
  rintro e w10 ⟨rfl, G10, g10⟩
  clear z0 z1
  have X10 := (X8.on b9).far g10 (fun e => by have := r4 _ e.symm; have := b3.size; simp at this; omega)
  have Y10 := Y9.far g10 (fun e => by have := r4 _ e.symm; omega)
  have O10 := (O8.on b9).far g10 (fun g hg e => by have h1 := r2 g hg; have := r4 _ e.symm; have := b3.size; simp at this; omega)
  have D10 : Below w.heap.size w w10 := (below_on D8 b9).trans (below_of_grown g10 (below_on D8 b9).size (fun g hg => by have := r4 g hg; have := D3.size; omega))
  clear X8 Y8 O8 Y9
  obtain ⟨z0, z1⟩ := Y10.two
  go_wp2_with fail
  refine (heldBr_marks _ 1 r.length code p4 c4 G10.bs.2 (by omega) (by omega)).mono ?_
  rintro e w11 ⟨rfl, b11⟩
  clear z0 z1
  have D11 := below_on D10 b11
  go_wp2_with fail
  refine (toInt64S_own _ _ _ _ (h.on D11) hal).mono ?_
  rintro e w12 ⟨g12, rfl, hg12, n12, b12⟩
  clear hg12
  go_wp2_with fail
  refine (IP.out _ _ _ n12.is.2 (below_on D11 b12)).mono ?_
  rintro e w13 ⟨v, rfl, o13, b13⟩
  obtain ⟨p13, c13, hv⟩ := o13.slice
  subst hv
  unfold brV
  have B13 := below_mk w13 (.cells #[.int .i64 code, .slice p13 r.length c13] 26)
  have X13 := (((X10.on b11).on b12).on b13).on B13
  have Y13 := (((Y10.on b11).on b12).on b13).on B13
  have O13 := (((O10.on b11).on b12).on b13).on B13
  have G13 := (((G10.on b11).on b12).on b13).on B13
  have P13 := o13.on B13
  have D13 := below_on (below_on (below_on D11 b12) b13) B13
  clear X10 Y10 O10 G10 o13 n12
  obtain ⟨y0, y1⟩ := X13.two
  go_wp2_with fail
  refine (eqBytesResult_same code p13 p2 c13 c2 r _ P13.bs.2 O13.bs.2 (by omega)).mono ?_
  rintro e w14 ⟨rfl, b14⟩
  clear y0 y1
  obtain ⟨z0, z1⟩ := (Y13.on b14).two
  go_wp2_with fail
  refine (heldBr_marks _ 1 r.length code p4 c4 (G13.on b14).bs.2 (by omega) (by omega)).mono ?_
  rintro e w15 ⟨rfl, b15⟩
  go_wp2_with fail
  go_ret
  exact ⟨rfl, below_on (below_on D13 b14) b15⟩

theorem lawPartsBytes_w (priv : Bool) (p : Option Addr) (c : Nat) (a : List Int) (x : Int) (w : World) (h : Is w w.heap.size p a) (hx : (Lit.int .u8 x).wf = true) (hT : Lib.TabIs Tryd.prog w "internal/strconv.uint64pow10" .u64 Lib.pow10Tab) :
    Calls Tryd.prog 5 #[.bool priv, .slice p a.length c, .int .u8 x] w fun e w' => e = .returned (.bool true) ∧ Below w.heap.size w w' := by
  have hr : 0 ≤ x ∧ x < 256 := by
    have h1 : IntKind.u8.min = 0 := rfl
    have h2 : IntKind.u8.max = 255 := rfl
    simp only [Lit.wf, Bool.and_eq_true, decide_eq_true_eq] at hx
    omega
  have e : ((UInt8.ofNat x.toNat).toNat : Int) = x := by simp; omega
  have := lawPartsBytes_any priv p c a (UInt8.ofNat x.toNat) w h hT
  rw [e] at this
  exact this

end Go.Proofs.YtjmfmdebnobogaaDoor
