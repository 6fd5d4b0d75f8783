/- Slices of numbers: what is known of them, and the contracts of toInt64S, eqInt64S, markInt64S, heldInt64S. -/
import Derived.Test.YtcchhlcgamcceaaDoorQNumbersOf
import Derived.Laws.OwnMore
namespace Go.Proofs.YtcchhlcgamcceaaDoor
open Go.RowKit

/-- the slice value '.slice p l.length c' holds the numbers l, in a block below B -/
def Is (w : World) (B : Nat) (p : Option Addr) (l : List Int) : Prop :=
  l ≠ [] → ∃ b off, p = some ⟨b, off, none⟩ ∧ b < B ∧ ∀ i, i < l.length → w.cell? ⟨b, off + i, none⟩ = some (.int .i64 (l.getD i 0))

theorem Is.keep {w w' : World} {B B' : Nat} {p : Option Addr} {l : List Int} (h : Is w B p l) (hB : B ≤ B') (hk : ∀ a : Addr, a.block < B → w'.cell? a = w.cell? a) : Is w' B' p l := by
  intro hl
  obtain ⟨b, off, e, hb, hc⟩ := h hl
  exact ⟨b, off, e, by omega, fun i hi => (hk ⟨b, off + i, none⟩ hb).trans (hc i hi)⟩
theorem Is.below {w w' : World} {B : Nat} {p : Option Addr} {l : List Int} (h : Is w B p l) (hb : Below B w w') : Is w' B p l := h.keep (Nat.le_refl _) fun _ ha => hb.cell ha
theorem Is.more {w : World} {B B' : Nat} {p : Option Addr} {l : List Int} (h : Is w B p l) (hB : B ≤ B') : Is w B' p l := h.keep hB fun _ _ => rfl
theorem Is.on {w w' : World} {p : Option Addr} {l : List Int} (h : Is w w.heap.size p l) (hb : Below w.heap.size w w') : Is w' w'.heap.size p l := (h.below hb).more hb.size
theorem Is.alloc {w : World} {p : Option Addr} {l : List Int} (h : Is w w.heap.size p l) (o : Obj) : Is (w.alloc o) (w.alloc o).heap.size p l :=
  h.keep (by simp) fun a ha => World.cell?_alloc_lt w o a ha

/-- an owned slice: nil, or a row of cells that is the call's own -/
theorem OwnI.form2 {w : World} {base : Nat} {v : Value} {l : List Int} (h : OwnI w base v l) :
    (v = .slice none 0 0 ∧ l = []) ∨ ∃ g cap, v = .slice (some ⟨g, 0, none⟩) l.length cap ∧ base ≤ g ∧ g < w.heap.size ∧ v.ownBlock = some g := by
  rcases h.2 with ⟨rfl, hn⟩ | ⟨g, cap, cur, rfl, hb, hh, _⟩
  · exact .inl ⟨rfl, List.eq_nil_of_length_eq_zero hn⟩
  · refine .inr ⟨g, cap, rfl, hb, ?_, rfl⟩
    rcases Nat.lt_or_ge g w.heap.size with h | h
    · exact h
    · rw [Array.getElem?_eq_none h] at hh; cases hh
theorem OwnI.slice {w : World} {base : Nat} {v : Value} {l : List Int} (h : OwnI w base v l) : ∃ p c, v = .slice p l.length c := by
  rcases h.form2 with ⟨rfl, rfl⟩ | ⟨g, cap, rfl, _⟩
  · exact ⟨_, _, rfl⟩
  · exact ⟨_, _, rfl⟩
theorem OwnI.keep {w w' : World} {base : Nat} {v : Value} {l : List Int} (h : OwnI w base v l) (hk : ∀ g, v.ownBlock = some g → w'.heap[g]? = w.heap[g]?) : OwnI w' base v l := by
  refine ⟨h.1, ?_⟩
  rcases h.2 with h' | ⟨g, cap, cur, rfl, hb, hh, r⟩
  · exact .inl h'
  · exact .inr ⟨g, cap, cur, rfl, hb, (hk g rfl).trans hh, r⟩
theorem OwnI.lt {w : World} {base : Nat} {v : Value} {l : List Int} (h : OwnI w base v l) : ∀ g, v.ownBlock = some g → base ≤ g ∧ g < w.heap.size := World.ownsRow.lt h
theorem OwnI.on {w w' : World} {base : Nat} {v : Value} {l : List Int} (h : OwnI w base v l) (hb : Below w.heap.size w w') : OwnI w' base v l := h.keep fun g hg => hb.block g (h.lt g hg).2
theorem OwnI.far {w w' : World} {base : Nat} {v : Value} {l : List Int} (h : OwnI w base v l) {row : Option Nat} (hb : w.grownBy w' row) (hr : ∀ g, v.ownBlock = some g → some g ≠ row) : OwnI w' base v l := h.keep fun g hg => hb.block g (h.lt g hg).2 (hr g hg)
theorem OwnI.is {w : World} {base : Nat} {p : Option Addr} {n c : Nat} {l : List Int} (h : OwnI w base (.slice p n c) l) : n = l.length ∧ Is w w.heap.size p l := by
  rcases h.form2 with ⟨e, rfl⟩ | ⟨g, cap, e, _, hlt, _⟩
  · simp at e; exact ⟨by simp [e.2.1], fun h => absurd rfl h⟩
  · simp at e
    obtain ⟨rfl, rfl, rfl⟩ := e
    refine ⟨rfl, fun _ => ⟨g, 0, rfl, hlt, fun i hi => ?_⟩⟩
    have := World.ownsRow.cellAt h i (by simpa using hi)
    simp at this ⊢
    rw [this]
    simp [hi]





/-- the marks k, k + 1, .. of n numbers -/
def marksI (k n : Nat) : List Int := (List.range n).map fun i => ((k + i : Nat) : Int)
theorem marksI_length (k n : Nat) : (marksI k n).length = n := by simp [marksI]
theorem marksI_get (k n i : Nat) (h : i < n) : (marksI k n)[i]? = some ((k + i : Nat) : Int) := by simp [marksI, h]
def halfI (l : List Int) (k j : Nat) : List Int := marksI k j ++ l.drop j
theorem halfI_zero (l : List Int) (k : Nat) : halfI l k 0 = l := by simp [halfI, marksI]
theorem halfI_all (l : List Int) (k : Nat) : halfI l k l.length = marksI k l.length := by simp [halfI]
theorem halfI_len (l : List Int) (k j : Nat) (h : j ≤ l.length) : (halfI l k j).length = l.length := by simp [halfI, marksI_length]; omega
theorem halfI_set (l : List Int) (k j : Nat) (h : j < l.length) : (halfI l k j).set j ((k + j : Nat) : Int) = halfI l k (j + 1) := by
  unfold halfI
  have e : marksI k (j + 1) = marksI k j ++ [((k + j : Nat) : Int)] := by simp [marksI, List.range_succ]
  rw [List.drop_eq_getElem_cons h, List.set_append_right _ _ (by rw [marksI_length]; exact Nat.le_refl _), marksI_length, Nat.sub_self, List.set_cons_zero, e, List.append_assoc, List.singleton_append]
theorem OwnI.stored {w : World} {base g cap n : Nat} {l : List Int} (h : OwnI w base (.slice (some ⟨g, 0, none⟩) n cap) l) (j : Nat) (x : Int) :
    OwnI (w.setCell ⟨g, j, none⟩ (.int .i64 x)) base (.slice (some ⟨g, 0, none⟩) n cap) (l.set j x) ∧ w.grownBy (w.setCell ⟨g, j, none⟩ (.int .i64 x)) (some g) := by
  have hn := h.is.1
  subst hn
  obtain ⟨h1, h2⟩ := World.ownsRow.stored h j (.int .i64 x)
  refine ⟨?_, h2⟩
  rw [OwnI, List.map_set, List.length_set]
  exact h1
theorem OwnI.cellAt {w : World} {base g cap n : Nat} {l : List Int} (h : OwnI w base (.slice (some ⟨g, 0, none⟩) n cap) l) (j : Nat) (hj : j < l.length) :
    w.cell? ⟨g, j, none⟩ = some (.int .i64 (l.getD j 0)) ∧ w.frozen? ⟨g, j, none⟩ = false := by
  have hn := h.is.1
  subst hn
  refine ⟨?_, World.ownsRow.frozenAt h j⟩
  rw [World.ownsRow.cellAt h j (by simpa using hj)]
  simp [hj]

theorem growI_trans {a b c : World} {row : Option Nat} (h : a.grownBy b row) (k : b.grownBy c row) : a.grownBy c row :=
  ⟨k.os.trans h.os, k.tape.trans h.tape, k.output.trans h.output, Nat.le_trans h.size k.size, fun i hi hne => (k.block i (Nat.lt_of_lt_of_le hi h.size) hne).trans (h.block i hi hne)⟩





/-- what marking leaves -/
def MarkedI (w : World) (base : Nat) (v : Value) (l : List Int) (k : Nat) (e : Ending) (w' : World) : Prop :=
  e = .returned (.int .i64 ((k + l.length : Nat) : Int)) ∧ OwnI w' base v (marksI k l.length) ∧ w.grownBy w' v.ownBlock

theorem growI_refl (w : World) (row : Option Nat) : w.grownBy w row := ⟨rfl, rfl, rfl, Nat.le_refl _, fun _ _ _ => rfl⟩



theorem marksI_at (l : List Int) (k j : Nat) (hm : l = marksI k l.length) (h : j < l.length) : l.getD j 0 = (k : Int) + (j : Int) := by
  have e : l[j]? = some ((k + j : Nat) : Int) := by rw [hm]; exact marksI_get k _ j h
  rw [List.getD_eq_getElem?_getD, e]
  simp



end Go.Proofs.YtcchhlcgamcceaaDoor

/- The plain facts on the parts of a control sequence; the contracts of bodySize, isFinal, l2Numbers. -/
namespace Go.Proofs.YtcchhlcgamcceaaDoor
open Go.RowKit

/-- a byte that may stand ahead of the final byte -/
def bod (b : UInt8) : Bool := dgt b || b == 59
/-- how many such bytes come first -/
def bsz : List UInt8 → Nat
  | [] => 0
  | c :: r => if bod c = true then bsz r + 1 else 0

theorem bsz_stop : ∀ (l : List UInt8) (k : Nat), k ≤ l.length → (∀ i, i < k → bod (l.getD i 0) = true) → (k = l.length ∨ bod (l.getD k 0) = false) → bsz l = k
  | [], k, hk, _, _ => by simp at hk; subst hk; rfl
  | c :: r, 0, _, _, h => by
    rcases h with h | h
    · simp at h
    · simp at h; simp [bsz, h]
  | c :: r, k + 1, hk, ha, h => by
    have h0 := ha 0 (by omega)
    simp at h0
    rw [bsz, if_pos h0, bsz_stop r k (by simpa using hk) (fun i hi => by have := ha (i + 1) (by omega); simpa using this) (by rcases h with h | h; exact .inl (by simpa using h); exact .inr (by simpa using h))]
theorem bsz_le : ∀ (l : List UInt8), bsz l ≤ l.length
  | [] => Nat.le_refl _
  | c :: r => by
    rw [bsz]
    split
    · have := bsz_le r; simp; omega
    · simp
theorem bsz_all : ∀ (l : List UInt8), ∀ x ∈ l.take (bsz l), bod x = true
  | [], x, hx => by simp at hx
  | c :: r, x, hx => by
    rw [bsz] at hx
    split at hx
    · rw [List.take_succ_cons] at hx
      rcases List.mem_cons.1 hx with rfl | h
      · assumption
      · exact bsz_all r x h
    · simp at hx
theorem sp_dgts : ∀ (l : List UInt8), (∀ x ∈ l, bod x = true) → ∀ q ∈ sp l, dgts q = true
  | [], _, q, hq => by simp [sp] at hq; subst hq; rfl
  | c :: r, h, q, hq => by
    have ih := sp_dgts r (fun x hx => h x (List.mem_cons_of_mem _ hx))
    rw [sp] at hq
    split at hq
    · rcases List.mem_cons.1 hq with rfl | hq
      · rfl
      · exact ih q hq
    · rename_i hc
      have hd : dgt c = true := by
        have := h c (by simp)
        simpa [bod, hc] using this
      split at hq
      · rename_i p ps he
        rcases List.mem_cons.1 hq with rfl | hq
        · have := ih p (by rw [he]; simp)
          simp only [dgts, List.all_cons, hd, Bool.true_and]
          exact this
        · exact ih q (by rw [he]; exact List.mem_cons_of_mem _ hq)
      · simp at hq; subst hq; simp [dgts, hd]
theorem numsOf_numV (l : List UInt8) (h : ∀ x ∈ l, bod x = true) : numsOf l = (pieces l).map numV := by
  unfold numsOf
  apply List.map_congr_left
  intro q hq
  have : dgts q = true := by
    unfold pieces at hq
    split at hq
    · simp at hq
    · exact sp_dgts l h q hq
  simp [numRes, this]

/-- a final byte -/
def finl (b : UInt8) : Bool := decide (64 ≤ (b.toNat : Int)) && decide ((b.toNat : Int) ≤ 126)
theorem finl_lo {x : UInt8} (h : (x.toNat : Int) < 64) : finl x = false := by simp [finl]; omega
theorem finl_hi {x : UInt8} (h : 126 < (x.toNat : Int)) : finl x = false := by simp [finl]; omega
theorem finl_in {x : UInt8} (h : ¬ (x.toNat : Int) < 64) (h2 : ¬ 126 < (x.toNat : Int)) : finl x = true := by simp [finl]; omega

set_option maxHeartbeats 400000 in
theorem implIsFinal_any (b : UInt8) (w : World) :
    Calls Tryd.prog 77 #[.int .u8 (b.toNat : Int)] w fun e w' => e = .returned (.bool (finl b)) ∧ w = w' := by
  by_cases h1 : 64 ≤ (b.toNat : Int)
  · go_enter Tryd.func77, Tryd.ntmps77
    go_wp2
    all_goals
      go_ret
      exact ⟨ret_bool (by simp [finl, *]), rfl⟩
  · go_enter Tryd.func77, Tryd.ntmps77
    go_wp2
    go_ret
    exact ⟨ret_bool (by simp [finl]; omega), rfl⟩

theorem u8_eq59 (x : UInt8) : ((x.toNat : Int) == 59) = (x == 59) := by
  rw [Bool.eq_iff_iff]
  simp [← UInt8.toNat_inj]
  omega
theorem u8_ne59 (x : UInt8) : ((x.toNat : Int) != 59) = (x != 59) := by
  simp only [bne, u8_eq59]

def BszRel (l : List UInt8) (i : Value) : Prop := ∃ k : Nat, k ≤ l.length ∧ i = .int .i64 k ∧ ∀ j, j < k → bod (l.getD j 0) = true

set_option maxHeartbeats 1000000 in
theorem bodySize_any (p : Option Addr) (c : Nat) (l : List UInt8) (w : World) {B : Nat} (h : Bs w B p l) (hl : l.length ≤ 1048576) :
    Calls Tryd.prog 76 #[.slice p l.length c] w fun e w' => e = .returned (.int .i64 (bsz l)) ∧ w = w' := by
  have H := Lib.hid h
  clear h
  go_enter Tryd.func76, Tryd.ntmps76
  go_wp2
  go_loop [3, 4, 7] (fun _ _ i => BszRel l i) (fun _ _ i => l.length - (intOf i).toNat)
  case atStart => exact ⟨0, by omega, rfl, fun j hj => by omega⟩
  case round =>
    obtain ⟨k, hk, rfl, ht⟩ := hrel
    have HT := Lib.hid ht
    clear ht
    by_cases hlt : k < l.length
    · obtain ⟨b, off, rfl, hb, hc⟩ := H.out (by intro e; simp [e] at hlt)
      have hc0 := hc k hlt
      clear hc
      have HX := Lib.hid (show bod (l.getD k 0) = (dgt (l.getD k 0) || (l.getD k 0) == 59) from rfl)
      have HS := Lib.hid (fun h => bsz_stop l k hk HT.out h)
      generalize hx : l.getD k 0 = x at *
      have HXX := Lib.hid hx
      clear hx
      cases hd : dgt x with
      | true =>
        have HD := Lib.hid hd
        go_wp2_with (go_at_call 86; refine (implIsDigit_any _ _).mono ?_; rintro e w' ⟨rfl, rfl⟩)
        refine ⟨⟨k + 1, by omega, by go_num, fun j hj => ?_⟩, by simp [intOf]; omega⟩
        rcases Nat.lt_or_ge j k with h | h
        · exact HT.out j h
        · obtain rfl : j = k := by omega
          rw [HXX.out, HX.out, HD.out]; rfl
      | false =>
        have HD := Lib.hid hd
        have h59 := u8_ne59 x
        cases he : (x == 59) with
        | true =>
          have h59' : ((x.toNat : Int) != 59) = false := by rw [h59, bne, he]; rfl
          have HE := Lib.hid he
          clear h59 he
          go_wp2_with (go_at_call 86; refine (implIsDigit_any _ _).mono ?_; rintro e w' ⟨rfl, rfl⟩)
          refine ⟨⟨k + 1, by omega, by go_num, fun j hj => ?_⟩, by simp [intOf]; omega⟩
          rcases Nat.lt_or_ge j k with h | h
          · exact HT.out j h
          · obtain rfl : j = k := by omega
            rw [HXX.out, HX.out, HE.out]; simp
        | false =>
          have h59' : ((x.toNat : Int) != 59) = true := by rw [h59, bne, he]; rfl
          have HE := Lib.hid he
          clear h59 he
          go_wp2_with (go_at_call 86; refine (implIsDigit_any _ _).mono ?_; rintro e w' ⟨rfl, rfl⟩)
          go_ret
          exact ⟨ret_int (by rw [HS.out (.inr (by rw [HX.out, HD.out, HE.out]; rfl))]), rfl⟩
    · obtain rfl : k = l.length := by omega
      go_wp2
      go_ret
      exact ⟨ret_int (by rw [bsz_stop l l.length (Nat.le_refl _) HT.out (.inl rfl)]), rfl⟩

end Go.Proofs.YtcchhlcgamcceaaDoor
