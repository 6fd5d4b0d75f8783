/- Slices of numbers: what is known of them, and the contracts of toInt64S, eqInt64S, markInt64S, heldInt64S. -/
import Derived.Test.YtjmfmdebnobogaaDoorNumbersOf
namespace Go.Proofs.YtjmfmdebnobogaaDoor
open Go.RowKit

/-- the slice value '.slice p l.length c' holds the numbers l, in a block below B -/
def Is (w : World) (B : Nat) (p : Option Addr) (l : List Int) : Prop :=
  l ≠ [] → ∃ b off, p = some ⟨b, off, none⟩ ∧ b < B ∧ ∀ i, i < l.length → w.cell? ⟨b, off + i, none⟩ = some (.int .i64 (l.getD i 0))

theorem Is.keep {w w' : World} {B B' : Nat} {p : Option Addr} {l : List Int} (h : Is w B p l) (hB : B ≤ B') (hk : ∀ a : Addr, a.block < B → w'.cell? a = w.cell? a) : Is w' B' p l := by
  intro hl
  obtain ⟨b, off, e, hb, hc⟩ := h hl
  exact ⟨b, off, e, by omega, fun i hi => (hk ⟨b, off + i, none⟩ hb).trans (hc i hi)⟩
theorem Is.below {w w' : World} {B : Nat} {p : Option Addr} {l : List Int} (h : Is w B p l) (hb : Below B w w') : Is w' B p l := h.keep (Nat.le_refl _) fun _ ha => hb.cell ha
theorem Is.more {w : World} {B B' : Nat} {p : Option Addr} {l : List Int} (h : Is w B p l) (hB : B ≤ B') : Is w B' p l := h.keep hB fun _ _ => rfl
theorem Is.on {w w' : World} {p : Option Addr} {l : List Int} (h : Is w w.heap.size p l) (hb : Below w.heap.size w w') : Is w' w'.heap.size p l := (h.below hb).more hb.size
theorem Is.alloc {w : World} {p : Option Addr} {l : List Int} (h : Is w w.heap.size p l) (o : Obj) : Is (w.alloc o) (w.alloc o).heap.size p l :=
  h.keep (by simp) fun a ha => World.cell?_alloc_lt w o a ha

/-- an owned slice: nil, or a row of cells that is the call's own -/
theorem OwnI.form2 {w : World} {base : Nat} {v : Value} {l : List Int} (h : OwnI w base v l) :
    (v = .slice none 0 0 ∧ l = []) ∨ ∃ g cap, v = .slice (some ⟨g, 0, none⟩) l.length cap ∧ base ≤ g ∧ g < w.heap.size ∧ v.ownBlock = some g := by
  rcases h.2 with ⟨rfl, hn⟩ | ⟨g, cap, cur, rfl, hb, hh, _⟩
  · exact .inl ⟨rfl, List.eq_nil_of_length_eq_zero hn⟩
  · refine .inr ⟨g, cap, rfl, hb, ?_, rfl⟩
    rcases Nat.lt_or_ge g w.heap.size with h | h
    · exact h
    · rw [Array.getElem?_eq_none h] at hh; cases hh
theorem OwnI.slice {w : World} {base : Nat} {v : Value} {l : List Int} (h : OwnI w base v l) : ∃ p c, v = .slice p l.length c := by
  rcases h.form2 with ⟨rfl, rfl⟩ | ⟨g, cap, rfl, _⟩
  · exact ⟨_, _, rfl⟩
  · exact ⟨_, _, rfl⟩
theorem OwnI.keep {w w' : World} {base : Nat} {v : Value} {l : List Int} (h : OwnI w base v l) (hk : ∀ g, v.ownBlock = some g → w'.heap[g]? = w.heap[g]?) : OwnI w' base v l := by
  refine ⟨h.1, ?_⟩
  rcases h.2 with h' | ⟨g, cap, cur, rfl, hb, hh, r⟩
  · exact .inl h'
  · exact .inr ⟨g, cap, cur, rfl, hb, (hk g rfl).trans hh, r⟩
theorem OwnI.lt {w : World} {base : Nat} {v : Value} {l : List Int} (h : OwnI w base v l) : ∀ g, v.ownBlock = some g → base ≤ g ∧ g < w.heap.size := World.ownsRow.lt h
theorem OwnI.on {w w' : World} {base : Nat} {v : Value} {l : List Int} (h : OwnI w base v l) (hb : Below w.heap.size w w') : OwnI w' base v l := h.keep fun g hg => hb.block g (h.lt g hg).2
theorem OwnI.far {w w' : World} {base : Nat} {v : Value} {l : List Int} (h : OwnI w base v l) {row : Option Nat} (hb : w.grownBy w' row) (hr : ∀ g, v.ownBlock = some g → some g ≠ row) : OwnI w' base v l := h.keep fun g hg => hb.block g (h.lt g hg).2 (hr g hg)
theorem OwnI.is {w : World} {base : Nat} {p : Option Addr} {n c : Nat} {l : List Int} (h : OwnI w base (.slice p n c) l) : n = l.length ∧ Is w w.heap.size p l := by
  rcases h.form2 with ⟨e, rfl⟩ | ⟨g, cap, e, _, hlt, _⟩
  · simp at e; exact ⟨by simp [e.2.1], fun h => absurd rfl h⟩
  · simp at e
    obtain ⟨rfl, rfl, rfl⟩ := e
    refine ⟨rfl, fun _ => ⟨g, 0, rfl, hlt, fun i hi => ?_⟩⟩
    have := World.ownsRow.cellAt h i (by simpa using hi)
    simp at this ⊢
    rw [this]
    simp [hi]

set_option maxHeartbeats 1000000 in
theorem eqInt64S_yes (p q : Option Addr) (c d : Nat) (l : List Int) (w : World) {B C : Nat} (h : Is w B p l) (k : Is w C q l) (hl : l.length ≤ 1048576) :
    Calls Tryd.prog 38 #[.slice p l.length c, .slice q l.length d] w fun e w' => e = .returned (.bool true) ∧ ∃ n, w' = w.drewN n := by
  have H := Lib.hid h
  have K := Lib.hid k
  clear h k
  go_enter Tryd.func38, Tryd.ntmps38
  go_wp2
  go_loopw [5] (fun i wr => ∃ k n : Nat, k ≤ l.length ∧ i = .int .i64 k ∧ wr = w.drewN n) (fun i _ => l.length - (intOf i).toNat)
  case atStart => exact ⟨0, 0, by omega, rfl, rfl⟩
  case round =>
    obtain ⟨k, n, hk, rfl, rfl⟩ := hrel
    by_cases hlt : k < l.length
    · obtain ⟨b, off, rfl, _, hc⟩ := H.out (by intro e; simp [e] at hlt)
      obtain ⟨b', off', rfl, _, hc'⟩ := K.out (by intro e; simp [e] at hlt)
      have hc0 := hc k hlt
      have hc1 := hc' k hlt
      have hlt2 : (k : Int) < (l.length : Int) := by omega
      clear hc hc'
      go_wp2
      go_quiet (fail)
      go_wp2
      exact ⟨⟨k + 1, _, by omega, by go_num, rfl⟩, by simp [intOf]; omega⟩
    · go_wp2
      go_ret
      exact ⟨rfl, n, rfl⟩

theorem eqInt64S_same (p q : Option Addr) (c d : Nat) (l : List Int) (w : World) {B C : Nat} (h : Is w B p l) (k : Is w C q l) (hl : l.length ≤ 1048576) :
    Calls Tryd.prog 38 #[.slice p l.length c, .slice q l.length d] w fun e w' => e = .returned (.bool true) ∧ Below w.heap.size w w' :=
  (eqInt64S_yes p q c d l w h k hl).mono fun _ _ ⟨he, n, hw⟩ => ⟨he, by subst hw; exact below_drewN (Below.refl _ _) n⟩

/-- the marks k, k + 1, .. of n numbers -/
def marksI (k n : Nat) : List Int := (List.range n).map fun i => ((k + i : Nat) : Int)
theorem marksI_length (k n : Nat) : (marksI k n).length = n := by simp [marksI]
theorem marksI_get (k n i : Nat) (h : i < n) : (marksI k n)[i]? = some ((k + i : Nat) : Int) := by simp [marksI, h]
def halfI (l : List Int) (k j : Nat) : List Int := marksI k j ++ l.drop j
theorem halfI_zero (l : List Int) (k : Nat) : halfI l k 0 = l := by simp [halfI, marksI]
theorem halfI_all (l : List Int) (k : Nat) : halfI l k l.length = marksI k l.length := by simp [halfI]
theorem halfI_len (l : List Int) (k j : Nat) (h : j ≤ l.length) : (halfI l k j).length = l.length := by simp [halfI, marksI_length]; omega
theorem halfI_set (l : List Int) (k j : Nat) (h : j < l.length) : (halfI l k j).set j ((k + j : Nat) : Int) = halfI l k (j + 1) := by
  unfold halfI
  have e : marksI k (j + 1) = marksI k j ++ [((k + j : Nat) : Int)] := by simp [marksI, List.range_succ]
  rw [List.drop_eq_getElem_cons h, List.set_append_right _ _ (by rw [marksI_length]; exact Nat.le_refl _), marksI_length, Nat.sub_self, List.set_cons_zero, e, List.append_assoc, List.singleton_append]
theorem OwnI.stored {w : World} {base g cap n : Nat} {l : List Int} (h : OwnI w base (.slice (some ⟨g, 0, none⟩) n cap) l) (j : Nat) (x : Int) :
    OwnI (w.setCell ⟨g, j, none⟩ (.int .i64 x)) base (.slice (some ⟨g, 0, none⟩) n cap) (l.set j x) ∧ w.grownBy (w.setCell ⟨g, j, none⟩ (.int .i64 x)) (some g) := by
  have hn := h.is.1
  subst hn
  obtain ⟨h1, h2⟩ := World.ownsRow.stored h j (.int .i64 x)
  refine ⟨?_, h2⟩
  rw [OwnI, List.map_set, List.length_set]
  exact h1
theorem OwnI.cellAt {w : World} {base g cap n : Nat} {l : List Int} (h : OwnI w base (.slice (some ⟨g, 0, none⟩) n cap) l) (j : Nat) (hj : j < l.length) :
    w.cell? ⟨g, j, none⟩ = some (.int .i64 (l.getD j 0)) ∧ w.frozen? ⟨g, j, none⟩ = false := by
  have hn := h.is.1
  subst hn
  refine ⟨?_, World.ownsRow.frozenAt h j⟩
  rw [World.ownsRow.cellAt h j (by simpa using hj)]
  simp [hj]

theorem growI_trans {a b c : World} {row : Option Nat} (h : a.grownBy b row) (k : b.grownBy c row) : a.grownBy c row :=
  ⟨k.os.trans h.os, k.tape.trans h.tape, k.output.trans h.output, Nat.le_trans h.size k.size, fun i hi hne => (k.block i (Nat.lt_of_lt_of_le hi h.size) hne).trans (h.block i hi hne)⟩

set_option maxHeartbeats 1000000 in
theorem markInt64S_own (w : World) (base g cap k : Nat) (l : List Int) (h : OwnI w base (.slice (some ⟨g, 0, none⟩) l.length cap) l) (hl : l.length ≤ 1048576) (hk : k ≤ 1048576) :
    Calls Tryd.prog 39 #[.slice (some ⟨g, 0, none⟩) l.length cap, .int .i64 k] w fun e w' => e = .returned (.int .i64 ((k + l.length : Nat) : Int)) ∧
      OwnI w' base (.slice (some ⟨g, 0, none⟩) l.length cap) (marksI k l.length) ∧ w.grownBy w' (some g) := by
  have HO := Lib.hid h
  clear h
  go_enter Tryd.func39, Tryd.ntmps39
  go_wp2
  go_loopw [1, 5] (fun q i wr => ∃ j : Nat, j ≤ l.length ∧ i = .int .i64 j ∧ q = .int .i64 (k + j : Nat) ∧ OwnI wr base (.slice (some ⟨g, 0, none⟩) l.length cap) (halfI l k j) ∧ w.grownBy wr (some g)) (fun _ i _ => l.length - (intOf i).toNat)
  case atStart => exact ⟨0, by omega, rfl, rfl, by rw [halfI_zero]; exact HO.out, World.grownBy.refl w _⟩
  case round =>
    obtain ⟨j, hj, rfl, rfl, ho, hg⟩ := hrel
    by_cases hlt : j < l.length
    · have HS := Lib.hid (ho.stored j ((k + j : Nat) : Int))
      have HT := Lib.hid (halfI_set l k j hlt)
      obtain ⟨hc, hf⟩ := ho.cellAt j (by rw [halfI_len l k j hj]; exact hlt)
      have HG := Lib.hid hg
      clear ho hg HO
      go_wp2
      have hs := HS.out
      rw [HT.out] at hs
      exact ⟨⟨j + 1, by omega, by go_num, by go_num, by simpa using hs.1, growI_trans HG.out (by simpa using hs.2)⟩, by simp [intOf]; omega⟩
    · obtain rfl : j = l.length := by omega
      have HA := Lib.hid (halfI_all l k)
      go_wp2
      go_ret
      exact ⟨by go_num, by rw [← HA.out]; exact ho, hg⟩

set_option maxHeartbeats 400000 in
theorem markInt64S_nil (w : World) (k : Nat) :
    Calls Tryd.prog 39 #[.slice none 0 0, .int .i64 k] w fun e w' => e = .returned (.int .i64 k) ∧ w = w' := by
  go_enter Tryd.func39, Tryd.ntmps39
  go_wp2
  go_loop [1, 5] (fun q i => i = .int .i64 0 ∧ q = .int .i64 k) (fun _ _ => 0)
  case atStart => exact ⟨rfl, rfl⟩
  case round =>
    obtain ⟨rfl, rfl⟩ := hrel
    go_wp2
    go_ret
    exact ⟨rfl, rfl⟩

/-- what marking leaves -/
def MarkedI (w : World) (base : Nat) (v : Value) (l : List Int) (k : Nat) (e : Ending) (w' : World) : Prop :=
  e = .returned (.int .i64 ((k + l.length : Nat) : Int)) ∧ OwnI w' base v (marksI k l.length) ∧ w.grownBy w' v.ownBlock

theorem growI_refl (w : World) (row : Option Nat) : w.grownBy w row := ⟨rfl, rfl, rfl, Nat.le_refl _, fun _ _ _ => rfl⟩

theorem markInt64S_any (w : World) (base k : Nat) (v : Value) (l : List Int) (h : OwnI w base v l) (hl : l.length ≤ 1048576) (hk : k ≤ 1048576) :
    Calls Tryd.prog 39 #[v, .int .i64 k] w (MarkedI w base v l k) := by
  rcases h.form2 with ⟨rfl, rfl⟩ | ⟨g, cap, rfl, _, _, _⟩
  · exact (markInt64S_nil w k).mono fun _ _ ⟨he, hw⟩ => ⟨by rw [he]; rfl, by subst hw; exact h, by subst hw; exact growI_refl _ _⟩
  · exact markInt64S_own w base g cap k l h hl hk

theorem marksI_at (l : List Int) (k j : Nat) (hm : l = marksI k l.length) (h : j < l.length) : l.getD j 0 = (k : Int) + (j : Int) := by
  have e : l[j]? = some ((k + j : Nat) : Int) := by rw [hm]; exact marksI_get k _ j h
  rw [List.getD_eq_getElem?_getD, e]
  simp



end Go.Proofs.YtjmfmdebnobogaaDoor
