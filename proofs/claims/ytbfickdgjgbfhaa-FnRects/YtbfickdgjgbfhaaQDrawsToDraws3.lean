/- The draws' source: l1Source, l1Next, l1Pick, l1Chance. -/
import Derived.Test.YtbfickdgjgbfhaaQPutToMarks
import Derived.Deep.QuietTactic
import Derived.BigQuiet
import Derived.BigGuardPart
import Derived.Deep.DeepCutAuto
namespace Go.Proofs.Ytbfickdgjgbfhaa
open Go.RowKit

/-- block g holds a source over the bytes l, n of them read -/
structure SrcAt (w : World) (g : Nat) (q : Option Addr) (c : Nat) (l : List UInt8) (n : Nat) : Prop where
  code : w.cell? ⟨g, 0, none⟩ = some (.slice q l.length c)
  read : w.cell? ⟨g, 1, none⟩ = some (.int .i64 n)
  free : ∀ o, w.frozen? ⟨g, o, none⟩ = false
  bytes : Bs w g q l

/-- what a draw from 0 to m - 1 leaves -/
def NextPost (w : World) (g : Nat) (q : Option Addr) (c : Nat) (l : List UInt8) (n : Nat) (m : Int) (e : Ending) (w' : World) : Prop :=
  ∃ v : Int, e = .returned (.int .i64 v) ∧ 0 ≤ v ∧ v < m ∧ SrcAt w' g q c l (n + 1) ∧ w.grownBy w' (some g)

theorem SrcAt.step {w : World} {g : Nat} {q : Option Addr} {c : Nat} {l : List UInt8} {n : Nat} (h : SrcAt w g q c l n) :
    SrcAt (w.setCell ⟨g, 1, none⟩ (.int .i64 ((n : Int) + 1))) g q c l (n + 1) ∧ w.grownBy (w.setCell ⟨g, 1, none⟩ (.int .i64 ((n : Int) + 1))) (some g) := by
  refine ⟨⟨?_, ?_, ?_, ?_⟩, ⟨rfl, rfl, rfl, by simp [World.setCell], fun b _ hb => Below.heap_setCell _ _ _ _ (fun e => hb (by rw [e]))⟩⟩
  · rw [World.cell?_setCell_other _ _ _ _ (by simp)]
    exact h.code
  · exact World.cell?_setCell_same _ _ _ h.read
  · intro o
    simp [World.frozen?_setCell]
    exact h.free o
  · exact h.bytes.keep (Nat.le_refl _) fun a ha => World.cell?_setCell_other _ _ _ _ (fun e => by subst e; exact Nat.lt_irrefl _ ha)

theorem SrcAt.drew {w : World} {g : Nat} {q : Option Addr} {c : Nat} {l : List UInt8} {n : Nat} (h : SrcAt w g q c l n) (k : Nat) : SrcAt (w.drewN k) g q c l n :=
  ⟨h.code, h.read, h.free, h.bytes.keep (Nat.le_refl _) fun _ _ => rfl⟩
theorem grownBy_drewN {a w : World} {g : Option Nat} (h : a.grownBy w g) (k : Nat) : a.grownBy (w.drewN k) g := ⟨h.os, h.tape, h.output, h.size, h.block⟩

set_option maxRecDepth 100000 in
set_option maxHeartbeats 2000000 in
theorem l1Next_nil (g : Nat) (q : Option Addr) (c n : Nat) (m : Int) (w : World) (h : SrcAt w g q c [] n) (hn : n ≤ 1000000) (h1 : 1 ≤ m) (h2 : m ≤ 60000) :
    Calls Try.prog 82 #[.pointer (some ⟨g, 0, none⟩), .int .i64 m] w (NextPost w g q c [] n m) := by
  have HS := Lib.hid h.step
  obtain ⟨c0, c1, f1, _⟩ := h
  go_enter Try.func82, Try.ntmps82
  go_wp2
  go_ret
  exact ⟨_, rfl, Int.emod_nonneg _ (by omega), Int.emod_lt_of_pos _ (by omega), HS.out⟩

set_option maxRecDepth 100000 in
set_option maxHeartbeats 2000000 in
theorem l1Next_some (g b off : Nat) (c n : Nat) (l : List UInt8) (m : Int) (w : World) (h : SrcAt w g (some ⟨b, off, none⟩) c l n) (hb : b < g) (hl0 : 0 < l.length) (hl : l.length ≤ 1048576)
    (hc : ∀ i, i < l.length → w.cell? ⟨b, off + i, none⟩ = some (.int .u8 ((l.getD i 0).toNat : Int))) (hn : n ≤ 1000000) (h1 : 1 ≤ m) (h2 : m ≤ 200) :
    Calls Try.prog 82 #[.pointer (some ⟨g, 0, none⟩), .int .i64 m] w (NextPost w g (some ⟨b, off, none⟩) c l n m) := by
  have HS := Lib.hid h.step
  obtain ⟨c0, c1, f1, _⟩ := h
  go_enter Try.func82, Try.ntmps82
  go_upto_region 2 with (fail)
  have hc' : ∀ i, i < l.length → (w.setCell ⟨g, 1, none⟩ (.int .i64 ((n : Int) + 1))).cell? ⟨b, off + i, none⟩ = some (.int .u8 ((l.getD i 0).toNat : Int)) := fun i hi =>
    (World.cell?_setCell_other _ _ _ _ (fun e => absurd (congrArg Addr.block e) (by show ¬ g = b; omega))).trans (hc i hi)
  have d0 := HS.out.1.code
  have d1 := HS.out.1.read
  generalize w.setCell ⟨g, 1, none⟩ (.int .i64 ((n : Int) + 1)) = w1 at hc' HS d0 d1 ⊢
  clear hc c0 c1 f1
  push_cast at d1
  have hq := hc' (n % l.length) (Nat.mod_lt _ hl0)
  have e1 : Int.tmod (n : Int) (l.length : Int) = ((n % l.length : Nat) : Int) := by rw [Int.ofNat_tmod]
  have e2 : Int.tdiv (n : Int) (l.length : Int) = ((n / l.length : Nat) : Int) := by rw [Int.ofNat_tdiv]
  have e3 : ((n % l.length : Nat) : Int) < (l.length : Int) := by have := Nat.mod_lt n hl0; omega
  have e4 : n / l.length ≤ 1000000 := Nat.le_trans (Nat.div_le_self _ _) hn
  generalize n % l.length = a at *
  generalize n / l.length = d at *
  have e5 : (l.getD a 0).toNat < 256 := UInt8.toNat_lt _
  generalize (l.getD a 0).toNat = x at *
  clear hc'
  go_wp2
  go_quiet (fail)
  go_wp2
  go_ret
  exact ⟨_, rfl, Int.emod_nonneg _ (by omega), Int.emod_lt_of_pos _ (by omega), HS.out.1.drew _, grownBy_drewN HS.out.2 _⟩

set_option maxRecDepth 100000 in
set_option maxHeartbeats 2000000 in
theorem l1Next_wide (g b off : Nat) (c n : Nat) (l : List UInt8) (m : Int) (w : World) (h : SrcAt w g (some ⟨b, off, none⟩) c l n) (hb : b < g) (hl0 : 0 < l.length) (hl : l.length ≤ 1048576)
    (hc : ∀ i, i < l.length → w.cell? ⟨b, off + i, none⟩ = some (.int .u8 ((l.getD i 0).toNat : Int))) (hn : n ≤ 1000000) (h1 : 200 < m) (h2 : m ≤ 60000) :
    Calls Try.prog 82 #[.pointer (some ⟨g, 0, none⟩), .int .i64 m] w (NextPost w g (some ⟨b, off, none⟩) c l n m) := by
  have HS := Lib.hid h.step
  obtain ⟨c0, c1, f1, _⟩ := h
  go_enter Try.func82, Try.ntmps82
  go_upto_region 2 with (fail)
  have hc' : ∀ i, i < l.length → (w.setCell ⟨g, 1, none⟩ (.int .i64 ((n : Int) + 1))).cell? ⟨b, off + i, none⟩ = some (.int .u8 ((l.getD i 0).toNat : Int)) := fun i hi =>
    (World.cell?_setCell_other _ _ _ _ (fun e => absurd (congrArg Addr.block e) (by show ¬ g = b; omega))).trans (hc i hi)
  have d0 := HS.out.1.code
  have d1 := HS.out.1.read
  generalize w.setCell ⟨g, 1, none⟩ (.int .i64 ((n : Int) + 1)) = w1 at hc' HS d0 d1 ⊢
  clear hc c0 c1 f1
  push_cast at d1
  have hq := hc' (n % l.length) (Nat.mod_lt _ hl0)
  have e1 : Int.tmod (n : Int) (l.length : Int) = ((n % l.length : Nat) : Int) := by rw [Int.ofNat_tmod]
  have e2 : Int.tdiv (n : Int) (l.length : Int) = ((n / l.length : Nat) : Int) := by rw [Int.ofNat_tdiv]
  have e3 : ((n % l.length : Nat) : Int) < (l.length : Int) := by have := Nat.mod_lt n hl0; omega
  have e4 : n / l.length ≤ 1000000 := Nat.le_trans (Nat.div_le_self _ _) hn
  have hq' := hc' ((n + 1) % l.length) (Nat.mod_lt _ hl0)
  have e6 : Int.tmod ((n : Int) + 1) (l.length : Int) = (((n + 1) % l.length : Nat) : Int) := by rw [Int.ofNat_tmod]; rfl
  have e7 : (((n + 1) % l.length : Nat) : Int) < (l.length : Int) := by have := Nat.mod_lt (n + 1) hl0; omega
  generalize (n + 1) % l.length = a' at *
  generalize n % l.length = a at *
  generalize n / l.length = d at *
  have e5 : (l.getD a 0).toNat < 256 := UInt8.toNat_lt _
  generalize (l.getD a 0).toNat = x at *
  have e8 : (l.getD a' 0).toNat < 256 := UInt8.toNat_lt _
  generalize (l.getD a' 0).toNat = x' at *
  clear hc'
  go_wp2
  go_quiet (fail)
  go_wp2
  go_quiet (fail)
  go_wp2
  go_ret
  exact ⟨_, rfl, Int.emod_nonneg _ (by omega), Int.emod_lt_of_pos _ (by omega), HS.out.1.drew _, grownBy_drewN HS.out.2 _⟩

theorem l1Next_any (g : Nat) (q : Option Addr) (c n : Nat) (l : List UInt8) (m : Int) (w : World) (h : SrcAt w g q c l n) (hl : l.length ≤ 1048576) (hn : n ≤ 1000000) (h1 : 1 ≤ m) (h2 : m ≤ 60000) :
    Calls Try.prog 82 #[.pointer (some ⟨g, 0, none⟩), .int .i64 m] w (NextPost w g q c l n m) := by
  by_cases hl0 : l = []
  · subst hl0
    exact l1Next_nil g q c n m w h hn h1 h2
  obtain ⟨b, off, rfl, hb, hc⟩ := h.bytes hl0
  by_cases hm : m ≤ 200
  · exact l1Next_some g b off c n l m w h hb (List.length_pos_iff.mpr hl0) hl hc hn h1 hm
  · exact l1Next_wide g b off c n l m w h hb (List.length_pos_iff.mpr hl0) hl hc hn (by omega) h2

/-- block g holds a source over the bytes l, at most N of them read -/
def Src (w : World) (g : Nat) (q : Option Addr) (c : Nat) (l : List UInt8) (N : Nat) : Prop := ∃ n, n ≤ N ∧ SrcAt w g q c l n ∧ g < w.heap.size

/-- what a draw of a number leaves -/
def NumPost (w : World) (g : Nat) (q : Option Addr) (c : Nat) (l : List UInt8) (N : Nat) (X : Int → Prop) (e : Ending) (w' : World) : Prop :=
  ∃ v : Int, e = .returned (.int .i64 v) ∧ X v ∧ Src w' g q c l N ∧ w.grownBy w' (some g)

theorem l1Next_src (g : Nat) (q : Option Addr) (c N : Nat) (l : List UInt8) (m : Int) (w : World) (h : Src w g q c l N) (hl : l.length ≤ 1048576) (hn : N ≤ 1000000) (h1 : 1 ≤ m) (h2 : m ≤ 60000) :
    Calls Try.prog 82 #[.pointer (some ⟨g, 0, none⟩), .int .i64 m] w (NumPost w g q c l (N + 1) (fun v => 0 ≤ v ∧ v < m)) := by
  obtain ⟨n, hle, h, hg⟩ := h
  refine (l1Next_any g q c n l m w h hl (by omega) h1 h2).mono ?_
  rintro e w' ⟨v, rfl, a, b, hs, hw⟩
  exact ⟨v, rfl, ⟨a, b⟩, ⟨n + 1, by omega, hs, Nat.lt_of_lt_of_le hg hw.size⟩, hw⟩

/-- what making a source leaves -/
def SrcPost (w : World) (q : Option Addr) (c : Nat) (l : List UInt8) (e : Ending) (w' : World) : Prop :=
  e = .returned (.pointer (some ⟨w.heap.size, 0, none⟩)) ∧ Src w' w.heap.size q c l 0 ∧ Below w.heap.size w w'

set_option maxRecDepth 100000 in
set_option maxHeartbeats 1000000 in
theorem l1Source_any (q : Option Addr) (c : Nat) (l : List UInt8) (w : World) (h : Bs w w.heap.size q l) :
    Calls Try.prog 80 #[.slice q l.length c] w (SrcPost w q c l) := by
  have H := Lib.hid h
  clear h
  go_enter Try.func80, Try.ntmps80
  go_wp2
  go_ret
  exact ⟨rfl, ⟨0, Nat.le_refl _, ⟨by simp, by simp, fun o => World.frozen?_alloc_at _ _ _ _ rfl, H.out.keep (Nat.le_refl _) fun a ha => World.cell?_alloc_lt w _ a ha⟩, by simp⟩, (Below.refl _ _).alloc (Nat.le_refl _) _⟩

set_option maxRecDepth 100000 in
set_option maxHeartbeats 1000000 in
theorem l1Chance_any (g : Nat) (q : Option Addr) (c N : Nat) (l : List UInt8) (m : Int) (w : World) (h : Src w g q c l N) (hl : l.length ≤ 1048576) (hn : N ≤ 1000000) (h1 : 1 ≤ m) (h2 : m ≤ 60000) :
    Calls Try.prog 93 #[.pointer (some ⟨g, 0, none⟩), .int .i64 m] w fun e w' => ∃ v : Bool, e = .returned (.bool v) ∧ Src w' g q c l (N + 1) ∧ w.grownBy w' (some g) := by
  have H := Lib.hid (l1Next_src g q c N l m w h hl hn h1 h2)
  clear h
  go_enter Try.func93, Try.ntmps93
  go_wp2_with (go_at_call 82; refine H.out.mono ?_; rintro e w' ⟨v, rfl, hv, hs, hw⟩)
  go_ret
  exact ⟨_, rfl, hs, hw⟩

set_option maxRecDepth 100000 in
set_option maxHeartbeats 1000000 in
theorem l1Pick_any (g : Nat) (q : Option Addr) (c N : Nat) (l : List UInt8) (w : World) (h : Src w g q c l N) (hl : l.length ≤ 1048576) (hn : N ≤ 1000000)
    (b k : Nat) (X : Int → Prop) (hk : 1 ≤ k) (hk' : k ≤ 60000) (hb : b ≠ g) (hb' : b < w.heap.size) (hx : ∀ i, i < k → ∃ v : Int, w.cell? ⟨b, i, none⟩ = some (.int .i64 v) ∧ X v) :
    Calls Try.prog 83 #[.pointer (some ⟨g, 0, none⟩), .slice (some ⟨b, 0, none⟩) k k] w (NumPost w g q c l (N + 1) X) := by
  have H := Lib.hid (l1Next_src g q c N l k w h hl hn (by omega) (by omega))
  have HX := Lib.hid hx
  clear h hx
  go_enter Try.func83, Try.ntmps83
  go_wp2_with (go_at_call 82; refine H.out.mono ?_; rintro e w' ⟨v, rfl, ⟨hv0, hv1⟩, hs, hw⟩; obtain ⟨i, rfl⟩ := Int.eq_ofNat_of_zero_le hv0; obtain ⟨x, hc, hX⟩ := HX.out i (by omega); rw [← World.cell?_of_block (hw.block b hb' (by simpa using hb))] at hc)
  go_ret
  exact ⟨_, rfl, hX, hs, hw⟩

end Go.Proofs.Ytbfickdgjgbfhaa

/- The draws of stage 1 that hand back a number. -/
namespace Go.Proofs.Ytbfickdgjgbfhaa
open Go.RowKit

theorem Src.below {w w' : World} {g : Nat} {q : Option Addr} {c : Nat} {l : List UInt8} {N : Nat} (h : Src w g q c l N) (k : Below w.heap.size w w') : Src w' g q c l N := by
  obtain ⟨n, hn, h, hg⟩ := h
  exact ⟨n, hn, ⟨(k.cell hg).trans h.code, (k.cell hg).trans h.read, fun o => (World.frozen?_of_block (k.block g hg)).trans (h.free o), h.bytes.keep (Nat.le_refl _) fun a ha => k.cell (Nat.lt_trans ha hg)⟩, Nat.lt_of_lt_of_le hg k.size⟩

/-- l1Pick of a list that was laid last -/
theorem l1Pick_lit (g : Nat) (q : Option Addr) (c N : Nat) (l : List UInt8) (w : World) (h : Src w g q c l N) (hl : l.length ≤ 1048576) (hn : N ≤ 1000000)
    (xs : List Int) (k : Nat) (hk : xs.length = k) (X : Int → Prop) (hk1 : 1 ≤ k) (hk' : k ≤ 60000) (a : Array Value) (ha : a = (xs.map (Value.int .i64)).toArray) (t : TypeId) (hX : ∀ x ∈ xs, X x) :
    Calls Try.prog 83 #[.pointer (some ⟨g, 0, none⟩), .slice (some ⟨w.heap.size, 0, none⟩) k k] (w.alloc (.cells a t)) (NumPost w g q c l (N + 1) X) := by
  have hg := h.choose_spec.2.2
  refine (l1Pick_any g q c N l (w.alloc (.cells a t)) (h.below ((Below.refl _ _).alloc (Nat.le_refl _) _)) hl hn w.heap.size k X hk1 hk' (by omega) (by simp) ?_).mono ?_
  · intro i hi
    refine ⟨xs[i]'(by omega), ?_, hX _ (List.getElem_mem _)⟩
    subst ha
    simp [hk, hi]
  · rintro e w' ⟨v, rfl, hv, hs, hw⟩
    exact ⟨v, rfl, hv, hs, ⟨hw.os, hw.tape, hw.output, Nat.le_trans (by simp) hw.size, fun b hb hne => (hw.block b (by simp; omega) hne).trans (Below.heap_alloc _ _ _ hb)⟩⟩





end Go.Proofs.Ytbfickdgjgbfhaa

/- The draws of stage 1 that hand back bytes: l1Some, l1Copy. -/
namespace Go.Proofs.Ytbfickdgjgbfhaa
open Go.RowKit

theorem grownBy_on {a b c : World} {g : Nat} {row : Option Nat} (h : a.grownBy b (some g)) (k : b.grownBy c row) (hr : ∀ j, row = some j → a.heap.size ≤ j ∨ j = g) : a.grownBy c (some g) := by
  refine ⟨k.os.trans h.os, k.tape.trans h.tape, k.output.trans h.output, Nat.le_trans h.size k.size, fun i hi hne => (k.block i (Nat.lt_of_lt_of_le hi h.size) ?_).trans (h.block i hi hne)⟩
  intro e
  rcases hr i e.symm with h1 | h1
  · omega
  · exact hne (by rw [h1])

theorem Src.grown {w w' : World} {g : Nat} {q : Option Addr} {c : Nat} {l : List UInt8} {N : Nat} {row : Option Nat} (h : Src w g q c l N) (k : w.grownBy w' row) (hr : ∀ j, row = some j → g < j) : Src w' g q c l N := by
  obtain ⟨n, hn, h, hg⟩ := h
  have hb : ∀ i, i ≤ g → w'.heap[i]? = w.heap[i]? := fun i hi => k.block i (by omega) (fun e => by have := hr i e.symm; omega)
  have hb0 := hb g (Nat.le_refl _)
  exact ⟨n, hn, ⟨(World.cell?_of_block hb0).trans h.code, (World.cell?_of_block hb0).trans h.read, fun o => (World.frozen?_of_block hb0).trans (h.free o), h.bytes.keep (Nat.le_refl _) fun a ha => World.cell?_of_block (hb a.block (by omega))⟩, Nat.lt_of_lt_of_le hg k.size⟩

theorem Src.more {w : World} {g : Nat} {q : Option Addr} {c : Nat} {l : List UInt8} {N M : Nat} (h : Src w g q c l N) (hm : N ≤ M) : Src w g q c l M := by
  obtain ⟨n, hn, h, hg⟩ := h
  exact ⟨n, by omega, h, hg⟩

/-- what a draw of k bytes leaves -/
def SomePost (w : World) (g : Nat) (q : Option Addr) (c : Nat) (l : List UInt8) (N : Nat) (k : Nat) (e : Ending) (w' : World) : Prop :=
  ∃ v bs, e = .returned v ∧ bs.length = k ∧ Own w' w.heap.size v bs ∧ Src w' g q c l (N + k) ∧ w.grownBy w' (some g)

/-- .. and that it is not nil -/
def SomePlus (w : World) (g : Nat) (q : Option Addr) (c : Nat) (l : List UInt8) (N : Nat) (k : Nat) (e : Ending) (w' : World) : Prop :=
  ∃ v bs, e = .returned v ∧ bs.length = k ∧ Own w' w.heap.size v bs ∧ Src w' g q c l (N + k) ∧ w.grownBy w' (some g) ∧ v ≠ .slice none 0 0

/-- the loop's relation -/
def SomeRel (w : World) (g : Nat) (q : Option Addr) (c : Nat) (l : List UInt8) (N k : Nat) (n out : Value) (wr : World) : Prop :=
  ∃ (j : Nat) (bs : List UInt8), n = .int .i64 j ∧ bs.length + j = k ∧ Own wr w.heap.size out bs ∧ Src wr g q c l (N + bs.length) ∧ w.grownBy wr (some g) ∧ out ≠ .slice none 0 0

theorem Own.next {w2 : World} {base : Nat} {v' : Value} {bs : List UInt8} {x : Nat} (hx : x < 256) (h : w2.ownsRow base 5 1 v' (bs.length + 1) (bs.map (fun x : UInt8 => Value.int .u8 (x.toNat : Int)) ++ [.int .u8 (x : Int)])) :
    Own w2 base v' (bs ++ [UInt8.ofNat x]) := by
  have e : ((UInt8.ofNat x).toNat : Int) = (x : Int) := by simp; omega
  unfold Own
  rw [List.map_append, List.length_append]
  rw [List.map_cons, List.map_nil, e]
  exact h

theorem Own.past {w : World} {base g : Nat} {v : Value} {l : List UInt8} (h : Own w base v l) (hg : g < base) : ∀ j, v.ownBlock = some j → g < j := fun j hj => Nat.lt_of_lt_of_le hg (World.ownsRow.lt h j hj).1
theorem Own.apart {w : World} {base g : Nat} {v : Value} {l : List UInt8} (h : Own w base v l) (hg : g < base) : v.ownBlock = none ∨ v.ownBlock ≠ some g :=
  .inr fun e => Nat.lt_irrefl _ (h.past hg g e)





end Go.Proofs.Ytbfickdgjgbfhaa
