/- The draws' source: l1Source, l1Next, l1Pick, l1Chance. -/
import Derived.Test.YtjopjddhgaiddaaDoorQPutToBytesRes
import Derived.Deep.QuietTactic
import Derived.BigQuiet
import Derived.BigGuardPart
import Derived.Deep.DeepCutAuto
import Derived.Laws.BitsAllLaws
namespace Go.Proofs.YtjopjddhgaiddaaDoor
open Go.RowKit

/-- block g holds a source over the bytes l, n of them read -/
structure SrcAt (w : World) (g : Nat) (q : Option Addr) (c : Nat) (l : List UInt8) (n : Nat) : Prop where
  code : w.cell? ⟨g, 0, none⟩ = some (.slice q l.length c)
  read : w.cell? ⟨g, 1, none⟩ = some (.int .i64 n)
  free : ∀ o, w.frozen? ⟨g, o, none⟩ = false
  bytes : Bs w g q l

/-- what a draw from 0 to m - 1 leaves -/
def NextPost (w : World) (g : Nat) (q : Option Addr) (c : Nat) (l : List UInt8) (n : Nat) (m : Int) (e : Ending) (w' : World) : Prop :=
  ∃ v : Int, e = .returned (.int .i64 v) ∧ 0 ≤ v ∧ v < m ∧ SrcAt w' g q c l (n + 1) ∧ w.grownBy w' (some g)

theorem SrcAt.step {w : World} {g : Nat} {q : Option Addr} {c : Nat} {l : List UInt8} {n : Nat} (h : SrcAt w g q c l n) :
    SrcAt (w.setCell ⟨g, 1, none⟩ (.int .i64 ((n : Int) + 1))) g q c l (n + 1) ∧ w.grownBy (w.setCell ⟨g, 1, none⟩ (.int .i64 ((n : Int) + 1))) (some g) := by
  refine ⟨⟨?_, ?_, ?_, ?_⟩, ⟨rfl, rfl, rfl, by simp [World.setCell], fun b _ hb => Below.heap_setCell _ _ _ _ (fun e => hb (by rw [e]))⟩⟩
  · rw [World.cell?_setCell_other _ _ _ _ (by simp)]
    exact h.code
  · exact World.cell?_setCell_same _ _ _ h.read
  · intro o
    simp [World.frozen?_setCell]
    exact h.free o
  · exact h.bytes.keep (Nat.le_refl _) fun a ha => World.cell?_setCell_other _ _ _ _ (fun e => by subst e; exact Nat.lt_irrefl _ ha)

theorem SrcAt.drew {w : World} {g : Nat} {q : Option Addr} {c : Nat} {l : List UInt8} {n : Nat} (h : SrcAt w g q c l n) (k : Nat) : SrcAt (w.drewN k) g q c l n :=
  ⟨h.code, h.read, h.free, h.bytes.keep (Nat.le_refl _) fun _ _ => rfl⟩
theorem grownBy_drewN {a w : World} {g : Option Nat} (h : a.grownBy w g) (k : Nat) : a.grownBy (w.drewN k) g := ⟨h.os, h.tape, h.output, h.size, h.block⟩

set_option maxRecDepth 100000 in
set_option maxHeartbeats 2000000 in
theorem l1Next_nil (g : Nat) (q : Option Addr) (c n : Nat) (m : Int) (w : World) (h : SrcAt w g q c [] n) (hn : n ≤ 1000000) (h1 : 1 ≤ m) (h2 : m ≤ 60000) :
    Calls Tryd.prog 16 #[.pointer (some ⟨g, 0, none⟩), .int .i64 m] w (NextPost w g q c [] n m) := by
  have HS := Lib.hid h.step
  obtain ⟨c0, c1, f1, _⟩ := h
  go_enter Tryd.func16, Tryd.ntmps16
  go_wp2
  go_ret
  exact ⟨_, rfl, Int.emod_nonneg _ (by omega), Int.emod_lt_of_pos _ (by omega), HS.out⟩

set_option maxRecDepth 100000 in
set_option maxHeartbeats 2000000 in
theorem l1Next_some (g b off : Nat) (c n : Nat) (l : List UInt8) (m : Int) (w : World) (h : SrcAt w g (some ⟨b, off, none⟩) c l n) (hb : b < g) (hl0 : 0 < l.length) (hl : l.length ≤ 1048576)
    (hc : ∀ i, i < l.length → w.cell? ⟨b, off + i, none⟩ = some (.int .u8 ((l.getD i 0).toNat : Int))) (hn : n ≤ 1000000) (h1 : 1 ≤ m) (h2 : m ≤ 200) :
    Calls Tryd.prog 16 #[.pointer (some ⟨g, 0, none⟩), .int .i64 m] w (NextPost w g (some ⟨b, off, none⟩) c l n m) := by
  have HS := Lib.hid h.step
  obtain ⟨c0, c1, f1, _⟩ := h
  go_enter Tryd.func16, Tryd.ntmps16
  go_upto_region 2 with (fail)
  have hc' : ∀ i, i < l.length → (w.setCell ⟨g, 1, none⟩ (.int .i64 ((n : Int) + 1))).cell? ⟨b, off + i, none⟩ = some (.int .u8 ((l.getD i 0).toNat : Int)) := fun i hi =>
    (World.cell?_setCell_other _ _ _ _ (fun e => absurd (congrArg Addr.block e) (by show ¬ g = b; omega))).trans (hc i hi)
  have d0 := HS.out.1.code
  have d1 := HS.out.1.read
  generalize w.setCell ⟨g, 1, none⟩ (.int .i64 ((n : Int) + 1)) = w1 at hc' HS d0 d1 ⊢
  clear hc c0 c1 f1
  push_cast at d1
  have hq := hc' (n % l.length) (Nat.mod_lt _ hl0)
  have e1 : Int.tmod (n : Int) (l.length : Int) = ((n % l.length : Nat) : Int) := by rw [Int.ofNat_tmod]
  have e2 : Int.tdiv (n : Int) (l.length : Int) = ((n / l.length : Nat) : Int) := by rw [Int.ofNat_tdiv]
  have e3 : ((n % l.length : Nat) : Int) < (l.length : Int) := by have := Nat.mod_lt n hl0; omega
  have e4 : n / l.length ≤ 1000000 := Nat.le_trans (Nat.div_le_self _ _) hn
  generalize n % l.length = a at *
  generalize n / l.length = d at *
  have e5 : (l.getD a 0).toNat < 256 := UInt8.toNat_lt _
  generalize (l.getD a 0).toNat = x at *
  clear hc'
  go_wp2
  go_quiet (fail)
  go_wp2
  go_ret
  exact ⟨_, rfl, Int.emod_nonneg _ (by omega), Int.emod_lt_of_pos _ (by omega), HS.out.1.drew _, grownBy_drewN HS.out.2 _⟩

set_option maxRecDepth 100000 in
set_option maxHeartbeats 2000000 in
theorem l1Next_wide (g b off : Nat) (c n : Nat) (l : List UInt8) (m : Int) (w : World) (h : SrcAt w g (some ⟨b, off, none⟩) c l n) (hb : b < g) (hl0 : 0 < l.length) (hl : l.length ≤ 1048576)
    (hc : ∀ i, i < l.length → w.cell? ⟨b, off + i, none⟩ = some (.int .u8 ((l.getD i 0).toNat : Int))) (hn : n ≤ 1000000) (h1 : 200 < m) (h2 : m ≤ 60000) :
    Calls Tryd.prog 16 #[.pointer (some ⟨g, 0, none⟩), .int .i64 m] w (NextPost w g (some ⟨b, off, none⟩) c l n m) := by
  have HS := Lib.hid h.step
  obtain ⟨c0, c1, f1, _⟩ := h
  go_enter Tryd.func16, Tryd.ntmps16
  go_upto_region 2 with (fail)
  have hc' : ∀ i, i < l.length → (w.setCell ⟨g, 1, none⟩ (.int .i64 ((n : Int) + 1))).cell? ⟨b, off + i, none⟩ = some (.int .u8 ((l.getD i 0).toNat : Int)) := fun i hi =>
    (World.cell?_setCell_other _ _ _ _ (fun e => absurd (congrArg Addr.block e) (by show ¬ g = b; omega))).trans (hc i hi)
  have d0 := HS.out.1.code
  have d1 := HS.out.1.read
  generalize w.setCell ⟨g, 1, none⟩ (.int .i64 ((n : Int) + 1)) = w1 at hc' HS d0 d1 ⊢
  clear hc c0 c1 f1
  push_cast at d1
  have hq := hc' (n % l.length) (Nat.mod_lt _ hl0)
  have e1 : Int.tmod (n : Int) (l.length : Int) = ((n % l.length : Nat) : Int) := by rw [Int.ofNat_tmod]
  have e2 : Int.tdiv (n : Int) (l.length : Int) = ((n / l.length : Nat) : Int) := by rw [Int.ofNat_tdiv]
  have e3 : ((n % l.length : Nat) : Int) < (l.length : Int) := by have := Nat.mod_lt n hl0; omega
  have e4 : n / l.length ≤ 1000000 := Nat.le_trans (Nat.div_le_self _ _) hn
  have hq' := hc' ((n + 1) % l.length) (Nat.mod_lt _ hl0)
  have e6 : Int.tmod ((n : Int) + 1) (l.length : Int) = (((n + 1) % l.length : Nat) : Int) := by rw [Int.ofNat_tmod]; rfl
  have e7 : (((n + 1) % l.length : Nat) : Int) < (l.length : Int) := by have := Nat.mod_lt (n + 1) hl0; omega
  generalize (n + 1) % l.length = a' at *
  generalize n % l.length = a at *
  generalize n / l.length = d at *
  have e5 : (l.getD a 0).toNat < 256 := UInt8.toNat_lt _
  generalize (l.getD a 0).toNat = x at *
  have e8 : (l.getD a' 0).toNat < 256 := UInt8.toNat_lt _
  generalize (l.getD a' 0).toNat = x' at *
  clear hc'
  go_wp2
  go_quiet (fail)
  go_wp2
  go_quiet (fail)
  go_wp2
  go_ret
  exact ⟨_, rfl, Int.emod_nonneg _ (by omega), Int.emod_lt_of_pos _ (by omega), HS.out.1.drew _, grownBy_drewN HS.out.2 _⟩

theorem l1Next_any (g : Nat) (q : Option Addr) (c n : Nat) (l : List UInt8) (m : Int) (w : World) (h : SrcAt w g q c l n) (hl : l.length ≤ 1048576) (hn : n ≤ 1000000) (h1 : 1 ≤ m) (h2 : m ≤ 60000) :
    Calls Tryd.prog 16 #[.pointer (some ⟨g, 0, none⟩), .int .i64 m] w (NextPost w g q c l n m) := by
  by_cases hl0 : l = []
  · subst hl0
    exact l1Next_nil g q c n m w h hn h1 h2
  obtain ⟨b, off, rfl, hb, hc⟩ := h.bytes hl0
  by_cases hm : m ≤ 200
  · exact l1Next_some g b off c n l m w h hb (List.length_pos_iff.mpr hl0) hl hc hn h1 hm
  · exact l1Next_wide g b off c n l m w h hb (List.length_pos_iff.mpr hl0) hl hc hn (by omega) h2

/-- block g holds a source over the bytes l, at most N of them read -/
def Src (w : World) (g : Nat) (q : Option Addr) (c : Nat) (l : List UInt8) (N : Nat) : Prop := ∃ n, n ≤ N ∧ SrcAt w g q c l n ∧ g < w.heap.size

/-- what a draw of a number leaves -/
def NumPost (w : World) (g : Nat) (q : Option Addr) (c : Nat) (l : List UInt8) (N : Nat) (X : Int → Prop) (e : Ending) (w' : World) : Prop :=
  ∃ v : Int, e = .returned (.int .i64 v) ∧ X v ∧ Src w' g q c l N ∧ w.grownBy w' (some g)

theorem l1Next_src (g : Nat) (q : Option Addr) (c N : Nat) (l : List UInt8) (m : Int) (w : World) (h : Src w g q c l N) (hl : l.length ≤ 1048576) (hn : N ≤ 1000000) (h1 : 1 ≤ m) (h2 : m ≤ 60000) :
    Calls Tryd.prog 16 #[.pointer (some ⟨g, 0, none⟩), .int .i64 m] w (NumPost w g q c l (N + 1) (fun v => 0 ≤ v ∧ v < m)) := by
  obtain ⟨n, hle, h, hg⟩ := h
  refine (l1Next_any g q c n l m w h hl (by omega) h1 h2).mono ?_
  rintro e w' ⟨v, rfl, a, b, hs, hw⟩
  exact ⟨v, rfl, ⟨a, b⟩, ⟨n + 1, by omega, hs, Nat.lt_of_lt_of_le hg hw.size⟩, hw⟩

/-- what making a source leaves -/
def SrcPost (w : World) (q : Option Addr) (c : Nat) (l : List UInt8) (e : Ending) (w' : World) : Prop :=
  e = .returned (.pointer (some ⟨w.heap.size, 0, none⟩)) ∧ Src w' w.heap.size q c l 0 ∧ Below w.heap.size w w'

set_option maxRecDepth 100000 in
set_option maxHeartbeats 1000000 in
theorem l1Source_any (q : Option Addr) (c : Nat) (l : List UInt8) (w : World) (h : Bs w w.heap.size q l) :
    Calls Tryd.prog 30 #[.slice q l.length c] w (SrcPost w q c l) := by
  have H := Lib.hid h
  clear h
  go_enter Tryd.func30, Tryd.ntmps30
  go_wp2
  go_ret
  exact ⟨rfl, ⟨0, Nat.le_refl _, ⟨by simp, by simp, fun o => World.frozen?_alloc_at _ _ _ _ rfl, H.out.keep (Nat.le_refl _) fun a ha => World.cell?_alloc_lt w _ a ha⟩, by simp⟩, (Below.refl _ _).alloc (Nat.le_refl _) _⟩

set_option maxRecDepth 100000 in
set_option maxHeartbeats 1000000 in
theorem l1Chance_any (g : Nat) (q : Option Addr) (c N : Nat) (l : List UInt8) (m : Int) (w : World) (h : Src w g q c l N) (hl : l.length ≤ 1048576) (hn : N ≤ 1000000) (h1 : 1 ≤ m) (h2 : m ≤ 60000) :
    Calls Tryd.prog 33 #[.pointer (some ⟨g, 0, none⟩), .int .i64 m] w fun e w' => ∃ v : Bool, e = .returned (.bool v) ∧ Src w' g q c l (N + 1) ∧ w.grownBy w' (some g) := by
  have H := Lib.hid (l1Next_src g q c N l m w h hl hn h1 h2)
  clear h
  go_enter Tryd.func33, Tryd.ntmps33
  go_wp2_with (go_at_call 16; refine H.out.mono ?_; rintro e w' ⟨v, rfl, hv, hs, hw⟩)
  go_ret
  exact ⟨_, rfl, hs, hw⟩

set_option maxRecDepth 100000 in
set_option maxHeartbeats 1000000 in
theorem l1Pick_any (g : Nat) (q : Option Addr) (c N : Nat) (l : List UInt8) (w : World) (h : Src w g q c l N) (hl : l.length ≤ 1048576) (hn : N ≤ 1000000)
    (b k : Nat) (X : Int → Prop) (hk : 1 ≤ k) (hk' : k ≤ 60000) (hb : b ≠ g) (hb' : b < w.heap.size) (hx : ∀ i, i < k → ∃ v : Int, w.cell? ⟨b, i, none⟩ = some (.int .i64 v) ∧ X v) :
    Calls Tryd.prog 53 #[.pointer (some ⟨g, 0, none⟩), .slice (some ⟨b, 0, none⟩) k k] w (NumPost w g q c l (N + 1) X) := by
  have H := Lib.hid (l1Next_src g q c N l k w h hl hn (by omega) (by omega))
  have HX := Lib.hid hx
  clear h hx
  go_enter Tryd.func53, Tryd.ntmps53
  go_wp2_with (go_at_call 16; refine H.out.mono ?_; rintro e w' ⟨v, rfl, ⟨hv0, hv1⟩, hs, hw⟩; obtain ⟨i, rfl⟩ := Int.eq_ofNat_of_zero_le hv0; obtain ⟨x, hc, hX⟩ := HX.out i (by omega); rw [← World.cell?_of_block (hw.block b hb' (by simpa using hb))] at hc)
  go_ret
  exact ⟨_, rfl, hX, hs, hw⟩

end Go.Proofs.YtjopjddhgaiddaaDoor

/- The draws of stage 1 that hand back a number. -/
namespace Go.Proofs.YtjopjddhgaiddaaDoor
open Go.RowKit

theorem Src.below {w w' : World} {g : Nat} {q : Option Addr} {c : Nat} {l : List UInt8} {N : Nat} (h : Src w g q c l N) (k : Below w.heap.size w w') : Src w' g q c l N := by
  obtain ⟨n, hn, h, hg⟩ := h
  exact ⟨n, hn, ⟨(k.cell hg).trans h.code, (k.cell hg).trans h.read, fun o => (World.frozen?_of_block (k.block g hg)).trans (h.free o), h.bytes.keep (Nat.le_refl _) fun a ha => k.cell (Nat.lt_trans ha hg)⟩, Nat.lt_of_lt_of_le hg k.size⟩

/-- l1Pick of a list that was laid last -/
theorem l1Pick_lit (g : Nat) (q : Option Addr) (c N : Nat) (l : List UInt8) (w : World) (h : Src w g q c l N) (hl : l.length ≤ 1048576) (hn : N ≤ 1000000)
    (xs : List Int) (k : Nat) (hk : xs.length = k) (X : Int → Prop) (hk1 : 1 ≤ k) (hk' : k ≤ 60000) (a : Array Value) (ha : a = (xs.map (Value.int .i64)).toArray) (t : TypeId) (hX : ∀ x ∈ xs, X x) :
    Calls Tryd.prog 53 #[.pointer (some ⟨g, 0, none⟩), .slice (some ⟨w.heap.size, 0, none⟩) k k] (w.alloc (.cells a t)) (NumPost w g q c l (N + 1) X) := by
  have hg := h.choose_spec.2.2
  refine (l1Pick_any g q c N l (w.alloc (.cells a t)) (h.below ((Below.refl _ _).alloc (Nat.le_refl _) _)) hl hn w.heap.size k X hk1 hk' (by omega) (by simp) ?_).mono ?_
  · intro i hi
    refine ⟨xs[i]'(by omega), ?_, hX _ (List.getElem_mem _)⟩
    subst ha
    simp [hk, hi]
  · rintro e w' ⟨v, rfl, hv, hs, hw⟩
    exact ⟨v, rfl, hv, hs, ⟨hw.os, hw.tape, hw.output, Nat.le_trans (by simp) hw.size, fun b hb hne => (hw.block b (by simp; omega) hne).trans (Below.heap_alloc _ _ _ hb)⟩⟩





end Go.Proofs.YtjopjddhgaiddaaDoor

/- The draws of stage 1 that hand back bytes: l1Some, l1Copy. -/
namespace Go.Proofs.YtjopjddhgaiddaaDoor
open Go.RowKit

theorem grownBy_on {a b c : World} {g : Nat} {row : Option Nat} (h : a.grownBy b (some g)) (k : b.grownBy c row) (hr : ∀ j, row = some j → a.heap.size ≤ j ∨ j = g) : a.grownBy c (some g) := by
  refine ⟨k.os.trans h.os, k.tape.trans h.tape, k.output.trans h.output, Nat.le_trans h.size k.size, fun i hi hne => (k.block i (Nat.lt_of_lt_of_le hi h.size) ?_).trans (h.block i hi hne)⟩
  intro e
  rcases hr i e.symm with h1 | h1
  · omega
  · exact hne (by rw [h1])

theorem Src.grown {w w' : World} {g : Nat} {q : Option Addr} {c : Nat} {l : List UInt8} {N : Nat} {row : Option Nat} (h : Src w g q c l N) (k : w.grownBy w' row) (hr : ∀ j, row = some j → g < j) : Src w' g q c l N := by
  obtain ⟨n, hn, h, hg⟩ := h
  have hb : ∀ i, i ≤ g → w'.heap[i]? = w.heap[i]? := fun i hi => k.block i (by omega) (fun e => by have := hr i e.symm; omega)
  have hb0 := hb g (Nat.le_refl _)
  exact ⟨n, hn, ⟨(World.cell?_of_block hb0).trans h.code, (World.cell?_of_block hb0).trans h.read, fun o => (World.frozen?_of_block hb0).trans (h.free o), h.bytes.keep (Nat.le_refl _) fun a ha => World.cell?_of_block (hb a.block (by omega))⟩, Nat.lt_of_lt_of_le hg k.size⟩

theorem Src.more {w : World} {g : Nat} {q : Option Addr} {c : Nat} {l : List UInt8} {N M : Nat} (h : Src w g q c l N) (hm : N ≤ M) : Src w g q c l M := by
  obtain ⟨n, hn, h, hg⟩ := h
  exact ⟨n, by omega, h, hg⟩

/-- what a draw of k bytes leaves -/
def SomePost (w : World) (g : Nat) (q : Option Addr) (c : Nat) (l : List UInt8) (N : Nat) (k : Nat) (e : Ending) (w' : World) : Prop :=
  ∃ v bs, e = .returned v ∧ bs.length = k ∧ Own w' w.heap.size v bs ∧ Src w' g q c l (N + k) ∧ w.grownBy w' (some g)

/-- .. and that it is not nil -/
def SomePlus (w : World) (g : Nat) (q : Option Addr) (c : Nat) (l : List UInt8) (N : Nat) (k : Nat) (e : Ending) (w' : World) : Prop :=
  ∃ v bs, e = .returned v ∧ bs.length = k ∧ Own w' w.heap.size v bs ∧ Src w' g q c l (N + k) ∧ w.grownBy w' (some g) ∧ v ≠ .slice none 0 0

/-- the loop's relation -/
def SomeRel (w : World) (g : Nat) (q : Option Addr) (c : Nat) (l : List UInt8) (N k : Nat) (n out : Value) (wr : World) : Prop :=
  ∃ (j : Nat) (bs : List UInt8), n = .int .i64 j ∧ bs.length + j = k ∧ Own wr w.heap.size out bs ∧ Src wr g q c l (N + bs.length) ∧ w.grownBy wr (some g) ∧ out ≠ .slice none 0 0

theorem Own.next {w2 : World} {base : Nat} {v' : Value} {bs : List UInt8} {x : Nat} (hx : x < 256) (h : w2.ownsRow base 5 1 v' (bs.length + 1) (bs.map (fun x : UInt8 => Value.int .u8 (x.toNat : Int)) ++ [.int .u8 (x : Int)])) :
    Own w2 base v' (bs ++ [UInt8.ofNat x]) := by
  have e : ((UInt8.ofNat x).toNat : Int) = (x : Int) := by simp; omega
  unfold Own
  rw [List.map_append, List.length_append]
  rw [List.map_cons, List.map_nil, e]
  exact h

theorem Own.past {w : World} {base g : Nat} {v : Value} {l : List UInt8} (h : Own w base v l) (hg : g < base) : ∀ j, v.ownBlock = some j → g < j := fun j hj => Nat.lt_of_lt_of_le hg (World.ownsRow.lt h j hj).1
theorem Own.apart {w : World} {base g : Nat} {v : Value} {l : List UInt8} (h : Own w base v l) (hg : g < base) : v.ownBlock = none ∨ v.ownBlock ≠ some g :=
  .inr fun e => Nat.lt_irrefl _ (h.past hg g e)

set_option maxRecDepth 100000 in
set_option maxHeartbeats 4000000 in
theorem l1Some_plus (g : Nat) (q : Option Addr) (c N : Nat) (l : List UInt8) (k : Nat) (w : World) (h : Src w g q c l N) (hl : l.length ≤ 1048576) (hn : N + k ≤ 1000000) :
    Calls Tryd.prog 54 #[.pointer (some ⟨g, 0, none⟩), .int .i64 k] w (SomePlus w g q c l N k) := by
  have H := Lib.hid h
  have hgw := h.choose_spec.2.2
  clear h
  obtain ⟨i0, hi, hz0, hz1, hz2⟩ := info_parts Tryd.info_u8
  have HI := Lib.hid (And.intro hi (And.intro hz0 (And.intro hz1 hz2)))
  clear hi hz0 hz1 hz2
  have HN := Lib.hid (fun (M : Nat) (wr : World) (hM : M ≤ 1000000) (h : Src wr g q c l M) => l1Next_src g q c M l 256 wr h hl hM (by omega) (by omega))
  go_enter Tryd.func54, Tryd.ntmps54
  go_wp2
  go_loopw [1, 5] (fun n out wr => SomeRel w g q c l N k n out wr) (fun n _ _ => (intOf n).toNat)
  case atStart => exact ⟨k, [], rfl, by simp, own_lit w [] _ _ _ rfl rfl rfl (by simp), H.out.grown (World.grownBy_alloc w _ none) (by simp), World.grownBy_alloc w _ _, by simp⟩
  case round =>
    obtain ⟨j, bs, rfl, hj, ho, hs, hw, hnn⟩ := hrel
    have HNN := Lib.hid hnn
    clear hnn
    have HO := Lib.hid ho
    have HS := Lib.hid hs
    clear ho hs
    by_cases hlt : 0 < j
    · go_wp2_with (first | (go_at_call 16; refine (HN.out _ _ (by omega) HS.out).mono ?_; rintro e w1 ⟨v, rfl, ⟨hv0, hv1⟩, hs1, hw1⟩; obtain ⟨i, rfl⟩ := Int.eq_ofNat_of_zero_le hv0; have HS1 := Lib.hid hs1; clear hs1; have HR := Lib.hid (World.ownsRow.kept HO.out hw1 (HO.out.apart hgw))) | (at_builtin; refine wpList_append_own _ rfl _ _ 22 rfl w.heap.size 5 i0 (.int .u8 0) 1 1 Tryd.underlying22 HI.out.1 HI.out.2.1 HI.out.2.2.1 HI.out.2.2.2 rfl (by decide) _ _ _ rfl (HR.out.alloc _) ⟨w1.heap.size, 0, none⟩ 1 1 [.int .u8 (i : Int)] rfl rfl ?c1 ?c2 ?c3 ?c4 ?c5 ?_))
      case c1 =>
        intro j u hj
        match j, hj with
          | 0, hj => simp at hj; subst hj; simp [Addr.add]
          | (j + 1), hj => simp at hj
      case c2 => intro u hu; simp at hu; subst hu; rfl
      case c3 => unfold maxLen; omega
      case c4 => omega
      case c5 => have := hw.size; have := hw1.size; simp; omega
      intro v' w2 hown' hgrow hnil
      have HN' := Lib.hid hnil
      clear hnil
      have HF := Lib.hid (Own.next (by omega) hown')
      have HG := Lib.hid hgrow
      clear hown' hgrow
      go_wp2
      refine ⟨⟨j - 1, bs ++ [UInt8.ofNat i], by go_num, by simp; omega, HF.out, (HS1.out.grown (World.grownBy_alloc _ _ none) (by simp)).grown HG.out (HO.out.past hgw) |>.more (by simp; omega), grownBy_on (grownBy_on (grownBy_on hw hw1 (by simp)) (World.grownBy_alloc _ _ none) (by simp)) HG.out (fun j hj => .inl (World.ownsRow.lt HO.out j hj).1), fun e => HN'.out e⟩, by simp [intOf]; omega⟩
    · go_wp2
      have : j = 0 := by omega
      subst this
      go_ret
      exact ⟨_, bs, rfl, by omega, HO.out, HS.out.more (by omega), hw, HNN.out⟩

theorem l1Some_any (g : Nat) (q : Option Addr) (c N : Nat) (l : List UInt8) (k : Nat) (w : World) (h : Src w g q c l N) (hl : l.length ≤ 1048576) (hn : N + k ≤ 1000000) :
    Calls Tryd.prog 54 #[.pointer (some ⟨g, 0, none⟩), .int .i64 k] w (SomePost w g q c l N k) :=
  (l1Some_plus g q c N l k w h hl hn).mono fun _ _ ⟨v, bs, he, hk, ho, hs, hw, _⟩ => ⟨v, bs, he, hk, ho, hs, hw⟩

end Go.Proofs.YtjopjddhgaiddaaDoor

/- l1Copy, l1Event, DrawSameBytes. -/
namespace Go.Proofs.YtjopjddhgaiddaaDoor
open Go.RowKit

set_option maxRecDepth 100000 in
set_option maxHeartbeats 2000000 in
theorem l1Copy_nil (q : Option Addr) (c : Nat) (w : World) :
    Calls Tryd.prog 26 #[.slice q 0 c] w (NewOwn w []) := by
  have HO := Lib.hid (own_lit w [] #[] w.heap.size 0 rfl rfl rfl (by simp))
  cases q
  all_goals
    go_enter Tryd.func26, Tryd.ntmps26
    go_wp2
    go_ret
    exact ⟨_, rfl, HO.out, (Below.refl _ _).alloc (Nat.le_refl _) _⟩

set_option maxRecDepth 100000 in
set_option maxHeartbeats 2000000 in
theorem l1Copy_some (b off c : Nat) (l : List UInt8) (w : World) (hb : b < w.heap.size) (hl : l.length ≤ 1048576) (hc : ∀ i, i < l.length → w.cell? ⟨b, off + i, none⟩ = some (.int .u8 ((l.getD i 0).toNat : Int))) :
    Calls Tryd.prog 26 #[.slice (some ⟨b, off, none⟩) l.length c] w (NewOwn w l) := by
  have HO := Lib.hid (own_lit w [] #[] w.heap.size 0 rfl rfl rfl (by simp))
  have HC := Lib.hid hc
  clear hc
  obtain ⟨i0, hi, hz0, hz1, hz2⟩ := info_parts Tryd.info_u8
  have HI := Lib.hid (And.intro hi (And.intro hz0 (And.intro hz1 hz2)))
  clear hi hz0 hz1 hz2
  go_enter Tryd.func26, Tryd.ntmps26
  go_wp2_with (at_builtin; refine wpList_append_own _ rfl _ _ 22 rfl w.heap.size 5 i0 (.int .u8 0) 1 1 Tryd.underlying22 HI.out.1 HI.out.2.1 HI.out.2.2.1 HI.out.2.2.2 rfl (by decide) _ _ _ rfl HO.out ⟨b, off, none⟩ l.length c (l.map fun x : UInt8 => Value.int .u8 (x.toNat : Int)) rfl (by simp) ?c1 ?c2 ?c3 ?c4 ?c5 ?_)
  case c1 =>
    intro j u hj
    have hlt : j < l.length := by
      rcases Nat.lt_or_ge j l.length with h | h
      · exact h
      · rw [List.getElem?_eq_none (by simpa using h)] at hj; cases hj
    have ea : (⟨b, off, none⟩ : Addr).add j = ⟨b, off + j, none⟩ := by simp [Addr.add]
    rw [ea]
    refine (World.cell?_alloc_lt w _ _ hb).trans ((HC.out j hlt).trans ?_)
    simp [hlt] at hj ⊢
    exact hj
  case c2 => intro u hu; simp at hu; obtain ⟨x, _, rfl⟩ := hu; rfl
  case c3 => simp [maxLen]; omega
  case c4 => simp; omega
  case c5 => simp
  intro v' w2 hown' hgrow _
  have HF := Lib.hid hown'
  have HG := Lib.hid hgrow
  clear hown' hgrow
  go_wp2
  go_ret
  exact ⟨_, rfl, by simpa [Own] using HF.out, ((Below.refl _ _).alloc (Nat.le_refl _) _).grown HG.out (by simp) (fun k hk => (HO.out.lt k hk).1)⟩

theorem l1Copy_any (q : Option Addr) (c : Nat) (l : List UInt8) (w : World) (h : Bs w w.heap.size q l) (hl : l.length ≤ 1048576) :
    Calls Tryd.prog 26 #[.slice q l.length c] w (NewOwn w l) := by
  by_cases hl0 : l = []
  · subst hl0
    exact l1Copy_nil q c w
  · obtain ⟨b, off, rfl, hb, hc⟩ := h hl0
    exact l1Copy_some b off c l w hb hl hc

end Go.Proofs.YtjopjddhgaiddaaDoor

/- DrawSameBytes. -/
namespace Go.Proofs.YtjopjddhgaiddaaDoor
open Go.RowKit

/-- what a draw of two slices of bytes leaves -/
def TwoBytes (w : World) (e : Ending) (w' : World) : Prop :=
  ∃ p c a q d b, e = .returned (.tuple #[.slice p (List.length a) c, .slice q (List.length b) d]) ∧ a.length ≤ 9 ∧ b.length = a.length ∧ Bs w' w'.heap.size p a ∧ Bs w' w'.heap.size q b ∧ Below w.heap.size w w'

/-- an owned slice that is not nil: where it lies -/
theorem Own.at {w : World} {base : Nat} {v : Value} {l : List UInt8} (h : Own w base v l) (h0 : l ≠ []) :
    ∃ g cap, v = .slice (some ⟨g, 0, none⟩) l.length cap ∧ base ≤ g ∧ g < w.heap.size ∧ (∀ i, i < l.length → w.cell? ⟨g, i, none⟩ = some (.int .u8 ((l.getD i 0).toNat : Int))) ∧ ∀ o, w.frozen? ⟨g, o, none⟩ = false := by
  rcases h.form with ⟨_, e⟩ | ⟨g, cap, e, hb, hlt, _⟩
  · exact absurd e h0
  · refine ⟨g, cap, e, hb, hlt, ?_, ?_⟩
    · subst e
      obtain ⟨b, off, e, _, hc⟩ := h.bs.2 h0
      simp at e
      obtain ⟨rfl, rfl⟩ := e
      intro i hi
      simpa using hc i hi
    · intro o
      rcases h.2 with ⟨e', _⟩ | ⟨g', cap', cur, e', _, hh, _⟩
      · rw [e] at e'; simp at e'
      · rw [e] at e'
        simp at e'
        obtain ⟨rfl, -⟩ := e'
        simp [World.frozen?, hh]

theorem xor_byte (x : UInt8) : bits .xor .u8 (x.toNat : Int) 1 = ((UInt8.ofNat (x.toNat ^^^ 1)).toNat : Int) := by
  have h := x.toNat_lt
  have h2 : x.toNat ^^^ 1 < 256 := Nat.xor_lt_two_pow (n := 8) h (by decide)
  have e := u8_xor_nat x.toNat 1 h (by decide)
  rw [UInt8.toNat_ofNat', Nat.mod_eq_of_lt h2]
  exact e

/-- a byte of the slice is set -/
theorem Bs.set {w : World} {g i : Nat} {x : UInt8} {l : List UInt8} (hi : i < l.length) (hlt : g < w.heap.size) (hc : ∀ i, i < l.length → w.cell? ⟨g, i, none⟩ = some (.int .u8 ((l.getD i 0).toNat : Int))) :
    Bs (w.setCell ⟨g, i, none⟩ (.int .u8 (x.toNat : Int))) (w.setCell ⟨g, i, none⟩ (.int .u8 (x.toNat : Int))).heap.size (some ⟨g, 0, none⟩) (l.set i x) := by
  intro _
  refine ⟨g, 0, rfl, by simp [hlt], fun j hj => ?_⟩
  rw [List.length_set] at hj
  rw [Nat.zero_add]
  by_cases e : i = j
  · subst e
    rw [World.cell?_setCell_same _ _ _ (hc i hi)]
    simp [hi]
  · rw [World.cell?_setCell_other _ _ _ _ (by simp), hc j hj]
    simp [e]



end Go.Proofs.YtjopjddhgaiddaaDoor

/- l1Draw: an event drawn. -/
namespace Go.Proofs.YtjopjddhgaiddaaDoor
open Go.RowKit

/-- what is known behind a draw that writes to the source and to blocks of its own: the source, a slice of its own, the rest kept -/
structure DE (w : World) (g : Nat) (q : Option Addr) (c : Nat) (l : List UInt8) (N : Nat) (v : Value) (bs : List UInt8) (W : World) : Prop where
  src : Src W g q c l N
  own : Own W (w.heap.size + 1) v bs
  kept : w.grownBy W (some g)
  lt : g < w.heap.size

theorem DE.set {w : World} {g : Nat} {q : Option Addr} {c : Nat} {l : List UInt8} {N : Nat} {v : Value} {bs : List UInt8} {W : World} (h : DE w g q c l N v bs W) (o : Nat) (u : Value) :
    DE w g q c l N v bs (W.setCell ⟨w.heap.size, o, none⟩ u) := by
  have hg : W.grownBy (W.setCell ⟨w.heap.size, o, none⟩ u) (some w.heap.size) := ⟨rfl, rfl, rfl, by simp, fun b _ hb => Below.heap_setCell _ _ _ _ (fun e => hb (by rw [e]))⟩
  exact ⟨h.src.grown hg (fun j hj => by cases hj; exact h.lt), h.own.setBelow (Nat.lt_succ_self _) _, grownBy_on h.kept hg (fun j hj => by cases hj; exact .inl (Nat.le_refl _)), h.lt⟩

/-- what a draw of an event leaves -/
def EvPost (w : World) (g : Nat) (q : Option Addr) (c : Nat) (l : List UInt8) (N : Nat) (e : Ending) (w' : World) : Prop :=
  ∃ (ev : Ev) (p : Option Addr) (cp : Nat), e = .returned (evV ev p cp) ∧ ev.data.length ≤ 40 ∧ 0 ≤ ev.mods ∧ ev.mods ≤ 7 ∧ DE w g q c l N (.slice p ev.data.length cp) ev.data w'

theorem kept_cells {w W : World} {g r : Nat} (h : w.grownBy W (some g)) (hr : r < w.heap.size) (hne : r ≠ g) : (∀ o, W.cell? ⟨r, o, none⟩ = w.cell? ⟨r, o, none⟩) ∧ ∀ o, W.frozen? ⟨r, o, none⟩ = w.frozen? ⟨r, o, none⟩ :=
  have hb := h.block r hr (by simpa using hne)
  ⟨fun o => World.cell?_of_block (a := ⟨r, o, none⟩) hb, fun o => World.frozen?_of_block (a := ⟨r, o, none⟩) hb⟩

theorem DE.set8 {w : World} {g : Nat} {q : Option Addr} {c : Nat} {l : List UInt8} {N : Nat} {v : Value} {bs : List UInt8} {W : World} (h : DE w g q c l N v bs W) (u0 u1 u2 u3 u4 u5 u6 u7 : Value) :
    DE w g q c l N v bs ((((((((W.setCell ⟨w.heap.size, 0, none⟩ u0).setCell ⟨w.heap.size, 1, none⟩ u1).setCell ⟨w.heap.size, 2, none⟩ u2).setCell ⟨w.heap.size, 3, none⟩ u3).setCell ⟨w.heap.size, 4, none⟩ u4).setCell ⟨w.heap.size, 5, none⟩ u5).setCell ⟨w.heap.size, 6, none⟩ u6).setCell ⟨w.heap.size, 7, none⟩ u7) :=
  (((((((h.set 0 u0).set 1 u1).set 2 u2).set 3 u3).set 4 u4).set 5 u5).set 6 u6).set 7 u7

theorem DE.of {w : World} {g : Nat} {q : Option Addr} {c : Nat} {l : List UInt8} {N M : Nat} {v : Value} {bs : List UInt8} {W : World} {o : Obj} (hg : (w.alloc o).grownBy W (some g)) (hs : Src W g q c l M) (hM : M ≤ N) (ho : Own W (w.heap.size + 1) v bs) (hgw : g < w.heap.size) : DE w g q c l N v bs W :=
  ⟨hs.more hM, ho, grownBy_on (World.grownBy_alloc w o (some g)) hg (fun j hj => .inr (by cases hj; rfl)), hgw⟩

theorem alloc_size {w W : World} {o : Obj} {row : Option Nat} (h : (w.alloc o).grownBy W row) : w.heap.size + 1 ≤ W.heap.size := by
  have := h.size
  simpa using this

set_option maxRecDepth 100000 in
set_option maxHeartbeats 4000000 in
theorem l1Draw_any (g : Nat) (q : Option Addr) (c N : Nat) (l : List UInt8) (w : World) (h : Src w g q c l N) (hl : l.length ≤ 1048576) (hn : N ≤ 900000) :
    Calls Tryd.prog 32 #[.pointer (some ⟨g, 0, none⟩)] w (EvPost w g q c l (N + 40)) := by
  have H := Lib.hid (fun o => h.grown (World.grownBy_alloc w o none) (by simp))
  have hgw := h.choose_spec.2.2
  have HL := Lib.hid hl
  clear h hl
  go_enter Tryd.func32, Tryd.ntmps32
  go_wp2_with fail
  refine (l1Next_src _ q c N l 6 _ (H.out _) HL.out (by omega) (by omega) (by omega)).mono ?_
  rintro e w1 ⟨v, rfl, ⟨hv0, hv1⟩, hs1, hg1⟩
  obtain ⟨i, rfl⟩ := Int.eq_ofNat_of_zero_le hv0
  have HS1 := Lib.hid hs1
  clear hs1
  have hi : i = 0 ∨ i = 1 ∨ i = 2 ∨ i = 3 ∨ 4 ≤ i := by omega
  rcases hi with rfl | rfl | rfl | rfl | hi
  · clear hv0 hv1
    go_wp2_with fail
    refine (l1Next_src _ q c _ l 3 _ HS1.out HL.out (by omega) (by omega) (by omega)).mono ?_
    rintro e w2 ⟨v2, rfl, ⟨ha0, ha1⟩, hs2, hg2⟩
    have HS2 := Lib.hid hs2
    clear hs2
    go_wp2_with fail
    refine (l1Next_src _ q c _ l 3 _ HS2.out HL.out (by omega) (by omega) (by omega)).mono ?_
    rintro e w3 ⟨v3, rfl, ⟨hb0, hb1⟩, hs3, hg3⟩
    have HS3 := Lib.hid hs3
    clear hs3
    go_wp2_with fail
    refine (l1Pick_lit _ q c _ l _ HS3.out HL.out (by omega) [0, 0, 1, 2, 4, 7] 6 rfl (fun v => 0 ≤ v ∧ v ≤ 7) (by omega) (by omega) _ rfl _ (by simp)).mono ?_
    rintro e w4 ⟨v4, rfl, ⟨hc0, hc1⟩, hs4, hg4⟩
    have HS4 := Lib.hid hs4
    clear hs4
    go_wp2_with fail
    refine (l1Pick_lit _ q c _ l _ HS4.out HL.out (by omega) [0, 1, 5, 9, 79, 199] 6 rfl (fun v => 0 ≤ v ∧ v ≤ 199) (by omega) (by omega) _ rfl _ (by simp)).mono ?_
    rintro e w5 ⟨v5, rfl, ⟨hd0, hd1⟩, hs5, hg5⟩
    have HS5 := Lib.hid hs5
    clear hs5
    go_wp2_with fail
    refine (l1Pick_lit _ q c _ l _ HS5.out HL.out (by omega) [0, 1, 3, 9, 23, 199] 6 rfl (fun v => 0 ≤ v ∧ v ≤ 199) (by omega) (by omega) _ rfl _ (by simp)).mono ?_
    rintro e w6 ⟨v6, rfl, ⟨he0, he1⟩, hs6, hg6⟩
    have hgk := grown_trans (grown_trans (grown_trans (grown_trans (grown_trans hg1 hg2) hg3) hg4) hg5) hg6
    have HE := Lib.hid (DE.of hgk hs6 (N := N + 40) (by omega) (own_nil _ _) hgw)
    obtain ⟨hc, hf⟩ := kept_cells hgk (r := w.heap.size) (by simp) (by omega)
    clear hs6
    go_wp2
    exact bodyPost_ret (v := evV ⟨2, 0, v4, v2, 1 + v3, v5, v6, []⟩ none 0) (by simp [results, Tryd.results32, evV, go_sem, hc]) rfl ⟨_, _, _, rfl, by simp, hc0, hc1, HE.out.set8 _ _ _ _ _ _ _ _⟩
  · clear hv0 hv1
    go_wp2_with fail
    refine (l1Pick_lit _ q c _ l _ HS1.out HL.out (by omega) [1, 3, 31, 32] 4 rfl (fun v => 0 ≤ v ∧ v ≤ 32) (by omega) (by omega) _ rfl _ (by simp)).mono ?_
    rintro e w2 ⟨v, rfl, ⟨hv0, hv1⟩, hs2, hg2⟩
    obtain ⟨k, rfl⟩ := Int.eq_ofNat_of_zero_le hv0
    have HS2 := Lib.hid hs2
    clear hs2
    go_wp2_with fail
    refine (l1Some_any _ q c _ l k _ HS2.out HL.out (by omega)).mono ?_
    rintro e w3 ⟨va, a, rfl, hk, ho3, hs3, hg3⟩
    subst hk
    obtain ⟨pa, ca, rfl⟩ := ho3.slice
    have hgk := grown_trans (grown_trans hg1 hg2) hg3
    have HE := Lib.hid (DE.of hgk hs3 (N := N + 40) (by omega) (ho3.lower (alloc_size (grown_trans hg1 hg2))) hgw)
    obtain ⟨hc, hf⟩ := kept_cells hgk (r := w.heap.size) (by simp) (by omega)
    clear hs3 ho3
    go_wp2
    exact bodyPost_ret (v := evV ⟨3, 0, 0, 0, 0, 0, 0, a⟩ pa ca) (by simp [results, Tryd.results32, evV, go_sem, hc]) rfl ⟨_, _, _, rfl, (by show a.length ≤ 40; omega), Int.le_refl _, (by show (0 : Int) ≤ 7; decide), HE.out.set8 _ _ _ _ _ _ _ _⟩
  · clear hv0 hv1
    go_wp2_with fail
    refine (l1Pick_lit _ q c _ l _ HS1.out HL.out (by omega) [1, 3, 24] 3 rfl (fun v => 0 ≤ v ∧ v ≤ 24) (by omega) (by omega) _ rfl _ (by simp)).mono ?_
    rintro e w2 ⟨v, rfl, ⟨hv0, hv1⟩, hs2, hg2⟩
    obtain ⟨k, rfl⟩ := Int.eq_ofNat_of_zero_le hv0
    have HS2 := Lib.hid hs2
    clear hs2
    go_wp2_with fail
    refine (l1Some_any _ q c _ l k _ HS2.out HL.out (by omega)).mono ?_
    rintro e w3 ⟨va, a, rfl, hk, ho3, hs3, hg3⟩
    subst hk
    obtain ⟨pa, ca, rfl⟩ := ho3.slice
    have hgk := grown_trans (grown_trans hg1 hg2) hg3
    have HE := Lib.hid (DE.of hgk hs3 (N := N + 40) (by omega) (ho3.lower (alloc_size (grown_trans hg1 hg2))) hgw)
    obtain ⟨hc, hf⟩ := kept_cells hgk (r := w.heap.size) (by simp) (by omega)
    clear hs3 ho3
    go_wp2
    exact bodyPost_ret (v := evV ⟨4, 0, 0, 0, 0, 0, 0, a⟩ pa ca) (by simp [results, Tryd.results32, evV, go_sem, hc]) rfl ⟨_, _, _, rfl, (by show a.length ≤ 40; omega), Int.le_refl _, (by show (0 : Int) ≤ 7; decide), HE.out.set8 _ _ _ _ _ _ _ _⟩
  · clear hv0 hv1
    go_wp2_with fail
    refine (l1Next_src _ q c _ l 14 _ HS1.out HL.out (by omega) (by omega) (by omega)).mono ?_
    rintro e w2 ⟨v2, rfl, ⟨ha0, ha1⟩, hs2, hg2⟩
    have HS2 := Lib.hid hs2
    clear hs2
    go_wp2_with fail
    refine (l1Pick_lit _ q c _ l _ HS2.out HL.out (by omega) [0, 0, 1, 2, 4, 7] 6 rfl (fun v => 0 ≤ v ∧ v ≤ 7) (by omega) (by omega) _ rfl _ (by simp)).mono ?_
    rintro e w3 ⟨v3, rfl, ⟨hb0, hb1⟩, hs3, hg3⟩
    have hgk := grown_trans (grown_trans hg1 hg2) hg3
    have HE := Lib.hid (DE.of hgk hs3 (N := N + 40) (by omega) (own_nil _ _) hgw)
    obtain ⟨hc, hf⟩ := kept_cells hgk (r := w.heap.size) (by simp) (by omega)
    clear hs3
    go_wp2
    exact bodyPost_ret (v := evV ⟨1, 2000001 + v2, v3, 0, 0, 0, 0, []⟩ none 0) (by simp [results, Tryd.results32, evV, go_sem, hc]) rfl ⟨_, _, _, rfl, by simp, hb0, hb1, HE.out.set8 _ _ _ _ _ _ _ _⟩
  · go_wp2_with fail
    refine (l1Pick_lit _ q c _ l _ HS1.out HL.out (by omega) [97, 98, 120, 90, 32, 91, 79, 233, 8364, 128512] 10 rfl (fun v => 32 ≤ v ∧ v ≤ 128512) (by omega) (by omega) _ rfl _ (by simp)).mono ?_
    rintro e w2 ⟨v2, rfl, ⟨ha0, ha1⟩, hs2, hg2⟩
    have HS2 := Lib.hid hs2
    clear hs2
    go_wp2_with fail
    refine (l1Pick_lit _ q c _ l _ HS2.out HL.out (by omega) [0, 0, 0, 2, 4, 6] 6 rfl (fun v => 0 ≤ v ∧ v ≤ 7) (by omega) (by omega) _ rfl _ (by simp)).mono ?_
    rintro e w3 ⟨v3, rfl, ⟨hb0, hb1⟩, hs3, hg3⟩
    have hgk := grown_trans (grown_trans hg1 hg2) hg3
    have HE := Lib.hid (DE.of hgk hs3 (N := N + 40) (by omega) (own_nil _ _) hgw)
    obtain ⟨hc, hf⟩ := kept_cells hgk (r := w.heap.size) (by simp) (by omega)
    clear hs3
    go_wp2
    exact bodyPost_ret (v := evV ⟨1, v2, v3, 0, 0, 0, 0, []⟩ none 0) (by simp [results, Tryd.results32, evV, go_sem, hc]) rfl ⟨_, _, _, rfl, by simp, hb0, hb1, HE.out.set8 _ _ _ _ _ _ _ _⟩

end Go.Proofs.YtjopjddhgaiddaaDoor
