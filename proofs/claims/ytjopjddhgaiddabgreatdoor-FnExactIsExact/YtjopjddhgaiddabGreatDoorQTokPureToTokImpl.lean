/- The first token as plain data. -/
import Derived.Test.YtjopjddhgaiddabGreatDoorQCut0ToRaw
import Derived.Test.YtjopjddhgaiddabGreatDoorQMouseToMouse2
import Derived.Test.YtjopjddhgaiddabGreatDoorQPaste3ToPaste5
import Derived.Test.YtjopjddhgaiddabGreatDoorQFirstPureToFirstBack
namespace Go.Proofs.YtjopjddhgaiddabGreatDoor
open Go.RowKit
set_option linter.unusedVariables false

theorem ptAt_kinds (l : List UInt8) (s : Nat) (hs : s ≤ l.length) : ptAt l s = ⟨6, false, [], 0, 0⟩ ∨ (¬ (ptAt l s).code = 6 ∧ ∃ k : Nat, (ptAt l s).size = (k : Int) ∧ 1 ≤ k ∧ k ≤ l.length) := by
  have hb := bsz_drop l s hs
  unfold ptAt
  split
  · exact .inl rfl
  split
  · exact .inr ⟨by simp, s + bsz (l.drop s) + 1, by simp, by omega, by omega⟩
  split
  · exact .inr ⟨by simp, s + bsz (l.drop s) + 1, by simp, by omega, by omega⟩
  · exact .inr ⟨by simp, s + bsz (l.drop s) + 1, by simp, by omega, by omega⟩
theorem ptAt_form (l : List UInt8) (s : Nat) : (ptAt l s).code = 0 ∨ ((ptAt l s).nums = [] ∧ (ptAt l s).fin = 0) := by
  unfold ptAt
  split
  · exact .inr ⟨rfl, rfl⟩
  split
  · exact .inr ⟨rfl, rfl⟩
  split
  · exact .inr ⟨rfl, rfl⟩
  · exact .inl rfl
theorem ptAt_nums (l : List UInt8) (s : Nat) : ∀ x ∈ (ptAt l s).nums, 0 ≤ x ∧ x ≤ 9999999 := by
  unfold ptAt
  split
  · simp
  split
  · simp
  split
  · simp
  · intro x hx
    simp only [numsOf, List.mem_map] at hx
    obtain ⟨y, _, rfl⟩ := hx
    exact numRes_range y
theorem ptOf_kinds (l : List UInt8) : ptOf l = ⟨6, false, [], 0, 0⟩ ∨ (¬ (ptOf l).code = 6 ∧ ∃ k : Nat, (ptOf l).size = (k : Int) ∧ 1 ≤ k ∧ k ≤ l.length) := by
  unfold ptOf
  split
  · rename_i h
    refine ptAt_kinds l 1 ?_
    cases l with
    | nil => simp at h
    | cons _ _ => simp
  · exact ptAt_kinds l 0 (by omega)
theorem ptOf_form (l : List UInt8) : (ptOf l).code = 0 ∨ ((ptOf l).nums = [] ∧ (ptOf l).fin = 0) := by
  unfold ptOf
  split <;> exact ptAt_form _ _
theorem ptOf_nums (l : List UInt8) : ∀ x ∈ (ptOf l).nums, 0 ≤ x ∧ x ≤ 9999999 := by
  unfold ptOf
  split <;> exact ptAt_nums _ _

/-- parts, two bytes longer -/
def grow2 (r : Pt) : Pt := ⟨r.code, r.priv, r.nums, r.fin, r.size + 2⟩
/-- they start a paste -/
def startsP (r : Pt) : Bool := (r.code == 0) && ((r.priv == false) && ((r.fin == 126) && (r.nums == [200])))
def pasteOn (n : Int) : Tk := ⟨0, noEv, n, true, true⟩
/-- the token of a sequence whose parts are r (both bytes counted), out of the window d -/
def seqOf (r : Pt) (d : List UInt8) : Tk :=
  if startsP r = true then pasteOn r.size
  else if (keyP r).code = 0 then keyP r
  else if (mouseP r).code = 0 then mouseP r
  else rawTk (d.take r.size.toNat)
def seqTok (l : List UInt8) : Tk :=
  if (ptOf ((l.take 24).drop 2)).code = 6 then (if l.length < 24 then badTk 6 else rawTk (l.take 24))
  else seqOf (grow2 (ptOf ((l.take 24).drop 2))) (l.take 24)
def letTok (l : List UInt8) : Tk :=
  if l.length < 3 then badTk 6 else if letterK ((l.getD 2 0).toNat : Int) = 0 then rawTk (l.take 3) else keyTk (letterK ((l.getD 2 0).toNat : Int)) 0 3
def escTok (l : List UInt8) : Tk :=
  if l.length < 2 then badTk 6
  else if ((l.getD 1 0).toNat : Int) = 91 then seqTok l
  else if ((l.getD 1 0).toNat : Int) = 79 then letTok l
  else if inR ((l.getD 1 0).toNat : Int) 32 126 = true then keyTk ((l.getD 1 0).toNat : Int) 2 2
  else keyTk 2000004 0 1
def ptTok (l : List UInt8) : Tk :=
  if (implFP l).1 = 6 then badTk 6 else if (implFP l).1 ≠ 0 ∨ (implFP l).2.1 < 160 then rawTk (l.take 1) else keyTk (implFP l).2.1 0 (implFP l).2.2
def outTok (l : List UInt8) : Tk :=
  if ((l.getD 0 0).toNat : Int) = 27 then escTok l
  else if 128 ≤ ((l.getD 0 0).toNat : Int) then ptTok l
  else if (keyB ((l.getD 0 0).toNat : Int)).code = 0 then keyB ((l.getD 0 0).toNat : Int) else rawTk (l.take 1)
def firstTok (l : List UInt8) : Tk := if l = [] then badTk 4 else outTok l

/-- what a call leaves that hands back a Token, or waits -/
def TokOut (w : World) (t : Tk) (e : Ending) (w' : World) : Prop := (t.code = 0 ∧ NewTok w t.ev t.size t.paste t.none e w') ∨ (t.code = 6 ∧ Waits w e w')

theorem seqOf_code (r : Pt) (d : List UInt8) : (seqOf r d).code = 0 := by
  unfold seqOf
  split
  · rfl
  split
  · assumption
  split
  · assumption
  · rfl

end Go.Proofs.YtjopjddhgaiddabGreatDoor

/- The program's tokens: neededByte, letterToken. -/
namespace Go.Proofs.YtjopjddhgaiddabGreatDoor
open Go.RowKit
set_option linter.unusedVariables false

theorem Bs.at {w : World} {B : Nat} {p : Option Addr} {l : List UInt8} (h : Bs w B p l) (i : Nat) (hi : i < l.length) : ∃ b off, p = some ⟨b, off, none⟩ ∧ b < B ∧ w.cell? ⟨b, off + i, none⟩ = some (.int .u8 ((l.getD i 0).toNat : Int)) := by
  obtain ⟨b, off, hp, hb, hc⟩ := h (by intro e; rw [e] at hi; simp at hi)
  exact ⟨b, off, hp, hb, by simpa using hc i hi⟩

theorem NewTok.more {w w' : World} {e : Ev} {s : Int} {pa no : Bool} {en : Ending} (h : NewTok w e s pa no en w') (A : Obj) : NewTok w e s pa no en (w'.alloc A) := by
  obtain ⟨v, he, ho, hb⟩ := h
  exact ⟨v, he, ho.on (below_mk _ _), below_on hb (below_mk _ _)⟩
theorem below_past {W w1 w2 : World} {o : Obj} (h : Below W.heap.size W w1) (k : Below (w1.alloc o).heap.size (w1.alloc o) w2) : Below W.heap.size W w2 := below_on (below_on h (below_mk _ o)) k
theorem past_le {W w1 : World} (h : Below W.heap.size W w1) (o : Obj) : W.heap.size ≤ (w1.alloc o).heap.size := (below_on h (below_mk _ o)).size
theorem new_lt {w w1 : World} {o : Obj} (h : Below (w.alloc o).heap.size (w.alloc o) w1) : w.heap.size < w1.heap.size := by
  have := h.size
  simp only [World.size_alloc] at this
  omega

set_option maxRecDepth 100000 in
set_option maxHeartbeats 2000000 in
theorem neededByte_ok (b off n c i : Nat) (x : Int) (w : World) (hi : i < n) (hn : n ≤ 1048576) (hc : w.cell? ⟨b, off + i, none⟩ = some (.int .u8 x)) :
    Calls Tryz.prog 135 #[.slice (some ⟨b, off, none⟩) n c, .int .i64 i] w fun e w' => e = .returned (.int .u8 x) ∧ w = w' := by
  have hx : ¬ ((n : Int) ≤ (i : Int)) := by omega
  go_enter Tryz.func135, Tryz.ntmps135
  go_wp2
  go_ret
  exact ⟨rfl, rfl⟩

set_option maxRecDepth 100000 in
set_option maxHeartbeats 2000000 in
theorem neededByte_wait (p : Option Addr) (n c i : Nat) (w : World) (hi : n ≤ i) (hn : i ≤ 1048576) :
    Calls Tryz.prog 135 #[.slice p n c, .int .i64 i] w (Waits w) := by
  have hx : ((n : Int) ≤ (i : Int)) := by omega
  go_enter Tryz.func135, Tryz.ntmps135
  go_wp2
  exact ⟨rfl, rfl, Below.refl _ _⟩

theorem keyP_let (f s : Int) : keyP ⟨0, false, [], f, s⟩ = if letterK f = 0 then badTk 5 else keyTk (letterK f) 0 s := by
  unfold keyP
  dsimp only
  by_cases hf : f = 126 ∨ f = 117
  · have h0 : letterK f = 0 := by rcases hf with rfl | rfl <;> rfl
    rw [partsT_e hf, if_neg (by simp), if_pos h0]
  · rw [partsT_l _ hf]
    by_cases ht : letterK f = 0
    · rw [if_neg (by simp [ht]), if_pos ht]
    · rw [if_pos (by simp [modsT, ht, lettersOK]), if_neg ht]
      rfl

set_option maxRecDepth 100000 in
set_option maxHeartbeats 2000000 in
theorem letterToken_wait (p : Option Addr) (n c : Nat) (w : World) (hn : n ≤ 2) :
    Calls Tryz.prog 137 #[.slice p n c] w (Waits w) := by
  have HN := Lib.hid (fun w => neededByte_wait p n c 2 w hn (by omega))
  go_enter Tryz.func137, Tryz.ntmps137
  go_wp2_with fail
  refine (HN.out _).mono ?_
  rintro e w1 ⟨rfl, hb⟩
  go_wp2_with fail
  exact ⟨rfl, rfl, below_on (below_mk _ _) hb⟩

set_option maxRecDepth 100000 in
set_option maxHeartbeats 4000000 in
theorem letterToken_key (b off n c : Nat) (k : Int) (x : Int) (w : World) (hi : 2 < n) (hn : n ≤ 1048576) (hb : b < w.heap.size) (hc : w.cell? ⟨b, off + 2, none⟩ = some (.int .u8 x)) (hk : k = letterK x) (h0 : ¬ letterK x = 0) :
    Calls Tryz.prog 137 #[.slice (some ⟨b, off, none⟩) n c] w (NewTok w (keyEv k 0) 3 false false) := by
  have HN := Lib.hid (fun (w : World) hc => neededByte_ok b off n c 2 x w hi hn hc)
  have HK := Lib.hid (fun (w : World) => implKeyOfParts_any ⟨0, false, [], x, 3⟩ none 0 w (by intro h; simp at h) (by simp))
  rw [keyP_let, if_neg h0, ← hk] at HK
  unfold ptV at HK
  have f1 := fld_code
  have f2 := fld_token
  clear hk h0
  go_enter Tryz.func137, Tryz.ntmps137
  go_wp2_with fail
  refine (HN.out _ ?_).mono ?_
  · simp [go_sem, hc, hb]
  rintro e w1 ⟨rfl, rfl⟩
  go_wp2_with fail
  refine (HK.out _).mono ?_
  rintro e w1 ⟨rfl, hb1⟩
  obtain ⟨hcc, hf⟩ := bcell hb1
  have HE : ∀ A, Hid (NewTok w (keyEv k 0) 3 false false (.returned (tokV (keyEv k 0) (.slice none 0 0) 3 false false)) ((sets w1 w.heap.size 0 (tokL (keyEv k 0) (.slice none 0 0) 3 false false)).alloc A)) := fun A => (tok_end (tokL (keyEv k 0) (.slice none 0 0) 3 false false) (own_nil _ _) hb1).more A
  have l0 := new_lt hb1
  have n0 : ¬ w.heap.size = w1.heap.size := by omega
  clear hb1
  unfold tkV keyTk keyEv
  dsimp only
  go_wp2_with fail
  refine bodyPost_ret (v := tokV (keyEv k 0) (.slice none 0 0) 3 false false) ?_ rfl (HE _).out
  simp [results, Tryz.results137, tokV, keyEv, go_sem, hcc, l0]

set_option maxRecDepth 100000 in
set_option maxHeartbeats 4000000 in
theorem letterToken_raw (b off n c : Nat) (x : Int) (d : List UInt8) (w : World) (hi : 2 < n) (hn : n ≤ 1048576) (hnc : n ≤ c) (hb : b < w.heap.size) (hc : w.cell? ⟨b, off + 2, none⟩ = some (.int .u8 x)) (h0 : letterK x = 0) (HR : Hid (∀ w', Below w.heap.size w w' → Calls Tryz.prog 103 #[.slice (some ⟨b, off, none⟩) 3 c] w' (NewTok w' (rawEv d) 3 false false))) :
    Calls Tryz.prog 137 #[.slice (some ⟨b, off, none⟩) n c] w (NewTok w (rawEv d) 3 false false) := by
  have HN := Lib.hid (fun (w : World) hc => neededByte_ok b off n c 2 x w hi hn hc)
  have HK := Lib.hid (fun (w : World) => implKeyOfParts_any ⟨0, false, [], x, 3⟩ none 0 w (by intro h; simp at h) (by simp))
  rw [keyP_let, if_pos h0] at HK
  unfold ptV at HK
  have f1 := fld_code
  have f2 := fld_token
  clear h0
  go_enter Tryz.func137, Tryz.ntmps137
  go_wp2_with fail
  refine (HN.out _ ?_).mono ?_
  · simp [go_sem, hc, hb]
  rintro e w1 ⟨rfl, rfl⟩
  go_wp2_with fail
  refine (HK.out _).mono ?_
  rintro e w1 ⟨rfl, hb1⟩
  have HB1 := Lib.hid hb1
  have HR2 := Lib.hid (fun A => HR.out _ (below_on (below_on (below_mk _ _) hb1) (below_mk _ A)))
  clear hb1 HR
  unfold tkV badTk noEv
  dsimp only
  go_wp2_with fail
  refine (HR2.out _).mono ?_
  rintro e w2 ⟨v, rfl, ho, hb2⟩
  obtain ⟨pp, cc, hv⟩ := ho.slice
  subst hv
  have hb3 := below_past HB1.out hb2
  obtain ⟨hcc, hf⟩ := bcell hb3
  have HE : Hid (NewTok w (rawEv d) 3 false false (.returned (tokV (rawEv d) (.slice pp d.length cc) 3 false false)) (sets w2 w.heap.size 0 (tokL (rawEv d) (.slice pp d.length cc) 3 false false))) := tok_end (tokL (rawEv d) (.slice pp d.length cc) 3 false false) (ho.lower (past_le HB1.out _)) hb3
  clear ho hb2 hb3
  unfold tokV rawEv
  dsimp only
  go_wp2_with fail
  refine bodyPost_ret (v := tokV (rawEv d) (.slice pp d.length cc) 3 false false) ?_ rfl HE.out
  simp [results, Tryz.results137, tokV, rawEv, go_sem, hcc]

theorem letterToken_any (p : Option Addr) (c : Nat) (l : List UInt8) (w : World) (h : Bs w w.heap.size p l) (hc : l.length ≤ c) (hl : l.length ≤ 1048576) :
    Calls Tryz.prog 137 #[.slice p l.length c] w (TokOut w (letTok l)) := by
  unfold letTok
  by_cases h3 : l.length < 3
  · rw [if_pos h3]
    exact (letterToken_wait p l.length c w (by omega)).mono fun _ _ k => .inr ⟨rfl, k⟩
  · rw [if_neg h3]
    obtain ⟨b, off, rfl, hb, hcell⟩ := h.at 2 (by omega)
    by_cases h0 : letterK ((l.getD 2 0).toNat : Int) = 0
    · rw [if_pos h0]
      have e : (l.take 3).length = 3 := by simp; omega
      refine (letterToken_raw b off l.length c _ (l.take 3) w (by omega) hl hc hb hcell h0 (Lib.hid fun w' hb' => ?_)).mono fun _ _ k => .inl ⟨rfl, ?_⟩
      · exact rawToken_cut _ c 3 l w' (h.on hb') (by omega) (by omega) hl
      · unfold rawTk rTk
        rw [e]
        exact k
    · rw [if_neg h0]
      exact (letterToken_key b off l.length c _ _ w (by omega) hl hb hcell rfl h0).mono fun _ _ k => .inl ⟨rfl, k⟩

end Go.Proofs.YtjopjddhgaiddabGreatDoor
