/- The program's encoder: the leaves. -/
import Derived.Test.YtjopjddhgaiddabGreatDoorQMdToEnc
import Derived.Test.YtjopjddhgaiddabGreatDoorQPbSpecToPbImpl
import Derived.Test.YtjopjddhgaiddabGreatDoorQJoinBToAppFull
import Derived.Test.YtjopjddhgaiddabGreatDoorQPutToBytesRes
import Derived.Test.YtjopjddhgaiddabGreatDoorQTokToTokRes
import Derived.Test.YtjopjddhgaiddabGreatDoorQJoinsToPend
namespace Go.Proofs.YtjopjddhgaiddabGreatDoor
open Go.RowKit
set_option linter.unusedVariables false

/-- strconv's table lies as the text lays it -/
abbrev Pow (w : World) : Prop := Lib.TabIs Tryz.prog w "internal/strconv.uint64pow10" .u64 Lib.pow10Tab
theorem Pow.on {w w' : World} (h : Pow w) (hb : Below w.heap.size w w') : Pow w' := Lib.tabBelow_of_tabIs h w' hb
theorem Own.capz {w : World} {base : Nat} {p : Option Addr} {n c : Nat} {l : List UInt8} (h : Own w base (.slice p n c) l) : p = none → c = 0 := by
  rintro rfl
  rcases h.2 with ⟨e, _⟩ | ⟨g, cap, cur, e, _⟩
  · injection e
  · cases e

set_option maxRecDepth 100000 in
set_option maxHeartbeats 1000000 in
theorem letterOfCode_any (c : Int) (w : World) : Calls Tryz.prog 53 #[.int .i64 c] w fun e w' => e = .returned (.int .u8 (letterE c)) ∧ w = w' := by
  unfold letterE
  repeat' split
  all_goals
    go_enter Tryz.func53, Tryz.ntmps53
    go_wp2
    go_ret
    exact ⟨rfl, rfl⟩
set_option maxRecDepth 100000 in
set_option maxHeartbeats 1000000 in
theorem numberOfCode_any (c : Int) (w : World) : Calls Tryz.prog 55 #[.int .i64 c] w fun e w' => e = .returned (.int .i64 (tildeE c)) ∧ w = w' := by
  unfold tildeE
  repeat' split
  all_goals
    go_enter Tryz.func55, Tryz.ntmps55
    go_wp2
    go_ret
    exact ⟨rfl, rfl⟩
set_option maxRecDepth 100000 in
set_option maxHeartbeats 1000000 in
theorem pointOfKey_any (c : Int) (w : World) : Calls Tryz.prog 91 #[.int .i64 c] w fun e w' => e = .returned (.int .i64 (codeE c)) ∧ w = w' := by
  unfold codeE
  repeat' split
  all_goals
    go_enter Tryz.func91, Tryz.ntmps91
    go_wp2
    go_ret
    exact ⟨rfl, rfl⟩

/-- PartsBytes where it has no fault -/
theorem implParts_pb (priv : Bool) (p : Option Addr) (c : Nat) (nums : List Int) (fin : UInt8) (w : World) (h : Is w w.heap.size p nums) (hT : Pow w) (hin : inNum nums = true) (h4 : nums.length ≤ 4) (hf : finl fin = true) :
    Calls Tryz.prog 94 #[.bool priv, .slice p nums.length c, .int .u8 (fin.toNat : Int)] w (NewBr w 0 (pb priv nums fin)) := by
  have e1 : pbCode nums fin = 0 := by simp [pbCode, hin, hf]; omega
  have e2 : pbRes priv nums fin = pb priv nums fin := by simp [pbRes, hin, hf]; omega
  rw [← e1, ← e2]
  cases priv
  · exact implPartsBytes_false p c nums fin w h (by omega) hT
  · exact implPartsBytes_true p c nums fin w h (by omega) hT
theorem pb_len (priv : Bool) (nums : List Int) (fin : UInt8) (hin : inNum nums = true) (h4 : nums.length ≤ 4) : (pb priv nums fin).length ≤ 40 := by
  have h1 := jn_len nums hin
  have h2 : (mark priv).length ≤ 1 := by unfold mark; split <;> simp
  unfold pb
  simp only [List.length_append, List.length_cons, List.length_nil]
  omega
theorem intro2 (w : World) : Bs (w.alloc (.cells #[.int .u8 27, .int .u8 91] 5)) (w.alloc (.cells #[.int .u8 27, .int .u8 91] 5)).heap.size (some ⟨w.heap.size, 0, none⟩) [27, 91] := by
  have := Bs.new w [27, 91] 5
  simpa [bcells] using this

set_option maxRecDepth 100000 in
set_option maxHeartbeats 1000000 in
theorem sequenceBytes_any (priv : Bool) (p : Option Addr) (c : Nat) (nums : List Int) (fin : UInt8) (w : World) (h : Is w w.heap.size p nums) (hT : Pow w) (hin : inNum nums = true) (h4 : nums.length ≤ 4) (hf : finl fin = true) :
    Calls Tryz.prog 61 #[.bool priv, .int .u8 (fin.toNat : Int), .slice p nums.length c] w (NewOwn w (seqB priv nums fin)) := by
  have HP := Lib.hid (fun A => implParts_pb priv p c nums fin (w.alloc A) (h.alloc A) (hT.on (below_mk w A)) hin h4 hf)
  have HL := Lib.hid (pb_len priv nums fin hin h4)
  have HI := Lib.hid (intro2 w)
  clear h hT hin h4 hf
  have hfd : ∀ (a b : Value) (w : World), (Instr.field 37 (.agg #[a, b]) 1).run Tryz.prog w = .ok b w := by intros; kernel_rfl
  unfold seqB
  generalize pb priv nums fin = l at *
  go_enter Tryz.func61, Tryz.ntmps61
  go_wp2_with fail
  refine (HP.out _).mono ?_
  rintro e w1 ⟨v, rfl, ho, hb⟩
  obtain ⟨p1, c1, hv⟩ := ho.slice
  subst hv
  have hJ := joined_two (some ⟨w.heap.size, 0, none⟩) p1 2 c1 2 [27, 91] l w1 24 (HI.out.on hb) (by simp) ho.bs.2 ho.capz (by have := HL.out; simp; omega) w1.heap.size rfl rfl
  have HJ : Hid (Calls Tryz.prog 33 #[.slice (some ⟨w1.heap.size, 0, none⟩) 2 2] (w1.alloc (.cells #[.slice (some ⟨w.heap.size, 0, none⟩) 2 2, .slice p1 l.length c1] 24)) (NewOwn (w1.alloc (.cells #[.slice (some ⟨w.heap.size, 0, none⟩) 2 2, .slice p1 l.length c1] 24)) ([27, 91] ++ l))) := hJ
  have HB := Lib.hid (below_on (below_mk w _) hb)
  clear ho hb hJ HP HI
  unfold brV
  go_wp2_with fail
  refine HJ.out.mono ?_
  rintro e w2 ⟨v2, rfl, ho2, hb2⟩
  have hs := HB.out.size
  have HE : Hid (NewOwn w ([27, 91] ++ l) (.returned v2) w2) := ⟨v2, rfl, ho2.lower (by simp; omega), below_on (below_on HB.out (below_mk _ _)) hb2⟩
  clear ho2 hb2 HJ
  go_wp2_with fail
  go_ret
  exact HE.out

set_option maxRecDepth 100000 in
set_option maxHeartbeats 1000000 in
theorem escaped_any (p : Option Addr) (c : Nat) (l : List UInt8) (w : World) (h : Bs w w.heap.size p l) (hp : p = none → c = 0) (hl : l.length ≤ 1000) :
    Calls Tryz.prog 90 #[.slice p l.length c] w (NewOwn w (27 :: l)) := by
  have h1 : Bs (w.alloc (.cells #[.int .u8 27] 5)) (w.alloc (.cells #[.int .u8 27] 5)).heap.size (some ⟨w.heap.size, 0, none⟩) [27] := by
    have := Bs.new w [27] 5
    simpa [bcells] using this
  have HJ := Lib.hid (joined_two (some ⟨w.heap.size, 0, none⟩) p 1 c 2 [27] l _ 24 h1 (by simp) (h.alloc _) hp (by simp; omega) (w.heap.size + 1) (by simp) rfl)
  clear h h1
  go_enter Tryz.func90, Tryz.ntmps90
  go_wp2_with fail
  refine HJ.out.mono ?_
  rintro e w2 ⟨v2, rfl, ho2, hb2⟩
  have HE : Hid (NewOwn w (27 :: l) (.returned v2) w2) := ⟨v2, rfl, ho2.lower (by simp; omega), below_on (below_on (below_mk w _) (below_mk _ _)) hb2⟩
  clear ho2 hb2 HJ
  go_wp2_with fail
  go_ret
  exact HE.out

theorem new_one (w : World) (x : UInt8) (n : Int) (hx : (x.toNat : Int) = n) : NewOwn w [x] (.returned (.slice (some ⟨w.heap.size, 0, none⟩) 1 1)) (w.alloc (.cells #[.int .u8 n] 5)) := by
  subst hx
  exact ⟨_, rfl, own_lit w [x] _ _ 1 rfl rfl rfl (by simp), below_mk w _⟩

set_option maxRecDepth 100000 in
set_option maxHeartbeats 1000000 in
theorem controlBytes_any (c : Int) (w : World) : Calls Tryz.prog 119 #[.int .i64 c] w (NewOwn w (ctrlE c)) := by
  by_cases h1 : c = 32
  · subst h1
    have HE := Lib.hid (new_one w 0 0 rfl)
    go_enter Tryz.func119, Tryz.ntmps119
    go_wp2
    go_ret
    exact HE.out
  by_cases h2 : c = 105
  · subst h2
    go_enter Tryz.func119, Tryz.ntmps119
    go_wp2
    go_ret
    exact ⟨_, rfl, own_nil _ _, Below.refl _ _⟩
  by_cases h3 : c = 109
  · subst h3
    go_enter Tryz.func119, Tryz.ntmps119
    go_wp2
    go_ret
    exact ⟨_, rfl, own_nil _ _, Below.refl _ _⟩
  by_cases h4 : 97 ≤ c ∧ c ≤ 122
  · have HC : Hid (ctrlE c = [byteE (c - 96)]) := by simp [Hid, ctrlE, h1, h2, h3, h4]
    have hi : inR c 97 122 = true := by simp [inR, h4]
    have hw : IntKind.u8.wrap (c - 97 + 1) = c - 97 + 1 := IntWalk.u8_in _ ⟨by omega, by omega⟩
    have HE := Lib.hid (fun A => new_one (w.alloc A) (byteE (c - 96)) (c - 97 + 1) (by rw [byteE_val (by omega) (by omega)]; omega))
    go_enter Tryz.func119, Tryz.ntmps119
    go_wp2_with (go_at_call 62; refine (isWithin_two _ _ _ _ _ _ (by simp)).mono ?_; rintro e w' ⟨rfl, rfl⟩; rw [hi])
    go_ret
    rw [HC.out]
    obtain ⟨v, he, ho, hb⟩ := HE.out (.cells #[.int .i64 97, .int .i64 122] 2)
    exact ⟨_, rfl, by injection he with he; rw [← he] at ho; simpa using ho.lower (by simp), below_on (below_mk _ _) hb⟩
  · have HC : Hid (ctrlE c = []) := by
      unfold ctrlE Hid
      rw [if_neg h1, if_neg (by omega), if_neg h4]
    have hi : inR c 97 122 = false := by simp [inR]; omega
    go_enter Tryz.func119, Tryz.ntmps119
    go_wp2_with (go_at_call 62; refine (isWithin_two _ _ _ _ _ _ (by simp)).mono ?_; rintro e w' ⟨rfl, rfl⟩; rw [hi])
    go_ret
    rw [HC.out]
    exact ⟨_, rfl, own_nil _ _, below_mk _ _⟩

end Go.Proofs.YtjopjddhgaiddabGreatDoor

/- The program's encoder: a key's bytes. -/
namespace Go.Proofs.YtjopjddhgaiddabGreatDoor
open Go.RowKit
set_option linter.unusedVariables false
set_option linter.unusedSimpArgs false

/-- numbers in a block that has just been laid -/
theorem is_lit (w : World) (l : List Int) (cs : Array Value) (hcs : cs = (l.map (Value.int .i64)).toArray) (t : TypeId) (g : Nat) (hg : g = w.heap.size) : Is (w.alloc (.cells cs t)) (w.alloc (.cells cs t)).heap.size (some ⟨g, 0, none⟩) l := by
  subst hg hcs
  intro _
  refine ⟨_, _, rfl, by simp, fun i hi => ?_⟩
  simp [hi]
/-- a key that is written by a plain byte or by its point -/
structure Typed (c m : Int) : Prop where
  key : keyCode c = true
  letter : letterE c = 0
  tilde : tildeE c = 0
  m0 : 0 ≤ m
  m7 : m ≤ 7
theorem Typed.special4 {c m : Int} (h : Typed c m) (hs : special c = true) : c = 2000001 ∨ c = 2000002 ∨ c = 2000003 ∨ c = 2000004 := by
  obtain ⟨_, h1, h2, _, _⟩ := h
  simp [special, inR] at hs
  unfold letterE at h1
  unfold tildeE at h2
  split at h1
  · cases h1
  split at h1
  · cases h1
  split at h1
  · cases h1
  split at h1
  · cases h1
  split at h1
  · cases h1
  split at h1
  · cases h1
  split at h2
  · cases h2
  split at h2
  · cases h2
  split at h2
  · cases h2
  split at h2
  · cases h2
  omega
theorem Typed.pt {c m : Int} (h : Typed c m) (hs : special c = false) : point c = true ∧ 32 ≤ c ∧ c ≠ 127 := by
  have := h.key
  simp [keyCode, hs] at this
  exact ⟨this.1.1, this.1.2, this.2⟩
theorem Typed.code {c m : Int} (h : Typed c m) : 0 ≤ codeE c ∧ codeE c ≤ 9999999 ∧ (special c = true → codeE c ≤ 255) := by
  cases hs : special c
  · obtain ⟨hp, h1, h2⟩ := h.pt hs
    have := point_range hp
    have hc : codeE c = c := by
      unfold codeE
      simp [special, inR] at hs
      rw [if_neg (by omega), if_neg (by omega), if_neg (by omega), if_neg (by omega)]
    rw [hc]
    exact ⟨by omega, by omega, by simp⟩
  · rcases h.special4 hs with rfl | rfl | rfl | rfl <;> simp [codeE]

theorem own_low {w w1 : World} {B : Nat} {v : Value} {l : List UInt8} (ho : Own w1 B v l) (hb : Below w.heap.size w w1) (hB : w.heap.size ≤ B) : NewOwn w l (.returned v) w1 := ⟨v, rfl, ho.lower hB, hb⟩

set_option maxRecDepth 100000 in
set_option maxHeartbeats 2000000 in
theorem plainBytes_any (c m : Int) (w : World) (h : Typed c m) : Calls Tryz.prog 88 #[.agg #[.int .i64 c, .int .i64 m]] w (NewOwn w (plainE c m)) := by
  have hfd : ∀ (a b : Value) (w : World), (Instr.field 37 (.agg #[a, b]) 1).run Tryz.prog w = .ok b w := by intros; kernel_rfl
  cases hs : special c
  · by_cases h1 : m = 0 ∨ m = 2
    · have HC : Hid (plainE c m = putRes c) := by simp [Hid, plainE, hs, h1, putRes, (h.pt hs).1]
      have HP := Lib.hid (fun W => implPutPoint_any c W)
      rw [HC.out]
      generalize putRes c = l at *
      clear h HC
      rcases h1 with rfl | rfl
      all_goals
        go_enter Tryz.func88, Tryz.ntmps88
        go_wp2_with fail
        refine (implIsSpecial_any _ _).mono ?_
        rintro e w1 ⟨rfl, hb1⟩
        rw [hs]
        have hc0 := (AtL.new w [.int .i64 c, .int .i64 _] 66).on hb1
        have r0 := hc0.get 0 rfl
        have r1 := hc0.get 1 rfl
        have HB := Lib.hid (below_on (below_mk w _) hb1)
        clear hb1 hc0
        go_wp2_with fail
        refine (HP.out _).mono ?_
        rintro e w2 ⟨v, rfl, ho, hb2⟩
        have HE := Lib.hid (own_low ho (below_on HB.out hb2) HB.out.size)
        clear ho hb2
        unfold brV
        go_wp2_with fail
        go_ret
        exact HE.out
    by_cases h2 : m = 4 ∨ m = 6
    · have HC : Hid (plainE c m = ctrlE c) := by simp [Hid, plainE, hs, h1, h2]
      have HP := Lib.hid (fun W => controlBytes_any c W)
      rw [HC.out]
      generalize ctrlE c = l at *
      clear h HC h1
      rcases h2 with rfl | rfl
      all_goals
        go_enter Tryz.func88, Tryz.ntmps88
        go_wp2_with fail
        refine (implIsSpecial_any _ _).mono ?_
        rintro e w1 ⟨rfl, hb1⟩
        rw [hs]
        have hc0 := (AtL.new w [.int .i64 c, .int .i64 _] 66).on hb1
        have r0 := hc0.get 0 rfl
        have r1 := hc0.get 1 rfl
        have HB := Lib.hid (below_on (below_mk w _) hb1)
        clear hb1 hc0
        go_wp2_with fail
        refine (HP.out _).mono ?_
        rintro e w2 ⟨v, rfl, ho, hb2⟩
        have HE := Lib.hid (own_low ho (below_on HB.out hb2) HB.out.size)
        clear ho hb2
        go_wp2_with fail
        go_ret
        exact HE.out
    · have HC : Hid (plainE c m = []) := by simp [Hid, plainE, hs, h1, h2]
      rw [HC.out]
      have e1 : ¬ m = 0 := fun e => h1 (.inl e)
      have e2 : ¬ m = 2 := fun e => h1 (.inr e)
      have e3 : ¬ m = 4 := fun e => h2 (.inl e)
      have e4 : ¬ m = 6 := fun e => h2 (.inr e)
      clear h HC h1 h2
      go_enter Tryz.func88, Tryz.ntmps88
      go_wp2_with fail
      refine (implIsSpecial_any _ _).mono ?_
      rintro e w1 ⟨rfl, hb1⟩
      rw [hs]
      have hc0 := (AtL.new w [.int .i64 c, .int .i64 m] 66).on hb1
      have r0 := hc0.get 0 rfl
      have r1 := hc0.get 1 rfl
      have HB := Lib.hid (below_on (below_mk w _) hb1)
      clear hb1 hc0
      go_wp2_with fail
      go_ret
      exact ⟨_, rfl, own_nil _ _, HB.out⟩
  · have HC : Hid (plainE c m = [byteE (codeE c)]) := by simp [Hid, plainE, hs]
    obtain ⟨g0, _, g2⟩ := h.code
    have g3 := g2 hs
    have hw : IntKind.u8.wrap (codeE c) = codeE c := IntWalk.u8_in _ ⟨by omega, by omega⟩
    have HN := Lib.hid (fun W => new_one W (byteE (codeE c)) (codeE c) (byteE_val g0 (by omega)))
    have HQ := Lib.hid (fun W => pointOfKey_any c W)
    rw [HC.out]
    generalize codeE c = n at *
    clear h HC g2
    go_enter Tryz.func88, Tryz.ntmps88
    go_wp2_with fail
    refine (implIsSpecial_any _ _).mono ?_
    rintro e w1 ⟨rfl, hb1⟩
    rw [hs]
    have hc0 := (AtL.new w [.int .i64 c, .int .i64 m] 66).on hb1
    have r0 := hc0.get 0 rfl
    have r1 := hc0.get 1 rfl
    have HB := Lib.hid (below_on (below_mk w _) hb1)
    clear hb1 hc0
    go_wp2_with fail
    refine (HQ.out _).mono ?_
    rintro e w2 ⟨rfl, rfl⟩
    go_wp2_with fail
    go_ret
    obtain ⟨v, he, ho, hb2⟩ := HN.out w1
    exact ⟨_, rfl, by injection he with he; rw [← he] at ho; simpa using ho.lower HB.out.size, below_on HB.out hb2⟩

theorem seq_fin {n : Int} (h0 : 64 ≤ n) (h1 : n ≤ 126) : finl (byteE n) = true := by
  unfold finl
  rw [byteE_val (by omega) (by omega)]
  simp [h0, h1]
theorem inNum2 {a b : Int} (h0 : 0 ≤ a) (h1 : a ≤ 9999999) (h2 : 0 ≤ b) (h3 : b ≤ 9999999) : inNum [a, b] = true := by simp [inNum, inR]; omega
/-- a sequence of numbers that have just been laid -/
theorem sequence_lit (priv : Bool) (cs : Array Value) (nums : List Int) (n : Int) (k : Nat) (w : World) (t : TypeId) (g : Nat) (hg : g = w.heap.size) (hcs : cs = (nums.map (Value.int .i64)).toArray) (hk : k = nums.length) (hT : Pow w) (hin : inNum nums = true) (h4 : nums.length ≤ 4) (h0 : 64 ≤ n) (h1 : n ≤ 126) :
    Calls Tryz.prog 61 #[.bool priv, .int .u8 n, .slice (some ⟨g, 0, none⟩) k k] (w.alloc (.cells cs t)) (NewOwn (w.alloc (.cells cs t)) (seqB priv nums (byteE n))) := by
  have := sequenceBytes_any priv (some ⟨g, 0, none⟩) k nums (byteE n) _ (is_lit w nums cs hcs t g hg) (hT.on (below_mk w _)) hin h4 (seq_fin h0 h1)
  rw [byteE_val (by omega) (by omega)] at this
  rw [← hk] at this
  exact this

set_option maxRecDepth 100000 in
set_option maxHeartbeats 2000000 in
theorem letterBytes_any (md : Md) (n m : Int) (w : World) (hT : Pow w) (h0 : 64 ≤ n) (h1 : n ≤ 126) (m0 : 0 ≤ m) (m7 : m ≤ 7) :
    Calls Tryz.prog 54 #[mdV md, .int .u8 n, .int .i64 m] w (NewOwn w (letterB md.cursor (byteE n) m)) := by
  obtain ⟨cu, co, mo, sg, pa⟩ := md
  unfold mdV
  dsimp only
  by_cases hm : m = 0
  · subst hm
    cases cu
    · have HC : Hid (letterB false (byteE n) 0 = seqB false [] (byteE n)) := by simp [Hid, letterB]
      have HS := Lib.hid (fun A => sequenceBytes_any false none 0 [] (byteE n) (w.alloc A) (fun e => absurd rfl e) (hT.on (below_mk w A)) rfl (by simp) (seq_fin h0 h1))
      rw [byteE_val (by omega) (by omega)] at HS
      rw [HC.out]
      generalize seqB false [] (byteE n) = l at *
      clear hT
      go_enter Tryz.func54, Tryz.ntmps54
      go_wp2_with fail
      refine (HS.out _).mono ?_
      rintro e w1 ⟨v, rfl, ho, hb⟩
      have HE := Lib.hid (own_low ho (below_on (below_mk w _) hb) (by simp))
      clear ho hb HS
      go_wp2_with fail
      go_ret
      exact HE.out
    · have HC : Hid (letterB true (byteE n) 0 = [27, 79, byteE n]) := by simp [Hid, letterB]
      have HO : Hid (∀ W, NewOwn W [27, 79, byteE n] (.returned (.slice (some ⟨W.heap.size, 0, none⟩) 3 3)) (W.alloc (.cells #[.int .u8 27, .int .u8 79, .int .u8 n] 5))) := fun W =>
        ⟨_, rfl, own_lit W [27, 79, byteE n] _ _ 3 rfl rfl (by simp [bcells, byteE_val (show 0 ≤ n by omega) (show n ≤ 255 by omega)]) (by simp), below_mk W _⟩
      rw [HC.out]
      clear hT
      go_enter Tryz.func54, Tryz.ntmps54
      go_wp2_with fail
      go_ret
      obtain ⟨v, he, ho, hb⟩ := HO.out (w.alloc (.cells #[.bool true, .bool co, .int .i64 mo, .bool sg, .bool pa] 29))
      exact ⟨_, rfl, by injection he with he; rw [← he] at ho; simpa using ho.lower (by simp), below_on (below_mk w _) hb⟩
  · have HC : Hid (letterB cu (byteE n) m = seqB false [1, m + 1] (byteE n)) := by simp [Hid, letterB, hm]
    have HS := Lib.hid (fun A g hg => sequence_lit false #[.int .i64 1, .int .i64 (m + 1)] [1, m + 1] n 2 (w.alloc A) 2 g hg rfl rfl (hT.on (below_mk w A)) (inNum2 (by omega) (by omega) (by omega) (by omega)) (by simp) h0 h1)
    rw [HC.out]
    generalize seqB false [1, m + 1] (byteE n) = l at *
    clear hT
    go_enter Tryz.func54, Tryz.ntmps54
    go_wp2_with fail
    refine (HS.out _ _ (by simp)).mono ?_
    rintro e w1 ⟨v, rfl, ho, hb⟩
    have HE := Lib.hid (own_low ho (below_on (below_on (below_mk w _) (below_mk _ _)) hb) (by simp; omega))
    clear ho hb HS
    go_wp2_with fail
    go_ret
    exact HE.out

set_option maxRecDepth 100000 in
set_option maxHeartbeats 2000000 in
theorem numberBytes_any (n m : Int) (w : World) (hT : Pow w) (h0 : 0 ≤ n) (h1 : n ≤ 9999999) (m0 : 0 ≤ m) (m7 : m ≤ 7) :
    Calls Tryz.prog 56 #[.int .i64 n, .int .i64 m] w (NewOwn w (tildeB n m)) := by
  by_cases hm : m = 0
  · subst hm
    have HC : Hid (tildeB n 0 = seqB false [n] 126) := by simp [Hid, tildeB]
    have HS : Hid (Calls Tryz.prog 61 #[.bool false, .int .u8 126, .slice (some ⟨w.heap.size, 0, none⟩) 1 1] (w.alloc (.cells #[.int .i64 n] 2)) (NewOwn (w.alloc (.cells #[.int .i64 n] 2)) (seqB false [n] 126))) :=
      sequence_lit false #[.int .i64 n] [n] 126 1 w 2 _ rfl rfl rfl hT (by simp [inNum, inR]; omega) (by simp) (by omega) (by omega)
    rw [HC.out]
    generalize seqB false [n] 126 = l at *
    clear hT
    go_enter Tryz.func56, Tryz.ntmps56
    go_wp2_with fail
    refine HS.out.mono ?_
    rintro e w1 ⟨v, rfl, ho, hb⟩
    have HE := Lib.hid (own_low ho (below_on (below_mk w _) hb) (by simp))
    clear ho hb HS
    go_wp2_with fail
    go_ret
    exact HE.out
  · have HC : Hid (tildeB n m = seqB false [n, m + 1] 126) := by simp [Hid, tildeB, hm]
    have HS : Hid (Calls Tryz.prog 61 #[.bool false, .int .u8 126, .slice (some ⟨w.heap.size, 0, none⟩) 2 2] (w.alloc (.cells #[.int .i64 n, .int .i64 (m + 1)] 2)) (NewOwn (w.alloc (.cells #[.int .i64 n, .int .i64 (m + 1)] 2)) (seqB false [n, m + 1] 126))) :=
      sequence_lit false #[.int .i64 n, .int .i64 (m + 1)] [n, m + 1] 126 2 w 2 _ rfl rfl rfl hT (inNum2 (by omega) (by omega) (by omega) (by omega)) (by simp) (by omega) (by omega)
    rw [HC.out]
    generalize seqB false [n, m + 1] 126 = l at *
    clear hT
    go_enter Tryz.func56, Tryz.ntmps56
    go_wp2_with fail
    refine HS.out.mono ?_
    rintro e w1 ⟨v, rfl, ho, hb⟩
    have HE := Lib.hid (own_low ho (below_on (below_mk w _) hb) (by simp))
    clear ho hb HS
    go_wp2_with fail
    go_ret
    exact HE.out

end Go.Proofs.YtjopjddhgaiddabGreatDoor

/- The program's encoder: a mouse event's bytes. -/
namespace Go.Proofs.YtjopjddhgaiddabGreatDoor
open Go.RowKit
set_option linter.unusedVariables false
set_option linter.unusedSimpArgs false

set_option maxHeartbeats 1000000 in
theorem isReported_any (n a : Int) (w : World) : Calls Tryz.prog 58 #[.int .i64 n, .int .i64 a] w fun e w' => e = .returned (.bool (wantE n a)) ∧ w = w' := by
  by_cases h1 : n = 1
  · subst h1
    go_enter Tryz.func58, Tryz.ntmps58
    go_wp2
    go_ret
    exact ⟨ret_bool (by simp [wantE]), rfl⟩
  by_cases h2 : n = 2
  · subst h2
    go_enter Tryz.func58, Tryz.ntmps58
    go_wp2
    go_ret
    exact ⟨ret_bool (by simp [wantE]), rfl⟩
  by_cases h3 : n = 3
  · subst h3
    go_enter Tryz.func58, Tryz.ntmps58
    go_wp2
    go_ret
    exact ⟨ret_bool (by simp [wantE]), rfl⟩
  · have HC : Hid (wantE n a = false) := by simp [Hid, wantE, h1, h2, h3]
    go_enter Tryz.func58, Tryz.ntmps58
    go_wp2
    go_ret
    exact ⟨ret_bool HC.out.symm, rfl⟩

set_option maxRecDepth 100000 in
set_option maxHeartbeats 1000000 in
theorem eventNumber_any (b a m x y : Int) (w : World) (b0 : 0 ≤ b) (b3 : b ≤ 3) (m0 : 0 ≤ m) (m7 : m ≤ 7) :
    Calls Tryz.prog 93 #[.agg #[.int .i64 b, .int .i64 a, .int .i64 m, .int .i64 x, .int .i64 y]] w fun e w' => e = .returned (.int .i64 (evNum b a m)) ∧ Below w.heap.size w w' := by
  have hw1 : IntKind.i64.wrap (4 * m) = 4 * m := IntWalk.i64_in _ ⟨by omega, by omega⟩
  have hw2 : IntKind.i64.wrap (b + 4 * m) = b + 4 * m := IntWalk.i64_in _ ⟨by omega, by omega⟩
  have hw3 : IntKind.i64.wrap (b + 4 * m + 32) = b + 4 * m + 32 := IntWalk.i64_in _ ⟨by omega, by omega⟩
  by_cases h1 : a = 3
  · subst h1
    have HC : Hid (evNum b 3 m = b + 4 * m + 32) := by simp [Hid, evNum]
    rw [HC.out]
    go_enter Tryz.func93, Tryz.ntmps93
    go_wp2
    go_ret
    exact ⟨rfl, below_mk _ _⟩
  · have HC : Hid (evNum b a m = b + 4 * m) := by simp [Hid, evNum, h1]
    rw [HC.out]
    go_enter Tryz.func93, Tryz.ntmps93
    go_wp2
    go_ret
    exact ⟨rfl, below_mk _ _⟩

theorem evNum_range (b a m : Int) (b0 : 0 ≤ b) (b3 : b ≤ 3) (m0 : 0 ≤ m) (m7 : m ≤ 7) : 0 ≤ evNum b a m ∧ evNum b a m ≤ 63 := by
  unfold evNum
  split <;> omega
theorem inNum3 {a b c : Int} (h0 : 0 ≤ a) (h1 : a ≤ 9999999) (h2 : 0 ≤ b) (h3 : b ≤ 9999999) (h4 : 0 ≤ c) (h5 : c ≤ 9999999) : inNum [a, b, c] = true := by simp [inNum, inR]; omega

theorem wp_genE {P : Program} {code : Code} {Q : Exit → Act → World → Prop} {a : Act} {W : World} (C : World → Prop) (h : C W) (k : ∀ W', C W' → Code.wp P code Q a W') : Code.wp P code Q a W := k W h

set_option maxRecDepth 100000 in
set_option maxHeartbeats 2000000 in
theorem sgrBytes_rel (b m x y : Int) (w : World) (hT : Pow w) (b0 : 0 ≤ b) (b3 : b ≤ 3) (m0 : 0 ≤ m) (m7 : m ≤ 7) (x0 : 0 ≤ x) (x9 : x ≤ 199) (y0 : 0 ≤ y) (y9 : y ≤ 199) :
    Calls Tryz.prog 59 #[.agg #[.int .i64 b, .int .i64 2, .int .i64 m, .int .i64 x, .int .i64 y]] w (NewOwn w (seqB true [evNum b 2 m, x + 1, y + 1] 109)) := by
  have HN := Lib.hid (fun W => eventNumber_any b 2 m x y W b0 b3 m0 m7)
  have hn := evNum_range b 2 m b0 b3 m0 m7
  generalize evNum b 2 m = n at *
  have HS := Lib.hid (fun (W : World) (hW : Pow W) g hg => sequence_lit true #[.int .i64 n, .int .i64 (x + 1), .int .i64 (y + 1)] [n, x + 1, y + 1] 109 3 W 2 g hg rfl rfl hW (inNum3 (by omega) (by omega) (by omega) (by omega) (by omega) (by omega)) (by simp) (by omega) (by omega))
  rw [show byteE 109 = 109 from rfl] at HS
  have hw1 : IntKind.i64.wrap (x + 1) = x + 1 := IntWalk.i64_in _ ⟨by omega, by omega⟩
  have hw2 : IntKind.i64.wrap (y + 1) = y + 1 := IntWalk.i64_in _ ⟨by omega, by omega⟩
  have HT := Lib.hid hT
  clear hT
  go_enter Tryz.func59, Tryz.ntmps59
  have hm := AtL.new w [.int .i64 b, .int .i64 2, .int .i64 m, .int .i64 x, .int .i64 y] 69
  have hb := below_mk w (.cells #[.int .i64 b, .int .i64 2, .int .i64 m, .int .i64 x, .int .i64 y] 69)
  go_wp2_with fail
  refine wp_genE (fun W => AtL W w.heap.size [.int .i64 b, .int .i64 2, .int .i64 m, .int .i64 x, .int .i64 y] ∧ Below w.heap.size w W ∧ Pow W) ⟨hm, hb, HT.out.on hb⟩ (fun W hW => ?_)
  obtain ⟨hk, hb2, ht⟩ := hW
  have HK := Lib.hid (fun W' (hW : Below W.heap.size W W') => (hk.on hW).five)
  have HB := Lib.hid hb2
  have HP := Lib.hid ht
  clear hk hb2 ht hm hb HT
  refine wp_region_noPanic ?_
  refine wp_region_held_drew (S := fun W' => Below (W).heap.size (W) W') (by kernel_rfl) (below_drewN (Below.refl _ _) 1) (fun hHeld => ?_)
  refine takeR 0 7 (.int .u8 109) (by kernel_rfl) (by kernel_rfl) (by kernel_rfl) (by kernel_rfl) (fun _ _ _ h => h) (by kernel_rfl) (fun w o hSw ho => ?_) hHeld ?_
  · obtain rfl := Option.some.inj ho; go_simp
  simp only [Act.put, List.setIfInBounds_toArray, List.set_cons_zero, List.set_cons_succ]
  refine takeR 1 8 (.agg #[.int .i64 b, .int .i64 2, .int .i64 m, .int .i64 x, .int .i64 y]) (by kernel_rfl) (by kernel_rfl) (by kernel_rfl) (by kernel_rfl) (fun _ _ _ h => h) (by kernel_rfl) (fun w o hSw ho => ?_) hHeld ?_
  · obtain rfl := Option.some.inj ho; obtain ⟨z0, z1, z2, z3, z4⟩ := HK.out _ hSw; go_simp
  simp only [Act.put, List.setIfInBounds_toArray, List.set_cons_zero, List.set_cons_succ]
  refine takeR 3 10 (.pointer (some ⟨w.heap.size, 3, none⟩)) (by kernel_rfl) (by kernel_rfl) (by kernel_rfl) (by kernel_rfl) (fun _ _ _ h => h) (by kernel_rfl) (fun w o hSw ho => ?_) hHeld ?_
  · obtain rfl := Option.some.inj ho; go_simp
  simp only [Act.put, List.setIfInBounds_toArray, List.set_cons_zero, List.set_cons_succ]
  refine takeR 6 13 (.pointer (some ⟨w.heap.size, 4, none⟩)) (by kernel_rfl) (by kernel_rfl) (by kernel_rfl) (by kernel_rfl) (fun _ _ _ h => h) (by kernel_rfl) (fun w o hSw ho => ?_) hHeld ?_
  · obtain rfl := Option.some.inj ho; go_simp
  simp only [Act.put, List.setIfInBounds_toArray, List.set_cons_zero, List.set_cons_succ]
  refine takeR 4 11 (.int .i64 x) (by kernel_rfl) (by kernel_rfl) (by kernel_rfl) (by kernel_rfl) (fun _ _ _ h => h) (by kernel_rfl) (fun w o hSw ho => ?_) hHeld ?_
  · obtain rfl := Option.some.inj ho; obtain ⟨z0, z1, z2, z3, z4⟩ := HK.out _ hSw; go_simp
  simp only [Act.put, List.setIfInBounds_toArray, List.set_cons_zero, List.set_cons_succ]
  refine takeR 7 14 (.int .i64 y) (by kernel_rfl) (by kernel_rfl) (by kernel_rfl) (by kernel_rfl) (fun _ _ _ h => h) (by kernel_rfl) (fun w o hSw ho => ?_) hHeld ?_
  · obtain rfl := Option.some.inj ho; obtain ⟨z0, z1, z2, z3, z4⟩ := HK.out _ hSw; go_simp
  simp only [Act.put, List.setIfInBounds_toArray, List.set_cons_zero, List.set_cons_succ]
  refine takeR 5 12 (.int .i64 (x + 1)) (by kernel_rfl) (by kernel_rfl) (by kernel_rfl) (by kernel_rfl) (fun _ _ _ h => h) (by kernel_rfl) (fun w o hSw ho => ?_) hHeld ?_
  · obtain rfl := Option.some.inj ho; go_simp
  simp only [Act.put, List.setIfInBounds_toArray, List.set_cons_zero, List.set_cons_succ]
  refine takeR 8 15 (.int .i64 (y + 1)) (by kernel_rfl) (by kernel_rfl) (by kernel_rfl) (by kernel_rfl) (fun _ _ _ h => h) (by kernel_rfl) (fun w o hSw ho => ?_) hHeld ?_
  · obtain rfl := Option.some.inj ho; go_simp
  simp only [Act.put, List.setIfInBounds_toArray, List.set_cons_zero, List.set_cons_succ]
  refine oneR 2 (by kernel_rfl) (by kernel_rfl) (fun o ho K' hK => ?_)
  obtain rfl := Option.some.inj ho
  clear ho
  go_simp
  refine (HN.out _).mono ?_
  rintro e V1 ⟨rfl, hb1⟩
  have HV1 := Lib.hid (below_on hHeld hb1)
  clear hb1 hHeld
  go_wp2_with fail
  refine hK.out _ _ (HV1.out) (fun hHeld => ?_)
  clear hK K'
  try simp only [Act.put, List.setIfInBounds_toArray, List.set_cons_zero, List.set_cons_succ]
  refine oneR 9 (by kernel_rfl) (by kernel_rfl) (fun o ho K' hK => ?_)
  obtain rfl := Option.some.inj ho
  clear ho
  go_simp
  refine hK.out _ _ (below_on HV1.out (below_mk _ _)) (fun hHeld => ?_)
  clear hK K'
  try simp only [Act.put, List.setIfInBounds_toArray, List.set_cons_zero, List.set_cons_succ]
  refine oneR 10 (by kernel_rfl) (by kernel_rfl) (fun o ho K' hK => ?_)
  obtain rfl := Option.some.inj ho
  clear ho
  go_simp
  refine (HS.out _ (HP.out.on HV1.out) _ rfl).mono ?_
  rintro e V2 ⟨v2, rfl, ho2, hb2⟩
  have HV2 := Lib.hid (below_on hHeld hb2)
  have HE := Lib.hid (own_low ho2 (below_on HB.out HV2.out) (by have h1 := HB.out.size; have h2 := HV1.out.size; simp at h2 ⊢; omega))
  clear ho2 hb2 hHeld
  go_wp2_with fail
  refine hK.out _ _ (HV2.out) (fun hHeld => ?_)
  clear hK K'
  try simp only [Act.put, List.setIfInBounds_toArray, List.set_cons_zero, List.set_cons_succ]
  refine takeR 11 2 (v2) (by kernel_rfl) (by kernel_rfl) (by kernel_rfl) (by kernel_rfl) (fun _ _ _ h => h) (by kernel_rfl) (fun w o hSw ho => ?_) hHeld ?_
  · obtain rfl := Option.some.inj ho; go_simp
  simp only [Act.put, List.setIfInBounds_toArray, List.set_cons_zero, List.set_cons_succ]
  refine wpAnyH_done (by kernel_rfl) ?_ _
  refine NoPanic.normal ?_
  go_wp2_with fail
  go_ret
  exact HE.out

set_option maxRecDepth 100000 in
set_option maxHeartbeats 2000000 in
theorem sgrBytes_act (b a m x y : Int) (w : World) (hT : Pow w) (ha : ¬ a = 2) (b0 : 0 ≤ b) (b3 : b ≤ 3) (m0 : 0 ≤ m) (m7 : m ≤ 7) (x0 : 0 ≤ x) (x9 : x ≤ 199) (y0 : 0 ≤ y) (y9 : y ≤ 199) :
    Calls Tryz.prog 59 #[.agg #[.int .i64 b, .int .i64 a, .int .i64 m, .int .i64 x, .int .i64 y]] w (NewOwn w (seqB true [evNum b a m, x + 1, y + 1] 77)) := by
  have HN := Lib.hid (fun W => eventNumber_any b a m x y W b0 b3 m0 m7)
  have hn := evNum_range b a m b0 b3 m0 m7
  generalize evNum b a m = n at *
  have HS := Lib.hid (fun (W : World) (hW : Pow W) g hg => sequence_lit true #[.int .i64 n, .int .i64 (x + 1), .int .i64 (y + 1)] [n, x + 1, y + 1] 77 3 W 2 g hg rfl rfl hW (inNum3 (by omega) (by omega) (by omega) (by omega) (by omega) (by omega)) (by simp) (by omega) (by omega))
  rw [show byteE 77 = 77 from rfl] at HS
  have hw1 : IntKind.i64.wrap (x + 1) = x + 1 := IntWalk.i64_in _ ⟨by omega, by omega⟩
  have hw2 : IntKind.i64.wrap (y + 1) = y + 1 := IntWalk.i64_in _ ⟨by omega, by omega⟩
  have HT := Lib.hid hT
  clear hT
  go_enter Tryz.func59, Tryz.ntmps59
  have hm := AtL.new w [.int .i64 b, .int .i64 a, .int .i64 m, .int .i64 x, .int .i64 y] 69
  have hb := below_mk w (.cells #[.int .i64 b, .int .i64 a, .int .i64 m, .int .i64 x, .int .i64 y] 69)
  go_wp2_with fail
  refine wp_genE (fun W => AtL W w.heap.size [.int .i64 b, .int .i64 a, .int .i64 m, .int .i64 x, .int .i64 y] ∧ Below w.heap.size w W ∧ Pow W) ⟨hm, hb, HT.out.on hb⟩ (fun W hW => ?_)
  obtain ⟨hk, hb2, ht⟩ := hW
  have HK := Lib.hid (fun W' (hW : Below W.heap.size W W') => (hk.on hW).five)
  have HB := Lib.hid hb2
  have HP := Lib.hid ht
  clear hk hb2 ht hm hb HT
  refine wp_region_noPanic ?_
  refine wp_region_held_drew (S := fun W' => Below (W).heap.size (W) W') (by kernel_rfl) (below_drewN (Below.refl _ _) 1) (fun hHeld => ?_)
  refine takeR 0 7 (.int .u8 77) (by kernel_rfl) (by kernel_rfl) (by kernel_rfl) (by kernel_rfl) (fun _ _ _ h => h) (by kernel_rfl) (fun w o hSw ho => ?_) hHeld ?_
  · obtain rfl := Option.some.inj ho; go_simp
  simp only [Act.put, List.setIfInBounds_toArray, List.set_cons_zero, List.set_cons_succ]
  refine takeR 1 8 (.agg #[.int .i64 b, .int .i64 a, .int .i64 m, .int .i64 x, .int .i64 y]) (by kernel_rfl) (by kernel_rfl) (by kernel_rfl) (by kernel_rfl) (fun _ _ _ h => h) (by kernel_rfl) (fun w o hSw ho => ?_) hHeld ?_
  · obtain rfl := Option.some.inj ho; obtain ⟨z0, z1, z2, z3, z4⟩ := HK.out _ hSw; go_simp
  simp only [Act.put, List.setIfInBounds_toArray, List.set_cons_zero, List.set_cons_succ]
  refine takeR 3 10 (.pointer (some ⟨w.heap.size, 3, none⟩)) (by kernel_rfl) (by kernel_rfl) (by kernel_rfl) (by kernel_rfl) (fun _ _ _ h => h) (by kernel_rfl) (fun w o hSw ho => ?_) hHeld ?_
  · obtain rfl := Option.some.inj ho; go_simp
  simp only [Act.put, List.setIfInBounds_toArray, List.set_cons_zero, List.set_cons_succ]
  refine takeR 6 13 (.pointer (some ⟨w.heap.size, 4, none⟩)) (by kernel_rfl) (by kernel_rfl) (by kernel_rfl) (by kernel_rfl) (fun _ _ _ h => h) (by kernel_rfl) (fun w o hSw ho => ?_) hHeld ?_
  · obtain rfl := Option.some.inj ho; go_simp
  simp only [Act.put, List.setIfInBounds_toArray, List.set_cons_zero, List.set_cons_succ]
  refine takeR 4 11 (.int .i64 x) (by kernel_rfl) (by kernel_rfl) (by kernel_rfl) (by kernel_rfl) (fun _ _ _ h => h) (by kernel_rfl) (fun w o hSw ho => ?_) hHeld ?_
  · obtain rfl := Option.some.inj ho; obtain ⟨z0, z1, z2, z3, z4⟩ := HK.out _ hSw; go_simp
  simp only [Act.put, List.setIfInBounds_toArray, List.set_cons_zero, List.set_cons_succ]
  refine takeR 7 14 (.int .i64 y) (by kernel_rfl) (by kernel_rfl) (by kernel_rfl) (by kernel_rfl) (fun _ _ _ h => h) (by kernel_rfl) (fun w o hSw ho => ?_) hHeld ?_
  · obtain rfl := Option.some.inj ho; obtain ⟨z0, z1, z2, z3, z4⟩ := HK.out _ hSw; go_simp
  simp only [Act.put, List.setIfInBounds_toArray, List.set_cons_zero, List.set_cons_succ]
  refine takeR 5 12 (.int .i64 (x + 1)) (by kernel_rfl) (by kernel_rfl) (by kernel_rfl) (by kernel_rfl) (fun _ _ _ h => h) (by kernel_rfl) (fun w o hSw ho => ?_) hHeld ?_
  · obtain rfl := Option.some.inj ho; go_simp
  simp only [Act.put, List.setIfInBounds_toArray, List.set_cons_zero, List.set_cons_succ]
  refine takeR 8 15 (.int .i64 (y + 1)) (by kernel_rfl) (by kernel_rfl) (by kernel_rfl) (by kernel_rfl) (fun _ _ _ h => h) (by kernel_rfl) (fun w o hSw ho => ?_) hHeld ?_
  · obtain rfl := Option.some.inj ho; go_simp
  simp only [Act.put, List.setIfInBounds_toArray, List.set_cons_zero, List.set_cons_succ]
  refine oneR 2 (by kernel_rfl) (by kernel_rfl) (fun o ho K' hK => ?_)
  obtain rfl := Option.some.inj ho
  clear ho
  go_simp
  refine (HN.out _).mono ?_
  rintro e V1 ⟨rfl, hb1⟩
  have HV1 := Lib.hid (below_on hHeld hb1)
  clear hb1 hHeld
  go_wp2_with fail
  refine hK.out _ _ (HV1.out) (fun hHeld => ?_)
  clear hK K'
  try simp only [Act.put, List.setIfInBounds_toArray, List.set_cons_zero, List.set_cons_succ]
  refine oneR 9 (by kernel_rfl) (by kernel_rfl) (fun o ho K' hK => ?_)
  obtain rfl := Option.some.inj ho
  clear ho
  go_simp
  refine hK.out _ _ (below_on HV1.out (below_mk _ _)) (fun hHeld => ?_)
  clear hK K'
  try simp only [Act.put, List.setIfInBounds_toArray, List.set_cons_zero, List.set_cons_succ]
  refine oneR 10 (by kernel_rfl) (by kernel_rfl) (fun o ho K' hK => ?_)
  obtain rfl := Option.some.inj ho
  clear ho
  go_simp
  refine (HS.out _ (HP.out.on HV1.out) _ rfl).mono ?_
  rintro e V2 ⟨v2, rfl, ho2, hb2⟩
  have HV2 := Lib.hid (below_on hHeld hb2)
  have HE := Lib.hid (own_low ho2 (below_on HB.out HV2.out) (by have h1 := HB.out.size; have h2 := HV1.out.size; simp at h2 ⊢; omega))
  clear ho2 hb2 hHeld
  go_wp2_with fail
  refine hK.out _ _ (HV2.out) (fun hHeld => ?_)
  clear hK K'
  try simp only [Act.put, List.setIfInBounds_toArray, List.set_cons_zero, List.set_cons_succ]
  refine takeR 11 2 (v2) (by kernel_rfl) (by kernel_rfl) (by kernel_rfl) (by kernel_rfl) (fun _ _ _ h => h) (by kernel_rfl) (fun w o hSw ho => ?_) hHeld ?_
  · obtain rfl := Option.some.inj ho; go_simp
  simp only [Act.put, List.setIfInBounds_toArray, List.set_cons_zero, List.set_cons_succ]
  refine wpAnyH_done (by kernel_rfl) ?_ _
  refine NoPanic.normal ?_
  go_wp2_with fail
  go_ret
  exact HE.out

end Go.Proofs.YtjopjddhgaiddabGreatDoor

/- The program's encoder: a mouse event without the SGR form; the result of a mouse event. -/
namespace Go.Proofs.YtjopjddhgaiddabGreatDoor
open Go.RowKit
set_option linter.unusedVariables false
set_option linter.unusedSimpArgs false

theorem bs_litE (W : World) (l : List UInt8) (cs : Array Value) (h : cs = bcells l) (t : TypeId) (b : Nat) (hb : b = W.heap.size) : Bs (W.alloc (.cells cs t)) (W.alloc (.cells cs t)).heap.size (some ⟨b, 0, none⟩) l := by
  subst h
  subst hb
  have := Bs.new W l t
  rwa [← World.size_alloc (o := .cells (bcells l) t)] at this
theorem seq_77 : seqB false [] 77 = [27, 91, 77] := rfl

set_option maxRecDepth 100000 in
set_option maxHeartbeats 2000000 in
theorem clickBytes_rel (b m x y : Int) (w : World) (hT : Pow w) (b0 : 0 ≤ b) (b3 : b ≤ 3) (m0 : 0 ≤ m) (m7 : m ≤ 7) (x0 : 0 ≤ x) (x9 : x ≤ 199) (y0 : 0 ≤ y) (y9 : y ≤ 199) :
    Calls Tryz.prog 60 #[.agg #[.int .i64 b, .int .i64 2, .int .i64 m, .int .i64 x, .int .i64 y]] w (NewOwn w [27, 91, 77, byteE (32 + evNum 3 2 m), byteE (33 + x), byteE (33 + y)]) := by
  obtain ⟨i0, hi, hz0, hz1, hz2⟩ := info_parts Tryz.info_u8
  have HI := Lib.hid (And.intro hi (And.intro hz0 (And.intro hz1 hz2)))
  clear hi hz0 hz1 hz2
  have HN := Lib.hid (fun W => eventNumber_any 3 2 m x y W (by omega) (by omega) m0 m7)
  have hn := evNum_range 3 2 m (by omega) (by omega) m0 m7
  generalize evNum 3 2 m = n at *
  have HS := Lib.hid (fun (W : World) (hW : Pow W) => sequenceBytes_any false none 0 [] 77 W (fun e => absurd rfl e) hW rfl (by simp) rfl)
  rw [seq_77] at HS
  have hv1 : ((byteE (32 + n)).toNat : Int) = 32 + n := byteE_val (by omega) (by omega)
  have hv2 : ((byteE (33 + x)).toNat : Int) = 33 + x := byteE_val (by omega) (by omega)
  have hv3 : ((byteE (33 + y)).toNat : Int) = 33 + y := byteE_val (by omega) (by omega)
  have HL : Hid (∀ (W : World) g, g = W.heap.size → Bs (W.alloc (.cells #[.int .u8 (32 + n), .int .u8 (33 + x), .int .u8 (33 + y)] 5)) (W.alloc (.cells #[.int .u8 (32 + n), .int .u8 (33 + x), .int .u8 (33 + y)] 5)).heap.size (some ⟨g, 0, none⟩) [byteE (32 + n), byteE (33 + x), byteE (33 + y)]) := fun W g hg =>
    bs_litE W [byteE (32 + n), byteE (33 + x), byteE (33 + y)] _ (by simp [bcells, hv1, hv2, hv3]) 5 g hg
  clear hv1 hv2 hv3
  have hw1 : IntKind.i64.wrap (32 + n) = 32 + n := IntWalk.i64_in _ ⟨by omega, by omega⟩
  have hw2 : IntKind.i64.wrap (33 + x) = 33 + x := IntWalk.i64_in _ ⟨by omega, by omega⟩
  have hw3 : IntKind.i64.wrap (33 + y) = 33 + y := IntWalk.i64_in _ ⟨by omega, by omega⟩
  have hu1 : IntKind.u8.wrap (32 + n) = 32 + n := IntWalk.u8_in _ ⟨by omega, by omega⟩
  have hu2 : IntKind.u8.wrap (33 + x) = 33 + x := IntWalk.u8_in _ ⟨by omega, by omega⟩
  have hu3 : IntKind.u8.wrap (33 + y) = 33 + y := IntWalk.u8_in _ ⟨by omega, by omega⟩
  have HT := Lib.hid hT
  clear hT
  go_enter Tryz.func60, Tryz.ntmps60
  have hm := AtM.new w [.int .i64 b, .int .i64 2, .int .i64 m, .int .i64 x, .int .i64 y] 69
  have hb := below_mk w (.cells #[.int .i64 b, .int .i64 2, .int .i64 m, .int .i64 x, .int .i64 y] 69)
  go_wp2_with fail
  refine wp_genE (fun W => AtL W w.heap.size [.int .i64 3, .int .i64 2, .int .i64 m, .int .i64 x, .int .i64 y] ∧ Below w.heap.size w W ∧ Pow W) ⟨AtL.new w _ _, below_mk w _, HT.out.on (below_mk w _)⟩ (fun W hW => ?_)
  obtain ⟨hk, hb2, ht⟩ := hW
  have HK := Lib.hid (fun W' (hW : Below W.heap.size W W') => (hk.on hW).five)
  have HB := Lib.hid hb2
  have HP := Lib.hid ht
  clear hk hb2 ht hm hb HT
  refine wp_region_noPanic ?_
  refine wp_region_held_drew (S := fun W' => Below (W).heap.size (W) W') (by kernel_rfl) (below_drewN (Below.refl _ _) 1) (fun hHeld => ?_)
  refine takeR 1 8 (.agg #[.int .i64 3, .int .i64 2, .int .i64 m, .int .i64 x, .int .i64 y]) (by kernel_rfl) (by kernel_rfl) (by kernel_rfl) (by kernel_rfl) (fun _ _ _ h => h) (by kernel_rfl) (fun w o hSw ho => ?_) hHeld ?_
  · obtain rfl := Option.some.inj ho; obtain ⟨z0, z1, z2, z3, z4⟩ := HK.out _ hSw; go_simp
  simp only [Act.put, List.setIfInBounds_toArray, List.set_cons_zero, List.set_cons_succ]
  refine takeR 5 12 (.pointer (some ⟨w.heap.size, 3, none⟩)) (by kernel_rfl) (by kernel_rfl) (by kernel_rfl) (by kernel_rfl) (fun _ _ _ h => h) (by kernel_rfl) (fun w o hSw ho => ?_) hHeld ?_
  · obtain rfl := Option.some.inj ho; go_simp
  simp only [Act.put, List.setIfInBounds_toArray, List.set_cons_zero, List.set_cons_succ]
  refine takeR 9 16 (.pointer (some ⟨w.heap.size, 4, none⟩)) (by kernel_rfl) (by kernel_rfl) (by kernel_rfl) (by kernel_rfl) (fun _ _ _ h => h) (by kernel_rfl) (fun w o hSw ho => ?_) hHeld ?_
  · obtain rfl := Option.some.inj ho; go_simp
  simp only [Act.put, List.setIfInBounds_toArray, List.set_cons_zero, List.set_cons_succ]
  refine takeR 6 13 (.int .i64 x) (by kernel_rfl) (by kernel_rfl) (by kernel_rfl) (by kernel_rfl) (fun _ _ _ h => h) (by kernel_rfl) (fun w o hSw ho => ?_) hHeld ?_
  · obtain rfl := Option.some.inj ho; obtain ⟨z0, z1, z2, z3, z4⟩ := HK.out _ hSw; go_simp
  simp only [Act.put, List.setIfInBounds_toArray, List.set_cons_zero, List.set_cons_succ]
  refine takeR 10 17 (.int .i64 y) (by kernel_rfl) (by kernel_rfl) (by kernel_rfl) (by kernel_rfl) (fun _ _ _ h => h) (by kernel_rfl) (fun w o hSw ho => ?_) hHeld ?_
  · obtain rfl := Option.some.inj ho; obtain ⟨z0, z1, z2, z3, z4⟩ := HK.out _ hSw; go_simp
  simp only [Act.put, List.setIfInBounds_toArray, List.set_cons_zero, List.set_cons_succ]
  refine takeR 7 14 (.int .i64 (33 + x)) (by kernel_rfl) (by kernel_rfl) (by kernel_rfl) (by kernel_rfl) (fun _ _ _ h => h) (by kernel_rfl) (fun w o hSw ho => ?_) hHeld ?_
  · obtain rfl := Option.some.inj ho; go_simp
  simp only [Act.put, List.setIfInBounds_toArray, List.set_cons_zero, List.set_cons_succ]
  refine takeR 11 18 (.int .i64 (33 + y)) (by kernel_rfl) (by kernel_rfl) (by kernel_rfl) (by kernel_rfl) (fun _ _ _ h => h) (by kernel_rfl) (fun w o hSw ho => ?_) hHeld ?_
  · obtain rfl := Option.some.inj ho; go_simp
  simp only [Act.put, List.setIfInBounds_toArray, List.set_cons_zero, List.set_cons_succ]
  refine takeR 8 15 (.int .u8 (33 + x)) (by kernel_rfl) (by kernel_rfl) (by kernel_rfl) (by kernel_rfl) (fun _ _ _ h => h) (by kernel_rfl) (fun w o hSw ho => ?_) hHeld ?_
  · obtain rfl := Option.some.inj ho; go_simp
  simp only [Act.put, List.setIfInBounds_toArray, List.set_cons_zero, List.set_cons_succ]
  refine takeR 12 19 (.int .u8 (33 + y)) (by kernel_rfl) (by kernel_rfl) (by kernel_rfl) (by kernel_rfl) (fun _ _ _ h => h) (by kernel_rfl) (fun w o hSw ho => ?_) hHeld ?_
  · obtain rfl := Option.some.inj ho; go_simp
  simp only [Act.put, List.setIfInBounds_toArray, List.set_cons_zero, List.set_cons_succ]
  refine oneR 0 (by kernel_rfl) (by kernel_rfl) (fun o ho K' hK => ?_)
  obtain rfl := Option.some.inj ho
  clear ho
  go_simp
  refine (HS.out _ (HP.out.on hHeld)).mono ?_
  rintro e V1 ⟨v1, rfl, ho1, hb1⟩
  obtain ⟨g1, cap1, hv, hlc⟩ := own_room ho1 (by simp)
  subst hv
  have HV1 := Lib.hid (below_on hHeld hb1)
  have HO1 := Lib.hid (ho1.lower (base' := W.heap.size) (by simp))
  clear hb1 hHeld ho1
  go_wp2_with fail
  refine hK.out _ _ (HV1.out) (fun hHeld => ?_)
  clear hK K'
  try simp only [Act.put, List.setIfInBounds_toArray, List.set_cons_zero, List.set_cons_succ]
  refine oneR 2 (by kernel_rfl) (by kernel_rfl) (fun o ho K' hK => ?_)
  obtain rfl := Option.some.inj ho
  clear ho
  go_simp
  refine (HN.out _).mono ?_
  rintro e V2 ⟨rfl, hb2⟩
  have HV2 := Lib.hid (below_on HV1.out hb2)
  have HO2 := Lib.hid (HO1.out.on hb2)
  clear hb2 hHeld
  go_wp2_with fail
  refine hK.out _ _ (HV2.out) (fun hHeld => ?_)
  clear hK K'
  try simp only [Act.put, List.setIfInBounds_toArray, List.set_cons_zero, List.set_cons_succ]
  refine takeR 3 10 (.int .i64 (32 + n)) (by kernel_rfl) (by kernel_rfl) (by kernel_rfl) (by kernel_rfl) (fun _ _ _ h => h) (by kernel_rfl) (fun w o hSw ho => ?_) hHeld ?_
  · obtain rfl := Option.some.inj ho; go_simp
  simp only [Act.put, List.setIfInBounds_toArray, List.set_cons_zero, List.set_cons_succ]
  refine takeR 4 11 (.int .u8 (32 + n)) (by kernel_rfl) (by kernel_rfl) (by kernel_rfl) (by kernel_rfl) (fun _ _ _ h => h) (by kernel_rfl) (fun w o hSw ho => ?_) hHeld ?_
  · obtain rfl := Option.some.inj ho; go_simp
  simp only [Act.put, List.setIfInBounds_toArray, List.set_cons_zero, List.set_cons_succ]
  refine oneR 13 (by kernel_rfl) (by kernel_rfl) (fun o ho K' hK => ?_)
  obtain rfl := Option.some.inj ho
  clear ho
  go_simp
  refine hK.out _ _ (below_on HV2.out (below_mk _ _)) (fun hHeld => ?_)
  clear hK K'
  try simp only [Act.put, List.setIfInBounds_toArray, List.set_cons_zero, List.set_cons_succ]
  have HL3 := Lib.hid (HL.out V2 _ rfl)
  have HO3 := Lib.hid (HO2.out.on (below_mk V2 (.cells #[.int .u8 (32 + n), .int .u8 (33 + x), .int .u8 (33 + y)] 5)))
  have HV3 := Lib.hid hHeld
  refine oneR 14 (by kernel_rfl) (by kernel_rfl) (fun o ho K' hK => ?_)
  obtain rfl := Option.some.inj ho
  clear ho
  refine wp_append_own _ _ _ 24 rfl W.heap.size 5 i0 (.int .u8 0) 1 1 Tryz.underlying24 HI.out.1 HI.out.2.1 HI.out.2.2.1 HI.out.2.2.2 rfl (by decide) _ _ _ rfl HO3.out ⟨V2.heap.size, 0, none⟩ 3 3 ([byteE (32 + n), byteE (33 + x), byteE (33 + y)].map (fun x : UInt8 => Value.int .u8 (x.toNat : Int))) rfl (by simp) (news_bs HL3.out) (one_cells _) (by unfold maxLen; simp) (by simp) HV3.out.size ?_
  intro v4 wA hownA hgrowA _
  have HA := Lib.hid (grew2 HO3.out HV3.out hownA hgrowA)
  clear hownA hgrowA hHeld
  change K' (Act.put _ (some 21) v4) wA
  refine hK.out _ _ (HA.out.2) (fun hHeld => ?_)
  clear hK K'
  try simp only [Act.put, List.setIfInBounds_toArray, List.set_cons_zero, List.set_cons_succ]
  refine takeR 15 2 (v4) (by kernel_rfl) (by kernel_rfl) (by kernel_rfl) (by kernel_rfl) (fun _ _ _ h => h) (by kernel_rfl) (fun w o hSw ho => ?_) hHeld ?_
  · obtain rfl := Option.some.inj ho; go_simp
  simp only [Act.put, List.setIfInBounds_toArray, List.set_cons_zero, List.set_cons_succ]
  refine wpAnyH_done (by kernel_rfl) ?_ _
  refine NoPanic.normal ?_
  have HE : Hid (NewOwn w [27, 91, 77, byteE (32 + n), byteE (33 + x), byteE (33 + y)] (.returned v4) wA) := own_low HA.out.1 (below_on HB.out hHeld) HB.out.size
  go_wp2_with fail
  go_ret
  exact HE.out

set_option maxRecDepth 100000 in
set_option maxHeartbeats 2000000 in
theorem clickBytes_act (b a m x y : Int) (w : World) (hT : Pow w) (ha : ¬ a = 2) (b0 : 0 ≤ b) (b3 : b ≤ 3) (m0 : 0 ≤ m) (m7 : m ≤ 7) (x0 : 0 ≤ x) (x9 : x ≤ 199) (y0 : 0 ≤ y) (y9 : y ≤ 199) :
    Calls Tryz.prog 60 #[.agg #[.int .i64 b, .int .i64 a, .int .i64 m, .int .i64 x, .int .i64 y]] w (NewOwn w [27, 91, 77, byteE (32 + evNum b a m), byteE (33 + x), byteE (33 + y)]) := by
  obtain ⟨i0, hi, hz0, hz1, hz2⟩ := info_parts Tryz.info_u8
  have HI := Lib.hid (And.intro hi (And.intro hz0 (And.intro hz1 hz2)))
  clear hi hz0 hz1 hz2
  have HN := Lib.hid (fun W => eventNumber_any b a m x y W (by omega) (by omega) m0 m7)
  have hn := evNum_range b a m (by omega) (by omega) m0 m7
  generalize evNum b a m = n at *
  have HS := Lib.hid (fun (W : World) (hW : Pow W) => sequenceBytes_any false none 0 [] 77 W (fun e => absurd rfl e) hW rfl (by simp) rfl)
  rw [seq_77] at HS
  have hv1 : ((byteE (32 + n)).toNat : Int) = 32 + n := byteE_val (by omega) (by omega)
  have hv2 : ((byteE (33 + x)).toNat : Int) = 33 + x := byteE_val (by omega) (by omega)
  have hv3 : ((byteE (33 + y)).toNat : Int) = 33 + y := byteE_val (by omega) (by omega)
  have HL : Hid (∀ (W : World) g, g = W.heap.size → Bs (W.alloc (.cells #[.int .u8 (32 + n), .int .u8 (33 + x), .int .u8 (33 + y)] 5)) (W.alloc (.cells #[.int .u8 (32 + n), .int .u8 (33 + x), .int .u8 (33 + y)] 5)).heap.size (some ⟨g, 0, none⟩) [byteE (32 + n), byteE (33 + x), byteE (33 + y)]) := fun W g hg =>
    bs_litE W [byteE (32 + n), byteE (33 + x), byteE (33 + y)] _ (by simp [bcells, hv1, hv2, hv3]) 5 g hg
  clear hv1 hv2 hv3
  have hw1 : IntKind.i64.wrap (32 + n) = 32 + n := IntWalk.i64_in _ ⟨by omega, by omega⟩
  have hw2 : IntKind.i64.wrap (33 + x) = 33 + x := IntWalk.i64_in _ ⟨by omega, by omega⟩
  have hw3 : IntKind.i64.wrap (33 + y) = 33 + y := IntWalk.i64_in _ ⟨by omega, by omega⟩
  have hu1 : IntKind.u8.wrap (32 + n) = 32 + n := IntWalk.u8_in _ ⟨by omega, by omega⟩
  have hu2 : IntKind.u8.wrap (33 + x) = 33 + x := IntWalk.u8_in _ ⟨by omega, by omega⟩
  have hu3 : IntKind.u8.wrap (33 + y) = 33 + y := IntWalk.u8_in _ ⟨by omega, by omega⟩
  have HT := Lib.hid hT
  clear hT
  go_enter Tryz.func60, Tryz.ntmps60
  have hm := AtM.new w [.int .i64 b, .int .i64 a, .int .i64 m, .int .i64 x, .int .i64 y] 69
  have hb := below_mk w (.cells #[.int .i64 b, .int .i64 a, .int .i64 m, .int .i64 x, .int .i64 y] 69)
  go_wp2_with fail
  refine wp_genE (fun W => AtL W w.heap.size [.int .i64 b, .int .i64 a, .int .i64 m, .int .i64 x, .int .i64 y] ∧ Below w.heap.size w W ∧ Pow W) ⟨hm.cells, hb, HT.out.on hb⟩ (fun W hW => ?_)
  obtain ⟨hk, hb2, ht⟩ := hW
  have HK := Lib.hid (fun W' (hW : Below W.heap.size W W') => (hk.on hW).five)
  have HB := Lib.hid hb2
  have HP := Lib.hid ht
  clear hk hb2 ht hm hb HT
  refine wp_region_noPanic ?_
  refine wp_region_held_drew (S := fun W' => Below (W).heap.size (W) W') (by kernel_rfl) (below_drewN (Below.refl _ _) 1) (fun hHeld => ?_)
  refine takeR 1 8 (.agg #[.int .i64 b, .int .i64 a, .int .i64 m, .int .i64 x, .int .i64 y]) (by kernel_rfl) (by kernel_rfl) (by kernel_rfl) (by kernel_rfl) (fun _ _ _ h => h) (by kernel_rfl) (fun w o hSw ho => ?_) hHeld ?_
  · obtain rfl := Option.some.inj ho; obtain ⟨z0, z1, z2, z3, z4⟩ := HK.out _ hSw; go_simp
  simp only [Act.put, List.setIfInBounds_toArray, List.set_cons_zero, List.set_cons_succ]
  refine takeR 5 12 (.pointer (some ⟨w.heap.size, 3, none⟩)) (by kernel_rfl) (by kernel_rfl) (by kernel_rfl) (by kernel_rfl) (fun _ _ _ h => h) (by kernel_rfl) (fun w o hSw ho => ?_) hHeld ?_
  · obtain rfl := Option.some.inj ho; go_simp
  simp only [Act.put, List.setIfInBounds_toArray, List.set_cons_zero, List.set_cons_succ]
  refine takeR 9 16 (.pointer (some ⟨w.heap.size, 4, none⟩)) (by kernel_rfl) (by kernel_rfl) (by kernel_rfl) (by kernel_rfl) (fun _ _ _ h => h) (by kernel_rfl) (fun w o hSw ho => ?_) hHeld ?_
  · obtain rfl := Option.some.inj ho; go_simp
  simp only [Act.put, List.setIfInBounds_toArray, List.set_cons_zero, List.set_cons_succ]
  refine takeR 6 13 (.int .i64 x) (by kernel_rfl) (by kernel_rfl) (by kernel_rfl) (by kernel_rfl) (fun _ _ _ h => h) (by kernel_rfl) (fun w o hSw ho => ?_) hHeld ?_
  · obtain rfl := Option.some.inj ho; obtain ⟨z0, z1, z2, z3, z4⟩ := HK.out _ hSw; go_simp
  simp only [Act.put, List.setIfInBounds_toArray, List.set_cons_zero, List.set_cons_succ]
  refine takeR 10 17 (.int .i64 y) (by kernel_rfl) (by kernel_rfl) (by kernel_rfl) (by kernel_rfl) (fun _ _ _ h => h) (by kernel_rfl) (fun w o hSw ho => ?_) hHeld ?_
  · obtain rfl := Option.some.inj ho; obtain ⟨z0, z1, z2, z3, z4⟩ := HK.out _ hSw; go_simp
  simp only [Act.put, List.setIfInBounds_toArray, List.set_cons_zero, List.set_cons_succ]
  refine takeR 7 14 (.int .i64 (33 + x)) (by kernel_rfl) (by kernel_rfl) (by kernel_rfl) (by kernel_rfl) (fun _ _ _ h => h) (by kernel_rfl) (fun w o hSw ho => ?_) hHeld ?_
  · obtain rfl := Option.some.inj ho; go_simp
  simp only [Act.put, List.setIfInBounds_toArray, List.set_cons_zero, List.set_cons_succ]
  refine takeR 11 18 (.int .i64 (33 + y)) (by kernel_rfl) (by kernel_rfl) (by kernel_rfl) (by kernel_rfl) (fun _ _ _ h => h) (by kernel_rfl) (fun w o hSw ho => ?_) hHeld ?_
  · obtain rfl := Option.some.inj ho; go_simp
  simp only [Act.put, List.setIfInBounds_toArray, List.set_cons_zero, List.set_cons_succ]
  refine takeR 8 15 (.int .u8 (33 + x)) (by kernel_rfl) (by kernel_rfl) (by kernel_rfl) (by kernel_rfl) (fun _ _ _ h => h) (by kernel_rfl) (fun w o hSw ho => ?_) hHeld ?_
  · obtain rfl := Option.some.inj ho; go_simp
  simp only [Act.put, List.setIfInBounds_toArray, List.set_cons_zero, List.set_cons_succ]
  refine takeR 12 19 (.int .u8 (33 + y)) (by kernel_rfl) (by kernel_rfl) (by kernel_rfl) (by kernel_rfl) (fun _ _ _ h => h) (by kernel_rfl) (fun w o hSw ho => ?_) hHeld ?_
  · obtain rfl := Option.some.inj ho; go_simp
  simp only [Act.put, List.setIfInBounds_toArray, List.set_cons_zero, List.set_cons_succ]
  refine oneR 0 (by kernel_rfl) (by kernel_rfl) (fun o ho K' hK => ?_)
  obtain rfl := Option.some.inj ho
  clear ho
  go_simp
  refine (HS.out _ (HP.out.on hHeld)).mono ?_
  rintro e V1 ⟨v1, rfl, ho1, hb1⟩
  obtain ⟨g1, cap1, hv, hlc⟩ := own_room ho1 (by simp)
  subst hv
  have HV1 := Lib.hid (below_on hHeld hb1)
  have HO1 := Lib.hid (ho1.lower (base' := W.heap.size) (by simp))
  clear hb1 hHeld ho1
  go_wp2_with fail
  refine hK.out _ _ (HV1.out) (fun hHeld => ?_)
  clear hK K'
  try simp only [Act.put, List.setIfInBounds_toArray, List.set_cons_zero, List.set_cons_succ]
  refine oneR 2 (by kernel_rfl) (by kernel_rfl) (fun o ho K' hK => ?_)
  obtain rfl := Option.some.inj ho
  clear ho
  go_simp
  refine (HN.out _).mono ?_
  rintro e V2 ⟨rfl, hb2⟩
  have HV2 := Lib.hid (below_on HV1.out hb2)
  have HO2 := Lib.hid (HO1.out.on hb2)
  clear hb2 hHeld
  go_wp2_with fail
  refine hK.out _ _ (HV2.out) (fun hHeld => ?_)
  clear hK K'
  try simp only [Act.put, List.setIfInBounds_toArray, List.set_cons_zero, List.set_cons_succ]
  refine takeR 3 10 (.int .i64 (32 + n)) (by kernel_rfl) (by kernel_rfl) (by kernel_rfl) (by kernel_rfl) (fun _ _ _ h => h) (by kernel_rfl) (fun w o hSw ho => ?_) hHeld ?_
  · obtain rfl := Option.some.inj ho; go_simp
  simp only [Act.put, List.setIfInBounds_toArray, List.set_cons_zero, List.set_cons_succ]
  refine takeR 4 11 (.int .u8 (32 + n)) (by kernel_rfl) (by kernel_rfl) (by kernel_rfl) (by kernel_rfl) (fun _ _ _ h => h) (by kernel_rfl) (fun w o hSw ho => ?_) hHeld ?_
  · obtain rfl := Option.some.inj ho; go_simp
  simp only [Act.put, List.setIfInBounds_toArray, List.set_cons_zero, List.set_cons_succ]
  refine oneR 13 (by kernel_rfl) (by kernel_rfl) (fun o ho K' hK => ?_)
  obtain rfl := Option.some.inj ho
  clear ho
  go_simp
  refine hK.out _ _ (below_on HV2.out (below_mk _ _)) (fun hHeld => ?_)
  clear hK K'
  try simp only [Act.put, List.setIfInBounds_toArray, List.set_cons_zero, List.set_cons_succ]
  have HL3 := Lib.hid (HL.out V2 _ rfl)
  have HO3 := Lib.hid (HO2.out.on (below_mk V2 (.cells #[.int .u8 (32 + n), .int .u8 (33 + x), .int .u8 (33 + y)] 5)))
  have HV3 := Lib.hid hHeld
  refine oneR 14 (by kernel_rfl) (by kernel_rfl) (fun o ho K' hK => ?_)
  obtain rfl := Option.some.inj ho
  clear ho
  refine wp_append_own _ _ _ 24 rfl W.heap.size 5 i0 (.int .u8 0) 1 1 Tryz.underlying24 HI.out.1 HI.out.2.1 HI.out.2.2.1 HI.out.2.2.2 rfl (by decide) _ _ _ rfl HO3.out ⟨V2.heap.size, 0, none⟩ 3 3 ([byteE (32 + n), byteE (33 + x), byteE (33 + y)].map (fun x : UInt8 => Value.int .u8 (x.toNat : Int))) rfl (by simp) (news_bs HL3.out) (one_cells _) (by unfold maxLen; simp) (by simp) HV3.out.size ?_
  intro v4 wA hownA hgrowA _
  have HA := Lib.hid (grew2 HO3.out HV3.out hownA hgrowA)
  clear hownA hgrowA hHeld
  change K' (Act.put _ (some 21) v4) wA
  refine hK.out _ _ (HA.out.2) (fun hHeld => ?_)
  clear hK K'
  try simp only [Act.put, List.setIfInBounds_toArray, List.set_cons_zero, List.set_cons_succ]
  refine takeR 15 2 (v4) (by kernel_rfl) (by kernel_rfl) (by kernel_rfl) (by kernel_rfl) (fun _ _ _ h => h) (by kernel_rfl) (fun w o hSw ho => ?_) hHeld ?_
  · obtain rfl := Option.some.inj ho; go_simp
  simp only [Act.put, List.setIfInBounds_toArray, List.set_cons_zero, List.set_cons_succ]
  refine wpAnyH_done (by kernel_rfl) ?_ _
  refine NoPanic.normal ?_
  have HE : Hid (NewOwn w [27, 91, 77, byteE (32 + n), byteE (33 + x), byteE (33 + y)] (.returned v4) wA) := own_low HA.out.1 (below_on HB.out hHeld) HB.out.size
  go_wp2_with fail
  go_ret
  exact HE.out

end Go.Proofs.YtjopjddhgaiddabGreatDoor
