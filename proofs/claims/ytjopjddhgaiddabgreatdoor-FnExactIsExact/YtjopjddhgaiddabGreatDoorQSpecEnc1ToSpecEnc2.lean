/- The model's encoder: its leaves. -/
import Derived.Test.YtjopjddhgaiddabGreatDoorQEncImplToEncMouse2
import Derived.Test.YtjopjddhgaiddabGreatDoorQSpecKey
import Derived.Test.YtjopjddhgaiddabGreatDoorQFaultToFirstFull
import Derived.Test.YtjopjddhgaiddabGreatDoorQForm
import Derived.Test.YtjopjddhgaiddabGreatDoorQJoinsToPend
namespace Go.Proofs.YtjopjddhgaiddabGreatDoor
open Go.RowKit
set_option linter.unusedVariables false
set_option linter.unusedSimpArgs false

theorem AtL.eightS {w : World} {b : Nat} {v0 v1 v2 v3 v4 v5 v6 v7 : Value} (h : AtL w b [v0, v1, v2, v3, v4, v5, v6, v7]) : w.cell? ⟨b, 0, none⟩ = some v0 ∧ w.cell? ⟨b, 1, none⟩ = some v1 ∧ w.cell? ⟨b, 2, none⟩ = some v2 ∧ w.cell? ⟨b, 3, none⟩ = some v3 ∧ w.cell? ⟨b, 4, none⟩ = some v4 ∧ w.cell? ⟨b, 5, none⟩ = some v5 ∧ w.cell? ⟨b, 6, none⟩ = some v6 ∧ w.cell? ⟨b, 7, none⟩ = some v7 :=
  ⟨h.get 0 rfl, h.get 1 rfl, h.get 2 rfl, h.get 3 rfl, h.get 4 rfl, h.get 5 rfl, h.get 6 rfl, h.get 7 rfl⟩

/-- no letter among the first k is that of c -/
def noLetter (c : Int) (k : Nat) : Prop := (1 ≤ k → c ≠ 2000005) ∧ (2 ≤ k → c ≠ 2000006) ∧ (3 ≤ k → c ≠ 2000007) ∧ (4 ≤ k → c ≠ 2000008) ∧ (5 ≤ k → c ≠ 2000009) ∧ (6 ≤ k → c ≠ 2000010)

set_option maxRecDepth 100000 in
set_option maxHeartbeats 2000000 in
theorem l5Letter_any (c : Int) (w : World) : Calls Tryz.prog 73 #[.int .i64 c] w fun e w' => e = .returned (.int .u8 (letterE c)) ∧ w = w' := by
  go_enter Tryz.func73, Tryz.ntmps73
  go_wp2_with fail
  go_loopw [4] (fun i wr => ∃ k : Nat, k ≤ 6 ∧ i = .int .i64 k ∧ wr = w ∧ noLetter c k) (fun i _ => 6 - (intOf i).toNat)
  case atStart => exact ⟨0, by omega, rfl, rfl, by simp [noLetter]⟩
  case round =>
    obtain ⟨k, hk, rfl, rfl, hn⟩ := hrel
    have hk6 : k = 0 ∨ k = 1 ∨ k = 2 ∨ k = 3 ∨ k = 4 ∨ k = 5 ∨ k = 6 := by omega
    rcases hk6 with rfl | rfl | rfl | rfl | rfl | rfl | rfl
    · have HN := Lib.hid hn
      clear hn
      by_cases hc : (2000005 : Int) = c
      · subst hc
        go_wp2_with fail
        refine (l3Letter_any 65 _).mono ?_
        rintro e w1 ⟨rfl, rfl⟩
        rw [show letterK 65 = 2000005 from rfl]
        go_wp2_with fail
        go_ret
        exact ⟨rfl, rfl⟩
      · go_wp2_with fail
        refine (l3Letter_any 65 _).mono ?_
        rintro e w1 ⟨rfl, rfl⟩
        rw [show letterK 65 = 2000005 from rfl]
        go_wp2_with fail
        exact ⟨⟨1, by omega, by go_num, (by first | rfl | trivial), by have := HN.out; unfold noLetter at this ⊢; omega⟩, by simp [intOf]⟩
    · have HN := Lib.hid hn
      clear hn
      by_cases hc : (2000006 : Int) = c
      · subst hc
        go_wp2_with fail
        refine (l3Letter_any 66 _).mono ?_
        rintro e w1 ⟨rfl, rfl⟩
        rw [show letterK 66 = 2000006 from rfl]
        go_wp2_with fail
        go_ret
        exact ⟨rfl, rfl⟩
      · go_wp2_with fail
        refine (l3Letter_any 66 _).mono ?_
        rintro e w1 ⟨rfl, rfl⟩
        rw [show letterK 66 = 2000006 from rfl]
        go_wp2_with fail
        exact ⟨⟨2, by omega, by go_num, (by first | rfl | trivial), by have := HN.out; unfold noLetter at this ⊢; omega⟩, by simp [intOf]⟩
    · have HN := Lib.hid hn
      clear hn
      by_cases hc : (2000007 : Int) = c
      · subst hc
        go_wp2_with fail
        refine (l3Letter_any 67 _).mono ?_
        rintro e w1 ⟨rfl, rfl⟩
        rw [show letterK 67 = 2000007 from rfl]
        go_wp2_with fail
        go_ret
        exact ⟨rfl, rfl⟩
      · go_wp2_with fail
        refine (l3Letter_any 67 _).mono ?_
        rintro e w1 ⟨rfl, rfl⟩
        rw [show letterK 67 = 2000007 from rfl]
        go_wp2_with fail
        exact ⟨⟨3, by omega, by go_num, (by first | rfl | trivial), by have := HN.out; unfold noLetter at this ⊢; omega⟩, by simp [intOf]⟩
    · have HN := Lib.hid hn
      clear hn
      by_cases hc : (2000008 : Int) = c
      · subst hc
        go_wp2_with fail
        refine (l3Letter_any 68 _).mono ?_
        rintro e w1 ⟨rfl, rfl⟩
        rw [show letterK 68 = 2000008 from rfl]
        go_wp2_with fail
        go_ret
        exact ⟨rfl, rfl⟩
      · go_wp2_with fail
        refine (l3Letter_any 68 _).mono ?_
        rintro e w1 ⟨rfl, rfl⟩
        rw [show letterK 68 = 2000008 from rfl]
        go_wp2_with fail
        exact ⟨⟨4, by omega, by go_num, (by first | rfl | trivial), by have := HN.out; unfold noLetter at this ⊢; omega⟩, by simp [intOf]⟩
    · have HN := Lib.hid hn
      clear hn
      by_cases hc : (2000009 : Int) = c
      · subst hc
        go_wp2_with fail
        refine (l3Letter_any 72 _).mono ?_
        rintro e w1 ⟨rfl, rfl⟩
        rw [show letterK 72 = 2000009 from rfl]
        go_wp2_with fail
        go_ret
        exact ⟨rfl, rfl⟩
      · go_wp2_with fail
        refine (l3Letter_any 72 _).mono ?_
        rintro e w1 ⟨rfl, rfl⟩
        rw [show letterK 72 = 2000009 from rfl]
        go_wp2_with fail
        exact ⟨⟨5, by omega, by go_num, (by first | rfl | trivial), by have := HN.out; unfold noLetter at this ⊢; omega⟩, by simp [intOf]⟩
    · have HN := Lib.hid hn
      clear hn
      by_cases hc : (2000010 : Int) = c
      · subst hc
        go_wp2_with fail
        refine (l3Letter_any 70 _).mono ?_
        rintro e w1 ⟨rfl, rfl⟩
        rw [show letterK 70 = 2000010 from rfl]
        go_wp2_with fail
        go_ret
        exact ⟨rfl, rfl⟩
      · go_wp2_with fail
        refine (l3Letter_any 70 _).mono ?_
        rintro e w1 ⟨rfl, rfl⟩
        rw [show letterK 70 = 2000010 from rfl]
        go_wp2_with fail
        exact ⟨⟨6, by omega, by go_num, (by first | rfl | trivial), by have := HN.out; unfold noLetter at this ⊢; omega⟩, by simp [intOf]⟩
    · have hz : letterE c = 0 := by
        unfold noLetter at hn
        unfold letterE
        rw [if_neg (by omega), if_neg (by omega), if_neg (by omega), if_neg (by omega), if_neg (by omega), if_neg (by omega)]
      have HZ := Lib.hid hz
      clear hn hz
      go_wp2_with fail
      go_ret
      rw [HZ.out]
      exact ⟨rfl, rfl⟩

/-- no number among the first k is that of c -/
def noTilde (c : Int) (k : Nat) : Prop := (1 ≤ k → c ≠ 2000011) ∧ (2 ≤ k → c ≠ 2000012) ∧ (3 ≤ k → c ≠ 2000013) ∧ (4 ≤ k → c ≠ 2000014)

set_option maxRecDepth 100000 in
set_option maxHeartbeats 1000000 in
theorem l5Code_any (c : Int) (w : World) : Calls Tryz.prog 110 #[.int .i64 c] w fun e w' => e = .returned (.int .i64 (codeE c)) ∧ w = w' := by
  unfold codeE
  repeat' split
  all_goals
    go_enter Tryz.func110, Tryz.ntmps110
    go_wp2
    go_ret
    exact ⟨rfl, rfl⟩

set_option maxRecDepth 100000 in
set_option maxHeartbeats 1000000 in
theorem l5Wanted_any (md : Md) (b : Nat) (a : Int) (w : World) (h : AtL w b (mdL md)) : Calls Tryz.prog 44 #[.pointer (some ⟨b, 0, none⟩), .int .i64 a] w fun e w' => e = .returned (.bool (wantE md.mouse a)) ∧ w = w' := by
  obtain ⟨cu, co, mo, sg, pa⟩ := md
  obtain ⟨m0, m1, m2, m3, m4⟩ := AtL.five h
  dsimp only at *
  clear h
  by_cases h1 : mo = 1
  · subst h1
    go_enter Tryz.func44, Tryz.ntmps44
    go_wp2
    go_ret
    exact ⟨ret_bool (by simp [wantE]), rfl⟩
  by_cases h2 : mo = 2
  · subst h2
    go_enter Tryz.func44, Tryz.ntmps44
    go_wp2
    go_ret
    exact ⟨ret_bool (by simp [wantE]), rfl⟩
  · have HC : Hid (wantE mo a = (mo == 3)) := by simp [Hid, wantE, h1, h2]
    rw [HC.out]
    go_enter Tryz.func44, Tryz.ntmps44
    go_wp2
    go_ret
    exact ⟨ret_bool (by simp), rfl⟩

set_option maxRecDepth 100000 in
set_option maxHeartbeats 2000000 in
theorem l5Asked_any (md : Md) (e : Ev) (p : Option Addr) (c : Nat) (b g : Nat) (k : Int) (w : World) (h : AtL w b (mdL md)) (hE : AtL w g (evC e p c).toList) :
    Calls Tryz.prog 21 #[.pointer (some ⟨b, 0, none⟩), .pointer (some ⟨g, 0, none⟩), .int .i64 k] w fun en w' => en = .returned (.int .i64 (askE md e k)) ∧ Below w.heap.size w w' := by
  have HM := Lib.hid (fun W => specModesFault_any md W)
  have HF := Lib.hid (fun W => specEventFault_any l1Form_any e p c W)
  have HEE := Lib.hid hE
  obtain ⟨m0, m1, m2, m3, m4⟩ := AtL.five h
  clear h hE
  unfold askE
  by_cases hm : md.fault = 0
  · rw [if_neg (by simp [hm])]
    rw [hm] at HM
    by_cases hf : e.fault = 0
    · rw [if_neg (by simp [hf])]
      rw [hf] at HF
      by_cases hk : e.kind = k
      · rw [if_neg (by simp [hk])]
        obtain ⟨cu, co, mo, sg, pa⟩ := md
        obtain ⟨kind, code, mods, button, act, col, row, data⟩ := e
        unfold mdV evV evC at *
        dsimp only at *
        clear hm hf
        subst hk
        go_enter Tryz.func21, Tryz.ntmps21
        go_wp2_with fail
        refine (HM.out _).mono ?_
        rintro en w1 ⟨rfl, hb⟩
        have HB := Lib.hid hb
        have HE2 := Lib.hid (HEE.out.on hb)
        clear hb m0 m1 m2 m3 m4
        obtain ⟨z0, z1, z2, z3, z4, z5, z6, z7⟩ := AtL.eightS HE2.out
        go_wp2_with fail
        refine (HF.out _).mono ?_
        rintro en w2 ⟨rfl, hb⟩
        have HB2 := Lib.hid (below_on HB.out hb)
        have HE3 := Lib.hid (HE2.out.on hb)
        clear hb z0 z1 z2 z3 z4 z5 z6 z7
        obtain ⟨z0, z1, z2, z3, z4, z5, z6, z7⟩ := AtL.eightS HE3.out
        go_wp2_with fail
        go_ret
        exact ⟨rfl, HB2.out⟩
      · rw [if_pos hk]
        obtain ⟨cu, co, mo, sg, pa⟩ := md
        obtain ⟨kind, code, mods, button, act, col, row, data⟩ := e
        unfold mdV evV evC at *
        dsimp only at *
        clear hm hf
        go_enter Tryz.func21, Tryz.ntmps21
        go_wp2_with fail
        refine (HM.out _).mono ?_
        rintro en w1 ⟨rfl, hb⟩
        have HB := Lib.hid hb
        have HE2 := Lib.hid (HEE.out.on hb)
        clear hb m0 m1 m2 m3 m4
        obtain ⟨z0, z1, z2, z3, z4, z5, z6, z7⟩ := AtL.eightS HE2.out
        go_wp2_with fail
        refine (HF.out _).mono ?_
        rintro en w2 ⟨rfl, hb⟩
        have HB2 := Lib.hid (below_on HB.out hb)
        have HE3 := Lib.hid (HE2.out.on hb)
        clear hb z0 z1 z2 z3 z4 z5 z6 z7
        obtain ⟨z0, z1, z2, z3, z4, z5, z6, z7⟩ := AtL.eightS HE3.out
        go_wp2_with fail
        go_ret
        exact ⟨rfl, HB2.out⟩
    · rw [if_pos hf]
      generalize e.fault = kf at *
      obtain ⟨cu, co, mo, sg, pa⟩ := md
      obtain ⟨kind, code, mods, button, act, col, row, data⟩ := e
      unfold mdV evV evC at *
      dsimp only at *
      clear hm
      go_enter Tryz.func21, Tryz.ntmps21
      go_wp2_with fail
      refine (HM.out _).mono ?_
      rintro en w1 ⟨rfl, hb⟩
      have HB := Lib.hid hb
      have HE2 := Lib.hid (HEE.out.on hb)
      clear hb m0 m1 m2 m3 m4
      obtain ⟨z0, z1, z2, z3, z4, z5, z6, z7⟩ := AtL.eightS HE2.out
      go_wp2_with fail
      refine (HF.out _).mono ?_
      rintro en w2 ⟨rfl, hb⟩
      have HB2 := Lib.hid (below_on HB.out hb)
      clear hb z0 z1 z2 z3 z4 z5 z6 z7
      go_wp2_with fail
      go_ret
      exact ⟨rfl, HB2.out⟩
  · rw [if_pos hm]
    generalize md.fault = km at *
    obtain ⟨cu, co, mo, sg, pa⟩ := md
    unfold mdV evV evC at *
    dsimp only at *
    go_enter Tryz.func21, Tryz.ntmps21
    go_wp2_with fail
    refine (HM.out _).mono ?_
    rintro en w1 ⟨rfl, hb⟩
    have HB := Lib.hid hb
    clear hb m0 m1 m2 m3 m4
    go_wp2_with fail
    go_ret
    exact ⟨rfl, HB.out⟩

end Go.Proofs.YtjopjddhgaiddabGreatDoor

/- The model's encoder: l5Tilde, l5Seq, l5Plain. -/
namespace Go.Proofs.YtjopjddhgaiddabGreatDoor
open Go.RowKit
set_option linter.unusedVariables false
set_option linter.unusedSimpArgs false

theorem putB_neS (c : Int) : putB c ≠ [] := by
  intro h
  have h1 := put_small c
  have h2 := put_len (p := c)
  rw [h] at h2
  simp only [List.length_nil] at h2
  omega
theorem pb_lenS (priv : Bool) (nums : List Int) (fin : UInt8) (hin : inNum nums = true) (h4 : nums.length ≤ 4) : (pb priv nums fin).length ≤ 40 := by
  have h1 := jn_len nums hin
  have h2 : (mark priv).length ≤ 1 := by unfold mark; split <;> simp
  unfold pb
  simp only [List.length_append, List.length_cons, List.length_nil]
  omega

set_option maxRecDepth 100000 in
set_option maxHeartbeats 1000000 in
theorem l5Seq_any (p : Option Addr) (c : Nat) (nums : List Int) (fin : UInt8) (w : World) (h : Is w w.heap.size p nums) (hin : inNum nums = true) (h4 : nums.length ≤ 4) :
    Calls Tryz.prog 74 #[.slice p nums.length c, .int .u8 (fin.toNat : Int)] w (NewOwn w (seqB false nums fin)) := by
  obtain ⟨i0, hi, hz0, hz1, hz2⟩ := info_parts Tryz.info_u8
  have HI := Lib.hid (And.intro hi (And.intro hz0 (And.intro hz1 hz2)))
  clear hi hz0 hz1 hz2
  have HP := Lib.hid (fun A => l2Bytes_any false p c nums fin (w.alloc A) (h.alloc A) hin h4)
  have HL := Lib.hid (pb_lenS false nums fin hin h4)
  have hne : pb false nums fin ≠ [] := by unfold pb; simp
  have HO := Lib.hid (own_lit w [27, 91] #[.int .u8 27, .int .u8 91] w.heap.size 2 rfl rfl rfl (by simp))
  clear h hin h4
  unfold seqB
  generalize pb false nums fin = l at *
  go_enter Tryz.func74, Tryz.ntmps74
  go_wp2_with fail
  refine (HP.out _).mono ?_
  rintro e w1 ⟨v, rfl, ho, hb⟩
  obtain ⟨g1, cap1, hv, hlc⟩ := own_room ho hne
  subst hv
  have HO1 := Lib.hid (HO.out.on hb)
  have HB1 := Lib.hid (below_on (below_mk w _) hb)
  have HS1 := Lib.hid ho.bs.2
  have hlen := HL.out
  clear ho hb HP HO
  go_wp2_with (at_builtin; refine wpList_append_own _ rfl _ _ 24 rfl w.heap.size 5 i0 (.int .u8 0) 1 1 Tryz.underlying24 HI.out.1 HI.out.2.1 HI.out.2.2.1 HI.out.2.2.2 rfl (by decide) _ _ _ rfl HO1.out ⟨g1, 0, none⟩ l.length cap1 (l.map (fun x : UInt8 => Value.int .u8 (x.toNat : Int))) rfl (by simp) (news_bs HS1.out) (one_cells _) (by unfold maxLen; simp; omega) (by simp; omega) HB1.out.size ?_; intro v4 wA hownA hgrowA _)
  have HA := Lib.hid (grew2 HO1.out HB1.out hownA hgrowA)
  clear hownA hgrowA
  go_ret
  exact ⟨_, rfl, HA.out.1, HA.out.2⟩
theorem l5Seq_lit (cs : Array Value) (nums : List Int) (n : Int) (k : Nat) (w : World) (t : TypeId) (g : Nat) (hg : g = w.heap.size) (hcs : cs = (nums.map (Value.int .i64)).toArray) (hk : k = nums.length) (hin : inNum nums = true) (h4 : nums.length ≤ 4) (h0 : 0 ≤ n) (h1 : n ≤ 255) :
    Calls Tryz.prog 74 #[.slice (some ⟨g, 0, none⟩) k k, .int .u8 n] (w.alloc (.cells cs t)) (NewOwn (w.alloc (.cells cs t)) (seqB false nums (byteE n))) := by
  have := l5Seq_any (some ⟨g, 0, none⟩) k nums (byteE n) _ (is_lit w nums cs hcs t g hg) hin h4
  rw [byteE_val h0 h1] at this
  rw [← hk] at this
  exact this

set_option maxRecDepth 100000 in
set_option maxHeartbeats 2000000 in
theorem l5Tilde_any (c : Int) (w : World) : Calls Tryz.prog 75 #[.int .i64 c] w fun e w' => e = .returned (.int .i64 (tildeE c)) ∧ Below w.heap.size w w' := by
  have HA := Lib.hid (AtL.new w [.int .i64 2, .int .i64 3, .int .i64 5, .int .i64 6] 2)
  go_enter Tryz.func75, Tryz.ntmps75
  go_wp2_with fail
  go_loopw [7] (fun i wr => ∃ k : Nat, k ≤ 4 ∧ i = .int .i64 k ∧ AtL wr w.heap.size [.int .i64 2, .int .i64 3, .int .i64 5, .int .i64 6] ∧ Below w.heap.size w wr ∧ noTilde c k) (fun i _ => 4 - (intOf i).toNat)
  case atStart => exact ⟨0, by omega, rfl, HA.out, below_mk _ _, by simp [noTilde]⟩
  case round =>
    clear HA
    obtain ⟨k, hk, rfl, ha, hb, hn⟩ := hrel
    have HN := Lib.hid hn
    have HB := Lib.hid hb
    have HA := Lib.hid ha
    have a0 := ha.get 0 rfl
    have a1 := ha.get 1 rfl
    have a2 := ha.get 2 rfl
    have a3 := ha.get 3 rfl
    clear hn hb ha
    have hk6 : k = 0 ∨ k = 1 ∨ k = 2 ∨ k = 3 ∨ k = 4 := by omega
    rcases hk6 with rfl | rfl | rfl | rfl | rfl
    · by_cases hc : (2000011 : Int) = c
      · subst hc
        go_wp2_with fail
        refine (l3Tilde_any 2 _).mono ?_
        rintro e w1 ⟨rfl, hb1⟩
        rw [show tildeK 2 = 2000011 from rfl]
        have HB1 := Lib.hid (HB.out.trans (hb1.mono HB.out.size))
        have HA1 := Lib.hid (HA.out.on hb1)
        clear hb1 a0 a1 a2 a3
        go_wp2_with fail
        go_ret
        exact ⟨rfl, HB1.out⟩
      · go_wp2_with fail
        refine (l3Tilde_any 2 _).mono ?_
        rintro e w1 ⟨rfl, hb1⟩
        rw [show tildeK 2 = 2000011 from rfl]
        have HB1 := Lib.hid (HB.out.trans (hb1.mono HB.out.size))
        have HA1 := Lib.hid (HA.out.on hb1)
        clear hb1 a0 a1 a2 a3
        go_wp2_with fail
        exact ⟨⟨1, by omega, by go_num, HA1.out, HB1.out, by have := HN.out; unfold noTilde at this ⊢; omega⟩, by simp [intOf]⟩
    · by_cases hc : (2000012 : Int) = c
      · subst hc
        go_wp2_with fail
        refine (l3Tilde_any 3 _).mono ?_
        rintro e w1 ⟨rfl, hb1⟩
        rw [show tildeK 3 = 2000012 from rfl]
        have HB1 := Lib.hid (HB.out.trans (hb1.mono HB.out.size))
        have HA1 := Lib.hid (HA.out.on hb1)
        clear hb1 a0 a1 a2 a3
        go_wp2_with fail
        go_ret
        exact ⟨rfl, HB1.out⟩
      · go_wp2_with fail
        refine (l3Tilde_any 3 _).mono ?_
        rintro e w1 ⟨rfl, hb1⟩
        rw [show tildeK 3 = 2000012 from rfl]
        have HB1 := Lib.hid (HB.out.trans (hb1.mono HB.out.size))
        have HA1 := Lib.hid (HA.out.on hb1)
        clear hb1 a0 a1 a2 a3
        go_wp2_with fail
        exact ⟨⟨2, by omega, by go_num, HA1.out, HB1.out, by have := HN.out; unfold noTilde at this ⊢; omega⟩, by simp [intOf]⟩
    · by_cases hc : (2000013 : Int) = c
      · subst hc
        go_wp2_with fail
        refine (l3Tilde_any 5 _).mono ?_
        rintro e w1 ⟨rfl, hb1⟩
        rw [show tildeK 5 = 2000013 from rfl]
        have HB1 := Lib.hid (HB.out.trans (hb1.mono HB.out.size))
        have HA1 := Lib.hid (HA.out.on hb1)
        clear hb1 a0 a1 a2 a3
        go_wp2_with fail
        go_ret
        exact ⟨rfl, HB1.out⟩
      · go_wp2_with fail
        refine (l3Tilde_any 5 _).mono ?_
        rintro e w1 ⟨rfl, hb1⟩
        rw [show tildeK 5 = 2000013 from rfl]
        have HB1 := Lib.hid (HB.out.trans (hb1.mono HB.out.size))
        have HA1 := Lib.hid (HA.out.on hb1)
        clear hb1 a0 a1 a2 a3
        go_wp2_with fail
        exact ⟨⟨3, by omega, by go_num, HA1.out, HB1.out, by have := HN.out; unfold noTilde at this ⊢; omega⟩, by simp [intOf]⟩
    · by_cases hc : (2000014 : Int) = c
      · subst hc
        go_wp2_with fail
        refine (l3Tilde_any 6 _).mono ?_
        rintro e w1 ⟨rfl, hb1⟩
        rw [show tildeK 6 = 2000014 from rfl]
        have HB1 := Lib.hid (HB.out.trans (hb1.mono HB.out.size))
        have HA1 := Lib.hid (HA.out.on hb1)
        clear hb1 a0 a1 a2 a3
        go_wp2_with fail
        go_ret
        exact ⟨rfl, HB1.out⟩
      · go_wp2_with fail
        refine (l3Tilde_any 6 _).mono ?_
        rintro e w1 ⟨rfl, hb1⟩
        rw [show tildeK 6 = 2000014 from rfl]
        have HB1 := Lib.hid (HB.out.trans (hb1.mono HB.out.size))
        have HA1 := Lib.hid (HA.out.on hb1)
        clear hb1 a0 a1 a2 a3
        go_wp2_with fail
        exact ⟨⟨4, by omega, by go_num, HA1.out, HB1.out, by have := HN.out; unfold noTilde at this ⊢; omega⟩, by simp [intOf]⟩
    · have hz : tildeE c = 0 := by
        have hn := HN.out
        unfold noTilde at hn
        unfold tildeE
        rw [if_neg (by omega), if_neg (by omega), if_neg (by omega), if_neg (by omega)]
      have HZ := Lib.hid hz
      clear hz
      go_wp2_with fail
      go_ret
      rw [HZ.out]
      exact ⟨rfl, HB.out⟩

set_option maxRecDepth 100000 in
set_option maxHeartbeats 2000000 in
theorem l5Plain_special (kind c m bu ac cl ro : Int) (ds : Value) (g : Nat) (w : World) (hE : AtL w g [.int .i64 kind, .int .i64 c, .int .i64 m, .int .i64 bu, .int .i64 ac, .int .i64 cl, .int .i64 ro, ds]) (hs : special c = true) (h0 : 0 ≤ codeE c) (h1 : codeE c ≤ 255) :
    Calls Tryz.prog 109 #[.pointer (some ⟨g, 0, none⟩)] w fun en w' => ∃ v, en = .returned (.tuple #[v, .bool true]) ∧ Own w' w.heap.size v [byteE (codeE c)] ∧ Below w.heap.size w w' := by
  obtain ⟨z0, z1, z2, z3, z4, z5, z6, z7⟩ := AtL.eightS hE
  clear hE z0 z3 z4 z5 z6 z7
  have hw : IntKind.u8.wrap (codeE c) = codeE c := IntWalk.u8_in _ ⟨by omega, by omega⟩
  have HN := Lib.hid (new_one w (byteE (codeE c)) (codeE c) (byteE_val h0 (by omega)))
  have HQ := Lib.hid (fun W => l5Code_any c W)
  generalize codeE c = n at *
  go_enter Tryz.func109, Tryz.ntmps109
  go_wp2_with fail
  refine (specIsSpecial_any c _).mono ?_
  rintro e w1 ⟨rfl, rfl⟩
  rw [hs]
  go_wp2_with fail
  refine (HQ.out _).mono ?_
  rintro e w2 ⟨rfl, rfl⟩
  go_wp2_with fail
  go_ret2
  obtain ⟨v, he, ho, hb2⟩ := HN.out
  exact ⟨_, rfl, by injection he with he; rw [← he] at ho; simpa using ho, hb2⟩

set_option maxRecDepth 100000 in
set_option maxHeartbeats 2000000 in
theorem l5Plain_0 (kind c bu ac cl ro : Int) (ds : Value) (g : Nat) (w : World) (hE : AtL w g [.int .i64 kind, .int .i64 c, .int .i64 0, .int .i64 bu, .int .i64 ac, .int .i64 cl, .int .i64 ro, ds]) (hs : special c = false) (h0 : 0 ≤ c) (h1 : c ≤ 1114111) :
    Calls Tryz.prog 109 #[.pointer (some ⟨g, 0, none⟩)] w fun en w' => ∃ v, en = .returned (.tuple #[v, .bool true]) ∧ Own w' w.heap.size v (putB c) ∧ Below w.heap.size w w' := by
  obtain ⟨z0, z1, z2, z3, z4, z5, z6, z7⟩ := AtL.eightS hE
  clear hE z0 z3 z4 z5 z6 z7
  have HP := Lib.hid (fun W => l1Put_any c W h0 h1)
  generalize putB c = L at *
  go_enter Tryz.func109, Tryz.ntmps109
  go_wp2_with fail
  refine (specIsSpecial_any c _).mono ?_
  rintro e w1 ⟨rfl, rfl⟩
  rw [hs]
  go_wp2_with fail
  refine (HP.out _).mono ?_
  rintro e w2 ⟨v, rfl, ho, hb⟩
  have HE := Lib.hid (And.intro ho hb)
  clear ho hb
  go_wp2_with fail
  go_ret2
  exact ⟨_, rfl, HE.out.1, HE.out.2⟩

set_option maxRecDepth 100000 in
set_option maxHeartbeats 2000000 in
theorem l5Plain_2 (kind c bu ac cl ro : Int) (ds : Value) (g : Nat) (w : World) (hE : AtL w g [.int .i64 kind, .int .i64 c, .int .i64 2, .int .i64 bu, .int .i64 ac, .int .i64 cl, .int .i64 ro, ds]) (hs : special c = false) (h0 : 0 ≤ c) (h1 : c ≤ 1114111) :
    Calls Tryz.prog 109 #[.pointer (some ⟨g, 0, none⟩)] w fun en w' => ∃ v, en = .returned (.tuple #[v, .bool true]) ∧ Own w' w.heap.size v (putB c) ∧ Below w.heap.size w w' := by
  obtain ⟨z0, z1, z2, z3, z4, z5, z6, z7⟩ := AtL.eightS hE
  clear hE z0 z3 z4 z5 z6 z7
  have HP := Lib.hid (fun W => l1Put_any c W h0 h1)
  generalize putB c = L at *
  go_enter Tryz.func109, Tryz.ntmps109
  go_wp2_with fail
  refine (specIsSpecial_any c _).mono ?_
  rintro e w1 ⟨rfl, rfl⟩
  rw [hs]
  go_wp2_with fail
  refine (HP.out _).mono ?_
  rintro e w2 ⟨v, rfl, ho, hb⟩
  have HE := Lib.hid (And.intro ho hb)
  clear ho hb
  go_wp2_with fail
  go_ret2
  exact ⟨_, rfl, HE.out.1, HE.out.2⟩

set_option maxRecDepth 100000 in
set_option maxHeartbeats 2000000 in
theorem l5Plain_4b (kind c bu ac cl ro : Int) (ds : Value) (g : Nat) (w : World) (hE : AtL w g [.int .i64 kind, .int .i64 c, .int .i64 4, .int .i64 bu, .int .i64 ac, .int .i64 cl, .int .i64 ro, ds]) (hs : special c = false) (hc : c = 32) :
    Calls Tryz.prog 109 #[.pointer (some ⟨g, 0, none⟩)] w fun en w' => ∃ v, en = .returned (.tuple #[v, .bool true]) ∧ Own w' w.heap.size v [0] ∧ Below w.heap.size w w' := by
  obtain ⟨z0, z1, z2, z3, z4, z5, z6, z7⟩ := AtL.eightS hE
  clear hE z0 z3 z4 z5 z6 z7
  subst hc
  have HN := Lib.hid (new_one w 0 0 rfl)
  go_enter Tryz.func109, Tryz.ntmps109
  go_wp2_with fail
  refine (specIsSpecial_any 32 _).mono ?_
  rintro e w1 ⟨rfl, rfl⟩
  rw [hs]
  go_wp2_with fail
  go_ret2
  obtain ⟨v, he, ho, hb2⟩ := HN.out
  exact ⟨_, rfl, by injection he with he; rw [← he] at ho; simpa using ho, hb2⟩

set_option maxRecDepth 100000 in
set_option maxHeartbeats 2000000 in
theorem l5Plain_4l (kind c bu ac cl ro : Int) (ds : Value) (g : Nat) (w : World) (hE : AtL w g [.int .i64 kind, .int .i64 c, .int .i64 4, .int .i64 bu, .int .i64 ac, .int .i64 cl, .int .i64 ro, ds]) (hs : special c = false) (h97 : 97 ≤ c) (h122 : c ≤ 122) (h105 : ¬ c = 105) (h109 : ¬ c = 109) :
    Calls Tryz.prog 109 #[.pointer (some ⟨g, 0, none⟩)] w fun en w' => ∃ v, en = .returned (.tuple #[v, .bool true]) ∧ Own w' w.heap.size v [byteE (c - 96)] ∧ Below w.heap.size w w' := by
  obtain ⟨z0, z1, z2, z3, z4, z5, z6, z7⟩ := AtL.eightS hE
  clear hE z0 z3 z4 z5 z6 z7
  have h32 : ¬ c = 32 := by omega
  have hi : inR c 97 122 = true := by simp [inR, h97, h122]
  have hw : IntKind.u8.wrap (c - 97 + 1) = c - 97 + 1 := IntWalk.u8_in _ ⟨by omega, by omega⟩
  have HN := Lib.hid (new_one w (byteE (c - 96)) (c - 97 + 1) (by rw [byteE_val (by omega) (by omega)]; omega))
  go_enter Tryz.func109, Tryz.ntmps109
  go_wp2_with fail
  refine (specIsSpecial_any c _).mono ?_
  rintro e w1 ⟨rfl, rfl⟩
  rw [hs]
  go_wp2_with (go_at_call 70; refine (l1In_any _ _ _ _).mono ?_; rintro e w' ⟨rfl, rfl⟩; rw [hi])
  go_ret2
  obtain ⟨v, he, ho, hb2⟩ := HN.out
  exact ⟨_, rfl, by injection he with he; rw [← he] at ho; simpa using ho, hb2⟩

set_option maxRecDepth 100000 in
set_option maxHeartbeats 2000000 in
theorem l5Plain_4n (kind c bu ac cl ro : Int) (ds : Value) (g : Nat) (w : World) (hE : AtL w g [.int .i64 kind, .int .i64 c, .int .i64 4, .int .i64 bu, .int .i64 ac, .int .i64 cl, .int .i64 ro, ds]) (hs : special c = false) (h32 : ¬ c = 32) (hn : inR c 97 122 = false ∨ c = 105 ∨ c = 109) :
    Calls Tryz.prog 109 #[.pointer (some ⟨g, 0, none⟩)] w fun en w' => ∃ v, en = .returned (.tuple #[v, .bool false]) ∧ Own w' w.heap.size v [] ∧ Below w.heap.size w w' := by
  obtain ⟨z0, z1, z2, z3, z4, z5, z6, z7⟩ := AtL.eightS hE
  clear hE z0 z3 z4 z5 z6 z7
  rcases hn with hi | rfl | rfl
  · go_enter Tryz.func109, Tryz.ntmps109
    go_wp2_with fail
    refine (specIsSpecial_any c _).mono ?_
    rintro e w1 ⟨rfl, rfl⟩
    rw [hs]
    go_wp2_with (go_at_call 70; refine (l1In_any _ _ _ _).mono ?_; rintro e w' ⟨rfl, rfl⟩; rw [hi])
    go_ret2
    exact ⟨_, rfl, own_nil _ _, Below.refl _ _⟩
  · have hi : inR 105 97 122 = true := rfl
    go_enter Tryz.func109, Tryz.ntmps109
    go_wp2_with fail
    refine (specIsSpecial_any 105 _).mono ?_
    rintro e w1 ⟨rfl, rfl⟩
    rw [hs]
    go_wp2_with (go_at_call 70; refine (l1In_any _ _ _ _).mono ?_; rintro e w' ⟨rfl, rfl⟩; rw [hi])
    go_ret2
    exact ⟨_, rfl, own_nil _ _, Below.refl _ _⟩
  · have hi : inR 109 97 122 = true := rfl
    go_enter Tryz.func109, Tryz.ntmps109
    go_wp2_with fail
    refine (specIsSpecial_any 109 _).mono ?_
    rintro e w1 ⟨rfl, rfl⟩
    rw [hs]
    go_wp2_with (go_at_call 70; refine (l1In_any _ _ _ _).mono ?_; rintro e w' ⟨rfl, rfl⟩; rw [hi])
    go_ret2
    exact ⟨_, rfl, own_nil _ _, Below.refl _ _⟩

set_option maxRecDepth 100000 in
set_option maxHeartbeats 2000000 in
theorem l5Plain_6b (kind c bu ac cl ro : Int) (ds : Value) (g : Nat) (w : World) (hE : AtL w g [.int .i64 kind, .int .i64 c, .int .i64 6, .int .i64 bu, .int .i64 ac, .int .i64 cl, .int .i64 ro, ds]) (hs : special c = false) (hc : c = 32) :
    Calls Tryz.prog 109 #[.pointer (some ⟨g, 0, none⟩)] w fun en w' => ∃ v, en = .returned (.tuple #[v, .bool true]) ∧ Own w' w.heap.size v [0] ∧ Below w.heap.size w w' := by
  obtain ⟨z0, z1, z2, z3, z4, z5, z6, z7⟩ := AtL.eightS hE
  clear hE z0 z3 z4 z5 z6 z7
  subst hc
  have HN := Lib.hid (new_one w 0 0 rfl)
  go_enter Tryz.func109, Tryz.ntmps109
  go_wp2_with fail
  refine (specIsSpecial_any 32 _).mono ?_
  rintro e w1 ⟨rfl, rfl⟩
  rw [hs]
  go_wp2_with fail
  go_ret2
  obtain ⟨v, he, ho, hb2⟩ := HN.out
  exact ⟨_, rfl, by injection he with he; rw [← he] at ho; simpa using ho, hb2⟩

set_option maxRecDepth 100000 in
set_option maxHeartbeats 2000000 in
theorem l5Plain_6l (kind c bu ac cl ro : Int) (ds : Value) (g : Nat) (w : World) (hE : AtL w g [.int .i64 kind, .int .i64 c, .int .i64 6, .int .i64 bu, .int .i64 ac, .int .i64 cl, .int .i64 ro, ds]) (hs : special c = false) (h97 : 97 ≤ c) (h122 : c ≤ 122) (h105 : ¬ c = 105) (h109 : ¬ c = 109) :
    Calls Tryz.prog 109 #[.pointer (some ⟨g, 0, none⟩)] w fun en w' => ∃ v, en = .returned (.tuple #[v, .bool true]) ∧ Own w' w.heap.size v [byteE (c - 96)] ∧ Below w.heap.size w w' := by
  obtain ⟨z0, z1, z2, z3, z4, z5, z6, z7⟩ := AtL.eightS hE
  clear hE z0 z3 z4 z5 z6 z7
  have h32 : ¬ c = 32 := by omega
  have hi : inR c 97 122 = true := by simp [inR, h97, h122]
  have hw : IntKind.u8.wrap (c - 97 + 1) = c - 97 + 1 := IntWalk.u8_in _ ⟨by omega, by omega⟩
  have HN := Lib.hid (new_one w (byteE (c - 96)) (c - 97 + 1) (by rw [byteE_val (by omega) (by omega)]; omega))
  go_enter Tryz.func109, Tryz.ntmps109
  go_wp2_with fail
  refine (specIsSpecial_any c _).mono ?_
  rintro e w1 ⟨rfl, rfl⟩
  rw [hs]
  go_wp2_with (go_at_call 70; refine (l1In_any _ _ _ _).mono ?_; rintro e w' ⟨rfl, rfl⟩; rw [hi])
  go_ret2
  obtain ⟨v, he, ho, hb2⟩ := HN.out
  exact ⟨_, rfl, by injection he with he; rw [← he] at ho; simpa using ho, hb2⟩

set_option maxRecDepth 100000 in
set_option maxHeartbeats 2000000 in
theorem l5Plain_6n (kind c bu ac cl ro : Int) (ds : Value) (g : Nat) (w : World) (hE : AtL w g [.int .i64 kind, .int .i64 c, .int .i64 6, .int .i64 bu, .int .i64 ac, .int .i64 cl, .int .i64 ro, ds]) (hs : special c = false) (h32 : ¬ c = 32) (hn : inR c 97 122 = false ∨ c = 105 ∨ c = 109) :
    Calls Tryz.prog 109 #[.pointer (some ⟨g, 0, none⟩)] w fun en w' => ∃ v, en = .returned (.tuple #[v, .bool false]) ∧ Own w' w.heap.size v [] ∧ Below w.heap.size w w' := by
  obtain ⟨z0, z1, z2, z3, z4, z5, z6, z7⟩ := AtL.eightS hE
  clear hE z0 z3 z4 z5 z6 z7
  rcases hn with hi | rfl | rfl
  · go_enter Tryz.func109, Tryz.ntmps109
    go_wp2_with fail
    refine (specIsSpecial_any c _).mono ?_
    rintro e w1 ⟨rfl, rfl⟩
    rw [hs]
    go_wp2_with (go_at_call 70; refine (l1In_any _ _ _ _).mono ?_; rintro e w' ⟨rfl, rfl⟩; rw [hi])
    go_ret2
    exact ⟨_, rfl, own_nil _ _, Below.refl _ _⟩
  · have hi : inR 105 97 122 = true := rfl
    go_enter Tryz.func109, Tryz.ntmps109
    go_wp2_with fail
    refine (specIsSpecial_any 105 _).mono ?_
    rintro e w1 ⟨rfl, rfl⟩
    rw [hs]
    go_wp2_with (go_at_call 70; refine (l1In_any _ _ _ _).mono ?_; rintro e w' ⟨rfl, rfl⟩; rw [hi])
    go_ret2
    exact ⟨_, rfl, own_nil _ _, Below.refl _ _⟩
  · have hi : inR 109 97 122 = true := rfl
    go_enter Tryz.func109, Tryz.ntmps109
    go_wp2_with fail
    refine (specIsSpecial_any 109 _).mono ?_
    rintro e w1 ⟨rfl, rfl⟩
    rw [hs]
    go_wp2_with (go_at_call 70; refine (l1In_any _ _ _ _).mono ?_; rintro e w' ⟨rfl, rfl⟩; rw [hi])
    go_ret2
    exact ⟨_, rfl, own_nil _ _, Below.refl _ _⟩

set_option maxRecDepth 100000 in
set_option maxHeartbeats 2000000 in
theorem l5Plain_odd (kind c m bu ac cl ro : Int) (ds : Value) (g : Nat) (w : World) (hE : AtL w g [.int .i64 kind, .int .i64 c, .int .i64 m, .int .i64 bu, .int .i64 ac, .int .i64 cl, .int .i64 ro, ds]) (hs : special c = false) (e0 : ¬ m = 0) (e2 : ¬ m = 2) (e4 : ¬ m = 4) (e6 : ¬ m = 6) :
    Calls Tryz.prog 109 #[.pointer (some ⟨g, 0, none⟩)] w fun en w' => ∃ v, en = .returned (.tuple #[v, .bool false]) ∧ Own w' w.heap.size v [] ∧ Below w.heap.size w w' := by
  obtain ⟨z0, z1, z2, z3, z4, z5, z6, z7⟩ := AtL.eightS hE
  clear hE z0 z3 z4 z5 z6 z7
  go_enter Tryz.func109, Tryz.ntmps109
  go_wp2_with fail
  refine (specIsSpecial_any c _).mono ?_
  rintro e w1 ⟨rfl, rfl⟩
  rw [hs]
  go_wp2_with fail
  go_ret2
  exact ⟨_, rfl, own_nil _ _, Below.refl _ _⟩

theorem l5Plain_any (kind c m bu ac cl ro : Int) (ds : Value) (g : Nat) (w : World) (hE : AtL w g [.int .i64 kind, .int .i64 c, .int .i64 m, .int .i64 bu, .int .i64 ac, .int .i64 cl, .int .i64 ro, ds]) (h : Typed c m) :
    Calls Tryz.prog 109 #[.pointer (some ⟨g, 0, none⟩)] w fun en w' => ∃ v, en = .returned (.tuple #[v, .bool (!(plainE c m).isEmpty)]) ∧ Own w' w.heap.size v (plainE c m) ∧ Below w.heap.size w w' := by
  cases hs : special c
  · obtain ⟨hp, h32, h127⟩ := h.pt hs
    have hr := point_range hp
    by_cases e0 : m = 0
    · subst e0
      have hc : plainE c 0 = putB c := by unfold plainE; rw [if_neg (by simp [hs]), if_pos (.inl rfl)]
      rw [hc, show (!(putB c).isEmpty) = true by simp [putB_neS c]]
      exact l5Plain_0 kind c bu ac cl ro ds g w hE hs hr.1 hr.2.1
    by_cases e2 : m = 2
    · subst e2
      have hc : plainE c 2 = putB c := by unfold plainE; rw [if_neg (by simp [hs]), if_pos (.inr rfl)]
      rw [hc, show (!(putB c).isEmpty) = true by simp [putB_neS c]]
      exact l5Plain_2 kind c bu ac cl ro ds g w hE hs hr.1 hr.2.1
    by_cases h46 : m = 4 ∨ m = 6
    · have hc : plainE c m = ctrlE c := by unfold plainE; rw [if_neg (by simp [hs]), if_neg (by omega), if_pos h46]
      rw [hc]
      by_cases c32 : c = 32
      · have h1 : ctrlE c = [0] := by unfold ctrlE; rw [if_pos c32]
        rw [h1]
        rcases h46 with rfl | rfl
        · exact l5Plain_4b kind c bu ac cl ro ds g w hE hs c32
        · exact l5Plain_6b kind c bu ac cl ro ds g w hE hs c32
      by_cases cl' : (97 ≤ c ∧ c ≤ 122) ∧ ¬ c = 105 ∧ ¬ c = 109
      · have h1 : ctrlE c = [byteE (c - 96)] := by unfold ctrlE; rw [if_neg c32, if_neg (by omega), if_pos cl'.1]
        rw [h1]
        rcases h46 with rfl | rfl
        · exact l5Plain_4l kind c bu ac cl ro ds g w hE hs cl'.1.1 cl'.1.2 cl'.2.1 cl'.2.2
        · exact l5Plain_6l kind c bu ac cl ro ds g w hE hs cl'.1.1 cl'.1.2 cl'.2.1 cl'.2.2
      · have h1 : ctrlE c = [] := by
          unfold ctrlE
          rw [if_neg c32]
          split
          · rfl
          · rw [if_neg (by omega)]
        have hn : inR c 97 122 = false ∨ c = 105 ∨ c = 109 := by
          by_cases hx : 97 ≤ c ∧ c ≤ 122
          · right; omega
          · left; simp [inR]; omega
        rw [h1]
        rcases h46 with rfl | rfl
        · exact l5Plain_4n kind c bu ac cl ro ds g w hE hs c32 hn
        · exact l5Plain_6n kind c bu ac cl ro ds g w hE hs c32 hn
    · have hc : plainE c m = [] := by unfold plainE; rw [if_neg (by simp [hs]), if_neg (by omega), if_neg h46]
      rw [hc]
      exact l5Plain_odd kind c m bu ac cl ro ds g w hE hs e0 e2 (by omega) (by omega)
  · obtain ⟨g0, _, g2⟩ := h.code
    have hc : plainE c m = [byteE (codeE c)] := by unfold plainE; rw [if_pos hs]
    rw [hc]
    exact l5Plain_special kind c m bu ac cl ro ds g w hE hs g0 (g2 hs)

end Go.Proofs.YtjopjddhgaiddabGreatDoor
