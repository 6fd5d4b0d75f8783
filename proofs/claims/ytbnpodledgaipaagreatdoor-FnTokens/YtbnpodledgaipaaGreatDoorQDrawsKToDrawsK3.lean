/- The draws of chapter 3 over bytes: l3Piece. -/
import Derived.Test.YtbnpodledgaipaaGreatDoorQDrawsToDraws9
import Derived.Test.YtbnpodledgaipaaGreatDoorQBytesToCells
import Derived.Laws.IdiomStrings
import Derived.Lib.AppendStr
namespace Go.Proofs.YtbnpodledgaipaaGreatDoor
open Go.RowKit
set_option linter.unusedVariables false

/-- block g holds n strings of at most k bytes -/
def StrsB (w : World) (g n k : Nat) : Prop := g < w.heap.size ∧ ∀ i, i < n → ∃ s : ByteArray, w.cell? ⟨g, i, none⟩ = some (.string s) ∧ s.size ≤ k
theorem StrsB.far {w w' : World} {g n k : Nat} (h : StrsB w g n k) {row : Option Nat} (hg : w.grownBy w' row) (hr : some g ≠ row) : StrsB w' g n k :=
  ⟨Nat.lt_of_lt_of_le h.1 hg.size, fun i hi => by
    obtain ⟨s, hc, hs⟩ := h.2 i hi
    exact ⟨s, (World.cell?_of_block (a := ⟨g, i, none⟩) (hg.block g h.1 hr)).trans hc, hs⟩⟩
/-- a value that is a string of at most k bytes -/
def strCell (k : Nat) : Value → Bool
  | .string s => decide (s.size ≤ k)
  | _ => false
theorem StrsB.new (w : World) (cs : Array Value) (t : TypeId) (n k : Nat) (hn : cs.size = n) (h : cs.toList.all (strCell k) = true) : StrsB (w.alloc (.cells cs t)) w.heap.size n k := by
  refine ⟨by simp, fun i hi => ?_⟩
  have hi' : i < cs.size := by omega
  have h1 := List.all_eq_true.1 h cs[i] (by simp)
  have h2 : (w.alloc (.cells cs t)).cell? ⟨w.heap.size, i, none⟩ = some cs[i] := by simp [hi']
  generalize cs[i] = v at h1 h2
  cases v <;> simp [strCell] at h1
  exact ⟨_, h2, h1⟩

/-- '[]byte(s)': where it lies, its room -/
theorem conv_any (w : World) (s : ByteArray) : ∃ (cap : Nat) (w' : World), (convert 9 22 (.string s)).run Tryz.prog w = .ok (.slice (some ⟨w.heap.size, 0, none⟩) s.data.toList.length cap) w' ∧ s.data.toList.length ≤ cap ∧ Bs w' w'.heap.size (some ⟨w.heap.size, 0, none⟩) s.data.toList ∧ Below w.heap.size w w' ∧ s.data.toList.length = s.size := by
  have hr := run_bytes_of_string (P := Tryz.prog) w 9 22 5 s Tryz.underlying9 Tryz.underlying22 Tryz.underlying5
  have hsz : s.data.toList.length = s.size := Array.length_toList
  have hge := grownCap_ge w s.size 0 5
  refine ⟨_, _, by rw [hsz]; exact hr, by rw [hsz]; exact hge, fun hne => ⟨w.heap.size, 0, rfl, by simp, fun i hi => ?_⟩, ?_, hsz⟩
  · have hi' : i < s.size := by omega
    have hb : (bytesRow s (grownCap w s.size 0 5))[i]? = some (.int .u8 ((s.data.toList.getD i 0).toNat : Int)) := by
      unfold bytesRow
      have hi2 : i < s.data.size := hi'
      rw [Array.getElem?_append_left (by rw [Array.size_map]; exact hi2), Array.getElem?_map, Array.getElem?_eq_getElem hi2, List.getD_eq_getElem?_getD, Array.getElem?_toList, Array.getElem?_eq_getElem hi2]
      rfl
    rw [Nat.zero_add]
    exact (cell_of_row _ w.heap.size i _ _ _ (heap_alloc_new w.drew _)).trans hb
  · exact ⟨rfl, rfl, rfl, by simp, fun j hj => Below.heap_alloc w.drew _ j hj⟩

/-- what a draw of a piece leaves -/
def PiecePost (w : World) (g : Nat) (q : Option Addr) (c : Nat) (l : List UInt8) (N : Nat) (e : Ending) (w' : World) : Prop :=
  ∃ (b cap : Nat) (bs : List UInt8), e = .returned (.slice (some ⟨b, 0, none⟩) bs.length cap) ∧ bs.length ≤ 26 ∧ bs.length ≤ cap ∧ w.heap.size ≤ b ∧ Bs w' w'.heap.size (some ⟨b, 0, none⟩) bs ∧ Src w' g q c l (N + 1) ∧ w.grownBy w' (some g)

set_option maxRecDepth 100000 in
set_option maxHeartbeats 2000000 in
theorem l3Piece_any (g : Nat) (q : Option Addr) (c N : Nat) (l : List UInt8) (w : World) (h : Src w g q c l N) (hl : l.length ≤ 1048576) (hn : N ≤ 1000000) :
    Calls Tryz.prog 106 #[.pointer (some ⟨g, 0, none⟩)] w (PiecePost w g q c l N) := by
  have HS := Lib.hid h
  have hgw := h.choose_spec.2.2
  have HCB := Lib.hid (fun (w : World) (s : ByteArray) => conv_any w s)
  clear h
  go_enter Tryz.func106, Tryz.ntmps106
  go_wp2_with fail
  refine (l1Next_src _ q c N l 42 _ (HS.out.grown (World.grownBy_alloc w _ none) (by simp)) hl hn (by omega) (by omega)).mono ?_
  rintro e w2 ⟨v, rfl, ⟨hv0, hv1⟩, hs2, hg2⟩
  obtain ⟨i, rfl⟩ := Int.eq_ofNat_of_zero_le hv0
  obtain ⟨s, hc2, hsz⟩ := ((StrsB.new w _ _ 42 26 (by rfl) (by rfl)).far hg2 (by simp; omega)).2 i (by omega)
  obtain ⟨cap, w3, hrun, hcap, hbs, hb3, hlen⟩ := HCB.out w2 s
  have hsz2 := hg2.size
  rw [World.size_alloc] at hsz2
  have HR := Lib.hid (And.intro hcap (And.intro hbs (And.intro (hs2.below hb3) (grownBy_on (grownBy_on (World.grownBy_alloc w _ (some g)) hg2 (by simp)) (grown_of_below hb3 none) (by simp)))))
  clear hs2 hg2 hcap hbs hb3 HS
  go_wp2_with fail
  go_ret
  exact ⟨_, _, _, rfl, by omega, HR.out.1, by omega, HR.out.2.1, HR.out.2.2.1, HR.out.2.2.2⟩

end Go.Proofs.YtbnpodledgaipaaGreatDoor

/- The draws of chapter 3 over bytes: l3Bytes. -/
namespace Go.Proofs.YtbnpodledgaipaaGreatDoor
open Go.RowKit
set_option linter.unusedVariables false

theorem Bs.row {w : World} {B b : Nat} {bs : List UInt8} (h : Bs w B (some ⟨b, 0, none⟩) bs) : ∀ j u, (bs.map fun x : UInt8 => Value.int .u8 (x.toNat : Int))[j]? = some u → w.cell? ((⟨b, 0, none⟩ : Addr).add j) = some u := by
  intro j u hj
  have hlt : j < bs.length := by
    rcases Nat.lt_or_ge j bs.length with h | h
    · exact h
    · rw [List.getElem?_eq_none (by simpa using h)] at hj; cases hj
  obtain ⟨b', off, e, _, hc⟩ := h (by intro e; simp [e] at hlt)
  simp only [Option.some.injEq, Addr.mk.injEq] at e
  obtain ⟨rfl, rfl, -⟩ := e
  have ea : (⟨b, 0, none⟩ : Addr).add j = ⟨b, 0 + j, none⟩ := by simp [Addr.add]; omega
  rw [ea]
  refine (hc j hlt).trans ?_
  simp [hlt] at hj ⊢
  exact hj

/-- what the loop keeps -/
def L3Rel (w : World) (g : Nat) (q : Option Addr) (c : Nat) (l : List UInt8) (N most : Nat) (out n : Value) (wr : World) : Prop :=
  ∃ (j i : Nat) (bs : List UInt8), n = .int .i64 j ∧ i + j ≤ most ∧ bs.length ≤ 26 * i ∧ Own wr w.heap.size out bs ∧ Src wr g q c l (N + 1 + i) ∧ w.grownBy wr (some g) ∧ out ≠ .slice none 0 0

/-- what a draw of bytes out of a source leaves -/
def BytesPost (w : World) (g : Nat) (q : Option Addr) (c : Nat) (l : List UInt8) (N most : Nat) (e : Ending) (w' : World) : Prop :=
  ∃ (b cap : Nat) (bs : List UInt8), e = .returned (.slice (some ⟨b, 0, none⟩) bs.length cap) ∧ bs.length ≤ 26 * most ∧ bs.length ≤ cap ∧ w.heap.size ≤ b ∧ Bs w' w'.heap.size (some ⟨b, 0, none⟩) bs ∧ Src w' g q c l (N + most + 3) ∧ w.grownBy w' (some g)

set_option maxRecDepth 100000 in
set_option maxHeartbeats 2000000 in
theorem l3Bytes_any (g : Nat) (q : Option Addr) (c N : Nat) (l : List UInt8) (most : Nat) (w : World) (h : Src w g q c l N) (hl : l.length ≤ 1048576) (hn : N ≤ 100000) (hm : most ≤ 8) :
    Calls Tryz.prog 57 #[.pointer (some ⟨g, 0, none⟩), .int .i64 (most : Int)] w (BytesPost w g q c l N most) := by
  have HS := Lib.hid h
  have hgw := h.choose_spec.2.2
  clear h
  obtain ⟨i0, hi, hz0, hz1, hz2⟩ := info_parts Tryz.info_u8
  have HI := Lib.hid (And.intro hi (And.intro hz0 (And.intro hz1 hz2)))
  clear hi hz0 hz1 hz2
  go_enter Tryz.func57, Tryz.ntmps57
  go_wp2_with fail
  refine (l1Next_src _ q c N l ((most : Int) + 1) _ (HS.out.grown (World.grownBy_alloc w _ none) (by simp)) hl (by omega) (by omega) (by omega)).mono ?_
  rintro e w2 ⟨v, rfl, ⟨hv0, hv1⟩, hs2, hg2⟩
  obtain ⟨k, rfl⟩ := Int.eq_ofNat_of_zero_le hv0
  have HST : Hid (L3Rel w g q c l N most (.slice (some ⟨w.heap.size, 0, none⟩) 0 0) (.int .i64 (k : Int)) w2) := ⟨k, 0, [], rfl, by omega, by simp, (own_lit w [] _ _ _ rfl rfl rfl (by simp)).far hg2 (fun j hj => by simp [Value.ownBlock] at hj; simp; omega), hs2, grownBy_on (World.grownBy_alloc w _ (some g)) hg2 (by simp), by simp⟩
  clear hs2 hg2 hv0 hv1 HS
  go_wp2_with fail
  go_loopw [5, 6] (fun out n wr => L3Rel w g q c l N most out n wr) (fun _ n _ => (intOf n).toNat)
  case atStart => exact HST.out
  case round =>
    obtain ⟨j, i, bs, rfl, hij, hbl, ho, hs, hw, hnn⟩ := hrel
    have HO := Lib.hid ho
    have HS := Lib.hid hs
    have HW := Lib.hid hw
    have HNN := Lib.hid hnn
    have hwz := hw.size
    have hb208 : bs.length ≤ 208 := by omega
    clear ho hs hw hnn HST
    by_cases hpos : (0 : Int) < (j : Int)
    · go_wp2_with fail
      refine (l3Piece_any _ q c _ l _ HS.out hl (by omega)).mono ?_
      rintro e w3 ⟨b3, cap3, b3s, rfl, h26, hcap3, hb3, hbs3, hs3, hg3⟩
      have HB3 := Lib.hid hbs3.row
      have HO3 := Lib.hid (HO.out.far hg3 (fun j hj => by have := (HO.out.lt j hj).1; simp; omega))
      have HS3 := Lib.hid hs3
      have HW3 := Lib.hid (grownBy_on HW.out hg3 (by simp))
      have hsz3 := hg3.size
      clear hbs3 hs3 hg3
      go_wp2_with (at_builtin; refine wpList_append_own _ rfl _ _ 22 rfl w.heap.size 5 i0 (.int .u8 0) 1 1 Tryz.underlying22 HI.out.1 HI.out.2.1 HI.out.2.2.1 HI.out.2.2.2 rfl (by decide) _ _ _ rfl HO3.out ⟨b3, 0, none⟩ b3s.length cap3 (b3s.map fun x : UInt8 => Value.int .u8 (x.toNat : Int)) rfl (by simp) HB3.out ?c2 ?c3 ?c4 ?c5 ?_)
      case c2 => intro u hu; simp at hu; obtain ⟨x, _, rfl⟩ := hu; rfl
      case c3 => unfold maxLen; omega
      case c4 => omega
      case c5 => omega
      intro v' w4 hown' hgrow hnil
      have hn4 : v' ≠ .slice none 0 0 := by
        intro e
        first
          | exact hnil e
          | exact HNN.out (hnil e)
          | exact HNN.out (hnil e).1
          | exact HNN.out (hnil.1 e).1
          | exact HNN.out (hnil.1 e)
      have ho4 : Own w4 w.heap.size v' (bs ++ b3s) := by unfold Own; rw [List.map_append, List.length_append]; exact hown'
      have HEND : Hid (L3Rel w g q c l N most v' (.int .i64 ((j : Int) - 1)) w4) := ⟨j - 1, i + 1, bs ++ b3s, by congr 1; omega, by omega, by simp; omega, ho4, (HS3.out.grown hgrow (HO.out.past hgw)).more (by omega), grownBy_on HW3.out hgrow (fun j hj => .inl (HO.out.lt j hj).1), hn4⟩
      clear hown' hgrow hnil hn4 ho4 HB3 HO3 HS3 HW3 HO HS HW HNN
      go_wp2_with fail
      exact ⟨HEND.out, by simp [intOf]; omega⟩
    · obtain ⟨b, cap, rfl, hbb, hbz, hcap, hmax, hcell⟩ := HO.out.place HNN.out
      clear hcell
      go_wp2_with fail
      · refine (l1Chance_any _ q c _ l 4 _ HS.out hl (by omega) (by omega) (by omega)).mono ?_
        rintro e w3 ⟨pr, rfl, hs3, hg3⟩
        have HO3 := Lib.hid (HO.out.far hg3 (fun j hj => by have := (HO.out.lt j hj).1; simp; omega))
        have HS3 := Lib.hid hs3
        have HW3 := Lib.hid (grownBy_on HW.out hg3 (by simp))
        clear hs3 hg3 HO HS HW
        cases pr
        · go_wp2_with fail
          go_ret
          exact ⟨_, _, bs, rfl, by omega, hcap, hbb, HO3.out.bs.2, HS3.out.more (by omega), HW3.out⟩
        · go_wp2_with fail
          refine (l1Next_src _ q c _ l ((bs.length : Int) + 1) _ HS3.out hl (by omega) (by omega) (by omega)).mono ?_
          rintro e w4 ⟨v4, rfl, ⟨hn0, hn1⟩, hs4, hg4⟩
          obtain ⟨n, rfl⟩ := Int.eq_ofNat_of_zero_le hn0
          have HO4 := Lib.hid (HO3.out.far hg4 (fun j hj => by have := (HO3.out.lt j hj).1; simp; omega))
          have HS4 := Lib.hid hs4
          have HW4 := Lib.hid (grownBy_on HW3.out hg4 (by simp))
          have hnc : (n : Int) ≤ (cap : Int) := by omega
          have hnc' : n ≤ cap := by omega
          have hnl : n ≤ bs.length := by omega
          clear hs4 hg4 HO3 HS3 HW3 hmax
          go_wp2
          go_ret
          have hlt : (bs.take n).length = n := by rw [List.length_take]; omega
          exact ⟨b, cap, bs.take n, by rw [hlt]; rfl, by omega, by omega, hbb, HO4.out.bs.2.take n, HS4.out.more (by omega), HW4.out⟩
      · go_ret
        exact ⟨_, _, bs, rfl, by omega, hcap, hbb, HO.out.bs.2, HS.out.more (by omega), HW.out⟩

/-- what a draw of bytes from a code leaves: at most M bytes -/
def AnyBm (w : World) (M : Nat) (e : Ending) (w' : World) : Prop :=
  ∃ (b cap : Nat) (bs : List UInt8), e = .returned (.slice (some ⟨b, 0, none⟩) bs.length cap) ∧ bs.length ≤ M ∧ bs.length ≤ cap ∧ Bs w' w'.heap.size (some ⟨b, 0, none⟩) bs ∧ Below w.heap.size w w'

set_option maxRecDepth 100000 in
set_option maxHeartbeats 1000000 in
theorem drawFirstToken_any (q : Option Addr) (c : Nat) (l : List UInt8) (w : World) (h : Bs w w.heap.size q l) (hl : l.length ≤ 1048576) :
    Calls Tryz.prog 11 #[.slice q l.length c] w (AnyBm w 78) := by
  have H := Lib.hid (l1Source_any q c l w h)
  clear h
  go_enter Tryz.func11, Tryz.ntmps11
  go_wp2_with fail
  refine H.out.mono ?_
  rintro e w1 ⟨rfl, hs1, hb1⟩
  have HS1 := Lib.hid hs1
  have HB1 := Lib.hid hb1
  clear hs1 hb1
  go_wp2_with fail
  refine (l3Bytes_any _ q c 0 l 3 _ HS1.out hl (by omega) (by omega)).mono ?_
  rintro e w2 ⟨b, cap, bs, rfl, hlen, hcap, hbb, hbs, hs2, hg2⟩
  have HE := Lib.hid (And.intro hbs (HB1.out.grown hg2 HB1.out.size (by simp)))
  clear hbs hs2 hg2
  go_wp2_with fail
  go_ret
  exact ⟨b, cap, bs, rfl, by omega, hcap, HE.out.1, HE.out.2⟩

end Go.Proofs.YtbnpodledgaipaaGreatDoor

/- The draws of chapter 3 over bytes: DrawFirstPaste. -/
namespace Go.Proofs.YtbnpodledgaipaaGreatDoor
open Go.RowKit
set_option linter.unusedVariables false

set_option maxRecDepth 100000 in
set_option maxHeartbeats 2000000 in
theorem drawFirstPaste_any (q : Option Addr) (c : Nat) (l : List UInt8) (w : World) (h : Bs w w.heap.size q l) (hl : l.length ≤ 1048576) :
    Calls Tryz.prog 13 #[.slice q l.length c] w (AnyBm w 50) := by
  have H := Lib.hid (l1Source_any q c l w h)
  clear h
  obtain ⟨i0, hi, hz0, hz1, hz2⟩ := info_parts Tryz.info_u8
  have HI := Lib.hid (And.intro hi (And.intro hz0 (And.intro hz1 hz2)))
  clear hi hz0 hz1 hz2
  go_enter Tryz.func13, Tryz.ntmps13
  go_wp2_with fail
  refine H.out.mono ?_
  rintro e w1 ⟨rfl, hs1, hb1⟩
  have HS1 := Lib.hid hs1
  have HB1 := Lib.hid hb1
  clear hs1 hb1
  go_wp2_with fail
  refine (l1Pick_lit _ q c 0 l _ HS1.out hl (by omega) [0, 0, 3, 31, 32, 40] 6 rfl (fun v => 0 ≤ v ∧ v ≤ 40) (by omega) (by omega) _ rfl _ (by simp)).mono ?_
  rintro e w2 ⟨v, rfl, ⟨hv0, hv1⟩, hs2, hg2⟩
  obtain ⟨k, rfl⟩ := Int.eq_ofNat_of_zero_le hv0
  have HS2 := Lib.hid hs2
  have HB2 := Lib.hid (HB1.out.grown hg2 HB1.out.size (by simp))
  clear hs2 hg2 HB1 HS1 H
  go_wp2_with fail
  refine (l1Some_plus _ q c _ l k _ HS2.out hl (by omega)).mono ?_
  rintro e w3 ⟨vb, bs, rfl, hk, ho3, hs3, hg3, hnn⟩
  have hbs40 : bs.length ≤ 40 := by omega
  subst hk
  have hgz : w.heap.size < w2.heap.size := HS2.out.choose_spec.2.2
  have HO3 := Lib.hid ho3
  have HS3 := Lib.hid hs3
  have HB3 := Lib.hid (HB2.out.grown hg3 HB2.out.size (by simp))
  have HN3 := Lib.hid hnn
  have hsz3 := hg3.size
  clear ho3 hs3 hg3 hnn HS2 HB2
  go_wp2_with fail
  refine (l1Next_src _ q c _ l 3 _ HS3.out hl (by omega) (by omega) (by omega)).mono ?_
  rintro e w4 ⟨v4, rfl, ⟨hm0, hm1⟩, hs4, hg4⟩
  obtain ⟨m, rfl⟩ := Int.eq_ofNat_of_zero_le hm0
  have HO4 := Lib.hid (HO3.out.far hg4 (fun j hj => by have := (HO3.out.lt j hj).1; simp; omega))
  have HS4 := Lib.hid hs4
  have HB4 := Lib.hid (HB3.out.grown hg4 HB3.out.size (by simp))
  have hsz4 := hg4.size
  clear hs4 hg4 HO3 HS3 HB3
  have hm : m = 0 ∨ m = 1 ∨ m = 2 := by omega
  rcases hm with rfl | rfl | rfl
  · clear hm0 hm1
    obtain ⟨str, hs6⟩ : ∃ str : ByteArray, str = ⟨#[27, 91, 50, 48, 49, 126]⟩ := ⟨_, rfl⟩
    have hstr : str.data.toList.length = str.size := Array.length_toList
    have hstr6 : str.size ≤ 6 := by rw [hs6]; exact Nat.le_refl _
    have H6 := Lib.hid hs6
    clear hs6
    have HOs := HO4
    have HSs := HS4
    have HBs := HB4
    go_wp2_with (at_builtin; refine Lib.wpList_append_own_string _ rfl _ _ 22 9 rfl w2.heap.size 5 i0 Tryz.underlying22 Tryz.underlying9 HI.out.1 HI.out.2.1 HI.out.2.2.1 HI.out.2.2.2 _ _ _ rfl HOs.out str (by rw [H6.out]; rfl) ?c1 ?c2 ?c3 ?_)
    case c1 => unfold maxLen; omega
    case c2 => omega
    case c3 => omega
    intro v5 w5 hown5 hgrow5 hnil5
    have hn5 : v5 ≠ .slice none 0 0 := by
      intro e
      first
        | exact hnil5 e
        | exact HN3.out (hnil5 e)
        | exact HN3.out (hnil5 e).1
        | exact HN3.out (hnil5.1 e).1
    have HOx : Hid (Own w5 w2.heap.size v5 (bs ++ str.data.toList)) := by
      show Own w5 w2.heap.size v5 (bs ++ str.data.toList)
      unfold Own
      rw [List.map_append, List.length_append, hstr]
      exact hown5
    have HSx := Lib.hid (HSs.out.grown hgrow5 (HOs.out.past hgz))
    have HBx := Lib.hid (HBs.out.grown hgrow5 HBs.out.size (fun j hj => by have := (HOs.out.lt j hj).1; omega))
    have HNx := Lib.hid hn5
    have hsz5 := hgrow5.size
    have hxs : (bs ++ str.data.toList).length ≤ 46 := by rw [List.length_append]; omega
    clear hown5 hgrow5 hnil5 hn5 HOs HSs HBs HO4 HS4 HB4
    generalize bs ++ str.data.toList = xs at *
    go_wp2_with fail
    refine (l1Pick_lit _ q c _ l _ HSx.out hl (by omega) [0, 0, 4] 3 rfl (fun v => 0 ≤ v ∧ v ≤ 4) (by omega) (by omega) _ rfl _ (by simp)).mono ?_
    rintro e w6 ⟨v6, rfl, ⟨hk0, hk1⟩, hs6, hg6⟩
    obtain ⟨k6, rfl⟩ := Int.eq_ofNat_of_zero_le hk0
    have HO6 := Lib.hid (HOx.out.far hg6 (fun j hj => by have := (HOx.out.lt j hj).1; simp; omega))
    have HS6 := Lib.hid hs6
    have HB6 := Lib.hid (HBx.out.grown hg6 HBx.out.size (by simp))
    have hsz6 := hg6.size
    clear hs6 hg6 HOx HSx HBx
    go_wp2_with fail
    refine (l1Some_plus _ q c _ l k6 _ HS6.out hl (by omega)).mono ?_
    rintro e w7 ⟨vc, cs, rfl, hk7, ho7, hs7, hg7, hnn7⟩
    have hcs4 : cs.length ≤ 4 := by omega
    subst hk7
    obtain ⟨b7, c7, rfl, hb7, hbz7, hcap7, _, hcell7⟩ := ho7.place hnn7
    have HR7 := Lib.hid ho7.bs.2.row
    have HO7 := Lib.hid (HO6.out.far hg7 (fun j hj => by have := (HO6.out.lt j hj).1; simp; omega))
    have HB7 := Lib.hid (HB6.out.grown hg7 HB6.out.size (by simp))
    have hsz7 := hg7.size
    clear ho7 hs7 hg7 hnn7 hcell7 HO6 HS6 HB6
    go_wp2_with (at_builtin; refine wpList_append_own _ rfl _ _ 22 rfl w2.heap.size 5 i0 (.int .u8 0) 1 1 Tryz.underlying22 HI.out.1 HI.out.2.1 HI.out.2.2.1 HI.out.2.2.2 rfl (by decide) _ _ _ rfl HO7.out ⟨b7, 0, none⟩ cs.length c7 (cs.map fun x : UInt8 => Value.int .u8 (x.toNat : Int)) rfl (by simp) HR7.out ?c2 ?c3 ?c4 ?c5 ?_)
    case c2 => intro u hu; simp at hu; obtain ⟨x, _, rfl⟩ := hu; rfl
    case c3 => unfold maxLen; omega
    case c4 => omega
    case c5 => omega
    intro v8 w8 hown8 hgrow8 hnil8
    have hn8 : v8 ≠ .slice none 0 0 := by
      intro e
      first
        | exact hnil8 e
        | exact HNx.out (hnil8 e)
        | exact HNx.out (hnil8 e).1
        | exact HNx.out (hnil8.1 e).1
        | exact HNx.out (hnil8.1 e)
    have ho8 : Own w8 w2.heap.size v8 (xs ++ cs) := by unfold Own; rw [List.map_append, List.length_append]; exact hown8
    obtain ⟨b8, c8, rfl, hb8, hbz8, hcap8, _, _⟩ := ho8.place hn8
    have HE := Lib.hid (And.intro ho8.bs.2 (HB7.out.grown hgrow8 HB7.out.size (fun j hj => by have := (HO7.out.lt j hj).1; omega)))
    have hlen8 : (xs ++ cs).length ≤ 50 := by rw [List.length_append]; omega
    clear hown8 hgrow8 hnil8 hn8 ho8 HR7 HO7 HB7
    go_wp2_with fail
    go_ret
    exact ⟨b8, c8, xs ++ cs, rfl, hlen8, hcap8, HE.out.1, HE.out.2⟩
  · clear hm0 hm1
    go_wp2_with fail
    refine (l1Next_src _ q c _ l 7 _ HS4.out hl (by omega) (by omega) (by omega)).mono ?_
    rintro e w4' ⟨v5, rfl, ⟨hn0, hn1⟩, hs5, hg5⟩
    obtain ⟨n, rfl⟩ := Int.eq_ofNat_of_zero_le hn0
    have HOs := Lib.hid (HO4.out.far hg5 (fun j hj => by have := (HO4.out.lt j hj).1; simp; omega))
    have HSs := Lib.hid hs5
    have HBs := Lib.hid (HB4.out.grown hg5 HB4.out.size (by simp))
    have hsz5' := hg5.size
    clear hs5 hg5
    obtain ⟨str, hs6⟩ : ∃ str : ByteArray, str = (⟨#[27, 91, 50, 48, 49, 126]⟩ : ByteArray).extract 0 n := ⟨_, rfl⟩
    have hstr : str.data.toList.length = str.size := Array.length_toList
    have hstr6 : str.size ≤ 6 := by rw [hs6, ByteArray.size_extract]; have : (⟨#[27, 91, 50, 48, 49, 126]⟩ : ByteArray).size = 6 := rfl; omega
    have H6 := Lib.hid hs6
    clear hs6
    go_wp2_with (at_builtin; refine Lib.wpList_append_own_string _ rfl _ _ 22 9 rfl w2.heap.size 5 i0 Tryz.underlying22 Tryz.underlying9 HI.out.1 HI.out.2.1 HI.out.2.2.1 HI.out.2.2.2 _ _ _ rfl HOs.out str (by rw [H6.out]; rfl) ?c1 ?c2 ?c3 ?_)
    case c1 => unfold maxLen; omega
    case c2 => omega
    case c3 => omega
    intro v5 w5 hown5 hgrow5 hnil5
    have hn5 : v5 ≠ .slice none 0 0 := by
      intro e
      first
        | exact hnil5 e
        | exact HN3.out (hnil5 e)
        | exact HN3.out (hnil5 e).1
        | exact HN3.out (hnil5.1 e).1
    have HOx : Hid (Own w5 w2.heap.size v5 (bs ++ str.data.toList)) := by
      show Own w5 w2.heap.size v5 (bs ++ str.data.toList)
      unfold Own
      rw [List.map_append, List.length_append, hstr]
      exact hown5
    have HSx := Lib.hid (HSs.out.grown hgrow5 (HOs.out.past hgz))
    have HBx := Lib.hid (HBs.out.grown hgrow5 HBs.out.size (fun j hj => by have := (HOs.out.lt j hj).1; omega))
    have HNx := Lib.hid hn5
    have hsz5 := hgrow5.size
    have hxs : (bs ++ str.data.toList).length ≤ 46 := by rw [List.length_append]; omega
    clear hown5 hgrow5 hnil5 hn5 HOs HSs HBs HO4 HS4 HB4
    generalize bs ++ str.data.toList = xs at *
    go_wp2_with fail
    refine (l1Pick_lit _ q c _ l _ HSx.out hl (by omega) [0, 0, 4] 3 rfl (fun v => 0 ≤ v ∧ v ≤ 4) (by omega) (by omega) _ rfl _ (by simp)).mono ?_
    rintro e w6 ⟨v6, rfl, ⟨hk0, hk1⟩, hs6, hg6⟩
    obtain ⟨k6, rfl⟩ := Int.eq_ofNat_of_zero_le hk0
    have HO6 := Lib.hid (HOx.out.far hg6 (fun j hj => by have := (HOx.out.lt j hj).1; simp; omega))
    have HS6 := Lib.hid hs6
    have HB6 := Lib.hid (HBx.out.grown hg6 HBx.out.size (by simp))
    have hsz6 := hg6.size
    clear hs6 hg6 HOx HSx HBx
    go_wp2_with fail
    refine (l1Some_plus _ q c _ l k6 _ HS6.out hl (by omega)).mono ?_
    rintro e w7 ⟨vc, cs, rfl, hk7, ho7, hs7, hg7, hnn7⟩
    have hcs4 : cs.length ≤ 4 := by omega
    subst hk7
    obtain ⟨b7, c7, rfl, hb7, hbz7, hcap7, _, hcell7⟩ := ho7.place hnn7
    have HR7 := Lib.hid ho7.bs.2.row
    have HO7 := Lib.hid (HO6.out.far hg7 (fun j hj => by have := (HO6.out.lt j hj).1; simp; omega))
    have HB7 := Lib.hid (HB6.out.grown hg7 HB6.out.size (by simp))
    have hsz7 := hg7.size
    clear ho7 hs7 hg7 hnn7 hcell7 HO6 HS6 HB6
    go_wp2_with (at_builtin; refine wpList_append_own _ rfl _ _ 22 rfl w2.heap.size 5 i0 (.int .u8 0) 1 1 Tryz.underlying22 HI.out.1 HI.out.2.1 HI.out.2.2.1 HI.out.2.2.2 rfl (by decide) _ _ _ rfl HO7.out ⟨b7, 0, none⟩ cs.length c7 (cs.map fun x : UInt8 => Value.int .u8 (x.toNat : Int)) rfl (by simp) HR7.out ?c2 ?c3 ?c4 ?c5 ?_)
    case c2 => intro u hu; simp at hu; obtain ⟨x, _, rfl⟩ := hu; rfl
    case c3 => unfold maxLen; omega
    case c4 => omega
    case c5 => omega
    intro v8 w8 hown8 hgrow8 hnil8
    have hn8 : v8 ≠ .slice none 0 0 := by
      intro e
      first
        | exact hnil8 e
        | exact HNx.out (hnil8 e)
        | exact HNx.out (hnil8 e).1
        | exact HNx.out (hnil8.1 e).1
        | exact HNx.out (hnil8.1 e)
    have ho8 : Own w8 w2.heap.size v8 (xs ++ cs) := by unfold Own; rw [List.map_append, List.length_append]; exact hown8
    obtain ⟨b8, c8, rfl, hb8, hbz8, hcap8, _, _⟩ := ho8.place hn8
    have HE := Lib.hid (And.intro ho8.bs.2 (HB7.out.grown hgrow8 HB7.out.size (fun j hj => by have := (HO7.out.lt j hj).1; omega)))
    have hlen8 : (xs ++ cs).length ≤ 50 := by rw [List.length_append]; omega
    clear hown8 hgrow8 hnil8 hn8 ho8 HR7 HO7 HB7
    go_wp2_with fail
    go_ret
    exact ⟨b8, c8, xs ++ cs, rfl, hlen8, hcap8, HE.out.1, HE.out.2⟩
  · clear hm0 hm1
    have HOx := HO4
    have HSx := HS4
    have HBx := HB4
    have HNx := HN3
    have hxs : bs.length ≤ 46 := by omega
    clear HO4 HS4 HB4 HN3
    generalize bs = xs at *
    go_wp2_with fail
    refine (l1Pick_lit _ q c _ l _ HSx.out hl (by omega) [0, 0, 4] 3 rfl (fun v => 0 ≤ v ∧ v ≤ 4) (by omega) (by omega) _ rfl _ (by simp)).mono ?_
    rintro e w6 ⟨v6, rfl, ⟨hk0, hk1⟩, hs6, hg6⟩
    obtain ⟨k6, rfl⟩ := Int.eq_ofNat_of_zero_le hk0
    have HO6 := Lib.hid (HOx.out.far hg6 (fun j hj => by have := (HOx.out.lt j hj).1; simp; omega))
    have HS6 := Lib.hid hs6
    have HB6 := Lib.hid (HBx.out.grown hg6 HBx.out.size (by simp))
    have hsz6 := hg6.size
    clear hs6 hg6 HOx HSx HBx
    go_wp2_with fail
    refine (l1Some_plus _ q c _ l k6 _ HS6.out hl (by omega)).mono ?_
    rintro e w7 ⟨vc, cs, rfl, hk7, ho7, hs7, hg7, hnn7⟩
    have hcs4 : cs.length ≤ 4 := by omega
    subst hk7
    obtain ⟨b7, c7, rfl, hb7, hbz7, hcap7, _, hcell7⟩ := ho7.place hnn7
    have HR7 := Lib.hid ho7.bs.2.row
    have HO7 := Lib.hid (HO6.out.far hg7 (fun j hj => by have := (HO6.out.lt j hj).1; simp; omega))
    have HB7 := Lib.hid (HB6.out.grown hg7 HB6.out.size (by simp))
    have hsz7 := hg7.size
    clear ho7 hs7 hg7 hnn7 hcell7 HO6 HS6 HB6
    go_wp2_with (at_builtin; refine wpList_append_own _ rfl _ _ 22 rfl w2.heap.size 5 i0 (.int .u8 0) 1 1 Tryz.underlying22 HI.out.1 HI.out.2.1 HI.out.2.2.1 HI.out.2.2.2 rfl (by decide) _ _ _ rfl HO7.out ⟨b7, 0, none⟩ cs.length c7 (cs.map fun x : UInt8 => Value.int .u8 (x.toNat : Int)) rfl (by simp) HR7.out ?c2 ?c3 ?c4 ?c5 ?_)
    case c2 => intro u hu; simp at hu; obtain ⟨x, _, rfl⟩ := hu; rfl
    case c3 => unfold maxLen; omega
    case c4 => omega
    case c5 => omega
    intro v8 w8 hown8 hgrow8 hnil8
    have hn8 : v8 ≠ .slice none 0 0 := by
      intro e
      first
        | exact hnil8 e
        | exact HNx.out (hnil8 e)
        | exact HNx.out (hnil8 e).1
        | exact HNx.out (hnil8.1 e).1
        | exact HNx.out (hnil8.1 e)
    have ho8 : Own w8 w2.heap.size v8 (xs ++ cs) := by unfold Own; rw [List.map_append, List.length_append]; exact hown8
    obtain ⟨b8, c8, rfl, hb8, hbz8, hcap8, _, _⟩ := ho8.place hn8
    have HE := Lib.hid (And.intro ho8.bs.2 (HB7.out.grown hgrow8 HB7.out.size (fun j hj => by have := (HO7.out.lt j hj).1; omega)))
    have hlen8 : (xs ++ cs).length ≤ 50 := by rw [List.length_append]; omega
    clear hown8 hgrow8 hnil8 hn8 ho8 HR7 HO7 HB7
    go_wp2_with fail
    go_ret
    exact ⟨b8, c8, xs ++ cs, rfl, hlen8, hcap8, HE.out.1, HE.out.2⟩

end Go.Proofs.YtbnpodledgaipaaGreatDoor
