/- DrawPartsBytes. -/
import Derived.Test.YtjmfmdebnobogaaDoorDrawsP
import Derived.Test.YtjmfmdebnobogaaDoorInts
namespace Go.Proofs.YtjmfmdebnobogaaDoor
open Go.RowKit

/-- what a draw of parts leaves -/
def AnyPb (w : World) (e : Ending) (w' : World) : Prop :=
  ∃ (priv : Bool) (p : Option Addr) (c : Nat) (nums : List Int) (fin : UInt8), e = .returned (.tuple #[.bool priv, .slice p nums.length c, .int .u8 (fin.toNat : Int)]) ∧ nums.length ≤ 5 ∧ Is w' w'.heap.size p nums ∧ Below w.heap.size w w'

/-- what the loop keeps -/
def DpRel (w : World) (q : Option Addr) (c : Nat) (l : List UInt8) (v n : Value) (wr : World) : Prop :=
  ∃ (k : Nat) (nums : List Int), n = .int .i64 k ∧ nums.length + k ≤ 5 ∧ OwnI wr (w.heap.size + 1) v nums ∧ Src wr w.heap.size q c l (1 + nums.length) ∧ Below w.heap.size w wr ∧ w.heap.size + 1 ≤ wr.heap.size

theorem Src.alloc {w : World} {g : Nat} {q : Option Addr} {c : Nat} {l : List UInt8} {N : Nat} (h : Src w g q c l N) (o : Obj) : Src (w.alloc o) g q c l N := h.below (below_mk w o)

theorem Src.grown {w w' : World} {g : Nat} {q : Option Addr} {c : Nat} {l : List UInt8} {N : Nat} (h : Src w g q c l N) {row : Option Nat} (hg : w.grownBy w' row) (hr : ∀ j, row = some j → g < j) : Src w' g q c l N := by
  obtain ⟨n, hn, h, hlt⟩ := h
  have hb : Below (g + 1) w w' := ⟨hg.os, hg.tape, hg.output, hg.size, fun i hi => hg.block i (by omega) (fun e => by have := hr i e.symm; omega)⟩
  exact ⟨n, hn, ⟨(hb.cell (p := ⟨g, 0, none⟩) (by simp)).trans h.code, (hb.cell (p := ⟨g, 1, none⟩) (by simp)).trans h.read, fun o => (hb.frozen (p := ⟨g, o, none⟩) (by simp)).trans (h.free o), h.bytes.keep (Nat.le_refl _) fun a ha => hb.cell (by omega)⟩, Nat.lt_of_lt_of_le hlt hg.size⟩

theorem u8_of (v : Int) (h0 : 0 ≤ v) (h1 : v < 256) : v = ((UInt8.ofNat v.toNat).toNat : Int) := by
  simp
  omega

set_option maxRecDepth 100000 in
set_option maxHeartbeats 1000000 in
theorem drawPartsBytes_any (q : Option Addr) (c : Nat) (l : List UInt8) (w : World) (h : Bs w w.heap.size q l) (hl : l.length ≤ 1048576) :
    Calls Tryd.prog 31 #[.slice q l.length c] w (AnyPb w) := by
  obtain ⟨i0, hi, hz0, hz1, hz2⟩ := info_parts Tryd.info_i64
  have H := Lib.hid (l1Source_any q c l w h)
  clear h
  go_enter Tryd.func31, Tryd.ntmps31
  go_wp2_with fail
  refine H.out.mono ?_
  rintro e w1 ⟨rfl, hs1, hb1⟩
  have hsz1 : w.heap.size + 1 ≤ w1.heap.size := by obtain ⟨_, _, _, h⟩ := hs1; omega
  have HS1 := Lib.hid (hs1.alloc (.cells #[] 2))
  have HB1 := Lib.hid (hb1.alloc hb1.size (.cells #[] 2))
  have HO1 := Lib.hid (show OwnI (w1.alloc (.cells #[] 2)) (w.heap.size + 1) (.slice (some ⟨w1.heap.size, 0, none⟩) 0 0) [] by
    have h := World.ownsRow_lit (base := w.heap.size + 1) (e := 2) (size := 1) w1 #[] 0 hsz1 (by simp [maxLen]) (by simp)
    simpa [OwnI] using h)
  clear hs1 hb1
  go_wp2_with fail
  refine (l1Next_src _ q c 0 l 6 _ HS1.out hl (by omega) (by omega) (by omega)).mono ?_
  rintro e w2 ⟨v, rfl, ⟨hv0, hv1⟩, hs2, hg2⟩
  obtain ⟨m, rfl⟩ := Int.eq_ofNat_of_zero_le hv0
  have HST : Hid (DpRel w q c l (.slice (some ⟨w1.heap.size, 0, none⟩) 0 0) (.int .i64 (m : Int)) w2) := ⟨m, [], rfl, by simp; omega, HO1.out.far hg2 (fun g hg e => by have h1 := HO1.out.lt g hg; simp at e; omega), hs2, HB1.out.grown hg2 HB1.out.size (by simp), by have := hg2.size; simp at this; omega⟩
  clear hs2 hg2 hv0 hv1
  go_wp2_with fail
  go_loopw [6, 7] (fun v n wr => DpRel w q c l v n wr) (fun _ n _ => (intOf n).toNat)
  case atStart => exact HST.out
  case round =>
    obtain ⟨k, nums, rfl, hk, ho, hs, hb, hsz⟩ := hrel
    have HO := Lib.hid ho
    have HS := Lib.hid hs
    have HB := Lib.hid hb
    clear ho hs hb
    by_cases hpos : (0 : Int) < (k : Int)
    · go_wp2_with fail
      refine (l1Pick_lit _ q c _ l _ HS.out hl (by omega) [0, 1, 5, 9999999, 42, 7, 200, 10000000, -1] 9 rfl (fun _ => True) (by omega) (by omega) _ rfl _ (fun _ _ => trivial)).mono ?_
      rintro e w3 ⟨x, rfl, _, hs3, hg3⟩
      have HO3 := Lib.hid (HO.out.far hg3 (fun g hg e => by have h1 := HO.out.lt g hg; simp at e; omega))
      have HB3 := Lib.hid (HB.out.grown hg3 HB.out.size (by simp))
      have HS3 := Lib.hid hs3
      have hsz3 : w.heap.size + 1 ≤ w3.heap.size := Nat.le_trans hsz hg3.size
      clear hs3 hg3
      go_wp2_with (at_builtin; refine wpList_append_own _ rfl _ _ 48 rfl (w.heap.size + 1) 2 i0 (.int .i64 0) 1 8 Tryd.underlying48 hi hz0 hz1 hz2 rfl (by decide) _ _ _ rfl (HO3.out.alloc _) ⟨w3.heap.size, 0, none⟩ 1 1 [.int .i64 x] rfl rfl (cell_one_new _ _ _) (by simp [Value.oneCell']) (by unfold maxLen; omega) (by omega) (by simp; omega) ?_; intro v' w4 hown' hgrow _)
      refine ⟨⟨k - 1, nums ++ [x], ?_, by simp; omega, by simpa [OwnI] using hown', ?_, (HB3.out.alloc HB3.out.size _).grown hgrow (by simp; omega) (fun j ej => by have := HO3.out.lt j ej; omega), by have := hgrow.size; simp at this; omega⟩, by simp [intOf]; omega⟩
      · congr 1; omega
      · have := (HS3.out.alloc (.cells #[.int .i64 x] 2)).grown hgrow (fun j ej => by have := HO3.out.lt j ej; omega)
        rw [List.length_append, List.length_singleton, ← Nat.add_assoc]
        exact this
    · go_wp2_with fail
      refine (l1Chance_any _ q c _ l 3 _ HS.out hl (by omega) (by omega) (by omega)).mono ?_
      rintro e w3 ⟨pr, rfl, hs3, hg3⟩
      have HO3 := Lib.hid (HO.out.far hg3 (fun g hg e => by have h1 := HO.out.lt g hg; simp at e; omega))
      have HB3 := Lib.hid (HB.out.grown hg3 HB.out.size (by simp))
      have HS3 := Lib.hid hs3
      have hsz3 : w.heap.size + 1 ≤ w3.heap.size := Nat.le_trans hsz hg3.size
      clear hs3 hg3
      go_wp2_with fail
      refine (l1Pick_lit _ q c _ l _ HS3.out hl (by omega) [65, 126, 77, 64, 63, 127, 117, 109] 8 rfl (fun v => 0 ≤ v ∧ v < 256) (by omega) (by omega) _ rfl _ (by simp)).mono ?_
      rintro e w4 ⟨x, rfl, ⟨hx0, hx1⟩, hs4, hg4⟩
      have HO4 := Lib.hid (HO3.out.far hg4 (fun g hg e => by have h1 := HO3.out.lt g hg; simp at e; omega))
      have HB4 := Lib.hid (HB3.out.grown hg4 HB3.out.size (by simp))
      have HX := Lib.hid (u8_of x hx0 hx1)
      clear hs4 hg4
      go_wp2_with fail
      obtain ⟨pp, cc, hv⟩ := HO4.out.slice
      subst hv
      refine bodyPost_ret (v := .tuple #[.bool pr, .slice pp nums.length cc, .int .u8 x]) (by simp [results, Tryd.results31, go_sem]) rfl ⟨pr, pp, cc, nums, UInt8.ofNat x.toNat, by rw [← HX.out], by omega, HO4.out.is.2, HB4.out⟩

end Go.Proofs.YtjmfmdebnobogaaDoor
