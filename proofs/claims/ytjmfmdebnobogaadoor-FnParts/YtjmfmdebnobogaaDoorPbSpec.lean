/- The contract of the model's PartsBytes. -/
import Derived.Test.YtjmfmdebnobogaaDoorL2Bytes
import Derived.Test.YtjmfmdebnobogaaDoorBytesRes
import Derived.Test.YtjmfmdebnobogaaDoorParts2
namespace Go.Proofs.YtjmfmdebnobogaaDoor
open Go.RowKit

def pbCode (nums : List Int) (fin : UInt8) : Int := if finl fin = false then 3 else if inNum nums = false then 3 else if 4 < nums.length then 2 else 0
def pbRes (priv : Bool) (nums : List Int) (fin : UInt8) : List UInt8 := if finl fin = false then [] else if inNum nums = false then [] else if 4 < nums.length then [] else pb priv nums fin

theorem inNum_next (l : List Int) (k : Nat) (h : k < l.length) : inNum (l.take (k + 1)) = (inNum (l.take k) && inR (l.getD k 0) 0 9999999) := by
  unfold inNum
  rw [List.take_succ_eq_append_getElem h, List.all_append, List.getD_eq_getElem?_getD, List.getElem?_eq_getElem h]
  simp
theorem inNum_no (l : List Int) (k : Nat) (h : k < l.length) (hz : inR (l.getD k 0) 0 9999999 = false) : inNum l = false := by
  rw [List.getD_eq_getElem?_getD, List.getElem?_eq_getElem h] at hz
  simp only [inNum, List.all_eq_false]
  exact ⟨_, List.getElem_mem h, by simpa using hz⟩

theorem br_code {w w1 : World} {o : Obj} {code : Int} {u1 u2 : Value} (hb : Below (w.alloc o).heap.size (w.alloc o) w1) :
    NewBr w code [] (.returned (brV code (.slice none 0 0))) ((w1.setCell ⟨w.heap.size, 0, none⟩ u1).setCell ⟨w.heap.size, 1, none⟩ u2) := br_end (own_nil _ _) hb

set_option maxHeartbeats 2000000 in
theorem specPartsBytes_any (priv : Bool) (p : Option Addr) (c : Nat) (nums : List Int) (fin : UInt8) (w : World) (h : Is w w.heap.size p nums) (hl : nums.length ≤ 1048576) :
    Calls Tryd.prog 35 #[.bool priv, .slice p nums.length c, .int .u8 (fin.toNat : Int)] w (NewBr w (pbCode nums fin) (pbRes priv nums fin)) := by
  have H := Lib.hid h
  have HA := Lib.hid (h.alloc (.cells #[.int .i64 0, .slice none 0 0] 26))
  clear h
  by_cases hlo : (fin.toNat : Int) < 64
  · have HP : Hid (pbCode nums fin = 3 ∧ pbRes priv nums fin = []) := by simp [Hid, pbCode, pbRes, finl_lo hlo]
    go_enter Tryd.func35, Tryd.ntmps35
    go_wp2_with fail
    rw [HP.out.1, HP.out.2]
    exact bodyPost_ret (v := brV 3 (.slice none 0 0)) (by simp [results, Tryd.results35, brV, go_sem]) rfl ⟨_, rfl, own_nil _ _, below_mk _ _⟩
  by_cases hhi : 126 < (fin.toNat : Int)
  · have HP : Hid (pbCode nums fin = 3 ∧ pbRes priv nums fin = []) := by simp [Hid, pbCode, pbRes, finl_hi hhi]
    go_enter Tryd.func35, Tryd.ntmps35
    go_wp2_with fail
    rw [HP.out.1, HP.out.2]
    exact bodyPost_ret (v := brV 3 (.slice none 0 0)) (by simp [results, Tryd.results35, brV, go_sem]) rfl ⟨_, rfl, own_nil _ _, below_mk _ _⟩
  have HF := Lib.hid (finl_in hlo hhi)
  go_enter Tryd.func35, Tryd.ntmps35
  go_wp2_with fail
  go_loop [7, 17] (fun _ i => ∃ k : Nat, k ≤ nums.length ∧ i = .int .i64 k ∧ inNum (nums.take k) = true) (fun _ i => nums.length - (intOf i).toNat)
  case atStart => exact ⟨0, by omega, rfl, rfl⟩
  case round =>
    obtain ⟨k, hk, rfl, ht⟩ := hrel
    have HT := Lib.hid ht
    clear ht
    by_cases hlt : k < nums.length
    · obtain ⟨b, off, rfl, hb, hc⟩ := H.out (by intro e; simp [e] at hlt)
      have hc0 := hc k hlt
      have HN := Lib.hid (inNum_next nums k hlt)
      have HX := Lib.hid (inNum_no nums k hlt)
      clear hc
      generalize nums.getD k 0 = x at *
      cases hx : inR x 0 9999999 with
      | true =>
        have HK := Lib.hid hx
        go_wp2_with (go_at_call 58; refine (l1In_any _ _ _ _).mono ?_; rintro e w' ⟨rfl, rfl⟩)
        exact ⟨⟨k + 1, by omega, by go_num, by rw [HN.out, HT.out, HK.out]; rfl⟩, by simp [intOf]; omega⟩
      | false =>
        have HK := Lib.hid hx
        go_wp2_with (go_at_call 58; refine (l1In_any _ _ _ _).mono ?_; rintro e w' ⟨rfl, rfl⟩)
        have hz := HX.out HK.out
        have hp : pbCode nums fin = 3 ∧ pbRes priv nums fin = [] := by simp [pbCode, pbRes, hz]
        rw [hp.1, hp.2]
        exact bodyPost_ret (v := brV 3 (.slice none 0 0)) (by simp [results, Tryd.results35, brV, go_sem]) rfl ⟨_, rfl, own_nil _ _, below_mk _ _⟩
    · have hz : inNum nums = true := by have := HT.out; rwa [List.take_of_length_le (by omega)] at this
      have HZ := Lib.hid hz
      clear hz
      by_cases h4 : (4 : Int) < (nums.length : Int)
      · have HP : Hid (pbCode nums fin = 2 ∧ pbRes priv nums fin = []) := by
          have h4' : 4 < nums.length := by omega
          simp [Hid, pbCode, pbRes, HF.out, HZ.out, h4']
        go_wp2_with fail
        rw [HP.out.1, HP.out.2]
        exact bodyPost_ret (v := brV 2 (.slice none 0 0)) (by simp [results, Tryd.results35, brV, go_sem]) rfl ⟨_, rfl, own_nil _ _, below_mk _ _⟩
      · have HP : Hid (pbCode nums fin = 0 ∧ pbRes priv nums fin = pb priv nums fin) := by
          have h4' : ¬ 4 < nums.length := by omega
          simp [Hid, pbCode, pbRes, HF.out, HZ.out, h4']
        go_wp2_with (go_at_call 76; refine (l2Bytes_any _ _ _ _ _ _ HA.out HZ.out (by omega)).mono ?_; rintro e w1 ⟨v, rfl, ho, hb⟩; obtain ⟨hc, hf⟩ := bcell hb; obtain ⟨pp, cc, hv⟩ := ho.slice; subst hv)
        rw [HP.out.1, HP.out.2]
        exact bodyPost_ret (v := brV 0 (.slice pp (pb priv nums fin).length cc)) (by simp [results, Tryd.results35, brV, go_sem, hc]) rfl (br_end ho hb)

end Go.Proofs.YtjmfmdebnobogaaDoor
