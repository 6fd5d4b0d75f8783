/- The plain fact of FnParts: what PartsBytes gives is read back by PartsOf, whatever follows. And the contract of lwNums. -/
import Derived.Test.YtnmnklilmcpkaaaQPiecesInToPartsImpl
import Derived.Test.YtnmnklilmcpkaaaQPbSpec
namespace Go.Proofs.Ytnmnklilmcpkaaa
open Go.RowKit

theorem dgt_char (x : Nat) (h : x < 10) : dgt (UInt8.ofNat (48 + x)) = true := by
  have : ∀ y : Fin 10, dgt (UInt8.ofNat (48 + y.1)) = true := by decide
  exact this ⟨x, h⟩
theorem toNat_char (x : Nat) (h : x < 10) : ((UInt8.ofNat (48 + x)).toNat : Int) = 48 + (x : Int) := by
  have : ∀ y : Fin 10, ((UInt8.ofNat (48 + y.1)).toNat : Int) = 48 + (y.1 : Int) := by decide
  exact this ⟨x, h⟩

theorem dec_dgts (n : Nat) : dgts (Lib.decDigits n) = true := by
  induction n using Nat.strongRecOn with
  | _ n ih =>
    by_cases h : n < 10
    · rw [Lib.decDigits, dif_pos h]
      rw [dgts, List.all_cons, dgt_char n h]
      rfl
    · rw [Lib.decDigits, dif_neg h]
      have h1 := ih (n / 10) (by omega)
      simp only [dgts, List.all_append, Bool.and_eq_true] at h1 ⊢
      exact ⟨h1, by rw [List.all_cons, dgt_char (n % 10) (by omega)]; rfl⟩
theorem dec_ne (n : Nat) : Lib.decDigits n ≠ [] := by
  intro e
  have h1 := Lib.decDigits_length n
  have h2 := Lib.nDigits_pos n
  rw [e] at h1
  simp at h1
  omega
theorem dec_num (n : Nat) : n ≤ 9999999 → numV (Lib.decDigits n) = (n : Int) := by
  induction n using Nat.strongRecOn with
  | _ n ih =>
    intro hn
    by_cases h : n < 10
    · rw [Lib.decDigits, dif_pos h]
      simp only [numV, List.foldl_cons, List.foldl_nil, numStep, toNat_char n h]
      split <;> omega
    · rw [Lib.decDigits, dif_neg h, numV_snoc, ih (n / 10) (by omega) (by omega), numStep, toNat_char (n % 10) (by omega)]
      split <;> omega
theorem dec_res (n : Int) (h0 : 0 ≤ n) (h1 : n ≤ 9999999) : numRes (Lib.decDigits n.toNat) = n := by
  rw [numRes, if_pos (dec_dgts _), dec_num _ (by omega)]
  omega

theorem dgt_bod {x : UInt8} (h : dgt x = true) : bod x = true := by simp [bod, h]
theorem dgts_no59 {l : List UInt8} (h : dgts l = true) : (59 : UInt8) ∉ l := fun hm => by
  simp only [dgts, List.all_eq_true] at h
  have := h 59 hm
  revert this
  decide

/-- the forward form -/
def jf : List Int → List UInt8
  | [] => []
  | [n] => Lib.decDigits n.toNat
  | n :: m :: r => Lib.decDigits n.toNat ++ 59 :: jf (m :: r)
theorem jf_snoc : ∀ (l : List Int) (n : Int), jf (l ++ [n]) = jf l ++ ((if l = [] then [] else [59]) ++ Lib.decDigits n.toNat)
  | [], n => by simp [jf]
  | [m], n => by simp [jf]
  | m :: k :: r, n => by
    have := jf_snoc (k :: r) n
    simp only [List.cons_append, jf] at this ⊢
    rw [this]
    simp
theorem jn_eq (l : List Int) : jn l = jf l := by
  have : ∀ r : List Int, jnR r = jf r.reverse := by
    intro r
    induction r with
    | nil => rfl
    | cons n r ih =>
      rw [List.reverse_cons, jf_snoc, jnR, ih]
      simp
  rw [jn, this, List.reverse_reverse]

theorem sp_jf : ∀ (l : List Int), l ≠ [] → sp (jf l) = l.map fun n => Lib.decDigits n.toNat
  | [], h => absurd rfl h
  | [n], _ => by simp [jf, sp_none _ (dgts_no59 (dec_dgts _))]
  | n :: m :: r, _ => by
    rw [jf, sp_some _ _ (dgts_no59 (dec_dgts _)), sp_jf (m :: r) (by simp)]
    rfl
theorem jf_ne {l : List Int} (h : l ≠ []) : jf l ≠ [] := by
  match l, h with
  | [n], _ => exact dec_ne _
  | n :: m :: r, _ => simp [jf]
theorem jf_bod : ∀ (l : List Int), ∀ x ∈ jf l, bod x = true
  | [], x, hx => by simp [jf] at hx
  | [n], x, hx => by
    have := dec_dgts n.toNat
    simp only [dgts, List.all_eq_true] at this
    exact dgt_bod (this x hx)
  | n :: m :: r, x, hx => by
    rw [jf] at hx
    rcases List.mem_append.1 hx with h | h
    · have := dec_dgts n.toNat
      simp only [dgts, List.all_eq_true] at this
      exact dgt_bod (this x h)
    · rcases List.mem_cons.1 h with rfl | h
      · decide
      · exact jf_bod (m :: r) x h
theorem pieces_jf (l : List Int) : pieces (jf l) = l.map fun n => Lib.decDigits n.toNat := by
  by_cases h : l = []
  · subst h; rfl
  · rw [pieces, if_neg (jf_ne h), sp_jf l h]
theorem nums_jf (l : List Int) (h : inNum l = true) : numsOf (jf l) = l := by
  rw [numsOf, pieces_jf, List.map_map]
  simp only [inNum, List.all_eq_true] at h
  have : ∀ x ∈ l, (numRes ∘ fun n : Int => Lib.decDigits n.toNat) x = x := fun x hx => by
    have hr := h x hx
    simp [inR] at hr
    exact dec_res x hr.1 hr.2
  rw [List.map_congr_left this]
  simp
theorem fits_jf (l : List Int) (h : l.length ≤ 4) : fits (jf l) = true := by simp [fits, pieces_jf, h]

theorem bsz_app (a r : List UInt8) (x : UInt8) (ha : ∀ y ∈ a, bod y = true) (hx : bod x = false) : bsz (a ++ x :: r) = a.length := by
  refine bsz_stop _ _ (by simp) (fun i hi => ?_) (.inr ?_)
  · rw [List.getD_eq_getElem?_getD, List.getElem?_append_left hi, List.getElem?_eq_getElem hi]
    exact ha _ (List.getElem_mem hi)
  · simp [List.getD_eq_getElem?_getD, hx]
theorem finl_bod {x : UInt8} (h : finl x = true) : bod x = false ∧ x ≠ 60 := by
  simp only [finl, Bool.and_eq_true, decide_eq_true_eq] at h
  have h59 : (x == 59) = false := by
    rw [← u8_eq59]; simp; omega
  have h60 : x ≠ 60 := fun e => by subst e; revert h; decide
  refine ⟨?_, h60⟩
  simp [bod, h59, dgt]
  omega

/-- read back -/
theorem parts_back (priv : Bool) (nums : List Int) (fin : UInt8) (data : List UInt8) (hf : finl fin = true) (hin : inNum nums = true) (hl : nums.length ≤ 4) :
    ptOf (pb priv nums fin ++ data) = ⟨0, priv, nums, (fin.toNat : Int), ((pb priv nums fin).length : Int)⟩ := by
  obtain ⟨hb, h60⟩ := finl_bod hf
  have key : ∀ s pre, pre.length = s → bsz ((pre ++ (jf nums ++ fin :: data)).drop s) = (jf nums).length := fun s pre hs => by
    rw [List.drop_append_of_le_length (by omega), ← hs, List.drop_length, List.nil_append]
    exact bsz_app _ _ _ (jf_bod nums) hb
  have all : ∀ s (pre : List UInt8), pre.length = s → ptAt (pre ++ (jf nums ++ fin :: data)) s = ⟨0, decide (s = 1), nums, (fin.toNat : Int), ((s + (jf nums).length : Nat) : Int) + 1⟩ := fun s pre hs => by
    have hk := key s pre hs
    have hg : (pre ++ (jf nums ++ fin :: data)).getD (s + (jf nums).length) 0 = fin := by
      rw [List.getD_eq_getElem?_getD, List.getElem?_append_right (by omega), List.getElem?_append_right (by omega)]
      simp [hs]
    have ht : ((pre ++ (jf nums ++ fin :: data)).take (s + (jf nums).length)).drop s = jf nums := by
      rw [List.take_append, List.take_of_length_le (by omega), hs, Nat.add_sub_cancel_left, List.drop_append_of_le_length (by omega), ← hs, List.drop_length, List.nil_append, List.take_append_of_le_length (Nat.le_refl _), List.take_length]
    rw [ptAt_ok (by rw [hk]; simp; omega) (by rw [hk, hg]; exact hf) (by rw [hk, ht]; exact fits_jf nums hl), hk, hg, ht, nums_jf nums hin]
  cases priv with
  | true =>
    have e : pb true nums fin ++ data = [60] ++ (jf nums ++ fin :: data) := by simp [pb, mark, jn_eq]
    have hlen : ((pb true nums fin).length : Int) = ((1 + (jf nums).length : Nat) : Int) + 1 := by simp [pb, mark, jn_eq]; omega
    rw [e, ptOf, if_pos (by simp), all 1 [60] rfl, hlen]
    rfl
  | false =>
    have e : pb false nums fin ++ data = [] ++ (jf nums ++ fin :: data) := by simp [pb, mark, jn_eq]
    have hlen : ((pb false nums fin).length : Int) = ((0 + (jf nums).length : Nat) : Int) + 1 := by simp [pb, mark, jn_eq]
    have h0 : (([] ++ (jf nums ++ fin :: data)).getD 0 0 == 60) = false := by
      rw [List.nil_append]
      by_cases hn : nums = []
      · subst hn
        simp [jf, h60]
      · have hne := jf_ne hn
        obtain ⟨y, r, hy⟩ := List.exists_cons_of_ne_nil hne
        have hby := jf_bod nums y (by rw [hy]; simp)
        rw [hy]
        simp
        rintro rfl
        revert hby
        decide
    rw [e, ptOf, if_neg (by rw [h0]; simp), all 0 [] rfl, hlen]
    rfl





end Go.Proofs.Ytnmnklilmcpkaaa
