/- The contract of the model's l2Numbers. -/
import Derived.Test.YtcchhlcgamcceaaDoorQIntsToParts2
namespace Go.Proofs.YtcchhlcgamcceaaDoor
open Go.RowKit

theorem l2Number_len (p : Option Addr) (c n : Nat) (l : List UInt8) (w : World) {B : Nat} (hn : n = l.length) (h : Bs w B p l) (hd : dgts l = true) (hl : l.length ≤ 1048576) :
    Calls Tryd.prog 72 #[.slice p n c] w fun e w' => e = .returned (.int .i64 (numV l)) ∧ w = w' := by
  subst hn
  exact l2Number_any p c l w h hd hl

/-- what a call leaves that hands back a new slice of numbers -/
def NewI (w : World) (l : List Int) (e : Ending) (w' : World) : Prop := ∃ v, e = .returned v ∧ OwnI w' w.heap.size v l ∧ Below w.heap.size w w'

/-- what the loop keeps -/
def NmsRel (w : World) (l : List UInt8) (v f i : Value) (wr : World) : Prop :=
  ∃ (k f' : Nat) (done : List (List UInt8)), i = .int .i64 k ∧ f = .int .i64 f' ∧ done.length ≤ k ∧ OwnI wr w.heap.size v (done.map numV) ∧ Below w.heap.size w wr ∧
    ((k ≤ l.length ∧ f' ≤ k ∧ (59 : UInt8) ∉ (l.take k).drop f' ∧ done ++ sp (l.drop f') = sp l) ∨ (k = l.length + 1 ∧ done = sp l))

theorem OwnI.form {w : World} {base : Nat} {v : Value} {l : List Int} (h : OwnI w base v l) : ∃ p c, v = .slice p l.length c := by
  rcases h.2 with ⟨rfl, hn⟩ | ⟨g, cap, cur, rfl, _⟩
  · exact ⟨_, _, by rw [hn]⟩
  · exact ⟨_, _, rfl⟩

theorem ownI_lit0 (w : World) : OwnI (w.alloc (.cells #[] 2)) w.heap.size (.slice (some ⟨w.heap.size, 0, none⟩) 0 0) [] := by
  have h := World.ownsRow_lit (base := w.heap.size) (e := 2) (size := 1) w #[] 0 (Nat.le_refl _) (by simp [maxLen]) (by simp)
  simpa [OwnI] using h

theorem getD_split (l : List UInt8) (k : Nat) (hk : k < l.length) : l.drop k = l.getD k 0 :: l.drop (k + 1) := by
  rw [List.drop_eq_getElem_cons hk, List.getD_eq_getElem?_getD, List.getElem?_eq_getElem hk]
  rfl
theorem drop_split (l : List UInt8) (f k : Nat) (hf : f ≤ k) (hk : k < l.length) (h : l.getD k 0 = 59) : l.drop f = (l.take k).drop f ++ 59 :: l.drop (k + 1) := by
  have e1 : l = l.take k ++ l.drop k := (List.take_append_drop k l).symm
  have e2 : l.drop f = (l.take k ++ l.drop k).drop f := by rw [← e1]
  rw [e2, List.drop_append_of_le_length (by simp; omega), getD_split l k hk, h]
theorem take_next (l : List UInt8) (f k : Nat) (hf : f ≤ k) (hk : k < l.length) : (l.take (k + 1)).drop f = (l.take k).drop f ++ [l.getD k 0] := by
  rw [List.take_succ_eq_append_getElem hk, List.drop_append_of_le_length (by simp; omega), List.getD_eq_getElem?_getD, List.getElem?_eq_getElem hk]
  rfl

theorem dgts_of_bod {l q : List UInt8} (h : ∀ x ∈ l, bod x = true) (hq : ∀ x ∈ q, x ∈ l) (hn : (59 : UInt8) ∉ q) : dgts q = true := by
  simp only [dgts, List.all_eq_true]
  intro x hx
  have h1 := h x (hq x hx)
  have h2 : x ≠ 59 := fun e => hn (e ▸ hx)
  simpa [bod, h2] using h1

/-- a round that appends: what follows -/
def Rounded (w : World) (done : List (List UInt8)) (q : List UInt8) (wr : World) (v : Value) : Prop :=
  ∀ (v' : Value) (w2 : World) (o : Obj), w2.ownsRow w.heap.size 2 1 v' ((done.map numV).length + 1) ((done.map numV).map (Value.int .i64) ++ [.int .i64 (numV q)]) → (wr.alloc o).grownBy w2 v.ownBlock → OwnI w2 w.heap.size v' ((done ++ [q]).map numV) ∧ Below w.heap.size w w2
theorem rounded {w wr : World} {done : List (List UInt8)} {q : List UInt8} {v : Value} (ho : OwnI wr w.heap.size v (done.map numV)) (hb : Below w.heap.size w wr) : Rounded w done q wr v := by
  intro v' w2 o h hg
  refine ⟨by simpa [OwnI] using h, (hb.alloc hb.size o).grown hg (by have := hb.size; simp; omega) fun j ej => ?_⟩
  rcases ho.2 with ⟨rfl, _⟩ | ⟨g, cap, cur, rfl, hgb, _, _⟩
  · simp [Value.ownBlock] at ej
  · obtain rfl : g = j := by simpa [Value.ownBlock] using ej
    exact hgb

set_option maxRecDepth 100000 in
set_option maxHeartbeats 1000000 in
theorem l2Numbers_any (p : Option Addr) (c : Nat) (l : List UInt8) (w : World) (h : Bs w w.heap.size p l) (hd : ∀ x ∈ l, bod x = true) (hc : l.length ≤ c) (hl : l.length ≤ 1048576) :
    Calls Tryd.prog 62 #[.slice p l.length c] w (NewI w (numsOf l)) := by
  rw [numsOf_numV l hd]
  by_cases he : l = []
  · subst he
    have HO := Lib.hid (ownI_lit0 w)
    show Calls Tryd.prog 62 #[.slice p 0 c] w (NewI w _)
    go_enter Tryd.func62, Tryd.ntmps62
    go_wp2
    go_ret
    exact ⟨_, rfl, HO.out, (Below.refl _ _).alloc (Nat.le_refl _) _⟩
  have hpos : 0 < l.length := List.length_pos_iff.2 he
  have hpc : pieces l = sp l := by simp [pieces, he]
  rw [hpc]
  obtain ⟨b, off, rfl, hb, hcell⟩ := h he
  obtain ⟨i0, hi, hz0, hz1, hz2⟩ := info_parts Tryd.info_i64
  have HD := Lib.hid hd
  have HO := Lib.hid (ownI_lit0 w)
  have H := Lib.hid h
  have HE := Lib.hid he
  have h0 : ((l.length : Int) == 0) = false := by simpa using he
  clear hd h he hpc hcell
  go_enter Tryd.func62, Tryd.ntmps62
  go_wp2
  go_loopw [3, 4, 5] (fun v f i wr => NmsRel w l v f i wr) (fun _ _ i _ => l.length + 1 - (intOf i).toNat)
  case atStart => exact ⟨0, 0, [], rfl, rfl, by simp, HO.out, (Below.refl _ _).alloc (Nat.le_refl _) _, .inl ⟨by omega, by omega, by simp, by simp⟩⟩
  case round =>
    obtain ⟨k, f', done, rfl, rfl, hdl, ho, hbw, hcase⟩ := hrel
    have hdl' : (done.map numV).length = done.length := by simp
    have HDL := Lib.hid hdl'
    obtain ⟨pv, cv, hv⟩ := ho.form
    rw [hdl'] at hv
    have hv' := hv
    subst hv'
    clear hv
    have HR : Hid (wr.ownsRow w.heap.size 2 1 (.slice pv done.length cv) done.length ((done.map numV).map (Value.int .i64))) := by have := ho; rw [OwnI, hdl'] at this; exact this
    have HBW := Lib.hid hbw
    have HRD := Lib.hid (fun q => rounded (q := q) ho hbw)
    have HOO := Lib.hid ho
    have HBB := Lib.hid (H.out.below hbw)
    clear ho hbw hdl'
    rcases hcase with ⟨hk, hf, hn, hs⟩ | ⟨hk, hs⟩
    · have HN := Lib.hid hn
      have HS := Lib.hid hs
      clear hn hs
      have hql : ((l.take k).drop f').length ≤ 1048576 := by simp; omega
      have HQL := Lib.hid (show k - f' = ((l.take k).drop f').length by simp; omega)
      have HQD := Lib.hid (dgts_of_bod (q := (l.take k).drop f') HD.out (fun x hx => List.mem_of_mem_take (List.mem_of_mem_drop hx)) HN.out)
      by_cases hlt : k < l.length
      · have hcf : ¬ c = f' := by omega
        have hbq := HBB.out.cut f' k c hk hc
        rw [if_neg hcf] at hbq
        have hbq' : Bs wr w.heap.size (some ⟨b, off + f', none⟩) ((l.take k).drop f') := by simpa [Addr.add_lit] using hbq
        have HQB := Lib.hid hbq'
        obtain ⟨b', off', hpe, _, hcc⟩ := HBB.out HE.out
        obtain ⟨rfl, rfl⟩ : b = b' ∧ off = off' := by simpa using hpe
        have hc0 := hcc k hlt
        have HSP := Lib.hid (drop_split l f' k hf hlt)
        have HTN := Lib.hid (take_next l f' k hf hlt)
        clear hcc hbq hbq' hpe
        generalize hx : l.getD k 0 = x at *
        have HXX := Lib.hid hx
        clear hx
        have h59 := u8_eq59 x
        have hkn : ((k : Int) == (l.length : Int)) = false := by simp; omega
        cases he : (x == 59) with
        | true =>
          have h59' : ((x.toNat : Int) == 59) = true := by rw [h59, he]
          have HX : Hid (x = 59) := eq_of_beq he
          clear h59 he
          go_wp2_with (first | (go_at_call 72; refine (l2Number_len _ _ _ _ _ HQL.out HQB.out HQD.out hql).mono ?_; rintro e w' ⟨rfl, rfl⟩) | (at_builtin; refine wpList_append_own _ rfl _ _ 58 rfl w.heap.size 2 i0 (.int .i64 0) 1 8 Tryd.underlying58 hi hz0 hz1 hz2 rfl (by decide) _ _ _ rfl (HR.out.alloc _) ⟨wr.heap.size, 0, none⟩ 1 1 [.int .i64 (numV _)] rfl rfl (cell_one_new _ _ _) (by simp [Value.oneCell']) (by unfold maxLen; omega) (by omega) (by have := HBW.out.size; simp; omega) ?_; intro v' w2 hown' hgrow _))
          have hr := HRD.out ((l.take k).drop f') v' w2 _ (by rw [HDL.out]; exact hown') hgrow
          refine ⟨⟨k + 1, k + 1, done ++ [(l.take k).drop f'], by go_num, by go_num, by simp; omega, hr.1, hr.2, .inl ⟨by omega, by omega, by rw [List.drop_eq_nil_of_le (by simp; omega)]; simp, ?_⟩⟩, by simp [intOf]; omega⟩
          rw [← HS.out, HSP.out HX.out, sp_some _ _ HN.out, List.append_assoc]
          rfl
        | false =>
          have h59' : ((x.toNat : Int) == 59) = false := by rw [h59, he]
          have HX : Hid (¬ x = 59) := fun e => by rw [e] at he; simp at he
          clear h59 he
          go_wp2
          refine ⟨⟨k + 1, f', done, by go_num, rfl, by omega, HOO.out, HBW.out, .inl ⟨by omega, by omega, ?_, HS.out⟩⟩, by simp [intOf]; omega⟩
          rw [HTN.out]
          simp only [List.mem_append, List.mem_singleton, not_or]
          exact ⟨HN.out, fun e => HX.out e.symm⟩
      · obtain rfl : k = l.length := by omega
        have HSP := Lib.hid (sp_none (l.drop f') (by have := HN.out; rwa [List.take_length] at this))
        by_cases hcf : c = f'
        · obtain rfl : f' = l.length := by omega
          have HQN := Lib.hid (show (l.take l.length).drop l.length = [] by simp)
          subst hcf
          clear hql HQL HQD
          go_wp2_with (first | (go_at_call 72; refine (l2Number_len _ _ 0 [] _ rfl (B := w.heap.size) (fun h => absurd rfl h) rfl (by simp)).mono ?_; rintro e w' ⟨rfl, rfl⟩) | (at_builtin; refine wpList_append_own _ rfl _ _ 58 rfl w.heap.size 2 i0 (.int .i64 0) 1 8 Tryd.underlying58 hi hz0 hz1 hz2 rfl (by decide) _ _ _ rfl (HR.out.alloc _) ⟨wr.heap.size, 0, none⟩ 1 1 [.int .i64 (numV _)] rfl rfl (cell_one_new _ _ _) (by simp [Value.oneCell']) (by unfold maxLen; omega) (by omega) (by have := HBW.out.size; simp; omega) ?_; intro v' w2 hown' hgrow _))
          have hr := HRD.out [] v' w2 _ (by rw [HDL.out]; exact hown') hgrow
          refine ⟨⟨l.length + 1, l.length + 1, done ++ [[]], by go_num, by go_num, by simp; omega, hr.1, hr.2, .inr ⟨rfl, ?_⟩⟩, by simp [intOf]⟩
          rw [← HS.out, HSP.out]
          simp
        · have hbq := HBB.out.cut f' l.length c hk hc
          rw [if_neg hcf] at hbq
          have hbq' : Bs wr w.heap.size (some ⟨b, off + f', none⟩) ((l.take l.length).drop f') := by simpa [Addr.add_lit] using hbq
          have HQB := Lib.hid hbq'
          clear hbq hbq'
          go_wp2_with (first | (go_at_call 72; refine (l2Number_len _ _ _ _ _ HQL.out HQB.out HQD.out hql).mono ?_; rintro e w' ⟨rfl, rfl⟩) | (at_builtin; refine wpList_append_own _ rfl _ _ 58 rfl w.heap.size 2 i0 (.int .i64 0) 1 8 Tryd.underlying58 hi hz0 hz1 hz2 rfl (by decide) _ _ _ rfl (HR.out.alloc _) ⟨wr.heap.size, 0, none⟩ 1 1 [.int .i64 (numV _)] rfl rfl (cell_one_new _ _ _) (by simp [Value.oneCell']) (by unfold maxLen; omega) (by omega) (by have := HBW.out.size; simp; omega) ?_; intro v' w2 hown' hgrow _))
          have hr := HRD.out (l.drop f') v' w2 _ (by rw [HDL.out]; exact hown') hgrow
          refine ⟨⟨l.length + 1, l.length + 1, done ++ [l.drop f'], by go_num, by go_num, by simp; omega, hr.1, hr.2, .inr ⟨rfl, ?_⟩⟩, by simp [intOf]⟩
          rw [← HS.out, HSP.out]
    · have HS := Lib.hid hs
      subst hk
      clear hs
      go_wp2
      go_ret
      exact ⟨_, rfl, by rw [← HS.out]; exact HOO.out, HBW.out⟩

end Go.Proofs.YtcchhlcgamcceaaDoor
