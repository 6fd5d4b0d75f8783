/- The model's tokens: l3Sequence, l3Escaped, FirstToken. -/
import Derived.Test.YtjopjddhgaiddabGreatDoorQTokSpecHToTokSpecA
import Derived.Test.YtjopjddhgaiddabGreatDoorQTokSpecB
import Derived.Test.YtjopjddhgaiddabGreatDoorQTokSpecD
import Derived.Test.YtjopjddhgaiddabGreatDoorQTokSpecE
import Derived.Test.YtjopjddhgaiddabGreatDoorQTokImpl6ToTokImpl8
import Derived.Test.YtjopjddhgaiddabGreatDoorQFirstSpecToFirstSpec3
namespace Go.Proofs.YtjopjddhgaiddabGreatDoor
open Go.RowKit
set_option linter.unusedVariables false

theorem keyP_grow (r : Pt) : keyP (grow2 r) = if (keyP r).code = 0 then ⟨0, (keyP r).ev, r.size + 2, (keyP r).paste, (keyP r).none⟩ else badTk 5 := by
  unfold keyP grow2
  dsimp only
  split
  · exact (if_pos (show (keyTk _ _ _).code = 0 from rfl)).symm
  · rw [if_neg (by simp [badTk])]
theorem mouseP_grow (r : Pt) : mouseP (grow2 r) = if (mouseP r).code = 0 then ⟨0, (mouseP r).ev, r.size + 2, (mouseP r).paste, (mouseP r).none⟩ else badTk 5 := by
  unfold mouseP grow2
  dsimp only
  split
  · split
    · unfold mouse3
      split
      · exact (if_pos (show (mouseTk _ _ _ _ _).code = 0 from rfl)).symm
      · rw [if_neg (by simp [badTk])]
    · rw [if_neg (by simp [badTk])]
  · rw [if_neg (by simp [badTk])]
theorem startsP_grow (r : Pt) : startsP (grow2 r) = startsP r := rfl
theorem keyP_priv (r : Pt) (h : r.priv = true) : keyP r = badTk 5 := by
  unfold keyP
  rw [if_neg (by simp [h])]
theorem mouseP_pub (r : Pt) (h : r.priv = false) : mouseP r = badTk 5 := by
  unfold mouseP
  rw [if_neg (by simp [h])]
theorem keyP_code (r : Pt) (h : ¬ r.code = 0) : keyP r = badTk 5 := by
  unfold keyP
  rw [if_neg (fun hh => h hh.1)]
theorem mouseP_code (r : Pt) (h : ¬ r.code = 0) : mouseP r = badTk 5 := by
  unfold mouseP
  rw [if_neg (fun hh => h hh.1)]
theorem startsP_code (r : Pt) (h : ¬ r.code = 0) : startsP r = false := by
  unfold startsP
  simp [h]

theorem l3Sequence_any (p : Option Addr) (c : Nat) (l : List UInt8) (w : World) (h : Bs w w.heap.size p l) (hc : l.length ≤ c) (hl : l.length ≤ 1048576) (h2 : 2 ≤ l.length) :
    Calls Tryz.prog 113 #[.slice p l.length c] w (NewTk w (seqTok l)) := by
  obtain ⟨k, hk⟩ : ∃ k, (l.take 24).length = k := ⟨_, rfl⟩
  have hk1 : k ≤ 24 := by rw [← hk]; simp; omega
  have hk2 : k ≤ l.length := by rw [← hk]; simp; omega
  have hk3 : 2 ≤ k := by rw [← hk]; simp; omega
  have hk4 : k = l.length ∨ k = 24 := by rw [← hk]; simp; omega
  have hdl : ((l.take 24).drop 2).length = k - 2 := by simp [hk]
  have hm : lesser (l.length : Int) 24 = k := by
    have hk' := hk
    rw [List.length_take] at hk'
    unfold lesser
    by_cases h24 : l.length < 24
    · rw [if_pos (by omega)]; omega
    · rw [if_neg (by omega)]; omega
  have HW : Bs w w.heap.size (if c = 2 then p else p.map (·.add 2)) ((l.take 24).drop 2) := (h.head 24).tail 2 c (by omega)
  have HPA := fun o => specPartsOf_any (if c = 2 then p else p.map (·.add 2)) (c - 2) ((l.take 24).drop 2) (w.alloc o) (HW.alloc o) (by omega) (by omega)
  rw [hdl] at HPA
  unfold seqTok
  have hkinds := ptOf_kinds ((l.take 24).drop 2)
  have hnums := ptOf_nums ((l.take 24).drop 2)
  have hsm := ptOf_small ((l.take 24).drop 2)
  rw [hdl] at hkinds
  generalize ptOf ((l.take 24).drop 2) = r at *
  rcases hkinds with rfl | ⟨h6, s, hs, hs1, hs2⟩
  · rw [if_pos rfl]
    by_cases h24 : l.length < 24
    · rw [if_pos h24]
      have hkl : k = l.length := by omega
      subst hkl
      refine (l3Sequence_wait p (if c = 2 then p else p.map (·.add 2)) l.length c (c - 2) w h2 h24 hc ?_ (Lib.hid HPA)).mono fun _ _ q => q.new rfl
      by_cases hc2 : c = 2
      · exact .inl ⟨hc2, if_pos hc2, by omega⟩
      · exact .inr ⟨hc2, if_neg hc2, rfl⟩
    · rw [if_neg h24]
      have hkl : k = 24 := by omega
      subst hkl
      rw [if_neg (show ¬ c = 2 by omega)] at HPA
      have e : rawTk (l.take 24) = rTk (l.take 24) 24 := by unfold rawTk; rw [hk]; rfl
      rw [e]
      exact l3Sequence_full p l.length c (l.take 24) w (by omega) hc (Lib.hid HPA) (Lib.hid fun w' hb' => e ▸ l3Raw_any p c l w' (h.on hb') hc hl)
  · rw [if_neg h6]
    have hc2 : ¬ c = 2 := by omega
    rw [if_neg hc2] at HPA
    have hsz : (grow2 r).size = (s : Int) + 2 := by unfold grow2; rw [hs]
    have e1 : (grow2 r).size.toNat = s + 2 := by rw [hsz]; omega
    have e2 : ((l.take 24).take (s + 2)) = l.take (s + 2) := by rw [List.take_take]; congr 1; omega
    have e3 : (l.take (s + 2)).length = s + 2 := by simp; omega
    have e4 : rawTk (l.take (s + 2)) = rTk (l.take (s + 2)) (s + 2) := by unfold rawTk; rw [e3]; rfl
    have HR : Hid (∀ w', Below w.heap.size w w' → Calls Tryz.prog 81 #[.slice p (s + 2) c] w' (NewTk w' (rTk (l.take (s + 2)) (s + 2)))) := fun w' hb' => e4 ▸ l3Raw_cut p c (s + 2) l w' (h.on hb') (by omega) (by omega) (by omega) hl
    unfold seqOf
    rw [startsP_grow, keyP_grow, mouseP_grow, e1, e2, e4, hs, hsz]
    by_cases h0 : r.code = 0
    · cases hp : r.priv
      · have hmb := mouseP_pub r hp
        rw [hmb]
        rw [if_neg (show ¬ (badTk 5).code = 0 by simp [badTk]), if_neg (show ¬ (badTk 5).code = 0 by simp [badTk])]
        cases hst : startsP r
        · simp only [Bool.false_eq_true, if_false]
          have hvar : (r.fin == 126) = false ∨ ((r.fin == 126) = true ∧ ¬ (r.nums.length : Int) = 1) ∨ ((r.fin == 126) = true ∧ ∃ x, r.nums = [x] ∧ (x == 200) = false) := by
            cases hf : (r.fin == 126)
            · exact .inl rfl
            · right
              by_cases hn : r.nums.length = 1
              · right
                refine ⟨rfl, ?_⟩
                obtain ⟨x, hx⟩ := List.length_eq_one_iff.1 hn
                refine ⟨x, hx, ?_⟩
                unfold startsP at hst
                rw [hf, hp, hx, h0] at hst
                simpa using hst
              · exact .inl ⟨rfl, by omega⟩
          rcases keyP_two r with hk0 | hkb
          · rw [if_pos hk0, if_pos rfl]
            rcases hvar with hf | ⟨hf, hn⟩ | ⟨hf, x, hx, hx2⟩
            · exact l3Sequence_key2 p l.length c k s r w (by omega) (by omega) hs (by omega) (by omega) hm hsm hnums (Lib.hid HPA) h0 hp hf _ hk0 (keyP_data r) rfl
            · exact l3Sequence_key3 p l.length c k s r w (by omega) (by omega) hs (by omega) (by omega) hm hsm hnums (Lib.hid HPA) h0 hp hf hn _ hk0 (keyP_data r) rfl
            · exact l3Sequence_key4 p l.length c k s r w (by omega) (by omega) hs (by omega) (by omega) hm hsm hnums (Lib.hid HPA) h0 x hp hf hx hx2 _ hk0 (keyP_data r) rfl
          · rw [hkb, if_neg (show ¬ (badTk 5).code = 0 by simp [badTk]), if_neg (show ¬ (badTk 5).code = 0 by simp [badTk])]
            rcases hvar with hf | ⟨hf, hn⟩ | ⟨hf, x, hx, hx2⟩
            · exact l3Sequence_raw2 p l.length c k s r w (by omega) (by omega) hs (by omega) (by omega) hm hsm hnums (Lib.hid HPA) h0 hp hf hkb hmb _ HR
            · exact l3Sequence_raw3 p l.length c k s r w (by omega) (by omega) hs (by omega) (by omega) hm hsm hnums (Lib.hid HPA) h0 hp hf hn hkb hmb _ HR
            · exact l3Sequence_raw4 p l.length c k s r w (by omega) (by omega) hs (by omega) (by omega) hm hsm hnums (Lib.hid HPA) h0 x hp hf hx hx2 hkb hmb _ HR
        · rw [if_pos rfl]
          have hq : (r.fin == 126) = true ∧ r.nums = [200] := by
            unfold startsP at hst
            simp only [Bool.and_eq_true, beq_iff_eq] at hst
            exact ⟨by simp [hst.2.2.1], hst.2.2.2⟩
          exact l3Sequence_paste p l.length c k s r w (by omega) (by omega) hs (by omega) (by omega) hm hsm hnums (Lib.hid HPA) h0 200 hp hq.1 hq.2 rfl
      · have hkb := keyP_priv r hp
        have hst : startsP r = false := by unfold startsP; rw [hp]; simp
        rw [hkb, hst, if_neg (show ¬ (badTk 5).code = 0 by simp [badTk]), if_neg (show ¬ (badTk 5).code = 0 by simp [badTk])]
        simp only [Bool.false_eq_true, if_false]
        rcases mouseP_two r with hm0 | hmb
        · rw [if_pos hm0, if_pos rfl]
          exact l3Sequence_mouse p l.length c k s r w (by omega) (by omega) hs (by omega) (by omega) hm hsm hnums (Lib.hid HPA) h0 hp _ hm0 (mouseP_data r) hkb rfl
        · rw [hmb, if_neg (show ¬ (badTk 5).code = 0 by simp [badTk]), if_neg (show ¬ (badTk 5).code = 0 by simp [badTk])]
          exact l3Sequence_raw1 p l.length c k s r w (by omega) (by omega) hs (by omega) (by omega) hm hsm hnums (Lib.hid HPA) h0 hp hkb hmb _ HR
    · rw [startsP_code r h0, keyP_code r h0, mouseP_code r h0]
      simp only [Bool.false_eq_true, if_false]
      rw [if_neg (show ¬ (badTk 5).code = 0 by simp [badTk]), if_neg (show ¬ (badTk 5).code = 0 by simp [badTk])]
      exact l3Sequence_text p l.length c k s r w (by omega) (by omega) hs (by omega) (by omega) hm hsm hnums (Lib.hid HPA) (by simpa using h6) (by simpa using h0) _ HR

end Go.Proofs.YtjopjddhgaiddabGreatDoor
