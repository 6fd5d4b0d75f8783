/- FirstPoint and the bytes of a point: there and back. -/
import Derived.Test.YtjmfmdebnobogaaDoorFirstPure
namespace Go.Proofs.YtjmfmdebnobogaaDoor
open Go.RowKit

/-- the point that was found: its bytes are the first ones -/
def Back (a : UInt8) (r : List UInt8) (p s : Int) : Prop := point p = true ∧ putB p = (a :: r).take s.toNat ∧ 1 ≤ s ∧ s ≤ (r.length : Int) + 1

theorem first_back (a : UInt8) (r : List UInt8) {p s : Int} (h : specFirst a r = (0, p, s)) : Back a r p s := by
  have ha := a.toNat_lt
  by_cases c1 : a.toNat < 128
  · rw [same_1 a r c1] at h
    simp only [Prod.mk.injEq] at h
    obtain ⟨-, rfl, rfl⟩ := h
    refine ⟨(point_iff _).2 (by omega), (putB_iff (by omega) (by omega) _).2 ?_, by omega, by omega⟩
    rw [putZ_1 (by omega)]
    rfl
  by_cases c2 : a.toNat < 192
  · rw [same_0 a r (.inl ⟨by omega, c2⟩)] at h
    simp at h
  by_cases c3 : a.toNat < 224
  · rw [same_2 a r (by omega) c3] at h
    match r, h with
    | [], h => simp only at h; split at h <;> simp at h
    | b :: r', h =>
      simp only at h
      split at h
      · rename_i hc
        obtain ⟨k1, k2⟩ := hc
        rw [mid_iff] at k2
        simp only [Prod.mk.injEq] at h
        obtain ⟨-, rfl, rfl⟩ := h
        refine ⟨(point_iff _).2 (by omega), (putB_iff (by omega) (by omega) _).2 ?_, by omega, by simp; omega⟩
        rw [putZ_2 (by omega) (by omega)]
        simp
        omega
      · simp at h
  by_cases c4 : a.toNat < 240
  · rw [same_3 a r (by omega) c4] at h
    match r, h with
    | [], h => simp at h
    | [b], h => simp only at h; split at h <;> simp at h
    | b :: c :: r', h =>
      simp only at h
      split at h
      · rename_i hc
        obtain ⟨k1, k2⟩ := hc
        rw [mid_iff] at k1 k2
        have k1' := k1.1
        have k1'' := k1.2
        unfold lo3 at k1'
        unfold hi3 at k1''
        simp only [Prod.mk.injEq] at h
        obtain ⟨-, rfl, rfl⟩ := h
        have hb := b.toNat_lt
        have e : 128 ≤ b.toNat ∧ b.toNat ≤ 191 ∧ (a.toNat = 224 → 160 ≤ b.toNat) ∧ (a.toNat = 237 → b.toNat ≤ 159) := by split at k1' <;> split at k1'' <;> omega
        clear k1 k1' k1''
        refine ⟨(point_iff _).2 (by omega), (putB_iff (by omega) (by omega) _).2 ?_, by omega, by simp; omega⟩
        rw [putZ_3 (by omega) (by omega)]
        simp
        omega
      · simp at h
  by_cases c5 : a.toNat < 248
  · rw [same_4 a r (by omega) c5] at h
    by_cases c6 : 245 ≤ a.toNat
    · rw [if_pos c6] at h; simp at h
    rw [if_neg c6] at h
    match r, h with
    | [], h => simp at h
    | [b], h => simp only at h; split at h <;> simp at h
    | [b, c], h => simp only at h; split at h <;> simp at h
    | b :: c :: d :: r', h =>
      simp only at h
      split at h
      · rename_i hc
        obtain ⟨k1, k2, k3⟩ := hc
        rw [mid_iff] at k1 k2 k3
        have k1' := k1.1
        have k1'' := k1.2
        unfold lo4 at k1'
        unfold hi4 at k1''
        simp only [Prod.mk.injEq] at h
        obtain ⟨-, rfl, rfl⟩ := h
        have e : 128 ≤ b.toNat ∧ b.toNat ≤ 191 ∧ (a.toNat = 240 → 144 ≤ b.toNat) ∧ (a.toNat = 244 → b.toNat ≤ 143) := by split at k1' <;> split at k1'' <;> omega
        clear k1 k1' k1''
        refine ⟨(point_iff _).2 (by omega), (putB_iff (by omega) (by omega) _).2 ?_, by omega, by simp; omega⟩
        rw [putZ_4 (by omega)]
        simp
        omega
      · simp at h
  · rw [same_0 a r (.inr (by omega))] at h
    simp at h

theorem byteOf (x : Int) (h0 : 0 ≤ x) (h1 : x < 256) : ((UInt8.ofNat x.toNat).toNat : Int) = x := by simp; omega

theorem first_put {p : Int} (h : point p = true) (rest : List UInt8) : ∃ a r, putB p ++ rest = a :: r ∧ specFirst a r = (0, p, ((putB p).length : Int)) := by
  rw [point_iff] at h
  obtain ⟨h0, h1, h2⟩ := h
  by_cases c1 : p < 128
  · have e : putB p = [UInt8.ofNat p.toNat] := by unfold putB; rw [putZ_1 c1]; rfl
    have k1 := byteOf p (by omega) (by omega)
    refine ⟨UInt8.ofNat p.toNat, rest, by rw [e]; rfl, ?_⟩
    rw [same_1 _ _ (by omega), k1, e]
    rfl
  by_cases c2 : p < 2048
  · have e : putB p = [UInt8.ofNat (192 + p / 64).toNat, UInt8.ofNat (128 + p % 64).toNat] := by unfold putB; rw [putZ_2 (by omega) c2]; rfl
    have k1 := byteOf (192 + p / 64) (by omega) (by omega)
    have k2 := byteOf (128 + p % 64) (by omega) (by omega)
    refine ⟨UInt8.ofNat (192 + p / 64).toNat, UInt8.ofNat (128 + p % 64).toNat :: rest, by rw [e]; rfl, ?_⟩
    rw [same_2 _ _ (by omega) (by omega), e]
    dsimp only
    rw [if_pos ⟨by omega, (mid_iff _ _ _).2 (by omega)⟩, k1, k2]
    simp
    omega
  by_cases c3 : p < 65536
  · have e : putB p = [UInt8.ofNat (224 + p / 4096).toNat, UInt8.ofNat (128 + p / 64 % 64).toNat, UInt8.ofNat (128 + p % 64).toNat] := by unfold putB; rw [putZ_3 (by omega) c3]; rfl
    have k1 := byteOf (224 + p / 4096) (by omega) (by omega)
    have k2 := byteOf (128 + p / 64 % 64) (by omega) (by omega)
    have k3 := byteOf (128 + p % 64) (by omega) (by omega)
    have m1 : mid (lo3 (UInt8.ofNat (224 + p / 4096).toNat).toNat) (hi3 (UInt8.ofNat (224 + p / 4096).toNat).toNat) (UInt8.ofNat (128 + p / 64 % 64).toNat) = true := (mid_iff _ _ _).2 ⟨by unfold lo3; split <;> omega, by unfold hi3; split <;> omega⟩
    refine ⟨UInt8.ofNat (224 + p / 4096).toNat, UInt8.ofNat (128 + p / 64 % 64).toNat :: UInt8.ofNat (128 + p % 64).toNat :: rest, by rw [e]; rfl, ?_⟩
    rw [same_3 _ _ (by omega) (by omega), e]
    dsimp only
    rw [if_pos ⟨m1, (mid_iff _ _ _).2 (by omega)⟩, k1, k2, k3]
    simp
    omega
  · have e : putB p = [UInt8.ofNat (240 + p / 262144).toNat, UInt8.ofNat (128 + p / 4096 % 64).toNat, UInt8.ofNat (128 + p / 64 % 64).toNat, UInt8.ofNat (128 + p % 64).toNat] := by unfold putB; rw [putZ_4 (by omega)]; rfl
    have k1 := byteOf (240 + p / 262144) (by omega) (by omega)
    have k2 := byteOf (128 + p / 4096 % 64) (by omega) (by omega)
    have k3 := byteOf (128 + p / 64 % 64) (by omega) (by omega)
    have k4 := byteOf (128 + p % 64) (by omega) (by omega)
    have m1 : mid (lo4 (UInt8.ofNat (240 + p / 262144).toNat).toNat) (hi4 (UInt8.ofNat (240 + p / 262144).toNat).toNat) (UInt8.ofNat (128 + p / 4096 % 64).toNat) = true := (mid_iff _ _ _).2 ⟨by unfold lo4; split <;> omega, by unfold hi4; split <;> omega⟩
    refine ⟨UInt8.ofNat (240 + p / 262144).toNat, UInt8.ofNat (128 + p / 4096 % 64).toNat :: UInt8.ofNat (128 + p / 64 % 64).toNat :: UInt8.ofNat (128 + p % 64).toNat :: rest, by rw [e]; rfl, ?_⟩
    rw [same_4 _ _ (by omega) (by omega), if_neg (by omega), e]
    dsimp only
    rw [if_pos ⟨m1, (mid_iff _ _ _).2 (by omega), (mid_iff _ _ _).2 (by omega)⟩, k1, k2, k3, k4]
    simp
    omega

end Go.Proofs.YtjmfmdebnobogaaDoor
