/- What the laws over tokens share: a token in a block, and the helpers at a token without data. -/
import Derived.Test.YtcchhlcgamcceaaTokRes
namespace Go.Proofs.Ytcchhlcgamcceaa
open Go.RowKit

/-- the twelve cells of a token in a block -/
structure TkAt (w : World) (b : Nat) (t : Tk) (v : Value) : Prop where
  c0 : w.cell? ⟨b, 0, none⟩ = some (.int .i64 t.code)
  c1 : w.cell? ⟨b, 1, none⟩ = some (.int .i64 t.ev.kind)
  c2 : w.cell? ⟨b, 2, none⟩ = some (.int .i64 t.ev.code)
  c3 : w.cell? ⟨b, 3, none⟩ = some (.int .i64 t.ev.mods)
  c4 : w.cell? ⟨b, 4, none⟩ = some (.int .i64 t.ev.button)
  c5 : w.cell? ⟨b, 5, none⟩ = some (.int .i64 t.ev.act)
  c6 : w.cell? ⟨b, 6, none⟩ = some (.int .i64 t.ev.col)
  c7 : w.cell? ⟨b, 7, none⟩ = some (.int .i64 t.ev.row)
  c8 : w.cell? ⟨b, 8, none⟩ = some v
  c9 : w.cell? ⟨b, 9, none⟩ = some (.int .i64 t.size)
  c10 : w.cell? ⟨b, 10, none⟩ = some (.bool t.paste)
  c11 : w.cell? ⟨b, 11, none⟩ = some (.bool t.none)
theorem AtL.tk {w : World} {b : Nat} {t : Tk} {v : Value} (h : AtL w b (tkL t v)) : TkAt w b t v :=
  ⟨h.get 0 rfl, h.get 1 rfl, h.get 2 rfl, h.get 3 rfl, h.get 4 rfl, h.get 5 rfl, h.get 6 rfl, h.get 7 rfl, h.get 8 rfl, h.get 9 rfl, h.get 10 rfl, h.get 11 rfl⟩

theorem eqTok_plain (t : Tk) (hd : t.ev.data = []) (w : World) :
    Calls Try.prog 19 #[tkV t (.slice none 0 0), tkV t (.slice none 0 0)] w fun en w' => en = .returned (.bool true) ∧ Below w.heap.size w w' := by
  have h := eqTokenResult_same t none none 0 0 w (fun h => absurd hd h) (fun h => absurd hd h) (by simp [hd])
  rw [hd] at h
  exact h

theorem markTok_plain (t : Tk) (hd : t.ev.data = []) (w : World) :
    Calls Try.prog 20 #[tkV t (.slice none 0 0), .int .i64 1] w fun en w' => en = .returned (.int .i64 1) ∧ Below w.heap.size w w' := by
  have h := markTokenResult_any w w.heap.size 1 t none 0 (by rw [hd]; exact own_nil _ _) (by simp [hd]) (by omega)
  rw [hd] at h
  refine h.mono ?_
  rintro e w' ⟨he, _, hg⟩
  exact ⟨by rw [he]; rfl, below_of_grown hg (Nat.le_refl _) (fun g hg => by simp [Value.ownBlock] at hg)⟩

theorem heldTok_plain (t : Tk) (w : World) :
    Calls Try.prog 21 #[tkV t (.slice none 0 0), .int .i64 1] w fun en w' => en = .returned (.int .i64 1) ∧ Below w.heap.size w w' :=
  heldTokenResult_any w 1 0 t none 0 (fun h => absurd rfl h) (by omega) (by omega)

end Go.Proofs.Ytcchhlcgamcceaa
