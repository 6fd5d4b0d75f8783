/- Modes as data; ModesFault of the program and of the model; the law's toModes. -/
import Derived.Test.YtjopjddhgaiddabGreatDoorQNumsToIsSpecial
import Derived.Test.YtjopjddhgaiddabGreatDoorQBytesToCells
import Derived.Test.YtjopjddhgaiddabGreatDoorQShelfAIToL2Bytes
import Derived.Test.YtjopjddhgaiddabGreatDoorQPutToBytesRes
import Derived.Test.YtjopjddhgaiddabGreatDoorQFaultToFirstFull
namespace Go.Proofs.YtjopjddhgaiddabGreatDoor
open Go.RowKit
set_option linter.unusedVariables false

structure Md where
  cursor : Bool
  coded : Bool
  mouse : Int
  sgr : Bool
  paste : Bool
def mdV (m : Md) : Value := .agg #[.bool m.cursor, .bool m.coded, .int .i64 m.mouse, .bool m.sgr, .bool m.paste]
def mdL (m : Md) : List Value := [.bool m.cursor, .bool m.coded, .int .i64 m.mouse, .bool m.sgr, .bool m.paste]
def Md.fault (m : Md) : Int := if inR m.mouse 0 3 = true then 0 else 3

set_option maxHeartbeats 1000000 in
theorem implModesFault_any (m : Md) (w : World) : Calls Tryz.prog 51 #[mdV m] w fun e w' => e = .returned (.int .i64 m.fault) ∧ Below w.heap.size w w' := by
  unfold mdV
  cases hi : inR m.mouse 0 3
  · have HF : Hid (m.fault = 3) := by simp [Hid, Md.fault, hi]
    go_enter Tryz.func51, Tryz.ntmps51
    go_wp2_with (go_at_call 62; refine (isWithin_two _ _ _ _ _ _ (by simp)).mono ?_; rintro e w' ⟨rfl, rfl⟩; rw [hi])
    go_ret
    rw [HF.out]
    exact ⟨rfl, below_on (below_mk _ _) (below_mk _ _)⟩
  · have HF : Hid (m.fault = 0) := by simp [Hid, Md.fault, hi]
    go_enter Tryz.func51, Tryz.ntmps51
    go_wp2_with (go_at_call 62; refine (isWithin_two _ _ _ _ _ _ (by simp)).mono ?_; rintro e w' ⟨rfl, rfl⟩; rw [hi])
    go_ret
    rw [HF.out]
    exact ⟨rfl, below_on (below_mk _ _) (below_mk _ _)⟩

set_option maxHeartbeats 1000000 in
theorem specModesFault_any (m : Md) (w : World) : Calls Tryz.prog 41 #[mdV m] w fun e w' => e = .returned (.int .i64 m.fault) ∧ Below w.heap.size w w' := by
  unfold mdV
  cases hi : inR m.mouse 0 3
  · have HF : Hid (m.fault = 3) := by simp [Hid, Md.fault, hi]
    go_enter Tryz.func41, Tryz.ntmps41
    go_wp2_with (go_at_call 70; refine (l1In_any _ _ _ _).mono ?_; rintro e w' ⟨rfl, rfl⟩; rw [hi])
    go_ret
    rw [HF.out]
    exact ⟨rfl, below_mk _ _⟩
  · have HF : Hid (m.fault = 0) := by simp [Hid, Md.fault, hi]
    go_enter Tryz.func41, Tryz.ntmps41
    go_wp2_with (go_at_call 70; refine (l1In_any _ _ _ _).mono ?_; rintro e w' ⟨rfl, rfl⟩; rw [hi])
    go_ret
    rw [HF.out]
    exact ⟨rfl, below_mk _ _⟩

set_option maxRecDepth 100000 in
set_option maxHeartbeats 1000000 in
theorem toModes_any (m : Md) (w : World) : Calls Tryz.prog 6 #[mdV m] w fun e w' => e = .returned (mdV m) ∧ Below w.heap.size w w' := by
  unfold mdV
  go_enter Tryz.func6, Tryz.ntmps6
  go_wp2
  refine bodyPost_ret (v := mdV m) (by simp [results, Tryz.results6, mdV, go_sem]) rfl ⟨rfl, ?_⟩
  exact (((Below.refl _ _).alloc (Nat.le_refl _) _).alloc (by simp) _).alloc (by simp; omega) _

end Go.Proofs.YtjopjddhgaiddabGreatDoor

/- The encoder as data: modes; the bytes of a key, of a mouse event, of an event. -/
namespace Go.Proofs.YtjopjddhgaiddabGreatDoor
open Go.RowKit
set_option linter.unusedVariables false

/-- a key's letter, its number, its code in a sequence -/
def letterE (c : Int) : Int := if c = 2000005 then 65 else if c = 2000006 then 66 else if c = 2000007 then 67 else if c = 2000008 then 68 else if c = 2000009 then 72 else if c = 2000010 then 70 else 0
def tildeE (c : Int) : Int := if c = 2000011 then 2 else if c = 2000012 then 3 else if c = 2000013 then 5 else if c = 2000014 then 6 else 0
def codeE (c : Int) : Int := if c = 2000001 then 13 else if c = 2000002 then 9 else if c = 2000003 then 127 else if c = 2000004 then 27 else c
def byteE (n : Int) : UInt8 := UInt8.ofNat n.toNat
theorem byteE_val {n : Int} (h0 : 0 ≤ n) (h1 : n ≤ 255) : ((byteE n).toNat : Int) = n := by
  unfold byteE
  simp
  omega
/-- a sequence -/
def seqB (priv : Bool) (nums : List Int) (fin : UInt8) : List UInt8 := [27, 91] ++ pb priv nums fin
/-- the bytes of a key with Ctrl -/
def ctrlE (c : Int) : List UInt8 := if c = 32 then [0] else if c = 105 ∨ c = 109 then [] else if 97 ≤ c ∧ c ≤ 122 then [byteE (c - 96)] else []
/-- the plain bytes of a key; none -/
def plainE (c m : Int) : List UInt8 := if special c = true then [byteE (codeE c)] else if m = 0 ∨ m = 2 then putB c else if m = 4 ∨ m = 6 then ctrlE c else []
/-- of a key that has neither a letter nor a number -/
def typedE (coded : Bool) (c m : Int) : List UInt8 :=
  if plainE c m ≠ [] ∧ (m = 0 ∨ (special c = false ∧ m = 4)) then plainE c m
  else if m = 2 ∧ 32 ≤ c ∧ c ≤ 126 then 27 :: plainE c m
  else if coded = true then seqB false [codeE c, m + 1] 117
  else if m / 2 % 2 = 1 then 27 :: (if plainE c m = [] then putB c else plainE c m) else (if plainE c m = [] then putB c else plainE c m)
def letterB (cur : Bool) (x : UInt8) (m : Int) : List UInt8 := if m ≠ 0 then seqB false [1, m + 1] x else if cur = true then [27, 79, x] else seqB false [] x
def tildeB (n m : Int) : List UInt8 := if m ≠ 0 then seqB false [n, m + 1] 126 else seqB false [n] 126
def keyE (md : Md) (c m : Int) : List UInt8 :=
  if letterE c ≠ 0 then letterB md.cursor (byteE (letterE c)) m else if tildeE c ≠ 0 then tildeB (tildeE c) m else typedE md.coded c m
/-- a mouse event -/
def evNum (b a m : Int) : Int := b + 4 * m + (if a = 3 then 32 else 0)
def sgrE (e : Ev) : List UInt8 := seqB true [evNum e.button e.act e.mods, e.col + 1, e.row + 1] (if e.act = 2 then 109 else 77)
def clickE (e : Ev) : List UInt8 := [27, 91, 77, byteE (32 + evNum (if e.act = 2 then 3 else e.button) e.act e.mods), byteE (33 + e.col), byteE (33 + e.row)]
def mouseE (md : Md) (e : Ev) : List UInt8 := if md.sgr = true then sgrE e else clickE e
def wantE (mode act : Int) : Bool := if mode = 1 then act == 1 else if mode = 2 then act != 3 else mode == 3
/-- a paste's beginning and its end -/
def begB : List UInt8 := [27, 91, 50, 48, 48, 126]
def finB : List UInt8 := [27, 91, 50, 48, 49, 126]
def pasteE (md : Md) (d : List UInt8) : List UInt8 := if md.paste = true then (begB ++ d) ++ finB else d

/-- the codes ahead -/
def askE (md : Md) (e : Ev) (k : Int) : Int := if md.fault ≠ 0 then md.fault else if e.fault ≠ 0 then e.fault else if e.kind ≠ k then 1 else 0
def encKey (md : Md) (e : Ev) : Int × List UInt8 := if askE md e 1 ≠ 0 then (askE md e 1, []) else (0, keyE md e.code e.mods)
def encMouse (md : Md) (e : Ev) : Int × List UInt8 := if askE md e 2 ≠ 0 then (askE md e 2, []) else if wantE md.mouse e.act = true then (0, mouseE md e) else (4, [])
def encEvent (md : Md) (e : Ev) : Int × List UInt8 :=
  if askE md e e.kind ≠ 0 then (askE md e e.kind, [])
  else if e.kind = 1 then encKey md e else if e.kind = 2 then encMouse md e else if e.kind = 3 then (0, pasteE md e.data) else (0, e.data)

end Go.Proofs.YtjopjddhgaiddabGreatDoor
