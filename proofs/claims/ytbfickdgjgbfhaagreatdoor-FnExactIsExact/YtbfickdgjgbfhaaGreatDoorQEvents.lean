/- Events as plain data, and the contracts of what reads one: the model's l1Point, l1Key, l1Form, EventFault. -/
import Derived.Test.YtbfickdgjgbfhaaGreatDoorQNumsToIsSpecial
import Derived.Test.YtbfickdgjgbfhaaGreatDoorQBytesToCells
set_option maxHeartbeats 400000
namespace Go.Proofs.YtbfickdgjgbfhaaGreatDoor
open Go.RowKit
def Yq (p:Int):Bool:=inR p 0 1114111&&!inR p 55296 57343
def Xi (c:Int):Bool:=(Yq c&&decide (32≤c)&&(c != 127)) || Qh c
theorem Yv (c:Int) (w:World):Calls Tryz.prog 118 #[.int .i64 c] w fun e w'=>e=.returned (.bool (Yq c))∧w=w':=by
  cases h1:inR c 0 1114111
  all_goals
    go_enter Tryz.func118,Tryz.ntmps118;go_wp2_with (go_at_call 64;refine(QZ _ _ _ _).mono ?_;rintro e w' ⟨rfl,rfl⟩);go_ret;exact⟨Qi (by simp[Yq,h1]),rfl⟩
theorem Qeu (c:Int) (w:World):Calls Tryz.prog 82 #[.int .i64 c] w fun e w'=>e=.returned (.bool (Xi c))∧w=w':=by
  cases h1:Yq c
  · go_enter Tryz.func82,Tryz.ntmps82;go_wp2_with (first
      | (go_at_call 118;refine(Yv _ _).mono ?_;rintro e w' ⟨rfl,rfl⟩)
      | (go_at_call 119;refine(Qg _ _).mono ?_;rintro e w' ⟨rfl,rfl⟩))
    go_ret;exact⟨Qi (by simp[Xi,h1]),rfl⟩
  · by_cases h2:32≤c
    · cases h3:(c != 127)
      all_goals
        go_enter Tryz.func82,Tryz.ntmps82;go_wp2_with (first
          | (go_at_call 118;refine(Yv _ _).mono ?_;rintro e w' ⟨rfl,rfl⟩)
          | (go_at_call 119;refine(Qg _ _).mono ?_;rintro e w' ⟨rfl,rfl⟩))
        go_ret;exact⟨Qi (by simp[Xi,h1,h2,h3]),rfl⟩
    · go_enter Tryz.func82,Tryz.ntmps82;go_wp2_with (first
        | (go_at_call 118;refine(Yv _ _).mono ?_;rintro e w' ⟨rfl,rfl⟩)
        | (go_at_call 119;refine(Qg _ _).mono ?_;rintro e w' ⟨rfl,rfl⟩))
      go_ret;exact⟨Qi (by simp[Xi,h1];omega),rfl⟩
structure Ev where
  kind:Int
  code:Int
  mods:Int
  button:Int
  act:Int
  col:Int
  row:Int
  data:List UInt8
def evV (e:Ev) (p:Option Addr) (c:Nat):Value:=
  .agg #[.int .i64 e.kind,.int .i64 e.code,.int .i64 e.mods,.int .i64 e.button,.int .i64 e.act,.int .i64 e.col,.int .i64 e.row,.slice p e.data.length c]
def evC (e:Ev) (p:Option Addr) (c:Nat):Array Value:=
  #[.int .i64 e.kind,.int .i64 e.code,.int .i64 e.mods,.int .i64 e.button,.int .i64 e.act,.int .i64 e.col,.int .i64 e.row,.slice p e.data.length c]
structure Qax (w:World) (b off:Nat) (e:Ev) (p:Option Addr) (c:Nat):Prop where
  c0:w.cell? ⟨b,off,none⟩=some (.int .i64 e.kind)
  c1:w.cell? ⟨b,off+1,none⟩=some (.int .i64 e.code)
  c2:w.cell? ⟨b,off+2,none⟩=some (.int .i64 e.mods)
  c3:w.cell? ⟨b,off+3,none⟩=some (.int .i64 e.button)
  c4:w.cell? ⟨b,off+4,none⟩=some (.int .i64 e.act)
  c5:w.cell? ⟨b,off+5,none⟩=some (.int .i64 e.col)
  c6:w.cell? ⟨b,off+6,none⟩=some (.int .i64 e.row)
  c7:w.cell? ⟨b,off+7,none⟩=some (.slice p e.data.length c)
theorem Qax.keep {w w':World} {b off:Nat} {e:Ev} {p:Option Addr} {c:Nat} (h:Qax w b off e p c) (hk:∀o,w'.cell? ⟨b,o,none⟩=w.cell? ⟨b,o,none⟩):Qax w' b off e p c:=
  ⟨(hk _).trans h.c0,(hk _).trans h.c1,(hk _).trans h.c2,(hk _).trans h.c3,(hk _).trans h.c4,(hk _).trans h.c5,(hk _).trans h.c6,(hk _).trans h.c7⟩
theorem Qax.below {w w':World} {b off B:Nat} {e:Ev} {p:Option Addr} {c:Nat} (h:Qax w b off e p c) (hb:Below B w w') (hB:b<B):Qax w' b off e p c:=
  h.keep fun o=>hb.cell (p:=⟨b,o,none⟩) hB
theorem Qax.lt {w:World} {b off:Nat} {e:Ev} {p:Option Addr} {c:Nat} (h:Qax w b off e p c):b<w.heap.size:=World.block_lt_of_cell? _ _ h.c0
theorem Qax.new (w:World) (e:Ev) (p:Option Addr) (c:Nat) (t:TypeId):Qax (w.alloc (.cells (evC e p c) t)) w.heap.size 0 e p c:=by
  constructor <;> simp[evC]
def Ev.form (e:Ev):Bool:=
  if e.kind=1 then (e.button==0&&(e.act==0&&(e.col==0&&e.row==0)))&&e.data.isEmpty
  else if e.kind=2 then e.code==0&&e.data.isEmpty
  else if e.kind=3∨e.kind=4 then e.code==0&&(e.mods==0&&(e.button==0&&(e.act==0&&(e.col==0&&e.row==0))))
  else false
theorem Ka (l:List UInt8):((l.length:Int)==0)=l.isEmpty:=by
  cases l with
  | nil=>rfl
  | cons x r=>simp;omega
end Go.Proofs.YtbfickdgjgbfhaaGreatDoor
