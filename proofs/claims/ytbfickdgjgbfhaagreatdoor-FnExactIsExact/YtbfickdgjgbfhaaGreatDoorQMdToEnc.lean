/- Modes as data; ModesFault of the program and of the model; the law's toModes. -/
import Derived.Test.YtbfickdgjgbfhaaGreatDoorQNumsToIsSpecial
import Derived.Test.YtbfickdgjgbfhaaGreatDoorQBytesToCells
import Derived.Test.YtbfickdgjgbfhaaGreatDoorQShelfAIToL2Bytes
import Derived.Test.YtbfickdgjgbfhaaGreatDoorQPutToBytesRes
import Derived.Test.YtbfickdgjgbfhaaGreatDoorQFaultToFirstFull
set_option linter.unusedVariables false
set_option maxRecDepth 100000
set_option maxHeartbeats 1000000
namespace Go.Proofs.YtbfickdgjgbfhaaGreatDoor
open Go.RowKit
structure Md where
  cursor:Bool
  coded:Bool
  mouse:Int
  sgr:Bool
  paste:Bool
def mdV (m:Md):Value:=.agg #[.bool m.cursor,.bool m.coded,.int .i64 m.mouse,.bool m.sgr,.bool m.paste]
def mdL (m:Md):List Value:=[.bool m.cursor,.bool m.coded,.int .i64 m.mouse,.bool m.sgr,.bool m.paste]
def Md.fault (m:Md):Int:=if inR m.mouse 0 3=true then 0 else 3
theorem Vt (m:Md) (w:World):Calls Tryz.prog 30 #[mdV m] w fun e w'=>e=.returned (.int .i64 m.fault)∧Below w.heap.size w w':=by
  unfold mdV
  cases hi:inR m.mouse 0 3
  · have HF:Hid (m.fault=3):=(by simp[Hid,Md.fault,hi]);go_enter Tryz.func30,Tryz.ntmps30;go_wp2_with (go_at_call 63;refine(Qv _ _ _ _ _ _ (by simp)).mono ?_;rintro e w' ⟨rfl,rfl⟩;rw[hi]);go_ret;rw[HF.out];exact⟨rfl,Qa (Qb _ _) (Qb _ _)⟩
  · have HF:Hid (m.fault=0):=(by simp[Hid,Md.fault,hi]);go_enter Tryz.func30,Tryz.ntmps30;go_wp2_with (go_at_call 63;refine(Qv _ _ _ _ _ _ (by simp)).mono ?_;rintro e w' ⟨rfl,rfl⟩;rw[hi]);go_ret;rw[HF.out];exact⟨rfl,Qa (Qb _ _) (Qb _ _)⟩
theorem Vu (m:Md) (w:World):Calls Tryz.prog 31 #[mdV m] w fun e w'=>e=.returned (.int .i64 m.fault)∧Below w.heap.size w w':=by
  unfold mdV
  cases hi:inR m.mouse 0 3
  · have HF:Hid (m.fault=3):=(by simp[Hid,Md.fault,hi]);go_enter Tryz.func31,Tryz.ntmps31;go_wp2_with (go_at_call 64;refine(QZ _ _ _ _).mono ?_;rintro e w' ⟨rfl,rfl⟩;rw[hi]);go_ret;rw[HF.out];exact⟨rfl,Qb _ _⟩
  · have HF:Hid (m.fault=0):=(by simp[Hid,Md.fault,hi]);go_enter Tryz.func31,Tryz.ntmps31;go_wp2_with (go_at_call 64;refine(QZ _ _ _ _).mono ?_;rintro e w' ⟨rfl,rfl⟩;rw[hi]);go_ret;rw[HF.out];exact⟨rfl,Qb _ _⟩
theorem Qf3 (m:Md) (w:World):Calls Tryz.prog 45 #[mdV m] w fun e w'=>e=.returned (mdV m)∧Below w.heap.size w w':=by
  unfold mdV;go_enter Tryz.func45,Tryz.ntmps45;go_wp2;refine bodyPost_ret (v:=mdV m) (by simp[results,Tryz.results45,mdV,go_sem]) rfl ⟨rfl,?_⟩;exact(((Below.refl _ _).alloc (Nat.le_refl _) _).alloc (by simp) _).alloc (by simp;omega) _
def Xb (c:Int):Int:=if c=2000005 then 65 else if c=2000006 then 66 else if c=2000007 then 67 else if c=2000008 then 68 else if c=2000009 then 72 else if c=2000010 then 70 else 0
def X8 (c:Int):Int:=if c=2000011 then 2 else if c=2000012 then 3 else if c=2000013 then 5 else if c=2000014 then 6 else 0
def QR (c:Int):Int:=if c=2000001 then 13 else if c=2000002 then 9 else if c=2000003 then 127 else if c=2000004 then 27 else c
def Qt (n:Int):UInt8:=UInt8.ofNat n.toNat
theorem QV {n:Int} (h0:0≤n) (h1:n≤255):((Qt n).toNat:Int)=n:=by
  unfold Qt;simp;omega
def Zq (priv:Bool) (nums:List Int) (fin:UInt8):List UInt8:=[27,91]++pb priv nums fin
def Yt (c:Int):List UInt8:=if c=32 then [0] else if c=105∨c=109 then [] else if 97≤c∧c≤122 then [Qt (c - 96)] else []
def Qd (c m:Int):List UInt8:=if Qh c=true then [Qt (QR c)] else if m=0∨m=2 then Ye c else if m=4∨m=6 then Yt c else []
def QC (coded:Bool) (c m:Int):List UInt8:=
  if Qd c m≠[]∧(m=0∨(Qh c=false∧m=4)) then Qd c m
  else if m=2∧32≤c∧c≤126 then 27::Qd c m
  else if coded=true then Zq false [QR c,m+1] 117
  else if m / 2 % 2=1 then 27::(if Qd c m=[] then Ye c else Qd c m) else (if Qd c m=[] then Ye c else Qd c m)
def Yj (cur:Bool) (x:UInt8) (m:Int):List UInt8:=if m≠0 then Zq false [1,m+1] x else if cur=true then [27,79,x] else Zq false [] x
def ZO (n m:Int):List UInt8:=if m≠0 then Zq false [n,m+1] 126 else Zq false [n] 126
def Qcb (md:Md) (c m:Int):List UInt8:=
  if Xb c≠0 then Yj md.cursor (Qt (Xb c)) m else if X8 c≠0 then ZO (X8 c) m else QC md.coded c m
def X9 (b a m:Int):Int:=b+4 * m+(if a=3 then 32 else 0)
def Qk6 (e:Ev):List UInt8:=Zq true [X9 e.button e.act e.mods,e.col+1,e.row+1] (if e.act=2 then 109 else 77)
def Vv (e:Ev):List UInt8:=[27,91,77,Qt (32+X9 (if e.act=2 then 3 else e.button) e.act e.mods),Qt (33+e.col),Qt (33+e.row)]
def Z7 (md:Md) (e:Ev):List UInt8:=if md.sgr=true then Qk6 e else Vv e
def KP (mode act:Int):Bool:=if mode=1 then act==1 else if mode=2 then act != 3 else mode==3
def Qcs:List UInt8:=[27,91,50,48,48,126]
def QaJ:List UInt8:=[27,91,50,48,49,126]
def QeM (md:Md) (d:List UInt8):List UInt8:=if md.paste=true then (Qcs++d)++QaJ else d
def QdQ (md:Md) (e:Ev) (k:Int):Int:=if md.fault≠0 then md.fault else if e.fault≠0 then e.fault else if e.kind≠k then 1 else 0
def KC (md:Md) (e:Ev):Int×List UInt8:=if QdQ md e 1≠0 then (QdQ md e 1,[]) else (0,Qcb md e.code e.mods)
def Zj (md:Md) (e:Ev):Int×List UInt8:=if QdQ md e 2≠0 then (QdQ md e 2,[]) else if KP md.mouse e.act=true then (0,Z7 md e) else (4,[])
def Xc (md:Md) (e:Ev):Int×List UInt8:=
  if QdQ md e e.kind≠0 then (QdQ md e e.kind,[])
  else if e.kind=1 then KC md e else if e.kind=2 then Zj md e else if e.kind=3 then (0,QeM md e.data) else (0,e.data)
end Go.Proofs.YtbfickdgjgbfhaaGreatDoor
