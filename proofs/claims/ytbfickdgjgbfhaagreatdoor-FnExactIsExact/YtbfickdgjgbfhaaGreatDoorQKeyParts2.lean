/- The key of parts: codeOfParts and KeyOfParts of the program. -/
import Derived.Test.YtbfickdgjgbfhaaGreatDoorQSpecKey
import Derived.Deep.QuietTactic
import Derived.BigQuiet
set_option maxRecDepth 100000
set_option maxHeartbeats 2000000
namespace Go.Proofs.YtbfickdgjgbfhaaGreatDoor
open Go.RowKit
def ZP:List Int→Bool
  | []=>true
  | [x,_]=>x==1
  | _=>false
def YZ (l:List Int) (f:Int):Int×Bool:=
  if f=126∨f=117 then (match l with
    | []=>(0,false)
    | x::_=>if f=126 then (XH x,XH x != 0) else Zm x)
  else (QJ f,QJ f != 0&&ZP l)
theorem QdW {f:Int} (hf:f=126∨f=117):YZ [] f=(0,false):=by unfold YZ;rw[if_pos hf]
theorem QdX (x:Int) (r:List Int):YZ (x::r) 126=(XH x,XH x != 0):=by unfold YZ;rw[if_pos (by omega)];rfl
theorem QdY (x:Int) (r:List Int):YZ (x::r) 117=Zm x:=by unfold YZ;rw[if_pos (by omega)];rfl
theorem Qaq (l:List Int) {f:Int} (hf:¬(f=126∨f=117)):YZ l f=(QJ f,QJ f != 0&&ZP l):=by unfold YZ;rw[if_neg hf]
theorem QdZ (p:Option Addr) (c:Nat) (f:Int) (w:World) (hf:f=126∨f=117):
    Calls Tryz.prog 212 #[.slice p 0 c,.int .u8 f] w fun e w'=>e=.returned (.tuple #[.int .i64 0,.bool false])∧Below w.heap.size w w':=by
  rcases hf with rfl | rfl;all_goals
    go_enter Tryz.func212,Tryz.ntmps212;go_wp2
    go_ret2
    exact⟨rfl,Below.refl _ _⟩
theorem Qd0 (b off c n:Nat) (x:Int) (w:World) (hc:w.cell? ⟨b,off,none⟩=some (.int .i64 x)) (hn:n=1∨n=2):
    Calls Tryz.prog 212 #[.slice (some ⟨b,off,none⟩) n c,.int .u8 126] w fun e w'=>e=.returned (.tuple #[.int .i64 (XH x),.bool (XH x != 0)])∧Below w.heap.size w w':=by
  have HT:=Lib.hid (U5 x);generalize XH x=k at *;rcases hn with rfl | rfl;all_goals
    go_enter Tryz.func212,Tryz.ntmps212;go_wp2_with (go_at_call 222;refine(HT.out _).mono ?_;rintro e w1 ⟨rfl,rfl⟩)
    go_ret2
    exact⟨rfl,Below.refl _ _⟩
theorem Qd1 (b off c n:Nat) (x:Int) (w:World) (hc:w.cell? ⟨b,off,none⟩=some (.int .i64 x)) (hn:n=1∨n=2):
    Calls Tryz.prog 212 #[.slice (some ⟨b,off,none⟩) n c,.int .u8 117] w fun e w'=>e=.returned (.tuple #[.int .i64 (Zm x).1,.bool (Zm x).2])∧Below w.heap.size w w':=by
  have HT:=Lib.hid (Qbb x);generalize Zm x=k at *;rcases hn with rfl | rfl;all_goals
    go_enter Tryz.func212,Tryz.ntmps212;go_wp2_with (go_at_call 223;refine(HT.out _).mono ?_;rintro e w1 ⟨rfl,hb⟩)
    go_ret2
    exact⟨rfl,hb⟩
theorem KG (p:Option Addr) (c n:Nat) (f:Int) (w:World) (h1:¬f=126) (h2:¬f=117) (hn:n=0∨n=1):
    Calls Tryz.prog 212 #[.slice p n c,.int .u8 f] w fun e w'=>e=.returned (.tuple #[.int .i64 (QJ f),.bool (QJ f != 0&&decide (n=0))])∧Below w.heap.size w w':=by
  have HT:=Lib.hid (JJ f);generalize QJ f=k at *;by_cases hk:k=0
  · subst hk;rcases hn with rfl | rfl;all_goals
      go_enter Tryz.func212,Tryz.ntmps212;go_wp2_with (go_at_call 221;refine(HT.out _).mono ?_;rintro e w1 ⟨rfl,rfl⟩)
      go_quiet (fail)
      go_wp2
      go_ret2
      exact⟨rfl,Qc (Below.refl _ _) nq⟩
  · have hk2:(k != 0)=true:=(by simp[hk]);have hk3:(k==0)=false:=(by simp[hk]);rcases hn with rfl | rfl;all_goals
      go_enter Tryz.func212,Tryz.ntmps212;go_wp2_with (go_at_call 221;refine(HT.out _).mono ?_;rintro e w1 ⟨rfl,rfl⟩)
      go_quiet (fail)
      go_wp2
      go_ret2
      exact⟨by rw[hk2];rfl,Qc (Below.refl _ _) nq⟩
theorem Qcu (b off c:Nat) (x f:Int) (w:World) (hc:w.cell? ⟨b,off,none⟩=some (.int .i64 x)) (h1:¬f=126) (h2:¬f=117):
    Calls Tryz.prog 212 #[.slice (some ⟨b,off,none⟩) 2 c,.int .u8 f] w fun e w'=>e=.returned (.tuple #[.int .i64 (QJ f),.bool (QJ f != 0&&(x==1))])∧Below w.heap.size w w':=by
  have HT:=Lib.hid (JJ f);generalize QJ f=k at *;by_cases hk:k=0
  · subst hk;go_enter Tryz.func212,Tryz.ntmps212;go_wp2_with (go_at_call 221;refine(HT.out _).mono ?_;rintro e w1 ⟨rfl,rfl⟩)
    go_quiet (fail)
    go_wp2
    go_ret2
    exact⟨rfl,Qc (Below.refl _ _) nq⟩
  · have hk2:(k != 0)=true:=(by simp[hk]);have hk3:(k==0)=false:=(by simp[hk]);go_enter Tryz.func212,Tryz.ntmps212;go_wp2_with (go_at_call 221;refine(HT.out _).mono ?_;rintro e w1 ⟨rfl,rfl⟩)
    go_quiet (fail)
    go_wp2
    go_ret2
    exact⟨by rw[hk2];rfl,Qc (Below.refl _ _) nq⟩
theorem Qbc (p:Option Addr) (c:Nat) (l:List Int) (f:Int) (w:World) (h:Is w w.heap.size p l) (hl:l.length≤2):
    Calls Tryz.prog 212 #[.slice p l.length c,.int .u8 f] w fun e w'=>e=.returned (.tuple #[.int .i64 (YZ l f).1,.bool (YZ l f).2])∧Below w.heap.size w w':=by
  by_cases hf:f=126∨f=117
  · match l,h,hl with
    | [],_,_=>rw[QdW hf];exact QdZ p c f w hf
    | x::r,h,hl=>
      obtain⟨b,off,rfl,hb,hc⟩:=h.cons;have hc0:=hc 0 (by simp);have hn:(x::r).length=1∨(x::r).length=2:=(by have e:(x::r).length=r.length+1:=rfl;omega);rcases hf with rfl | rfl
      · rw[QdX];exact Qd0 b off c _ x w hc0 hn
      · rw[QdY];exact Qd1 b off c _ x w hc0 hn
  · rw[Qaq l hf];have h1:¬f=126:=fun e=>hf (.inl e);have h2:¬f=117:=fun e=>hf (.inr e)
    match l,h,hl with
    | [],_,_=>exact KG p c 0 f w h1 h2 (.inl rfl)
    | [_],_,_=>exact KG p c 1 f w h1 h2 (.inr rfl)
    | [x,_],h,_=>
      obtain⟨b,off,rfl,hb,hc⟩:=h.cons;exact Qcu b off c x f w (hc 0 (by simp)) h1 h2
    | _::_::_::r,_,hl=>exact absurd hl (by simp)
end Go.Proofs.YtbfickdgjgbfhaaGreatDoor
