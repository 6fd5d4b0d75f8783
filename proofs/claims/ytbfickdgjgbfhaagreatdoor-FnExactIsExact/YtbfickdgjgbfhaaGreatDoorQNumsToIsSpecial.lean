/- Contracts of the small number functions of chapter 1: l1In, isWithin, areZero. -/
import Derived.Test.YtbfickdgjgbfhaaGreatDoorProg
import Derived.WalkKit
import Derived.Outline
import Derived.Lib.Hide
set_option maxHeartbeats 800000
namespace Go.Proofs.YtbfickdgjgbfhaaGreatDoor
open Go.RowKit
theorem Qdp:yielded.match_1 (fun _=>Option Bool) (some undef) (fun b=>some b) (fun _=>none)=none:=rfl
attribute [go_sem] Qdp
def Kx (v:Int):List Int→Bool
  | a::b::r=>(decide (a≤v)&&decide (v≤b)) || Kx v r
  | _=>false
theorem QfJ (v:Int) (bs:List Int) (k:Nat) (h:k+1<bs.length):
    Kx v (bs.drop k)=((decide (bs.getD k 0≤v)&&decide (v≤bs.getD (k+1) 0)) || Kx v (bs.drop (k+2))):=by
  have e1:bs.drop k=bs.getD k 0::bs.getD (k+1) 0::bs.drop (k+2):=by
    rw[List.drop_eq_getElem_cons (by omega),List.drop_eq_getElem_cons h];simp[List.getD_eq_getElem?_getD,List.getElem?_eq_getElem h,List.getElem?_eq_getElem (show k<bs.length by omega)]
  rw[e1];rfl
theorem Qhk (v:Int) (bs:List Int) (k:Nat) (h:¬k+1<bs.length):Kx v (bs.drop k)=false:=by
  have hl:(bs.drop k).length≤1:=by simp;omega
  match hd:bs.drop k,hl with
  | [],_=>rfl
  | [_],_=>rfl
def inR (v a b:Int):Bool:=decide (a≤v)&&decide (v≤b)
theorem Qi {a b:Bool} (h:a=b):Ending.returned (.bool a)=.returned (.bool b):=by rw[h]
theorem Xg {k:IntKind} {a b:Int} (h:a=b):Ending.returned (.int k a)=.returned (.int k b):=by rw[h]
theorem QZ (v a b:Int) (w:World):
    Calls Tryz.prog 64 #[.int .i64 v,.int .i64 a,.int .i64 b] w fun e w'=>e=.returned (.bool (inR v a b))∧w=w':=by
  by_cases h1:a≤v
  · go_enter Tryz.func64,Tryz.ntmps64;go_wp2;all_goals
      go_ret;exact⟨Qi (by simp[inR, *]),rfl⟩
  · go_enter Tryz.func64,Tryz.ntmps64;go_wp2;go_ret;exact⟨Qi (by simp[inR];omega),rfl⟩
theorem UI (v:Int) (b off n c:Nat) (bs:List Int) (w:World) (hn:bs.length=n) (hm:n≤1000)
    (hc:∀i,i<n→w.cell? ⟨b,off+i,none⟩=some (.int .i64 (bs.getD i 0))):
    Calls Tryz.prog 63 #[.int .i64 v,.slice (some ⟨b,off,none⟩) n c] w fun e w'=>e=.returned (.bool (Kx v bs))∧w=w':=by
  have HN:=Lib.hid hn;have HC:=Lib.hid hc;clear hn hc;go_enter Tryz.func63,Tryz.ntmps63;go_wp2
  go_loop [5] (fun i=>∃k:Nat,k≤n+1∧i=.int .i64 (k+1:Nat)∧Kx v bs=Kx v (bs.drop k)) (fun i=>n+3 - (intOf i).toNat)
  case atStart=>exact⟨0,by omega,rfl,rfl⟩
  case round=>
    obtain⟨k,hk,rfl,hw⟩:=hrel;have HW:=Lib.hid hw;clear hw;by_cases hlt:k+1<n
    · have c0:=HC.out k (by omega);have c1:=HC.out (k+1) hlt;have HS:=Lib.hid (QfJ v bs k (by rw[HN.out];exact hlt));have hlt2:((k+1:Nat):Int)<(n:Int):=(by omega);go_wp2
      · have h1:bs[k]?.getD 0≤v:=(by assumption);have h2:v≤bs[k+1]?.getD 0:=(by assumption);go_ret;exact⟨Qi (by rw[HW.out,HS.out];simp[h1,h2]),rfl⟩
      · have h2:bs[k+1]?.getD 0<v:=(by assumption);exact⟨⟨k+2,by omega,by go_num,by rw[HW.out,HS.out];simp;omega⟩,by simp[intOf];omega⟩
      · have h1:¬bs[k]?.getD 0≤v:=(by assumption);exact⟨⟨k+2,by omega,by go_num,by rw[HW.out,HS.out];simp[h1]⟩,by simp[intOf];omega⟩
    · have HE:=Lib.hid (Qhk v bs k (by rw[HN.out];exact hlt));have hlt2:¬((k+1:Nat):Int)<(n:Int):=(by omega);go_wp2;go_ret;exact⟨Qi (by rw[HW.out,HE.out]),rfl⟩
def JQ (l:List Int):Bool:=l.all (· ==0)
theorem Qhl (l:List Int) (k:Nat) (h:k<l.length):JQ (l.take (k+1))=(JQ (l.take k)&&(l[k]?.getD 0==0)):=by
  unfold JQ;rw[List.take_succ_eq_append_getElem h,List.all_append];simp[List.getElem?_eq_getElem h]
theorem Qkq (l:List Int) (k:Nat) (h:k<l.length) (hz:(l[k]?.getD 0==0)=false):JQ l=false:=by
  rw[List.getElem?_eq_getElem h] at hz;simp[JQ];exact⟨_,List.getElem_mem h,by simpa using hz⟩
theorem Qav (b off n c:Nat) (bs:List Int) (w:World) (hn:bs.length=n) (hm:n≤1000)
    (hc:∀i,i<n→w.cell? ⟨b,off+i,none⟩=some (.int .i64 (bs.getD i 0))):
    Calls Tryz.prog 101 #[.slice (some ⟨b,off,none⟩) n c] w fun e w'=>e=.returned (.bool (JQ bs))∧w=w':=by
  have HN:=Lib.hid hn;have HC:=Lib.hid hc;clear hn hc;go_enter Tryz.func101,Tryz.ntmps101;go_wp2
  go_loop [4,7] (fun _ i=>∃k:Nat,k≤n∧i=.int .i64 k∧JQ (bs.take k)=true) (fun _ i=>n - (intOf i).toNat)
  case atStart=>exact⟨0,by omega,rfl,rfl⟩
  case round=>
    obtain⟨k,hk,rfl,hw⟩:=hrel;have HW:=Lib.hid hw;clear hw;by_cases hlt:k<n
    · have c0:=HC.out k (by omega);have HS:=Lib.hid (Qhl bs k (by rw[HN.out];exact hlt));have HZ:=Lib.hid (Qkq bs k (by rw[HN.out];exact hlt))
      cases hz:(bs[k]?.getD 0==0) with
      | true=>
        have hz':(bs[k]?.getD 0 != 0)=false:=(by rw[bne,hz];rfl);go_wp2;exact⟨⟨k+1,by omega,by go_num,by rw[HS.out,HW.out,hz];rfl⟩,by simp[intOf];omega⟩
      | false=>
        have hz':(bs[k]?.getD 0 != 0)=true:=(by rw[bne,hz];rfl);go_wp2;go_ret;exact⟨Qi (by rw[HZ.out hz]),rfl⟩
    · go_wp2;go_ret;exact⟨Qi (by have hh:=HW.out;rw[List.take_of_length_le (by rw[HN.out];omega)] at hh;rw[hh]),rfl⟩
theorem Qjf (w:World) (x y:Int) (t:TypeId):
    ∀i,i<2→(w.alloc (.cells #[.int .i64 x,.int .i64 y] t)).cell? ⟨w.heap.size,0+i,none⟩=some (.int .i64 ([x,y].getD i 0)):=by
  intro i hi
  match i,hi with
  | 0,_=>simp
  | 1,_=>simp
theorem QcT (w:World) (x y z u:Int) (t:TypeId):
    ∀i,i<4→(w.alloc (.cells #[.int .i64 x,.int .i64 y,.int .i64 z,.int .i64 u] t)).cell? ⟨w.heap.size,0+i,none⟩=some (.int .i64 ([x,y,z,u].getD i 0)):=by
  intro i hi
  match i,hi with
  | 0,_=>simp
  | 1,_=>simp
  | 2,_=>simp
  | 3,_=>simp
theorem Qjg (w:World) (x y z u v q:Int) (t:TypeId):
    ∀i,i<6→(w.alloc (.cells #[.int .i64 x,.int .i64 y,.int .i64 z,.int .i64 u,.int .i64 v,.int .i64 q] t)).cell? ⟨w.heap.size,0+i,none⟩=some (.int .i64 ([x,y,z,u,v,q].getD i 0)):=by
  intro i hi
  match i,hi with
  | 0,_=>simp
  | 1,_=>simp
  | 2,_=>simp
  | 3,_=>simp
  | 4,_=>simp
  | 5,_=>simp
theorem Qv (v a b:Int) (w:World) (t:TypeId) (g:Nat) (hg:g=w.heap.size):
    Calls Tryz.prog 63 #[.int .i64 v,.slice (some ⟨g,0,none⟩) 2 2] (w.alloc (.cells #[.int .i64 a,.int .i64 b] t))
      fun e w'=>e=.returned (.bool (inR v a b))∧w.alloc (.cells #[.int .i64 a,.int .i64 b] t)=w':=by
  subst hg;exact(UI v _ 0 2 2 [a,b] _ rfl (by omega) (Qjf w a b t)).mono fun _ _ ⟨he,hw⟩=>⟨by rw[he];simp[Kx,inR],hw⟩
theorem Qdq (v a b c d:Int) (w:World) (t:TypeId) (g:Nat) (hg:g=w.heap.size):
    Calls Tryz.prog 63 #[.int .i64 v,.slice (some ⟨g,0,none⟩) 4 4] (w.alloc (.cells #[.int .i64 a,.int .i64 b,.int .i64 c,.int .i64 d] t))
      fun e w'=>e=.returned (.bool (inR v a b || inR v c d))∧w.alloc (.cells #[.int .i64 a,.int .i64 b,.int .i64 c,.int .i64 d] t)=w':=by
  subst hg;exact(UI v _ 0 4 4 [a,b,c,d] _ rfl (by omega) (QcT w a b c d t)).mono fun _ _ ⟨he,hw⟩=>⟨by rw[he];simp[Kx,inR],hw⟩
theorem Qes (a b c d:Int) (w:World) (t:TypeId) (g:Nat) (hg:g=w.heap.size):
    Calls Tryz.prog 101 #[.slice (some ⟨g,0,none⟩) 4 4] (w.alloc (.cells #[.int .i64 a,.int .i64 b,.int .i64 c,.int .i64 d] t))
      fun e w'=>e=.returned (.bool (JQ [a,b,c,d]))∧w.alloc (.cells #[.int .i64 a,.int .i64 b,.int .i64 c,.int .i64 d] t)=w':=by
  subst hg;exact Qav _ 0 4 4 [a,b,c,d] _ rfl (by omega) (QcT w a b c d t)
theorem Qaw (a b c d x y:Int) (w:World) (t:TypeId) (g:Nat) (hg:g=w.heap.size):
    Calls Tryz.prog 101 #[.slice (some ⟨g,0,none⟩) 6 6] (w.alloc (.cells #[.int .i64 a,.int .i64 b,.int .i64 c,.int .i64 d,.int .i64 x,.int .i64 y] t))
      fun e w'=>e=.returned (.bool (JQ [a,b,c,d,x,y]))∧w.alloc (.cells #[.int .i64 a,.int .i64 b,.int .i64 c,.int .i64 d,.int .i64 x,.int .i64 y] t)=w':=by
  subst hg;exact Qav _ 0 6 6 [a,b,c,d,x,y] _ rfl (by omega) (Qjg w a b c d x y t)
def Qh (c:Int):Bool:=inR c 2000001 2000014
theorem Qg (c:Int) (w:World):
    Calls Tryz.prog 119 #[.int .i64 c] w fun e w'=>e=.returned (.bool (Qh c))∧w=w':=by
  go_enter Tryz.func119,Tryz.ntmps119;go_wp2_with (go_at_call 64;refine(QZ _ _ _ _).mono ?_;rintro e w' ⟨rfl,rfl⟩);go_ret;exact⟨rfl,rfl⟩
theorem Qj (c:Int) (w:World):
    Calls Tryz.prog 135 #[.int .i64 c] w fun e w'=>e=.returned (.bool (Qh c))∧Below w.heap.size w w':=by
  go_enter Tryz.func135,Tryz.ntmps135;go_wp2_with (go_at_call 63;refine(Qv _ _ _ _ _ _ (by simp)).mono ?_;rintro e w' ⟨rfl,rfl⟩);go_ret;exact⟨rfl,(Below.refl _ _).alloc (Nat.le_refl _) _⟩
end Go.Proofs.YtbfickdgjgbfhaaGreatDoor
