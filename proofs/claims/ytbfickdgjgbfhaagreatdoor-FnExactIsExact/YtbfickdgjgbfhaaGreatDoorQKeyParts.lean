/- The key of parts: the program's modsOfNumbers, codeOfLetter, codeOfNumber, codeOfPoint, codeOfParts. -/
import Derived.Test.YtbfickdgjgbfhaaGreatDoorQTokToTokRes
import Derived.Test.YtbfickdgjgbfhaaGreatDoorQPiecesInToPartsSpec
set_option maxRecDepth 100000
set_option maxHeartbeats 2000000
namespace Go.Proofs.YtbfickdgjgbfhaaGreatDoor
open Go.RowKit
def Ze:List Int→Int×Bool
  | []=>(0,true)
  | [_]=>(0,true)
  | [_,m]=>if 1≤m∧m≤8 then (m - 1,true) else (0,false)
  | _=>(0,false)
def QJ (c:Int):Int:=if c=65 then 2000005 else if c=66 then 2000006 else if c=67 then 2000007 else if c=68 then 2000008 else if c=72 then 2000009 else if c=70 then 2000010 else 0
def XH (n:Int):Int:=if n=1 then 2000009 else if n=2 then 2000011 else if n=3 then 2000012 else if n=4 then 2000010 else if n=5 then 2000013 else if n=6 then 2000014 else 0
def Zu (n:Int):Int:=if n=13 then 2000001 else if n=9 then 2000002 else if n=127 then 2000003 else if n=27 then 2000004 else if (Yq n&&decide (32≤n))=true then n else 0
theorem Is.cons {w:World} {B:Nat} {p:Option Addr} {x:Int} {r:List Int} (h:Is w B p (x::r)):∃b off,p=some ⟨b,off,none⟩∧b<B∧∀i,i<r.length+1→w.cell? ⟨b,off+i,none⟩=some (.int .i64 ((x::r).getD i 0)):=h (by simp)
theorem JJ (c:Int) (w:World):Calls Tryz.prog 221 #[.int .u8 c] w fun e w'=>e=.returned (.int .i64 (QJ c))∧w=w':=by
  unfold QJ;repeat' split
  all_goals
    go_enter Tryz.func221,Tryz.ntmps221;go_wp2;go_ret;exact⟨rfl,rfl⟩
theorem U5 (c:Int) (w:World):Calls Tryz.prog 222 #[.int .i64 c] w fun e w'=>e=.returned (.int .i64 (XH c))∧w=w':=by
  unfold XH;repeat' split
  all_goals
    go_enter Tryz.func222,Tryz.ntmps222;go_wp2;go_ret;exact⟨rfl,rfl⟩
theorem Jq (p:Option Addr) (c:Nat) (l:List Int) (w:World) (h:Is w w.heap.size p l) (hl:l.length≤4):
    Calls Tryz.prog 211 #[.slice p l.length c] w fun e w'=>e=.returned (.tuple #[.int .i64 (Ze l).1,.bool (Ze l).2])∧Below w.heap.size w w':=by
  match l,h,hl with
  | [],_,_=>
    show Calls Tryz.prog 211 #[.slice p 0 c] w _;go_enter Tryz.func211,Tryz.ntmps211;go_wp2
    go_ret2
    exact⟨rfl,Below.refl _ _⟩
  | [_],_,_=>
    show Calls Tryz.prog 211 #[.slice p 1 c] w _;go_enter Tryz.func211,Tryz.ntmps211;go_wp2
    go_ret2
    exact⟨rfl,Below.refl _ _⟩
  | [x,m],h,_=>
    obtain⟨b,off,rfl,hb,hc⟩:=h.cons;have hc1:=hc 1 (by simp);simp only[List.getD_cons_succ,List.getD_cons_zero] at hc1;clear hc h;show Calls Tryz.prog 211 #[.slice (some ⟨b,off,none⟩) 2 c] w _;by_cases hm:1≤m∧m≤8
    · have HT:Hid (Ze [x,m]=(m - 1,true)):=if_pos hm;have hi:inR m 1 8=true:=(by simp[inR,hm]);go_enter Tryz.func211,Tryz.ntmps211;go_wp2_with (go_at_call 63;refine(Qv _ _ _ _ _ _ (by simp)).mono ?_;rintro e w' ⟨rfl,rfl⟩;rw[hi])
      go_ret2
      exact⟨by rw[HT.out];rfl,Qb _ _⟩
    · have HT:Hid (Ze [x,m]=(0,false)):=if_neg hm;have hi:inR m 1 8=false:=(by simp[inR];omega);go_enter Tryz.func211,Tryz.ntmps211;go_wp2_with (go_at_call 63;refine(Qv _ _ _ _ _ _ (by simp)).mono ?_;rintro e w' ⟨rfl,rfl⟩;rw[hi])
      go_ret2
      exact⟨by rw[HT.out];rfl,Qb _ _⟩
  | [_,_,_],_,_=>
    show Calls Tryz.prog 211 #[.slice p 3 c] w _;go_enter Tryz.func211,Tryz.ntmps211;go_wp2
    go_ret2
    exact⟨rfl,Below.refl _ _⟩
  | [_,_,_,_],_,_=>
    show Calls Tryz.prog 211 #[.slice p 4 c] w _;go_enter Tryz.func211,Tryz.ntmps211;go_wp2
    go_ret2
    exact⟨rfl,Below.refl _ _⟩
  | _::_::_::_::_::r,_,hl=>exact absurd hl (by simp)
def Zm (n:Int):Int×Bool:=if n=13∨n=9∨n=127∨n=27 then (Zu n,true) else (n,Yq n&&decide (32≤n))
theorem YY (n k:Int) (w:World) (hn:n=13∨n=9∨n=127∨n=27) (hk:Y9 n=Qo k 0 1):
    Calls Tryz.prog 223 #[.int .i64 n] w fun e w'=>e=.returned (.tuple #[.int .i64 k,.bool true])∧Below w.heap.size w w':=by
  have HK:=Lib.hid (fun W=>Zb n W (by omega));rw[hk] at HK;clear hk;have f1:=Vw;have f2:=QeS;have f3:=Qc1;rcases hn with rfl | rfl | rfl | rfl;all_goals
    go_enter Tryz.func223,Tryz.ntmps223;go_wp2_with (go_at_call 160;refine(HK.out _).mono ?_;rintro e w1 ⟨rfl,hb⟩;unfold tkV Qo QL)
    go_ret2
    exact⟨rfl,hb⟩
theorem Qct (n:Int) (w:World) (hn:¬(n=13∨n=9∨n=127∨n=27)):
    Calls Tryz.prog 223 #[.int .i64 n] w fun e w'=>e=.returned (.tuple #[.int .i64 n,.bool (Yq n&&decide (32≤n))])∧Below w.heap.size w w':=by
  have h1:¬n=13:=fun e=>hn (.inl e);have h2:¬n=9:=fun e=>hn (.inr (.inl e));have h3:¬n=127:=fun e=>hn (.inr (.inr (.inl e)));have h4:¬n=27:=fun e=>hn (.inr (.inr (.inr e)));clear hn
  cases hp:Yq n
  all_goals
    go_enter Tryz.func223,Tryz.ntmps223;go_wp2_with (go_at_call 136;refine(XJ _ _).mono ?_;rintro e w1 ⟨rfl,hb⟩;rw[hp])
    go_ret2
    exact⟨by simp,hb⟩
theorem Qbb (n:Int) (w:World):
    Calls Tryz.prog 223 #[.int .i64 n] w fun e w'=>e=.returned (.tuple #[.int .i64 (Zm n).1,.bool (Zm n).2])∧Below w.heap.size w w':=by
  by_cases hn:n=13∨n=9∨n=127∨n=27
  · unfold Zm;rw[if_pos hn];rcases hn with rfl | rfl | rfl | rfl
    · exact YY 13 2000001 w (by omega) rfl
    · exact YY 9 2000002 w (by omega) rfl
    · exact YY 127 2000003 w (by omega) rfl
    · exact YY 27 2000004 w (by omega) rfl
  · unfold Zm;rw[if_neg hn];exact Qct n w hn
end Go.Proofs.YtbfickdgjgbfhaaGreatDoor
