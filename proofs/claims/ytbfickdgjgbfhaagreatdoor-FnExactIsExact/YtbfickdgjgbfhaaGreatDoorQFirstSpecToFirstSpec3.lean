/- The model's first code point of bytes: l1Lead, l1Begins, l1First, FirstPoint. -/
import Derived.Test.YtbfickdgjgbfhaaGreatDoorQPutToBytesRes
import Derived.Deep.RegionWith
set_option maxRecDepth 100000
set_option maxHeartbeats 4000000
namespace Go.Proofs.YtbfickdgjgbfhaaGreatDoor
open Go.RowKit
def Xo (b:Nat):Nat:=if b<128 then 1 else if 192≤b∧b<224 then 2 else if 224≤b∧b<240 then 3 else if 240≤b∧b<248 then 4 else 0
def Zf (b:Nat):Int:=if b<128 then b else if 192≤b∧b<224 then b - 192 else if 224≤b∧b<240 then b - 224 else if 240≤b∧b<248 then b - 240 else 0
theorem Qas (b:Nat):Xo b≤4:=by unfold Xo;repeat (first | omega | split)
theorem Qg9 (b:Nat):0≤Zf b∧Zf b≤127:=by unfold Zf;repeat (first | omega | split)
theorem Ya (b:UInt8):b.toNat<256:=UInt8.toNat_lt b
theorem ZH {a b:Int} {n m:Int} (h:a=n) (k:b=m):Ending.returned (.tuple #[.int .i64 a,.int .i64 b])=.returned (.tuple #[.int .i64 n,.int .i64 m]):=by rw[h,k]
theorem Ki (b:UInt8) (w:World):
    Calls Tryz.prog 164 #[.int .u8 (b.toNat:Int)] w fun e w'=>e=.returned (.tuple #[.int .i64 (Xo b.toNat),.int .i64 (Zf b.toNat)])∧w=w':=by
  have hb:=Ya b;generalize b.toNat=x at *;by_cases h1:(x:Int)<128
  · go_enter Tryz.func164,Tryz.ntmps164;go_wp2
    go_ret2
    exact⟨ZH (by unfold Xo;rw[if_pos (by omega)];rfl) (by unfold Zf;rw[if_pos (by omega)]),rfl⟩
  by_cases h2:(192:Int)≤x
  · by_cases h3:(x:Int)<224
    · go_enter Tryz.func164,Tryz.ntmps164;go_wp2
      go_ret2
      exact⟨ZH (by unfold Xo;rw[if_neg (by omega),if_pos (by omega)];rfl) (by unfold Zf;rw[if_neg (by omega),if_pos (by omega)]),rfl⟩
    by_cases h4:(x:Int)<240
    · have h3':(224:Int)≤x:=(by omega);go_enter Tryz.func164,Tryz.ntmps164;go_wp2
      go_ret2
      exact⟨ZH (by unfold Xo;rw[if_neg (by omega),if_neg (by omega),if_pos (by omega)];rfl) (by unfold Zf;rw[if_neg (by omega),if_neg (by omega),if_pos (by omega)]),rfl⟩
    by_cases h5:(x:Int)<248
    · have h3':(224:Int)≤x:=(by omega);have h4':(240:Int)≤x:=(by omega);go_enter Tryz.func164,Tryz.ntmps164;go_wp2
      go_ret2
      exact⟨ZH (by unfold Xo;rw[if_neg (by omega),if_neg (by omega),if_neg (by omega),if_pos (by omega)];rfl) (by unfold Zf;rw[if_neg (by omega),if_neg (by omega),if_neg (by omega),if_pos (by omega)]),rfl⟩
    · have h3':(224:Int)≤x:=(by omega);have h4':(240:Int)≤x:=(by omega);go_enter Tryz.func164,Tryz.ntmps164;go_wp2
      go_ret2
      exact⟨ZH (by unfold Xo;rw[if_neg (by omega),if_neg (by omega),if_neg (by omega),if_neg (by omega)];rfl) (by unfold Zf;rw[if_neg (by omega),if_neg (by omega),if_neg (by omega),if_neg (by omega)]),rfl⟩
  · have h3':¬(224:Int)≤x:=(by omega);have h4':¬(240:Int)≤x:=(by omega);go_enter Tryz.func164,Tryz.ntmps164;go_wp2
    go_ret2
    exact⟨ZH (by unfold Xo;rw[if_neg (by omega),if_neg (by omega),if_neg (by omega),if_neg (by omega)];rfl) (by unfold Zf;rw[if_neg (by omega),if_neg (by omega),if_neg (by omega),if_neg (by omega)]),rfl⟩
def Q5 (p:Int):List UInt8→Int
  | []=>p
  | b::r=>Q5 (p * 64+(b.toNat:Int) % 64) r
def Jr (b:UInt8):Bool:=b.toNat / 64==2
def Qbg (p:Int):Nat→Int
  | 0=>p
  | j+1=>Qbg p j * 64
def Qbh (p:Int):Nat→Int
  | 0=>p
  | j+1=>Qbh p j * 64+63
def bnd:Nat→Int
  | 0=>127
  | k+1=>bnd k * 64+63
theorem Qbi (k:Nat) (h:k≤6):0≤bnd k∧bnd k≤9007199254740991:=by
  match k,h with
  | 0,_=>decide
  | 1,_=>decide
  | 2,_=>decide
  | 3,_=>decide
  | 4,_=>decide
  | 5,_=>decide
  | 6,_=>decide
theorem Qd2 (p:Int) (k:Nat) (h0:0≤p) (h1:p≤bnd k):∀j,0≤Qbg p j∧Qbg p j≤Qbh p j∧Qbh p j≤bnd (k+j)
  | 0=>⟨h0,Int.le_refl _,h1⟩
  | j+1=>by
    have h:=Qd2 p k h0 h1 j;have e:bnd (k+(j+1))=bnd (k+j) * 64+63:=rfl;rw[e];simp only[Qbg,Qbh];omega
def KH (n:Nat):Int:=if n=2 then 128 else if n=3 then 2048 else 65536
def QfG (a b:Int):Int:=if b<a then a else b
def QfH (a b:Int):Int:=if a<b then a else b
def KW (p:Int) (j:Nat) (least:Int):Bool:=
  decide (QfG (Qbg p j) least≤QfH (Qbh p j) 1114111)&&!(decide (55296≤QfG (Qbg p j) least)&&decide (QfH (Qbh p j) 1114111≤57343))
def YH (tail:List UInt8) (n:Nat) (p:Int):Bool:=tail.all Jr&&KW (Q5 p tail) (n - (tail.length+1)) (KH n)
theorem Y2 (a b:Int) (w:World):Calls Tryz.prog 71 #[.int .i64 a,.int .i64 b] w fun e w'=>e=.returned (.int .i64 (QfG a b))∧w=w':=by
  by_cases h:b<a;all_goals
    go_enter Tryz.func71,Tryz.ntmps71;go_wp2;go_ret;exact⟨Xg (by unfold QfG;first | rw[if_pos (by omega)] | rw[if_neg (by omega)]),rfl⟩
theorem Yl (a b:Int) (w:World):Calls Tryz.prog 72 #[.int .i64 a,.int .i64 b] w fun e w'=>e=.returned (.int .i64 (QfH a b))∧w=w':=by
  by_cases h:a<b;all_goals
    go_enter Tryz.func72,Tryz.ntmps72;go_wp2;go_ret;exact⟨Xg (by unfold QfH;first | rw[if_pos (by omega)] | rw[if_neg (by omega)]),rfl⟩
theorem VE (tail:List UInt8) (k:Nat) (p:Int) (h:k<tail.length):
    Q5 p (tail.drop k)=Q5 (p * 64+(tail[k].toNat:Int) % 64) (tail.drop (k+1))∧(tail.drop k).all Jr=(Jr tail[k]&&(tail.drop (k+1)).all Jr):=by
  rw[List.drop_eq_getElem_cons h];exact⟨rfl,rfl⟩
theorem Qbj {tail:List UInt8} {n:Nat} {p:Int} (h:tail.all Jr=false):YH tail n p=false:=by simp[YH,h]
theorem Up {tail:List UInt8} {n:Nat} {p:Int} (h:tail.all Jr=true):YH tail n p=KW (Q5 p tail) (n - (tail.length+1)) (KH n):=by simp[YH,h]
theorem Qbk (b:UInt8):Jr b=!((b.toNat:Int) / 64 != 2):=by
  unfold Jr;rw[Bool.eq_iff_iff];simp;omega
theorem QhG (q:Option Addr) (c:Nat) (a:UInt8) (tail:List UInt8) (p0:Int) (w:World) {B:Nat} (h:Bs w B q (a::tail)) (hp0:0≤p0) (hp1:p0≤127) (ht:tail.length+1<2):
    Calls Tryz.prog 165 #[.slice q (tail.length+1) c,.int .i64 2,.int .i64 p0] w fun e w'=>e=.returned (.bool (YH tail 2 p0))∧Below w.heap.size w w':=by
  obtain⟨b,off,rfl,_,hc⟩:=h (by simp);have HC:=Lib.hid hc;clear hc;go_enter Tryz.func165,Tryz.ntmps165;go_wp2
  go_loop [2,7] (fun pv i=>∃(k:Nat) (pk:Int),k≤tail.length∧i=.int .i64 (k+1:Nat)∧pv=.int .i64 pk∧0≤pk∧pk≤bnd k∧tail.all Jr=(tail.drop k).all Jr∧Q5 p0 tail=Q5 pk (tail.drop k)) (fun _ i=>tail.length+1 - (intOf i).toNat)
  case atStart=>exact⟨0,p0,by omega,rfl,rfl,hp0,hp1,rfl,rfl⟩
  case round=>
    obtain⟨k,pk,hk,rfl,rfl,k0,k1,ha,hb⟩:=hrel;have HA:=Lib.hid ha;have HB:=Lib.hid hb;clear ha hb;have hbd:=Qbi k (by omega);by_cases hlt:k<tail.length
    · have c0:=HC.out (k+1) (by simp;omega);have HS:=Lib.hid (VE tail k pk hlt);have HI:=Lib.hid (Qbk tail[k]);have hx:=Ya tail[k];have e0:(a::tail).getD (k+1) 0=tail[k]:=(by simp[hlt]);rw[e0] at c0;clear e0;have hr:(0:Int)≤(tail[k].toNat:Int) % 64∧(tail[k].toNat:Int) % 64<64:=by omega
      cases hq:((tail[k].toNat:Int) / 64 != 2)
      · go_wp2;exact⟨⟨k+1,_,by omega,by go_num,rfl,by omega,by show _≤bnd k * 64+63;omega,by rw[HA.out,HS.out.2,HI.out,hq];rfl,by rw[HB.out,HS.out.1]⟩,by simp[intOf];omega⟩
      · go_wp2;go_ret;exact⟨Qi (by rw[Qbj];rw[HA.out,HS.out.2,HI.out,hq];rfl),Below.refl _ _⟩
    · obtain rfl:k=tail.length:=(by omega);have HY:Hid (YH tail 2 p0=KW pk (2 - (tail.length+1)) 128):=by
        have h1:tail.all Jr=true:=(by rw[HA.out,List.drop_length];rfl);have h2:Q5 p0 tail=pk:=(by rw[HB.out,List.drop_length];rfl);rw[Up h1,h2];rfl
      have HL:=Lib.hid (Qd2 pk tail.length k0 k1);go_wp2
      go_loop [8,9,10] (fun lo hi i=>∃j:Nat,j+(tail.length+1)≤2∧i=.int .i64 (tail.length+1+j:Nat)∧lo=.int .i64 (Qbg pk j)∧hi=.int .i64 (Qbh pk j)) (fun _ _ i=>2 - (intOf i).toNat)
      case atStart=>exact⟨0,by omega,rfl,rfl,rfl⟩
      case round=>
        obtain⟨j,hj,rfl,rfl,rfl⟩:=hrel;have hl:=HL.out j;have hbj:=Qbi (tail.length+j) (by omega);by_cases hlt2:tail.length+1+j<2
        · go_wp2;exact⟨⟨j+1,by omega,by go_num,rfl,rfl⟩,by simp[intOf];omega⟩
        · have hjn:2 - (tail.length+1)=j:=(by omega);rw[hjn] at HY;clear hjn;by_cases g1:QfG (Qbg pk j) 128≤QfH (Qbh pk j) 1114111
          · by_cases g2:55296≤QfG (Qbg pk j) 128
            · by_cases g3:QfH (Qbh pk j) 1114111≤57343;all_goals
                go_wp2_with (first
                  | (go_at_call 71;refine(Y2 _ _ _).mono ?_;rintro e w' ⟨rfl,rfl⟩)
                  | (go_at_call 72;refine(Yl _ _ _).mono ?_;rintro e w' ⟨rfl,rfl⟩))
                go_ret;exact⟨Qi (by rw[HY.out];simp[KW, *]),(Below.refl _ _).alloc (Nat.le_refl _) _⟩
            · go_wp2_with (first
                | (go_at_call 71;refine(Y2 _ _ _).mono ?_;rintro e w' ⟨rfl,rfl⟩)
                | (go_at_call 72;refine(Yl _ _ _).mono ?_;rintro e w' ⟨rfl,rfl⟩))
              all_goals
                go_ret;exact⟨Qi (by rw[HY.out];simp[KW];omega),(Below.refl _ _).alloc (Nat.le_refl _) _⟩
          · go_wp2_with (first
              | (go_at_call 71;refine(Y2 _ _ _).mono ?_;rintro e w' ⟨rfl,rfl⟩)
              | (go_at_call 72;refine(Yl _ _ _).mono ?_;rintro e w' ⟨rfl,rfl⟩))
            all_goals
              go_ret;exact⟨Qi (by rw[HY.out];simp[KW];omega),(Below.refl _ _).alloc (Nat.le_refl _) _⟩
theorem QhH (q:Option Addr) (c:Nat) (a:UInt8) (tail:List UInt8) (p0:Int) (w:World) {B:Nat} (h:Bs w B q (a::tail)) (hp0:0≤p0) (hp1:p0≤127) (ht:tail.length+1<3):
    Calls Tryz.prog 165 #[.slice q (tail.length+1) c,.int .i64 3,.int .i64 p0] w fun e w'=>e=.returned (.bool (YH tail 3 p0))∧Below w.heap.size w w':=by
  obtain⟨b,off,rfl,_,hc⟩:=h (by simp);have HC:=Lib.hid hc;clear hc;go_enter Tryz.func165,Tryz.ntmps165;go_wp2
  go_loop [2,7] (fun pv i=>∃(k:Nat) (pk:Int),k≤tail.length∧i=.int .i64 (k+1:Nat)∧pv=.int .i64 pk∧0≤pk∧pk≤bnd k∧tail.all Jr=(tail.drop k).all Jr∧Q5 p0 tail=Q5 pk (tail.drop k)) (fun _ i=>tail.length+1 - (intOf i).toNat)
  case atStart=>exact⟨0,p0,by omega,rfl,rfl,hp0,hp1,rfl,rfl⟩
  case round=>
    obtain⟨k,pk,hk,rfl,rfl,k0,k1,ha,hb⟩:=hrel;have HA:=Lib.hid ha;have HB:=Lib.hid hb;clear ha hb;have hbd:=Qbi k (by omega);by_cases hlt:k<tail.length
    · have c0:=HC.out (k+1) (by simp;omega);have HS:=Lib.hid (VE tail k pk hlt);have HI:=Lib.hid (Qbk tail[k]);have hx:=Ya tail[k];have e0:(a::tail).getD (k+1) 0=tail[k]:=(by simp[hlt]);rw[e0] at c0;clear e0;have hr:(0:Int)≤(tail[k].toNat:Int) % 64∧(tail[k].toNat:Int) % 64<64:=by omega
      cases hq:((tail[k].toNat:Int) / 64 != 2)
      · go_wp2;exact⟨⟨k+1,_,by omega,by go_num,rfl,by omega,by show _≤bnd k * 64+63;omega,by rw[HA.out,HS.out.2,HI.out,hq];rfl,by rw[HB.out,HS.out.1]⟩,by simp[intOf];omega⟩
      · go_wp2;go_ret;exact⟨Qi (by rw[Qbj];rw[HA.out,HS.out.2,HI.out,hq];rfl),Below.refl _ _⟩
    · obtain rfl:k=tail.length:=(by omega);have HY:Hid (YH tail 3 p0=KW pk (3 - (tail.length+1)) 2048):=by
        have h1:tail.all Jr=true:=(by rw[HA.out,List.drop_length];rfl);have h2:Q5 p0 tail=pk:=(by rw[HB.out,List.drop_length];rfl);rw[Up h1,h2];rfl
      have HL:=Lib.hid (Qd2 pk tail.length k0 k1);go_wp2
      go_loop [8,9,10] (fun lo hi i=>∃j:Nat,j+(tail.length+1)≤3∧i=.int .i64 (tail.length+1+j:Nat)∧lo=.int .i64 (Qbg pk j)∧hi=.int .i64 (Qbh pk j)) (fun _ _ i=>3 - (intOf i).toNat)
      case atStart=>exact⟨0,by omega,rfl,rfl,rfl⟩
      case round=>
        obtain⟨j,hj,rfl,rfl,rfl⟩:=hrel;have hl:=HL.out j;have hbj:=Qbi (tail.length+j) (by omega);by_cases hlt2:tail.length+1+j<3
        · go_wp2;exact⟨⟨j+1,by omega,by go_num,rfl,rfl⟩,by simp[intOf];omega⟩
        · have hjn:3 - (tail.length+1)=j:=(by omega);rw[hjn] at HY;clear hjn;by_cases g1:QfG (Qbg pk j) 2048≤QfH (Qbh pk j) 1114111
          · by_cases g2:55296≤QfG (Qbg pk j) 2048
            · by_cases g3:QfH (Qbh pk j) 1114111≤57343;all_goals
                go_wp2_with (first
                  | (go_at_call 71;refine(Y2 _ _ _).mono ?_;rintro e w' ⟨rfl,rfl⟩)
                  | (go_at_call 72;refine(Yl _ _ _).mono ?_;rintro e w' ⟨rfl,rfl⟩))
                go_ret;exact⟨Qi (by rw[HY.out];simp[KW, *]),(Below.refl _ _).alloc (Nat.le_refl _) _⟩
            · go_wp2_with (first
                | (go_at_call 71;refine(Y2 _ _ _).mono ?_;rintro e w' ⟨rfl,rfl⟩)
                | (go_at_call 72;refine(Yl _ _ _).mono ?_;rintro e w' ⟨rfl,rfl⟩))
              all_goals
                go_ret;exact⟨Qi (by rw[HY.out];simp[KW];omega),(Below.refl _ _).alloc (Nat.le_refl _) _⟩
          · go_wp2_with (first
              | (go_at_call 71;refine(Y2 _ _ _).mono ?_;rintro e w' ⟨rfl,rfl⟩)
              | (go_at_call 72;refine(Yl _ _ _).mono ?_;rintro e w' ⟨rfl,rfl⟩))
            all_goals
              go_ret;exact⟨Qi (by rw[HY.out];simp[KW];omega),(Below.refl _ _).alloc (Nat.le_refl _) _⟩
theorem QhI (q:Option Addr) (c:Nat) (a:UInt8) (tail:List UInt8) (p0:Int) (w:World) {B:Nat} (h:Bs w B q (a::tail)) (hp0:0≤p0) (hp1:p0≤127) (ht:tail.length+1<4):
    Calls Tryz.prog 165 #[.slice q (tail.length+1) c,.int .i64 4,.int .i64 p0] w fun e w'=>e=.returned (.bool (YH tail 4 p0))∧Below w.heap.size w w':=by
  obtain⟨b,off,rfl,_,hc⟩:=h (by simp);have HC:=Lib.hid hc;clear hc;go_enter Tryz.func165,Tryz.ntmps165;go_wp2
  go_loop [2,7] (fun pv i=>∃(k:Nat) (pk:Int),k≤tail.length∧i=.int .i64 (k+1:Nat)∧pv=.int .i64 pk∧0≤pk∧pk≤bnd k∧tail.all Jr=(tail.drop k).all Jr∧Q5 p0 tail=Q5 pk (tail.drop k)) (fun _ i=>tail.length+1 - (intOf i).toNat)
  case atStart=>exact⟨0,p0,by omega,rfl,rfl,hp0,hp1,rfl,rfl⟩
  case round=>
    obtain⟨k,pk,hk,rfl,rfl,k0,k1,ha,hb⟩:=hrel;have HA:=Lib.hid ha;have HB:=Lib.hid hb;clear ha hb;have hbd:=Qbi k (by omega);by_cases hlt:k<tail.length
    · have c0:=HC.out (k+1) (by simp;omega);have HS:=Lib.hid (VE tail k pk hlt);have HI:=Lib.hid (Qbk tail[k]);have hx:=Ya tail[k];have e0:(a::tail).getD (k+1) 0=tail[k]:=(by simp[hlt]);rw[e0] at c0;clear e0;have hr:(0:Int)≤(tail[k].toNat:Int) % 64∧(tail[k].toNat:Int) % 64<64:=by omega
      cases hq:((tail[k].toNat:Int) / 64 != 2)
      · go_wp2;exact⟨⟨k+1,_,by omega,by go_num,rfl,by omega,by show _≤bnd k * 64+63;omega,by rw[HA.out,HS.out.2,HI.out,hq];rfl,by rw[HB.out,HS.out.1]⟩,by simp[intOf];omega⟩
      · go_wp2;go_ret;exact⟨Qi (by rw[Qbj];rw[HA.out,HS.out.2,HI.out,hq];rfl),Below.refl _ _⟩
    · obtain rfl:k=tail.length:=(by omega);have HY:Hid (YH tail 4 p0=KW pk (4 - (tail.length+1)) 65536):=by
        have h1:tail.all Jr=true:=(by rw[HA.out,List.drop_length];rfl);have h2:Q5 p0 tail=pk:=(by rw[HB.out,List.drop_length];rfl);rw[Up h1,h2];rfl
      have HL:=Lib.hid (Qd2 pk tail.length k0 k1);go_wp2
      go_loop [8,9,10] (fun lo hi i=>∃j:Nat,j+(tail.length+1)≤4∧i=.int .i64 (tail.length+1+j:Nat)∧lo=.int .i64 (Qbg pk j)∧hi=.int .i64 (Qbh pk j)) (fun _ _ i=>4 - (intOf i).toNat)
      case atStart=>exact⟨0,by omega,rfl,rfl,rfl⟩
      case round=>
        obtain⟨j,hj,rfl,rfl,rfl⟩:=hrel;have hl:=HL.out j;have hbj:=Qbi (tail.length+j) (by omega);by_cases hlt2:tail.length+1+j<4
        · go_wp2;exact⟨⟨j+1,by omega,by go_num,rfl,rfl⟩,by simp[intOf];omega⟩
        · have hjn:4 - (tail.length+1)=j:=(by omega);rw[hjn] at HY;clear hjn;by_cases g1:QfG (Qbg pk j) 65536≤QfH (Qbh pk j) 1114111
          · by_cases g2:55296≤QfG (Qbg pk j) 65536
            · by_cases g3:QfH (Qbh pk j) 1114111≤57343;all_goals
                go_wp2_with (first
                  | (go_at_call 71;refine(Y2 _ _ _).mono ?_;rintro e w' ⟨rfl,rfl⟩)
                  | (go_at_call 72;refine(Yl _ _ _).mono ?_;rintro e w' ⟨rfl,rfl⟩))
                go_ret;exact⟨Qi (by rw[HY.out];simp[KW, *]),(Below.refl _ _).alloc (Nat.le_refl _) _⟩
            · go_wp2_with (first
                | (go_at_call 71;refine(Y2 _ _ _).mono ?_;rintro e w' ⟨rfl,rfl⟩)
                | (go_at_call 72;refine(Yl _ _ _).mono ?_;rintro e w' ⟨rfl,rfl⟩))
              all_goals
                go_ret;exact⟨Qi (by rw[HY.out];simp[KW];omega),(Below.refl _ _).alloc (Nat.le_refl _) _⟩
          · go_wp2_with (first
              | (go_at_call 71;refine(Y2 _ _ _).mono ?_;rintro e w' ⟨rfl,rfl⟩)
              | (go_at_call 72;refine(Yl _ _ _).mono ?_;rintro e w' ⟨rfl,rfl⟩))
            all_goals
              go_ret;exact⟨Qi (by rw[HY.out];simp[KW];omega),(Below.refl _ _).alloc (Nat.le_refl _) _⟩
def Q9 (a:UInt8) (tail:List UInt8):Int×Int×Int:=
  if Xo a.toNat=0 then (5,0,0)
  else if tail.length+1<Xo a.toNat then (if YH tail (Xo a.toNat) (Zf a.toNat)=true then (6,0,0) else (5,0,0))
  else if Yq (Q5 (Zf a.toNat) (tail.take (Xo a.toNat - 1)))=true∧Ye (Q5 (Zf a.toNat) (tail.take (Xo a.toNat - 1)))=(a::tail).take (Xo a.toNat) then
    (0,Q5 (Zf a.toNat) (tail.take (Xo a.toNat - 1)),Xo a.toNat)
  else (5,0,0)
def YK (w:World) (r:Int×Int×Int) (e:Ending) (w':World):Prop:=
  e=.returned (.tuple #[.int .i64 r.2.1,.int .i64 r.2.2,.int .i64 r.1])∧Below w.heap.size w w'
theorem US (q:Option Addr) (c:Nat) (a:UInt8) (tail:List UInt8) (n:Nat) (p0:Int) (w:World) {B:Nat} (h:Bs w B q (a::tail)) (hp0:0≤p0) (hp1:p0≤127) (hn:n=2∨n=3∨n=4) (ht:tail.length+1<n):
    Calls Tryz.prog 165 #[.slice q (tail.length+1) c,.int .i64 n,.int .i64 p0] w fun e w'=>e=.returned (.bool (YH tail n p0))∧Below w.heap.size w w':=by
  rcases hn with rfl | rfl | rfl
  · exact QhG q c a tail p0 w h hp0 hp1 ht
  · exact QhH q c a tail p0 w h hp0 hp1 ht
  · exact QhI q c a tail p0 w h hp0 hp1 ht
theorem Qgi {x:Nat} (h:¬Xo x=0) (h1:¬Xo x=1):Xo x=2∨Xo x=3∨Xo x=4:=by have:=Qas x;omega
theorem KI {a:UInt8} {tail:List UInt8} (h:Xo a.toNat=0):Q9 a tail=(5,0,0):=by unfold Q9;rw[if_pos h]
theorem XM {a:UInt8} {tail:List UInt8} (h:¬Xo a.toNat=0) (k:tail.length+1<Xo a.toNat):Q9 a tail=if YH tail (Xo a.toNat) (Zf a.toNat)=true then (6,0,0) else (5,0,0):=by
  unfold Q9;rw[if_neg h,if_pos k]
theorem YL {a:UInt8} {tail:List UInt8} (h:¬Xo a.toNat=0) (k:¬tail.length+1<Xo a.toNat) (P:Int) (hP:Q5 (Zf a.toNat) (tail.take (Xo a.toNat - 1))=P):
    Q9 a tail=if Yq P=true∧Ye P=(a::tail).take (Xo a.toNat) then (0,P,(Xo a.toNat:Int)) else (5,0,0):=by
  subst hP;unfold Q9;rw[if_neg h,if_neg k]
theorem VF (q:Option Addr) (c:Nat) (a:UInt8) (tail:List UInt8) (w:World) (h:Bs w w.heap.size q (a::tail)) (hs:Xo a.toNat=0∨tail.length+1<Xo a.toNat):
    Calls Tryz.prog 133 #[.slice q (tail.length+1) c] w (YK w (Q9 a tail)):=by
  have hx:=Ya a;have hlp:=Qg9 a.toNat;have hle:=Qas a.toNat;obtain⟨b,off,rfl,_,hc⟩:=h (by simp);have c0:=hc 0 (by simp);simp at c0;clear hc;have hlen:(0:Int)<(tail.length:Int)+1:=(by omega);by_cases hz:Xo a.toNat=0
  · have HR:=Lib.hid (KI (tail:=tail) hz);have hz':((Xo a.toNat:Int)==0)=true:=(by simp[hz]);clear hz hs;go_enter Tryz.func133,Tryz.ntmps133;go_wp2_with (go_at_call 164;refine(Ki a _).mono ?_;rintro e w' ⟨rfl,rfl⟩)
    go_ret3
    rw[HR.out];exact⟨rfl,Below.refl _ _⟩
  · have hsh:tail.length+1<Xo a.toNat:=(by omega);have HR:=Lib.hid (XM hz hsh);have HN:=Lib.hid (Qgi hz (by omega));have hz':((Xo a.toNat:Int)==0)=false:=(by simp;omega);have hsh':(tail.length:Int)+1<(Xo a.toNat:Int):=(by omega);clear hs hz
    cases hbg:YH tail (Xo a.toNat) (Zf a.toNat)
    · go_enter Tryz.func133,Tryz.ntmps133;go_wp2_with (first
        | (go_at_call 164;refine(Ki a _).mono ?_;rintro e w' ⟨rfl,rfl⟩)
        | (go_at_call 165;refine(US _ _ a tail _ _ _ h hlp.1 hlp.2 HN.out hsh).mono ?_;rintro e w1 ⟨rfl,hb1⟩))
      go_ret3
      rw[HR.out,hbg];exact⟨rfl,hb1⟩
    · go_enter Tryz.func133,Tryz.ntmps133;go_wp2_with (first
        | (go_at_call 164;refine(Ki a _).mono ?_;rintro e w' ⟨rfl,rfl⟩)
        | (go_at_call 165;refine(US _ _ a tail _ _ _ h hlp.1 hlp.2 HN.out hsh).mono ?_;rintro e w1 ⟨rfl,hb1⟩))
      go_ret3
      rw[HR.out,hbg];exact⟨rfl,hb1⟩
theorem QkE (T:List UInt8) (k:Nat) (p:Int) (h:k<T.length):Q5 p (T.drop k)=Q5 (p * 64+(T[k].toNat:Int) % 64) (T.drop (k+1)):=(VE T k p h).1
theorem Qlx {w:World} {B:Nat} {p:Option Addr} {l:List UInt8} (h:Bs w B p l) (n:Nat):Bs w B p (l.take n):=fun hne=>by
  have hl:l≠[]:=fun e=>hne (by rw[e];simp);obtain⟨b,off,e,hb,hc⟩:=h hl;refine⟨b,off,e,hb,fun i hi=>?_⟩;simp only[List.length_take] at hi;have h1:i<n:=(by omega);rw[hc i (by omega)];simp[h1]
theorem QeY (q:Option Addr) (c:Nat) (a:UInt8) (tail:List UInt8) (w:World) (h:Bs w w.heap.size q (a::tail)) (hs:¬Xo a.toNat=0) (hk:¬tail.length+1<Xo a.toNat) (hl:tail.length+1≤1048576) (hcap:tail.length+1≤c):
    Calls Tryz.prog 133 #[.slice q (tail.length+1) c] w (YK w (Q9 a tail)):=by
  have hx:=Ya a;have hlp:=Qg9 a.toNat;have hle:=Qas a.toNat;have hT:(tail.take (Xo a.toNat - 1)).length=Xo a.toNat - 1:=(by simp;omega);have HR:=Lib.hid (fun P hP=>YL (tail:=tail) hs hk P hP);have HLe:=Lib.hid (Ki a);have HTG:Hid (∀k,k<Xo a.toNat - 1→(tail.take (Xo a.toNat - 1))[k]? =tail[k]?):=fun k h=>(by rw[List.getElem?_take,if_pos h]);generalize hN:Xo a.toNat=N at *;generalize hT0:tail.take (N - 1)=T at *;have HH:=Lib.hid h;obtain⟨b,off,rfl,_,hc⟩:=h (by simp);have HC:=Lib.hid hc;have HT:=Lib.hid hT;have c0:=hc 0 (by simp);simp at c0;have hTl:T.length≤N - 1:=Nat.le_of_eq hT;have hTl':N - 1≤T.length:=Nat.le_of_eq hT.symm;clear hc h hT hN hT0;have hlen:(0:Int)<(tail.length:Int)+1:=(by omega);have hz':((N:Int)==0)=false:=(by simp;omega);have hsh':¬(tail.length:Int)+1<(N:Int):=(by omega);clear hs;go_enter Tryz.func133,Tryz.ntmps133;go_wp2_with (go_at_call 164;refine(HLe.out _).mono ?_;rintro e w' ⟨rfl,rfl⟩)
  go_loop [6,7] (fun pv i=>∃(k:Nat) (pk:Int),k≤N - 1∧i=.int .i64 (k+1:Nat)∧pv=.int .i64 pk∧0≤pk∧pk≤bnd k∧Q5 (Zf a.toNat) T=Q5 pk (T.drop k)) (fun _ i=>N - (intOf i).toNat)
  case atStart=>exact⟨0,_,by omega,rfl,rfl,hlp.1,hlp.2,rfl⟩
  case round=>
    obtain⟨k,pk,hkk,rfl,rfl,k0,k1,hb⟩:=hrel;have HB:=Lib.hid hb;clear hb;have hbd:=Qbi k (by omega);by_cases hlt:k+1<N
    · have ck:=HC.out (k+1) (by simp;omega);have hkt:k<tail.length:=(by omega);have e0:(a::tail).getD (k+1) 0=tail[k]:=(by simp[hkt]);rw[e0] at ck;clear e0;have HS:=Lib.hid (QkE T k pk (by omega));have HG:Hid (T[k]'(by omega)=tail[k]):=by
        have:=HTG.out k (by omega);rw[List.getElem?_eq_getElem hkt,List.getElem?_eq_getElem (show k<T.length by omega)] at this;exact Option.some.inj this
      have hr:(0:Int)≤(tail[k].toNat:Int) % 64∧(tail[k].toNat:Int) % 64<64:=(by omega);have hxk:=Ya tail[k];go_wp2;exact⟨⟨k+1,_,by omega,by go_num,rfl,by omega,by show _≤bnd k * 64+63;omega,by rw[HB.out,HS.out,HG.out]⟩,by simp[intOf];omega⟩
    · have hkN:k=N - 1:=(by omega);have HP:Hid (Q5 (Zf a.toNat) T=pk):=by
        have e:T.drop k=[]:=List.drop_eq_nil_of_le (by omega);have:=HB.out;rw[e] at this;exact this
      have HF:=Lib.hid (HR.out pk HP.out);clear HB HP HR hkN
      cases hpt:Yq pk
      · have HQ:Hid (∀n,Calls Tryz.prog 118 #[.int .i64 pk] (w.drewN n) fun e w''=>e=.returned (.bool false)∧∃m,w''=w.drewN m):=fun n=>
          (Yv pk (w.drewN n)).mono fun _ _ ⟨he,hw⟩=>⟨by rw[he,hpt],n,hw.symm⟩
        go_wp2
        go_quiet ((go_at_call 118;exact HQ.out _))
        go_wp2
        go_ret3
        rw[HF.out,hpt];exact⟨rfl,Qc (Below.refl _ _) _⟩
      · obtain⟨p0,p1,_⟩:=XK hpt;have HQ:Hid (∀w',Calls Tryz.prog 118 #[.int .i64 pk] w' fun e w''=>e=.returned (.bool true)∧w'=w''):=fun w'=>
          (Yv pk w').mono fun _ _ ⟨he,hw⟩=>⟨by rw[he,hpt],hw⟩
        have hcut:(N:Int)≤(c:Int):=(by omega);have hNl:((a::tail).take N).length=N:=(by simp;omega);have HV:Hid (∀w',Below w.heap.size w w'→(convert 22 9 (.slice (some ⟨b,off,none⟩) N c)).run Tryz.prog w'=.ok (.string ⟨((a::tail).take N).toArray⟩) w'):=fun w' hb'=>by
          have hh:=Yh (P:=Tryz.prog) Tryz.underlying22 Tryz.underlying5 Tryz.underlying9 (some ⟨b,off,none⟩) c ((a::tail).take N) w' (Qlx (HH.out.on hb') N);rw[hNl] at hh;exact hh
        have v1:=HV.out w.drew (Below.refl _ _).drew;clear hNl;go_wp2
        go_region_with (first
          | (go_at_call 118;refine(HQ.out _).mono ?_;rintro e w' ⟨rfl,rfl⟩)
          | (go_at_call 166;refine(YV pk _ p0 p1).mono ?_;rintro e w1 ⟨v,rfl,ho,hb1⟩;obtain⟨pp,cc,hv⟩:=ho.slice;subst hv;have v2:=HV.out w1 (Qa ((Below.refl _ _).drew) hb1);have v3:=Yh (P:=Tryz.prog) Tryz.underlying22 Tryz.underlying5 Tryz.underlying9 pp cc (Ye pk) w1 ho.bs.2))
        all_goals go_wp2
        all_goals
          go_ret3
          first
            | (have hne:(!Ye pk==List.take N (a::tail))=true:=by assumption
               rw[HF.out,if_neg (fun hh=>by rw[hh.2] at hne;simp at hne)];exact⟨rfl,Qa ((Below.refl _ _).drew) hb1⟩)
            | (have heq:(!Ye pk==List.take N (a::tail))=false:=by assumption
               rw[HF.out,if_pos ⟨hpt,by simpa using heq⟩];exact⟨rfl,Qa ((Below.refl _ _).drew) hb1⟩)
theorem Qgj (q:Option Addr) (c:Nat) (a:UInt8) (tail:List UInt8) (w:World) (h:Bs w w.heap.size q (a::tail)) (hl:tail.length+1≤1048576) (hcap:tail.length+1≤c):
    Calls Tryz.prog 133 #[.slice q (tail.length+1) c] w (YK w (Q9 a tail)):=by
  by_cases h0:Xo a.toNat=0
  · exact VF q c a tail w h (.inl h0)
  by_cases h1:tail.length+1<Xo a.toNat
  · exact VF q c a tail w h (.inr h1)
  · exact QeY q c a tail w h h0 h1 hl hcap
def prV (r:Int×Int×Int):Value:=.agg #[.int .i64 r.1,.int .i64 r.2.1,.int .i64 r.2.2]
def QlW:List UInt8→Int×Int×Int
  | []=>(4,0,0)
  | a::tail=>Q9 a tail
end Go.Proofs.YtbfickdgjgbfhaaGreatDoor
