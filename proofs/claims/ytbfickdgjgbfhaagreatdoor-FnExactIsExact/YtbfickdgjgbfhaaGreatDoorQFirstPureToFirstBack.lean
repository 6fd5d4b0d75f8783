/- The program's first code point and the model's are the same: plain reckoning. -/
import Derived.Test.YtbfickdgjgbfhaaGreatDoorQFirstSpecToFirstSpec3
import Derived.Test.YtbfickdgjgbfhaaGreatDoorQFaultToFirstFull
set_option maxRecDepth 100000
set_option maxHeartbeats 2000000
namespace Go.Proofs.YtbfickdgjgbfhaaGreatDoor
open Go.RowKit
def Qd3 (lo hi:Int) (a:UInt8):List UInt8→Int×Int
  | b::_=>if mid lo hi b=true then ((a.toNat:Int) % 32 * 64+(b.toNat:Int) % 64,2) else (65533,1)
  | []=>(65533,1)
def VG (lo hi:Int) (a:UInt8):List UInt8→Int×Int
  | b::c::_=>if (mid lo hi b&&mid 128 191 c)=true then ((a.toNat:Int) % 16 * 4096+(b.toNat:Int) % 64 * 64+(c.toNat:Int) % 64,3) else (65533,1)
  | _=>(65533,1)
def KX (lo hi:Int) (a:UInt8):List UInt8→Int×Int
  | b::c::d::_=>if (mid lo hi b&&mid 128 191 c&&mid 128 191 d)=true then ((a.toNat:Int) % 8 * 262144+(b.toNat:Int) % 64 * 4096+(c.toNat:Int) % 64 * 64+(d.toNat:Int) % 64,4) else (65533,1)
  | _=>(65533,1)
def QkF:List UInt8→Bool
  | []=>false
  | _=>true
def Qd4 (lo hi:Int):List UInt8→Bool
  | []=>false
  | [b]=>!mid lo hi b
  | _=>true
def Qcv (lo hi:Int):List UInt8→Bool
  | []=>false
  | [b]=>!mid lo hi b
  | [b,c]=>!(mid lo hi b&&mid 128 191 c)
  | _=>true
def Yb (a:UInt8) (r:List UInt8):Int×Int:=
  if QD a.toNat=2 then Qd3 128 191 a r else if QD a.toNat=19 then VG 160 191 a r else if QD a.toNat=3 then VG 128 191 a r else if QD a.toNat=35 then VG 128 159 a r
  else if QD a.toNat=52 then KX 144 191 a r else if QD a.toNat=4 then KX 128 191 a r else if QD a.toNat=68 then KX 128 143 a r else (65533,1)
def XN (a:UInt8) (r:List UInt8):Bool:=
  if QD a.toNat=2 then QkF r else if QD a.toNat=19 then Qd4 160 191 r else if QD a.toNat=3 then Qd4 128 191 r else if QD a.toNat=35 then Qd4 128 159 r
  else if QD a.toNat=52 then Qcv 144 191 r else if QD a.toNat=4 then Qcv 128 191 r else if QD a.toNat=68 then Qcv 128 143 r else true
def JP (a:UInt8) (r:List UInt8):Int×Int:=if a.toNat<128 then ((a.toNat:Int),1) else Yb a r
def YI:List UInt8→Int×Int×Int
  | []=>(4,0,0)
  | a::r=>if XN a r=false then (6,0,0) else if (JP a r).1=65533∧(JP a r).2=1 then (5,0,0) else (0,(JP a r).1,(JP a r).2)
theorem Y3 {p:Int} (h0:0≤p) (h1:p≤1114111) (l:List UInt8):Ye p=l↔UO p=l.map (fun b:UInt8=>(b.toNat:Int)):=by
  constructor
  · intro h;have hz:=QcV h0 h1;subst h;unfold Ye;rw[List.map_map]
    conv=>lhs;rw[←List.map_id (UO p)]
    apply List.map_congr_left;intro x hx;have:=hz x hx;simp;omega
  · intro h;unfold Ye;rw[h,List.map_map]
    conv=>rhs;rw[←List.map_id l]
    apply List.map_congr_left;intro x _;simp
theorem Yp (p:Int):Yq p=true↔0≤p∧p≤1114111∧¬(55296≤p∧p≤57343):=by
  simp[Yq,inR];omega
theorem QkG {n:Nat}:QD n=2↔194≤n∧n<224:=by unfold QD;repeat (first | omega | split)
theorem QjF {n:Nat}:QD n=19↔n=224:=by unfold QD;repeat (first | omega | split)
theorem QkH {n:Nat}:QD n=3↔(225≤n∧n<237)∨n=238∨n=239:=by unfold QD;repeat (first | omega | split)
theorem QjG {n:Nat}:QD n=35↔n=237:=by unfold QD;repeat (first | omega | split)
theorem QjH {n:Nat}:QD n=52↔n=240:=by unfold QD;repeat (first | omega | split)
theorem QkI {n:Nat}:QD n=4↔241≤n∧n<244:=by unfold QD;repeat (first | omega | split)
theorem QjI {n:Nat}:QD n=68↔n=244:=by unfold QD;repeat (first | omega | split)
theorem Qc5 {n:Nat}:QD n=240↔n<128:=by unfold QD;repeat (first | omega | split)
theorem Uq (n:Nat):QD n=240∨QD n=241∨QD n=2∨QD n=19∨QD n=3∨QD n=35∨QD n=52∨QD n=4∨QD n=68:=by
  unfold QD;repeat (first | omega | split)
theorem QlX {n:Nat} (h:192≤n) (k:n<224):Xo n=2∧Zf n=(n:Int) - 192:=by
  unfold Xo Zf;rw[if_neg (by omega),if_pos ⟨h,k⟩,if_neg (by omega),if_pos ⟨h,k⟩];exact⟨rfl,rfl⟩
theorem QlY {n:Nat} (h:224≤n) (k:n<240):Xo n=3∧Zf n=(n:Int) - 224:=by
  unfold Xo Zf;rw[if_neg (by omega),if_neg (by omega),if_pos ⟨h,k⟩,if_neg (by omega),if_neg (by omega),if_pos ⟨h,k⟩];exact⟨rfl,rfl⟩
theorem QlZ {n:Nat} (h:240≤n) (k:n<248):Xo n=4∧Zf n=(n:Int) - 240:=by
  unfold Xo Zf;rw[if_neg (by omega),if_neg (by omega),if_neg (by omega),if_pos ⟨h,k⟩,if_neg (by omega),if_neg (by omega),if_neg (by omega),if_pos ⟨h,k⟩];exact⟨rfl,rfl⟩
theorem QkJ {p x y:Int} (h:UO p=[x,y]):128≤p∧p<2048∧x=192+p / 64∧y=128+p % 64:=by
  unfold UO at h;by_cases c1:p<128
  · rw[if_pos c1] at h;simp at h
  rw[if_neg c1] at h;by_cases c2:p<2048
  · rw[if_pos c2] at h;simp at h;omega
  rw[if_neg c2] at h;by_cases c3:p<65536
  · rw[if_pos c3] at h;simp at h
  · rw[if_neg c3] at h;simp at h
theorem QkK {p x y z:Int} (h:UO p=[x,y,z]):2048≤p∧p<65536∧x=224+p / 4096∧y=128+p / 64 % 64∧z=128+p % 64:=by
  unfold UO at h;by_cases c1:p<128
  · rw[if_pos c1] at h;simp at h
  rw[if_neg c1] at h;by_cases c2:p<2048
  · rw[if_pos c2] at h;simp at h
  rw[if_neg c2] at h;by_cases c3:p<65536
  · rw[if_pos c3] at h;simp at h;omega
  · rw[if_neg c3] at h;simp at h
theorem QkL {p x y z u:Int} (h:UO p=[x,y,z,u]):65536≤p∧x=240+p / 262144∧y=128+p / 4096 % 64∧z=128+p / 64 % 64∧u=128+p % 64:=by
  unfold UO at h;by_cases c1:p<128
  · rw[if_pos c1] at h;simp at h
  rw[if_neg c1] at h;by_cases c2:p<2048
  · rw[if_pos c2] at h;simp at h
  rw[if_neg c2] at h;by_cases c3:p<65536
  · rw[if_pos c3] at h;simp at h
  · rw[if_neg c3] at h;simp at h;omega
theorem ZI (tail:List UInt8) (n:Nat) (p:Int):YH tail n p=true↔tail.all Jr=true∧QfG (Qbg (Q5 p tail) (n - (tail.length+1))) (KH n)≤QfH (Qbh (Q5 p tail) (n - (tail.length+1))) 1114111∧
    ¬(55296≤QfG (Qbg (Q5 p tail) (n - (tail.length+1))) (KH n)∧QfH (Qbh (Q5 p tail) (n - (tail.length+1))) 1114111≤57343):=by
  simp[YH,KW];intro _ _;omega
theorem Qc6 {a b c:Int}:QfG a b≤c↔a≤c∧b≤c:=by unfold QfG;split <;> omega
theorem Qc7 {a b c:Int}:c≤QfG a b↔c≤a∨c≤b:=by unfold QfG;split <;> omega
theorem Qc8 {a b c:Int}:c≤QfH a b↔c≤a∧c≤b:=by unfold QfH;split <;> omega
theorem Qc9 {a b c:Int}:QfH a b≤c↔a≤c∨b≤c:=by unfold QfH;split <;> omega
theorem Qbl (b:UInt8):Jr b=true↔128≤b.toNat∧b.toNat≤191:=by simp[Jr];omega
theorem Ym (lo hi:Int) (b:UInt8):mid lo hi b=true↔lo≤(b.toNat:Int)∧(b.toNat:Int)≤hi:=by simp[mid]
theorem QjJ (a:UInt8) (r:List UInt8) (h:192≤a.toNat) (k:a.toNat<224):
    Q9 a r=match r with
      | []=>if 194≤a.toNat then (6,0,0) else (5,0,0)
      | b::_=>if 194≤a.toNat∧mid 128 191 b=true then (0,(a.toNat:Int) % 32 * 64+(b.toNat:Int) % 64,2) else (5,0,0):=by
  obtain⟨e1,e2⟩:=QlX h k
  cases r with
  | nil=>
    rw[XM (by rw[e1];omega) (by rw[e1];simp),e1,e2];have hb:YH [] 2 ((a.toNat:Int) - 192)=true↔194≤a.toNat:=by
      rw[ZI];simp only[Q5,List.all_nil,List.length_nil,Qbg,Qbh,KH,Qc6,Qc7,Qc8,Qc9];simp;omega
    by_cases g:194≤a.toNat
    · rw[if_pos (hb.2 g),if_pos g]
    · rw[if_neg (fun x=>g (hb.1 x)),if_neg g]
  | cons b r=>
    have hb:=Ya b;rw[YL (by rw[e1];omega) (by rw[e1];simp) _ rfl,e1,e2];simp only[List.take_succ_cons,List.take_zero,Q5,Nat.add_one_sub_one];by_cases g:194≤a.toNat∧mid 128 191 b=true
    · rw[if_pos g];rw[Ym] at g;have e:(a.toNat:Int) % 32 * 64+(b.toNat:Int) % 64=((a.toNat:Int) - 192) * 64+(b.toNat:Int) % 64:=(by omega);rw[if_pos,e]
      · rfl
      refine⟨(Yp _).2 (by omega),(Y3 (by omega) (by omega) _).2 ?_⟩;rw[Qg3 (by omega) (by omega)];simp;omega
    · rw[if_neg g,if_neg];rintro⟨h1,h2⟩;have hp:=(Yp _).1 h1;rw[Y3 (by omega) (by omega)] at h2;apply g;rw[Ym];simp only[List.map_cons,List.map_nil] at h2;have:=QkJ h2;omega
def lo3 (n:Nat):Int:=if n=224 then 160 else 128
def hi3 (n:Nat):Int:=if n=237 then 159 else 191
theorem Qha (a:UInt8) (r:List UInt8) (h:224≤a.toNat) (k:a.toNat<240):
    Q9 a r=match r with
      | []=>(6,0,0)
      | [b]=>if mid (lo3 a.toNat) (hi3 a.toNat) b=true then (6,0,0) else (5,0,0)
      | b::c::_=>if mid (lo3 a.toNat) (hi3 a.toNat) b=true∧mid 128 191 c=true then (0,(a.toNat:Int) % 16 * 4096+(b.toNat:Int) % 64 * 64+(c.toNat:Int) % 64,3) else (5,0,0):=by
  obtain⟨e1,e2⟩:=QlY h k;have hlo:lo3 a.toNat=if a.toNat=224 then 160 else 128:=rfl;have hhi:hi3 a.toNat=if a.toNat=237 then 159 else 191:=rfl
  match r with
  | []=>
    rw[XM (by rw[e1];omega) (by rw[e1];simp),e1,e2];have hb:YH [] 3 ((a.toNat:Int) - 224)=true:=by
      rw[ZI];simp only[Q5,List.all_nil,List.length_nil,Qbg,Qbh,KH,Qc6,Qc7,Qc8,Qc9];simp;omega
    rw[if_pos hb]
  | [b]=>
    dsimp only;have hbb:=Ya b;rw[XM (by rw[e1];omega) (by rw[e1];simp),e1,e2];have hb:YH [b] 3 ((a.toNat:Int) - 224)=true↔mid (lo3 a.toNat) (hi3 a.toNat) b=true:=by
      rw[ZI,Ym,hlo,hhi];simp only[Q5,List.all_cons,List.all_nil,Bool.and_true,Qbl,List.length_cons,List.length_nil,Qbg,Qbh,KH,Qc6,Qc7,Qc8,Qc9];simp;split <;> split <;> omega
    by_cases g:mid (lo3 a.toNat) (hi3 a.toNat) b=true
    · rw[if_pos (hb.2 g),if_pos g]
    · rw[if_neg (fun x=>g (hb.1 x)),if_neg g]
  | b::c::r=>
    dsimp only;have hbb:=Ya b;have hcc:=Ya c;rw[YL (by rw[e1];omega) (by rw[e1];simp) _ rfl,e1,e2];simp only[List.take_succ_cons,List.take_zero,Q5,Nat.add_one_sub_one];by_cases g:mid (lo3 a.toNat) (hi3 a.toNat) b=true∧mid 128 191 c=true
    · rw[if_pos g];rw[Ym,Ym,hlo,hhi] at g;have g':(a.toNat=224→160≤b.toNat)∧(a.toNat=237→b.toNat≤159)∧128≤b.toNat∧b.toNat≤191∧128≤c.toNat∧c.toNat≤191:=by
        obtain⟨⟨g1,g2⟩,g3⟩:=g;split at g1 <;> split at g2 <;> omega
      have e:(a.toNat:Int) % 16 * 4096+(b.toNat:Int) % 64 * 64+(c.toNat:Int) % 64=(((a.toNat:Int) - 224) * 64+(b.toNat:Int) % 64) * 64+(c.toNat:Int) % 64:=(by omega);rw[if_pos,e]
      · rfl
      refine⟨(Yp _).2 (by omega),(Y3 (by omega) (by omega) _).2 ?_⟩;rw[QeL (by omega) (by omega)];simp;omega
    · rw[if_neg g,if_neg];rintro⟨h1,h2⟩;have hp:=(Yp _).1 h1;rw[Y3 (by omega) (by omega)] at h2;apply g;rw[Ym,Ym,hlo,hhi];simp only[List.map_cons,List.map_nil] at h2;have:=QkK h2;split <;> split <;> omega
def lo4 (n:Nat):Int:=if n=240 then 144 else 128
def hi4 (n:Nat):Int:=if n=244 then 143 else 191
theorem QeZ (a:UInt8) (r:List UInt8) (h:240≤a.toNat) (k:a.toNat<248):
    Q9 a r=if 245≤a.toNat then ((5,0,0):Int×Int×Int) else match r with
      | []=>(6,0,0)
      | [b]=>if mid (lo4 a.toNat) (hi4 a.toNat) b=true then (6,0,0) else (5,0,0)
      | [b,c]=>if mid (lo4 a.toNat) (hi4 a.toNat) b=true∧mid 128 191 c=true then (6,0,0) else (5,0,0)
      | b::c::d::_=>if mid (lo4 a.toNat) (hi4 a.toNat) b=true∧mid 128 191 c=true∧mid 128 191 d=true then (0,(a.toNat:Int) % 8 * 262144+(b.toNat:Int) % 64 * 4096+(c.toNat:Int) % 64 * 64+(d.toNat:Int) % 64,4) else (5,0,0):=by
  obtain⟨e1,e2⟩:=QlZ h k;have hlo:lo4 a.toNat=if a.toNat=240 then 144 else 128:=rfl;have hhi:hi4 a.toNat=if a.toNat=244 then 143 else 191:=rfl
  match r with
  | []=>
    rw[XM (by rw[e1];omega) (by rw[e1];simp),e1,e2];have hb:YH [] 4 ((a.toNat:Int) - 240)=true↔¬245≤a.toNat:=by
      rw[ZI];simp only[Q5,List.all_nil,List.length_nil,Qbg,Qbh,KH,Qc6,Qc7,Qc8,Qc9];simp;omega
    by_cases g:245≤a.toNat
    · rw[if_neg (fun x=>hb.1 x g),if_pos g]
    · rw[if_pos (hb.2 g),if_neg g]
  | [b]=>
    dsimp only;have hbb:=Ya b;rw[XM (by rw[e1];omega) (by rw[e1];simp),e1,e2];have hb:YH [b] 4 ((a.toNat:Int) - 240)=true↔¬245≤a.toNat∧mid (lo4 a.toNat) (hi4 a.toNat) b=true:=by
      rw[ZI,Ym,hlo,hhi];simp only[Q5,List.all_cons,List.all_nil,Bool.and_true,Qbl,List.length_cons,List.length_nil,Qbg,Qbh,KH,Qc6,Qc7,Qc8,Qc9];simp;split <;> split <;> omega
    by_cases g0:245≤a.toNat
    · rw[if_neg (fun x=>(hb.1 x).1 g0),if_pos g0]
    rw[if_neg g0];by_cases g:mid (lo4 a.toNat) (hi4 a.toNat) b=true
    · rw[if_pos (hb.2 ⟨g0,g⟩),if_pos g]
    · rw[if_neg (fun x=>g (hb.1 x).2),if_neg g]
  | [b,c]=>
    dsimp only;have hbb:=Ya b;have hcc:=Ya c;rw[XM (by rw[e1];omega) (by rw[e1];simp),e1,e2];have hb:YH [b,c] 4 ((a.toNat:Int) - 240)=true↔¬245≤a.toNat∧mid (lo4 a.toNat) (hi4 a.toNat) b=true∧mid 128 191 c=true:=by
      rw[ZI,Ym,Ym,hlo,hhi];simp only[Q5,List.all_cons,List.all_nil,Bool.and_true,Bool.and_eq_true,Qbl,List.length_cons,List.length_nil,Qbg,Qbh,KH,Qc6,Qc7,Qc8,Qc9];simp;split <;> split <;> omega
    by_cases g0:245≤a.toNat
    · rw[if_neg (fun x=>(hb.1 x).1 g0),if_pos g0]
    rw[if_neg g0];by_cases g:mid (lo4 a.toNat) (hi4 a.toNat) b=true∧mid 128 191 c=true
    · rw[if_pos (hb.2 ⟨g0,g⟩),if_pos g]
    · rw[if_neg (fun x=>g (hb.1 x).2),if_neg g]
  | b::c::d::r=>
    dsimp only;have hbb:=Ya b;have hcc:=Ya c;have hdd:=Ya d;rw[YL (by rw[e1];omega) (by rw[e1];simp) _ rfl,e1,e2];simp only[List.take_succ_cons,List.take_zero,Q5,Nat.add_one_sub_one];by_cases g0:245≤a.toNat
    · rw[if_pos g0,if_neg];rintro⟨h1,_⟩;have hp:=(Yp _).1 h1;omega
    rw[if_neg g0];by_cases g:mid (lo4 a.toNat) (hi4 a.toNat) b=true∧mid 128 191 c=true∧mid 128 191 d=true
    · rw[if_pos g];rw[Ym,Ym,Ym,hlo,hhi] at g;have g':(a.toNat=240→144≤b.toNat)∧(a.toNat=244→b.toNat≤143)∧128≤b.toNat∧b.toNat≤191∧128≤c.toNat∧c.toNat≤191∧128≤d.toNat∧d.toNat≤191:=by
        obtain⟨⟨g1,g2⟩,g3⟩:=g;split at g1 <;> split at g2 <;> omega
      have e:(a.toNat:Int) % 8 * 262144+(b.toNat:Int) % 64 * 4096+(c.toNat:Int) % 64 * 64+(d.toNat:Int) % 64=((((a.toNat:Int) - 240) * 64+(b.toNat:Int) % 64) * 64+(c.toNat:Int) % 64) * 64+(d.toNat:Int) % 64:=(by omega);rw[if_pos,e]
      · rfl
      refine⟨(Yp _).2 (by omega),(Y3 (by omega) (by omega) _).2 ?_⟩;rw[Qg4 (by omega)];simp;omega
    · rw[if_neg g,if_neg];rintro⟨h1,h2⟩;have hp:=(Yp _).1 h1;rw[Y3 (by omega) (by omega)] at h2;apply g;rw[Ym,Ym,Ym,hlo,hhi];simp only[List.map_cons,List.map_nil] at h2;have:=QkL h2;split <;> split <;> omega
theorem Qlb (a:UInt8) (r:List UInt8) (h:a.toNat<128):Q9 a r=(0,(a.toNat:Int),1):=by
  have e1:Xo a.toNat=1:=(by unfold Xo;rw[if_pos h]);have e2:Zf a.toNat=(a.toNat:Int):=(by unfold Zf;rw[if_pos h]);rw[YL (by rw[e1];omega) (by rw[e1];omega) _ rfl,e1,e2];simp only[List.take_succ_cons,List.take_zero,Q5,Nat.sub_self];rw[if_pos]
  · rfl
  refine⟨(Yp _).2 (by omega),(Y3 (by omega) (by omega) _).2 ?_⟩;rw[Qg2 (by omega)];simp
theorem Qhb (a:UInt8) (r:List UInt8) (h:(128≤a.toNat∧a.toNat<192)∨248≤a.toNat):Q9 a r=(5,0,0):=by
  apply KI;unfold Xo;rw[if_neg (by omega),if_neg (by omega),if_neg (by omega),if_neg (by omega)]
def fin (f:Bool) (d:Int×Int):Int×Int×Int:=if f=false then (6,0,0) else if d.1=65533∧d.2=1 then (5,0,0) else (0,d.1,d.2)
theorem Qd5:fin true (65533,1)=(5,0,0):=rfl
theorem Qda {v s:Int} (h:v≠65533∨s≠1):fin true (v,s)=(0,v,s):=by
  unfold fin;rw[if_neg (by simp),if_neg (by simp;omega)]
theorem KY (a:UInt8) (r:List UInt8):YI (a::r)=fin (XN a r) (JP a r):=rfl
theorem Qmh (lo hi:Int) (a:UInt8) (r:List UInt8):fin (QkF r) (Qd3 lo hi a r)=match r with
    | []=>(6,0,0)
    | b::_=>if mid lo hi b=true then (0,(a.toNat:Int) % 32 * 64+(b.toNat:Int) % 64,2) else (5,0,0):=by
  cases r with
  | nil=>rfl
  | cons b r=>
    dsimp only[QkF,Qd3];by_cases g:mid lo hi b=true
    · rw[if_pos g,if_pos g,Qda (.inr (by omega))]
    · rw[if_neg g,if_neg g,Qd5]
theorem Qly (lo hi:Int) (a:UInt8) (r:List UInt8):fin (Qd4 lo hi r) (VG lo hi a r)=match r with
    | []=>(6,0,0)
    | [b]=>if mid lo hi b=true then (6,0,0) else (5,0,0)
    | b::c::_=>if mid lo hi b=true∧mid 128 191 c=true then (0,(a.toNat:Int) % 16 * 4096+(b.toNat:Int) % 64 * 64+(c.toNat:Int) % 64,3) else (5,0,0):=by
  match r with
  | []=>rfl
  | [b]=>
    dsimp only[Qd4,VG]
    cases g:mid lo hi b
    · rw[if_neg (by simp)];rfl
    · rw[if_pos rfl];rfl
  | b::c::r=>
    dsimp only[Qd4,VG];by_cases g:(mid lo hi b&&mid 128 191 c)=true
    · rw[if_pos g,if_pos (by simpa using g),Qda (.inr (by omega))]
    · rw[if_neg g,if_neg (by simpa using g),Qd5]
theorem Qlz (lo hi:Int) (a:UInt8) (r:List UInt8):fin (Qcv lo hi r) (KX lo hi a r)=match r with
    | []=>(6,0,0)
    | [b]=>if mid lo hi b=true then (6,0,0) else (5,0,0)
    | [b,c]=>if mid lo hi b=true∧mid 128 191 c=true then (6,0,0) else (5,0,0)
    | b::c::d::_=>if mid lo hi b=true∧mid 128 191 c=true∧mid 128 191 d=true then (0,(a.toNat:Int) % 8 * 262144+(b.toNat:Int) % 64 * 4096+(c.toNat:Int) % 64 * 64+(d.toNat:Int) % 64,4) else (5,0,0):=by
  match r with
  | []=>rfl
  | [b]=>
    dsimp only[Qcv,KX]
    cases g:mid lo hi b
    · rw[if_neg (by simp)];rfl
    · rw[if_pos rfl];rfl
  | [b,c]=>
    dsimp only[Qcv,KX]
    cases g:(mid lo hi b&&mid 128 191 c)
    · rw[if_neg (fun x=>by rw[x.1,x.2] at g;cases g)];rfl
    · rw[if_pos (by simpa using g)];rfl
  | b::c::d::r=>
    dsimp only[Qcv,KX];by_cases g:(mid lo hi b&&mid 128 191 c&&mid 128 191 d)=true
    · rw[if_pos g,if_pos (by simpa [and_assoc] using g),Qda (.inr (by omega))]
    · rw[if_neg g,if_neg (by simpa [and_assoc] using g),Qd5]
theorem Ur (l:List UInt8):YI l=QlW l:=by
  cases l with
  | nil=>rfl
  | cons a r=>
    have ha:=Ya a;show YI (a::r)=Q9 a r;rw[KY];have hx2:=QkG (n:=a.toNat);have hx19:=QjF (n:=a.toNat);have hx3:=QkH (n:=a.toNat);have hx35:=QjG (n:=a.toNat);have hx52:=QjH (n:=a.toNat);have hx4:=QkI (n:=a.toNat);have hx68:=QjI (n:=a.toNat);have hx240:=Qc5 (n:=a.toNat);rcases Uq a.toNat with h | h | h | h | h | h | h | h | h
    · have hh:=hx240.1 h;have f:XN a r=true:=(by unfold XN;rw[h];rfl);have d:JP a r=((a.toNat:Int),1):=(by unfold JP;rw[if_pos hh]);rw[Qlb a r hh,f,d,Qda (.inl (by omega))]
    · have f:XN a r=true:=(by unfold XN;rw[h];rfl);have d:JP a r=(65533,1):=(by unfold JP Yb;rw[if_neg (by omega),h];rfl);rw[f,d,Qd5];by_cases g1:a.toNat<192
      · rw[Qhb a r (by omega)]
      by_cases g2:a.toNat<224
      · rw[QjJ a r (by omega) g2]
        cases r with
        | nil=>dsimp only;rw[if_neg (by omega)]
        | cons b r=>dsimp only;rw[if_neg (by omega)]
      by_cases g3:a.toNat<248
      · rw[QeZ a r (by omega) g3,if_pos (by omega)]
      · rw[Qhb a r (by omega)]
    · have hh:=hx2.1 h;have d:JP a r=Qd3 128 191 a r:=(by unfold JP Yb;rw[if_neg (by omega),if_pos h]);have f:XN a r=QkF r:=(by unfold XN;rw[if_pos h]);rw[d,f,Qmh,QjJ a r (by omega) hh.2]
      cases r with
      | nil=>dsimp only;rw[if_pos hh.1]
      | cons b r=>
        dsimp only;by_cases g:mid 128 191 b=true
        · rw[if_pos g,if_pos ⟨hh.1,g⟩]
        · rw[if_neg g,if_neg (fun x=>g x.2)]
    · have hh:=hx19.1 h;have d:JP a r=VG 160 191 a r:=(by unfold JP Yb;rw[if_neg (by omega),h];rfl);have f:XN a r=Qd4 160 191 r:=(by unfold XN;rw[h];rfl);have e1:lo3 a.toNat=160:=(by unfold lo3;rw[if_pos hh]);have e2:hi3 a.toNat=191:=(by unfold hi3;rw[if_neg (by omega)]);rw[d,f,Qly,Qha a r (by omega) (by omega),e1,e2]
    · have hh:=hx3.1 h;have d:JP a r=VG 128 191 a r:=(by unfold JP Yb;rw[if_neg (by omega),h];rfl);have f:XN a r=Qd4 128 191 r:=(by unfold XN;rw[h];rfl);have e1:lo3 a.toNat=128:=(by unfold lo3;rw[if_neg (by omega)]);have e2:hi3 a.toNat=191:=(by unfold hi3;rw[if_neg (by omega)]);rw[d,f,Qly,Qha a r (by omega) (by omega),e1,e2]
    · have hh:=hx35.1 h;have d:JP a r=VG 128 159 a r:=(by unfold JP Yb;rw[if_neg (by omega),h];rfl);have f:XN a r=Qd4 128 159 r:=(by unfold XN;rw[h];rfl);have e1:lo3 a.toNat=128:=(by unfold lo3;rw[if_neg (by omega)]);have e2:hi3 a.toNat=159:=(by unfold hi3;rw[if_pos hh]);rw[d,f,Qly,Qha a r (by omega) (by omega),e1,e2]
    · have hh:=hx52.1 h;have d:JP a r=KX 144 191 a r:=(by unfold JP Yb;rw[if_neg (by omega),h];rfl);have f:XN a r=Qcv 144 191 r:=(by unfold XN;rw[h];rfl);have e1:lo4 a.toNat=144:=(by unfold lo4;rw[if_pos hh]);have e2:hi4 a.toNat=191:=(by unfold hi4;rw[if_neg (by omega)]);rw[d,f,Qlz,QeZ a r (by omega) (by omega),if_neg (by omega),e1,e2]
    · have hh:=hx4.1 h;have d:JP a r=KX 128 191 a r:=(by unfold JP Yb;rw[if_neg (by omega),h];rfl);have f:XN a r=Qcv 128 191 r:=(by unfold XN;rw[h];rfl);have e1:lo4 a.toNat=128:=(by unfold lo4;rw[if_neg (by omega)]);have e2:hi4 a.toNat=191:=(by unfold hi4;rw[if_neg (by omega)]);rw[d,f,Qlz,QeZ a r (by omega) (by omega),if_neg (by omega),e1,e2]
    · have hh:=hx68.1 h;have d:JP a r=KX 128 143 a r:=(by unfold JP Yb;rw[if_neg (by omega),h];rfl);have f:XN a r=Qcv 128 143 r:=(by unfold XN;rw[h];rfl);have e1:lo4 a.toNat=128:=(by unfold lo4;rw[if_neg (by omega)]);have e2:hi4 a.toNat=143:=(by unfold hi4;rw[if_pos hh]);rw[d,f,Qlz,QeZ a r (by omega) (by omega),if_neg (by omega),e1,e2]
theorem XD {w w':World} {e:Ending} {x y:Bool} (h:e=.returned (.bool x)∧Below w.heap.size w w') (k:y=x):e=.returned (.bool y)∧Below w.heap.size w w':=⟨by rw[h.1,k],h.2⟩
theorem Jb (a:UInt8) (r:List UInt8) (q:Option Addr) (cap:Nat) (w:World) (h:Bs w w.heap.size q (a::r)) (ht:Yo w):
    Calls Tryz.prog 200 #[.slice q (r.length+1) cap] w fun e w'=>e=.returned (.bool (XN a r))∧Below w.heap.size w w':=by
  rcases Uq a.toNat with x | x | x | x | x | x | x | x | x
  · exact(Qew a r q cap w h ht x).mono fun _ _ hh=>XD hh (by unfold XN;rw[x];rfl)
  · exact(Qex a r q cap w h ht x (by omega)).mono fun _ _ hh=>XD hh (by unfold XN;rw[x];rfl)
  · match r,h with
    | [],h=>exact(Qdr a q cap w h ht x).mono fun _ _ hh=>XD hh (by unfold XN;rw[x];rfl)
    | b::r,h=>exact(Qhp a (b::r) q cap w h ht x (by simp)).mono fun _ _ hh=>XD hh (by unfold XN;rw[x];rfl)
  · match r,h with
    | [],h=>exact(Qcc a q cap w h ht x).mono fun _ _ hh=>XD hh (by unfold XN;rw[x];rfl)
    | [b],h=>exact(Qcd a b q cap w h ht x).mono fun _ _ hh=>XD hh (by unfold XN;rw[x];rfl)
    | b::c::r,h=>exact(QfR a (b::c::r) q cap w h ht x (by simp)).mono fun _ _ hh=>XD hh (by unfold XN;rw[x];rfl)
  · match r,h with
    | [],h=>exact(Qds a q cap w h ht x).mono fun _ _ hh=>XD hh (by unfold XN;rw[x];rfl)
    | [b],h=>exact(Qdt a b q cap w h ht x).mono fun _ _ hh=>XD hh (by unfold XN;rw[x];rfl)
    | b::c::r,h=>exact(Qhq a (b::c::r) q cap w h ht x (by simp)).mono fun _ _ hh=>XD hh (by unfold XN;rw[x];rfl)
  · match r,h with
    | [],h=>exact(Qce a q cap w h ht x).mono fun _ _ hh=>XD hh (by unfold XN;rw[x];rfl)
    | [b],h=>exact(Qcf a b q cap w h ht x).mono fun _ _ hh=>XD hh (by unfold XN;rw[x];rfl)
    | b::c::r,h=>exact(QfS a (b::c::r) q cap w h ht x (by simp)).mono fun _ _ hh=>XD hh (by unfold XN;rw[x];rfl)
  · match r,h with
    | [],h=>exact(Qcg a q cap w h ht x).mono fun _ _ hh=>XD hh (by unfold XN;rw[x];rfl)
    | [b],h=>exact(Qch a b q cap w h ht x).mono fun _ _ hh=>XD hh (by unfold XN;rw[x];rfl)
    | [b,c],h=>exact(Qci a b c q cap w h ht x).mono fun _ _ hh=>XD hh (by unfold XN;rw[x];rfl)
    | b::c::d::r,h=>exact(QfT a (b::c::d::r) q cap w h ht x (by simp)).mono fun _ _ hh=>XD hh (by unfold XN;rw[x];rfl)
  · match r,h with
    | [],h=>exact(Qdu a q cap w h ht x).mono fun _ _ hh=>XD hh (by unfold XN;rw[x];rfl)
    | [b],h=>exact(Qdv a b q cap w h ht x).mono fun _ _ hh=>XD hh (by unfold XN;rw[x];rfl)
    | [b,c],h=>exact(Qdw a b c q cap w h ht x).mono fun _ _ hh=>XD hh (by unfold XN;rw[x];rfl)
    | b::c::d::r,h=>exact(Qhr a (b::c::d::r) q cap w h ht x (by simp)).mono fun _ _ hh=>XD hh (by unfold XN;rw[x];rfl)
  · match r,h with
    | [],h=>exact(Qcj a q cap w h ht x).mono fun _ _ hh=>XD hh (by unfold XN;rw[x];rfl)
    | [b],h=>exact(Qck a b q cap w h ht x).mono fun _ _ hh=>XD hh (by unfold XN;rw[x];rfl)
    | [b,c],h=>exact(Qcl a b c q cap w h ht x).mono fun _ _ hh=>XD hh (by unfold XN;rw[x];rfl)
    | b::c::d::r,h=>exact(QfU a (b::c::d::r) q cap w h ht x (by simp)).mono fun _ _ hh=>XD hh (by unfold XN;rw[x];rfl)
theorem YA {w w':World} {e:Ending} {v s:Int} {d:Int×Int} (h:e=.returned (.tuple #[.int .i32 v,.int .i64 s])∧Below w.heap.size w w') (k:d=(v,s)):e=.returned (.tuple #[.int .i32 d.1,.int .i64 d.2])∧Below w.heap.size w w':=by
  subst k;exact h
theorem KZ {w w':World} {e:Ending} {c:Bool} {v s:Int} {d:Int×Int} (h:e=.returned (U1 c (.tuple #[.int .i32 v,.int .i64 s]) (.tuple #[.int .i32 65533,.int .i64 1]))∧Below w.heap.size w w') (k:d=if c=true then (v,s) else (65533,1)):
    e=.returned (.tuple #[.int .i32 d.1,.int .i64 d.2])∧Below w.heap.size w w':=by
  subst k
  cases c
  · exact⟨h.1.trans rfl,h.2⟩
  · exact⟨h.1.trans rfl,h.2⟩
theorem Qe0 (a:UInt8) (r:List UInt8) (q:Option Addr) (cap:Nat) (w:World) (h:Bs w w.heap.size q (a::r)) (ht:Yo w) (hx:128≤a.toNat):
    Calls Tryz.prog 214 #[.slice q (r.length+1) cap] w fun e w'=>e=.returned (.tuple #[.int .i32 (Yb a r).1,.int .i64 (Yb a r).2])∧Below w.heap.size w w':=by
  rcases Uq a.toNat with x | x | x | x | x | x | x | x | x
  · exact absurd (Qc5.1 x) (by omega)
  · exact(Qln a r q cap w h ht x).mono fun _ _ hh=>YA hh (by unfold Yb;rw[x];rfl)
  · match r,h with
    | [],h=>exact(QfQ a [] q cap w h ht x (by simp)).mono fun _ _ hh=>YA hh (by unfold Yb;rw[x];rfl)
    | b::r,h=>exact(QlL a b r q cap w h ht x).mono fun _ _ hh=>KZ hh (by unfold Yb;rw[x];rfl)
  · match r,h with
    | [],h=>exact(UK a [] q cap w h ht x (by simp)).mono fun _ _ hh=>YA hh (by unfold Yb;rw[x];rfl)
    | [b],h=>exact(UK a [b] q cap w h ht x (by simp)).mono fun _ _ hh=>YA hh (by unfold Yb;rw[x];rfl)
    | b::c::r,h=>exact(Qlj a b c r q cap w h ht x).mono fun _ _ hh=>KZ hh (by unfold Yb;rw[x];rfl)
  · match r,h with
    | [],h=>exact(Qay a [] q cap w h ht x (by simp)).mono fun _ _ hh=>YA hh (by unfold Yb;rw[x];rfl)
    | [b],h=>exact(Qay a [b] q cap w h ht x (by simp)).mono fun _ _ hh=>YA hh (by unfold Yb;rw[x];rfl)
    | b::c::r,h=>exact(QlM a b c r q cap w h ht x).mono fun _ _ hh=>KZ hh (by unfold Yb;rw[x];rfl)
  · match r,h with
    | [],h=>exact(UL a [] q cap w h ht x (by simp)).mono fun _ _ hh=>YA hh (by unfold Yb;rw[x];rfl)
    | [b],h=>exact(UL a [b] q cap w h ht x (by simp)).mono fun _ _ hh=>YA hh (by unfold Yb;rw[x];rfl)
    | b::c::r,h=>exact(Qlk a b c r q cap w h ht x).mono fun _ _ hh=>KZ hh (by unfold Yb;rw[x];rfl)
  · match r,h with
    | [],h=>exact(JR a [] q cap w h ht x (by simp)).mono fun _ _ hh=>YA hh (by unfold Yb;rw[x];rfl)
    | [b],h=>exact(JR a [b] q cap w h ht x (by simp)).mono fun _ _ hh=>YA hh (by unfold Yb;rw[x];rfl)
    | [b,c],h=>exact(JR a [b,c] q cap w h ht x (by simp)).mono fun _ _ hh=>YA hh (by unfold Yb;rw[x];rfl)
    | b::c::d::r,h=>exact(Qll a b c d r q cap w h ht x).mono fun _ _ hh=>KZ hh (by unfold Yb;rw[x];rfl)
  · match r,h with
    | [],h=>exact(KM a [] q cap w h ht x (by simp)).mono fun _ _ hh=>YA hh (by unfold Yb;rw[x];rfl)
    | [b],h=>exact(KM a [b] q cap w h ht x (by simp)).mono fun _ _ hh=>YA hh (by unfold Yb;rw[x];rfl)
    | [b,c],h=>exact(KM a [b,c] q cap w h ht x (by simp)).mono fun _ _ hh=>YA hh (by unfold Yb;rw[x];rfl)
    | b::c::d::r,h=>exact(QlN a b c d r q cap w h ht x).mono fun _ _ hh=>KZ hh (by unfold Yb;rw[x];rfl)
  · match r,h with
    | [],h=>exact(JS a [] q cap w h ht x (by simp)).mono fun _ _ hh=>YA hh (by unfold Yb;rw[x];rfl)
    | [b],h=>exact(JS a [b] q cap w h ht x (by simp)).mono fun _ _ hh=>YA hh (by unfold Yb;rw[x];rfl)
    | [b,c],h=>exact(JS a [b,c] q cap w h ht x (by simp)).mono fun _ _ hh=>YA hh (by unfold Yb;rw[x];rfl)
    | b::c::d::r,h=>exact(Qlm a b c d r q cap w h ht x).mono fun _ _ hh=>KZ hh (by unfold Yb;rw[x];rfl)
theorem Qcw (a:UInt8) (r:List UInt8) (q:Option Addr) (cap:Nat) (w:World) (h:Bs w w.heap.size q (a::r)) (ht:Yo w) (hl:r.length+1≤1048576):
    Calls Tryz.prog 201 #[.slice q (r.length+1) cap] w fun e w'=>e=.returned (.tuple #[.int .i32 (JP a r).1,.int .i64 (JP a r).2])∧Below w.heap.size w w':=by
  have H:=Lib.hid h;obtain⟨bl,off,rfl,_,hc⟩:=h (by simp);have e0:=hc 0 (by simp);simp at e0;clear hc;have ha:=Ya a;have i0:(0:Int)<(r.length:Int)+1:=(by omega);by_cases hx:a.toNat<128
  · have HD:Hid (JP a r=((a.toNat:Int),1)):=(by unfold JP;rw[if_pos hx];rfl);have hx':(a.toNat:Int)<128:=(by omega);clear hx;go_enter Tryz.func201,Tryz.ntmps201;go_wp2
    go_loop [2,3,5,8] (fun _ _ _ i=>i=.int .i64 0) (fun _ _ _ _=>0)
    case atStart=>rfl
    case round=>
      obtain rfl:=hrel;go_wp2
      go_ret2
      rw[HD.out];exact⟨rfl,Below.refl _ _⟩
  · have HD:Hid (JP a r=Yb a r):=(by unfold JP;rw[if_neg hx];rfl);have hx':¬(a.toNat:Int)<128:=(by omega);go_enter Tryz.func201,Tryz.ntmps201;go_wp2
    go_loop [2,3,5,8] (fun _ _ _ i=>i=.int .i64 0) (fun _ _ _ _=>0)
    case atStart=>rfl
    case round=>
      obtain rfl:=hrel;go_wp2_with (go_at_call 214;refine(Qe0 a r _ _ _ H.out ht (by omega)).mono ?_;rintro e w1 ⟨rfl,hb1⟩)
      go_ret2
      rw[HD.out];exact⟨rfl,hb1⟩
theorem QlA (a:UInt8) (r:List UInt8):0≤(Yb a r).1∧(Yb a r).1≤2097151∧0≤(Yb a r).2∧(Yb a r).2≤4:=by
  have h2:∀lo hi,0≤(Qd3 lo hi a r).1∧(Qd3 lo hi a r).1≤2097151∧0≤(Qd3 lo hi a r).2∧(Qd3 lo hi a r).2≤4:=fun lo hi=>by
    unfold Qd3;repeat (first | (split <;> omega) | split | omega)
  have h3:∀lo hi,0≤(VG lo hi a r).1∧(VG lo hi a r).1≤2097151∧0≤(VG lo hi a r).2∧(VG lo hi a r).2≤4:=fun lo hi=>by
    unfold VG;repeat (first | (split <;> omega) | split | omega)
  have h4:∀lo hi,0≤(KX lo hi a r).1∧(KX lo hi a r).1≤2097151∧0≤(KX lo hi a r).2∧(KX lo hi a r).2≤4:=fun lo hi=>by
    unfold KX;repeat (first | (split <;> omega) | split | omega)
  unfold Yb;repeat (first | exact h2 _ _ | exact h3 _ _ | exact h4 _ _ | (split;exact h2 _ _) | (split;exact h3 _ _) | (split;exact h4 _ _) | decide)
theorem Ql0 (a:UInt8) (r:List UInt8):0≤(JP a r).1∧(JP a r).1≤2097151∧0≤(JP a r).2∧(JP a r).2≤4:=by
  have ha:=Ya a;have h:=QlA a r;unfold JP;split
  · dsimp only;omega
  · exact h
theorem VH (q:Option Addr) (c:Nat) (l:List UInt8) (w:World) (h:Bs w w.heap.size q l) (ht:Yo w) (hl:l.length≤1048576):
    Calls Tryz.prog 183 #[.slice q l.length c] w fun e w'=>e=.returned (prV (YI l))∧Below w.heap.size w w':=by
  cases l with
  | nil=>
    go_enter Tryz.func183,Tryz.ntmps183;go_wp2;exact bodyPost_ret (v:=prV (4,0,0)) (by simp[results,Tryz.results183,prV,go_sem]) rfl ⟨rfl,(Below.refl _ _).alloc (Nat.le_refl _) _⟩
  | cons a r=>
    have hl':r.length+1≤1048576:=hl;have hne:((r.length:Int)+1==0)=false:=(by simp;omega);have B0:=(Below.refl w.heap.size w).alloc (Nat.le_refl _) (.cells #[.int .i64 0,.int .i64 0,.int .i64 0] 174);clear hl;show Calls Tryz.prog 183 #[.slice q (r.length+1) c] w _
    cases hf:XN a r
    · have HD:Hid (YI (a::r)=(6,0,0)):=(by rw[KY,hf];rfl);go_enter Tryz.func183,Tryz.ntmps183;go_wp2_with (go_at_call 200;refine(Jb a r q c _ (h.on B0) (ht.on B0)).mono ?_;rintro e w1 ⟨rfl,hb1⟩;obtain⟨hc1,hf1⟩:=Qq hb1);rw[HD.out];refine bodyPost_ret (v:=prV (6,0,0)) (by simp[results,Tryz.results183,prV,go_sem,hc1]) rfl ⟨rfl,?_⟩;exact((((Qa B0 hb1).setCell (Nat.le_refl _) _).setCell (Nat.le_refl _) _).setCell (Nat.le_refl _) _)
    · have hbd:=Ql0 a r;have HI:Hid (YI (a::r)=fin true (JP a r)):=(by rw[KY,hf];rfl);generalize hd:JP a r=d at *;obtain⟨d1,d2⟩:=d;have HDe:=Lib.hid (fun w0 h0 t0=>Qcw a r q c w0 h0 t0 hl');rw[hd] at HDe;clear hd;simp only at hbd HDe
      cases g1:(d1==65533)
      · have HF:Hid (YI (a::r)=(0,d1,d2)):=(by rw[HI.out,Qda (.inl (by simpa using g1))];rfl);go_enter Tryz.func183,Tryz.ntmps183;go_wp2_with (first
          | (go_at_call 200;refine(Jb a r q c _ (h.on B0) (ht.on B0)).mono ?_;rintro e w1 ⟨rfl,hb1⟩;obtain⟨hc1,hf1⟩:=Qq hb1)
          | (go_at_call 201;refine(HDe.out _ ((h.on B0).on hb1) ((ht.on B0).on hb1)).mono ?_;rintro e w2 ⟨rfl,hb2⟩;have hc2:=Kb hb2 w.heap.size (by have:=hb1.size;simp at this;omega);have hf2:=Kc hb2 w.heap.size (by have:=hb1.size;simp at this;omega)))
        rw[HF.out];refine bodyPost_ret (v:=prV (0,d1,d2)) (by simp[results,Tryz.results183,prV,go_sem,hc1,hc2]) rfl ⟨rfl,?_⟩;exact((((Qa (Qa B0 hb1) hb2).setCell (Nat.le_refl _) _).setCell (Nat.le_refl _) _).setCell (Nat.le_refl _) _)
      cases g2:(d2==1)
      · have HF:Hid (YI (a::r)=(0,d1,d2)):=(by rw[HI.out,Qda (.inr (by simpa using g2))];rfl);go_enter Tryz.func183,Tryz.ntmps183;go_wp2_with (first
          | (go_at_call 200;refine(Jb a r q c _ (h.on B0) (ht.on B0)).mono ?_;rintro e w1 ⟨rfl,hb1⟩;obtain⟨hc1,hf1⟩:=Qq hb1)
          | (go_at_call 201;refine(HDe.out _ ((h.on B0).on hb1) ((ht.on B0).on hb1)).mono ?_;rintro e w2 ⟨rfl,hb2⟩;have hc2:=Kb hb2 w.heap.size (by have:=hb1.size;simp at this;omega);have hf2:=Kc hb2 w.heap.size (by have:=hb1.size;simp at this;omega)))
        rw[HF.out];refine bodyPost_ret (v:=prV (0,d1,d2)) (by simp[results,Tryz.results183,prV,go_sem,hc1,hc2]) rfl ⟨rfl,?_⟩;exact((((Qa (Qa B0 hb1) hb2).setCell (Nat.le_refl _) _).setCell (Nat.le_refl _) _).setCell (Nat.le_refl _) _)
      · have HF:Hid (YI (a::r)=(5,0,0)):=by
          have e1:d1=65533:=(by simpa using g1);have e2:d2=1:=(by simpa using g2);rw[HI.out,e1,e2];rfl
        go_enter Tryz.func183,Tryz.ntmps183;go_wp2_with (first
          | (go_at_call 200;refine(Jb a r q c _ (h.on B0) (ht.on B0)).mono ?_;rintro e w1 ⟨rfl,hb1⟩;obtain⟨hc1,hf1⟩:=Qq hb1)
          | (go_at_call 201;refine(HDe.out _ ((h.on B0).on hb1) ((ht.on B0).on hb1)).mono ?_;rintro e w2 ⟨rfl,hb2⟩;have hc2:=Kb hb2 w.heap.size (by have:=hb1.size;simp at this;omega);have hf2:=Kc hb2 w.heap.size (by have:=hb1.size;simp at this;omega)))
        rw[HF.out];refine bodyPost_ret (v:=prV (5,0,0)) (by simp[results,Tryz.results183,prV,go_sem,hc1,hc2]) rfl ⟨rfl,?_⟩;exact((((Qa (Qa B0 hb1) hb2).setCell (Nat.le_refl _) _).setCell (Nat.le_refl _) _).setCell (Nat.le_refl _) _)
def Qmt (a:UInt8) (r:List UInt8) (p s:Int):Prop:=Yq p=true∧Ye p=(a::r).take s.toNat∧1≤s∧s≤(r.length:Int)+1
theorem QhJ (a:UInt8) (r:List UInt8) {p s:Int} (h:Q9 a r=(0,p,s)):Qmt a r p s:=by
  have ha:=a.toNat_lt;by_cases c1:a.toNat<128
  · rw[Qlb a r c1] at h;simp only[Prod.mk.injEq] at h;obtain⟨-,rfl,rfl⟩:=h;refine⟨(Yp _).2 (by omega),(Y3 (by omega) (by omega) _).2 ?_,by omega,by omega⟩;rw[Qg2 (by omega)];rfl
  by_cases c2:a.toNat<192
  · rw[Qhb a r (.inl ⟨by omega,c2⟩)] at h;simp at h
  by_cases c3:a.toNat<224
  · rw[QjJ a r (by omega) c3] at h
    match r,h with
    | [],h=>simp only at h;split at h <;> simp at h
    | b::r',h=>
      simp only at h;split at h
      · rename_i hc;obtain⟨k1,k2⟩:=hc;rw[Ym] at k2;simp only[Prod.mk.injEq] at h;obtain⟨-,rfl,rfl⟩:=h;refine⟨(Yp _).2 (by omega),(Y3 (by omega) (by omega) _).2 ?_,by omega,by simp;omega⟩;rw[Qg3 (by omega) (by omega)];simp;omega
      · simp at h
  by_cases c4:a.toNat<240
  · rw[Qha a r (by omega) c4] at h
    match r,h with
    | [],h=>simp at h
    | [b],h=>simp only at h;split at h <;> simp at h
    | b::c::r',h=>
      simp only at h;split at h
      · rename_i hc;obtain⟨k1,k2⟩:=hc;rw[Ym] at k1 k2;have k1':=k1.1;have k1'':=k1.2;unfold lo3 at k1';unfold hi3 at k1'';simp only[Prod.mk.injEq] at h;obtain⟨-,rfl,rfl⟩:=h;have hb:=b.toNat_lt;have e:128≤b.toNat∧b.toNat≤191∧(a.toNat=224→160≤b.toNat)∧(a.toNat=237→b.toNat≤159):=(by split at k1' <;> split at k1'' <;> omega);clear k1 k1' k1'';refine⟨(Yp _).2 (by omega),(Y3 (by omega) (by omega) _).2 ?_,by omega,by simp;omega⟩;rw[QeL (by omega) (by omega)];simp;omega
      · simp at h
  by_cases c5:a.toNat<248
  · rw[QeZ a r (by omega) c5] at h;by_cases c6:245≤a.toNat
    · rw[if_pos c6] at h;simp at h
    rw[if_neg c6] at h
    match r,h with
    | [],h=>simp at h
    | [b],h=>simp only at h;split at h <;> simp at h
    | [b,c],h=>simp only at h;split at h <;> simp at h
    | b::c::d::r',h=>
      simp only at h;split at h
      · rename_i hc;obtain⟨k1,k2,k3⟩:=hc;rw[Ym] at k1 k2 k3;have k1':=k1.1;have k1'':=k1.2;unfold lo4 at k1';unfold hi4 at k1'';simp only[Prod.mk.injEq] at h;obtain⟨-,rfl,rfl⟩:=h;have e:128≤b.toNat∧b.toNat≤191∧(a.toNat=240→144≤b.toNat)∧(a.toNat=244→b.toNat≤143):=(by split at k1' <;> split at k1'' <;> omega);clear k1 k1' k1'';refine⟨(Yp _).2 (by omega),(Y3 (by omega) (by omega) _).2 ?_,by omega,by simp;omega⟩;rw[Qg4 (by omega)];simp;omega
      · simp at h
  · rw[Qhb a r (.inr (by omega))] at h;simp at h
end Go.Proofs.YtbfickdgjgbfhaaGreatDoor
