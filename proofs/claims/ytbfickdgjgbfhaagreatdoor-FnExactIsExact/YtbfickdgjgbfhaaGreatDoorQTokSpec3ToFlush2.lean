/- The model's tokens: l3Escaped, FirstToken. -/
import Derived.Test.YtbfickdgjgbfhaaGreatDoorQTokSpec
import Derived.Test.YtbfickdgjgbfhaaGreatDoorQTokSpec2
import Derived.Test.YtbfickdgjgbfhaaGreatDoorQTokImpl6ToTokImpl8
set_option linter.unusedVariables false
set_option maxRecDepth 100000
set_option maxHeartbeats 4000000
namespace Go.Proofs.YtbfickdgjgbfhaaGreatDoor
open Go.RowKit
theorem Qd9 (p:Option Addr) (c:Nat) (l:List UInt8) (w:World) (h:Bs w w.heap.size p l) (hc:l.length≤c) (hl:l.length≤1048576) (h2:2≤l.length):
    Calls Tryz.prog 130 #[.slice p l.length c] w (QM w (Za l)):=by
  unfold Za;rw[if_neg (by omega)];have hS:=fun w' (hb:Below w.heap.size w w')=>QcA p c l w' (h.on hb) hc hl (by omega);have hR:=fun w' (hb:Below w.heap.size w w') (h3:3≤l.length)=>Qa6 p c 3 l w' (h.on hb) h3 (by omega) (by omega) hl;have h3c:=h.at 2;obtain⟨b,off,rfl,hb,hcell⟩:=h.at 1 (by omega);by_cases h91:((l.getD 1 0).toNat:Int)=91
  · rw[if_pos h91];rw[h91] at hcell;exact Qd6 b off l.length c _ w (by omega) hl hb hcell (Lib.hid hS)
  rw[if_neg h91];by_cases h79:((l.getD 1 0).toNat:Int)=79
  · rw[if_pos h79];rw[h79] at hcell;unfold Jc;by_cases h3:l.length<3
    · rw[if_pos h3];exact(Qe5 b off l.length c w (by omega) hb hcell).mono fun _ _ q=>q.new rfl
    · rw[if_neg h3];obtain⟨b',off',e',_,hc2⟩:=h3c (by omega);have he:=Option.some.inj e';have hb1:b=b':=congrArg Addr.block he;have ho1:off=off':=congrArg Addr.off he;subst hb1 ho1;by_cases h0:QJ ((l.getD 2 0).toNat:Int)=0
      · rw[if_pos h0];exact QcB b off l.length c _ _ w (by omega) hl hc hb hcell hc2 h0 (Lib.hid fun w' hb'=>hR w' hb' (by omega))
      · rw[if_neg h0];exact(Qd7 b off l.length c _ _ w (by omega) hl hb hcell hc2 rfl (by simpa using h0)).mono fun _ _ q=>q.new rfl
  rw[if_neg h79];have e1:(((l.getD 1 0).toNat:Int)==91)=false:=(by simpa using h91);have e2:(((l.getD 1 0).toNat:Int)==79)=false:=(by simpa using h79);by_cases hp:inR ((l.getD 1 0).toNat:Int) 32 126=true
  · rw[if_pos hp];simp only[inR,Bool.and_eq_true,decide_eq_true_eq] at hp;exact(QbH b off l.length c _ w (by omega) hl hb hcell e1 e2 (by omega) (by omega)).mono fun _ _ q=>q.new rfl
  · rw[if_neg hp];simp only[inR,Bool.and_eq_true,decide_eq_true_eq] at hp;exact(Qd8 b off l.length c _ w (by omega) hl hb hcell e1 e2 (by omega)).mono fun _ _ q=>q.new rfl
theorem Qe6 (p:Option Addr) (c:Nat) (w:World):
    Calls Tryz.prog 100 #[.slice p 0 c] w (Qm w (Qf 4)):=by
  go_enter Tryz.func100,Tryz.ntmps100;go_wp2_with fail;refine(Q8 _ _).mono ?_;rintro e w9 ⟨rfl,hb9⟩;have HE:Hid (Qm w (Qf 4) (.returned (tkV (Qf 4) (.slice none 0 0))) (sets w9 w.heap.size 0 (tkL (Qf 4) (.slice none 0 0)))):=Qu (tkL (Qf 4) (.slice none 0 0)) hb9;obtain⟨hcc,hf⟩:=Qq hb9;clear hb9;unfold tkV Qf Xy;go_wp2_with fail;refine bodyPost_ret (v:=tkV (Qf 4) (.slice none 0 0)) ?_ rfl HE.out;simp[results,Tryz.results100,tkV,Qf,Xy,go_sem,hcc]
theorem Qe7 (b off c:Nat) (w:World) (hb:b<w.heap.size) (hc:w.cell? ⟨b,off,none⟩=some (.int .u8 27)):
    Calls Tryz.prog 100 #[.slice (some ⟨b,off,none⟩) 1 c] w (Qm w (Qf 6)):=by
  go_enter Tryz.func100,Tryz.ntmps100;go_wp2_with fail;refine(Q8 _ _).mono ?_;rintro e w9 ⟨rfl,hb9⟩;have HE:Hid (Qm w (Qf 6) (.returned (tkV (Qf 6) (.slice none 0 0))) (sets w9 w.heap.size 0 (tkL (Qf 6) (.slice none 0 0)))):=Qu (tkL (Qf 6) (.slice none 0 0)) hb9;obtain⟨hcc,hf⟩:=Qq hb9;clear hb9;unfold tkV Qf Xy;go_wp2_with fail;refine bodyPost_ret (v:=tkV (Qf 6) (.slice none 0 0)) ?_ rfl HE.out;simp[results,Tryz.results100,tkV,Qf,Xy,go_sem,hcc]
theorem Qgm (b off n c:Nat) (t:Tk) (w:World) (hi:1<n) (hn:n≤1048576) (hb:b<w.heap.size) (hc:w.cell? ⟨b,off,none⟩=some (.int .u8 27))
    (HG:Hid (∀w',Below w.heap.size w w'→Calls Tryz.prog 130 #[.slice (some ⟨b,off,none⟩) n c] w' (QM w' t))):
    Calls Tryz.prog 100 #[.slice (some ⟨b,off,none⟩) n c] w (QM w t):=by
  have e0:¬(n:Int)=0:=(by omega);have e1:¬(n:Int)=1:=(by omega);go_enter Tryz.func100,Tryz.ntmps100;go_wp2_with fail;refine(HG.out _ (Qb _ _)).mono ?_;rintro e w9 ⟨v,rfl,ho,hb9⟩;obtain⟨px,cx,hv⟩:=ho.slice;subst hv;have HE:Hid (QM w t (.returned (tkV t (.slice px t.ev.data.length cx))) (sets w9 w.heap.size 0 (tkL t (.slice px t.ev.data.length cx)))):=Xs (tkL t (.slice px t.ev.data.length cx)) ho hb9;obtain⟨hcc,hf⟩:=Qq hb9;clear ho hb9;unfold tkV;go_wp2_with fail;refine bodyPost_ret (v:=tkV t (.slice px t.ev.data.length cx)) ?_ rfl HE.out;simp[results,Tryz.results100,tkV,go_sem,hcc]
theorem Qgn (b off n c:Nat) (x:Int) (w:World) (hi:0<n) (hn:n≤1048576) (hb:b<w.heap.size) (hc:w.cell? ⟨b,off,none⟩=some (.int .u8 x)) (h0:0≤x) (h27:(x==27)=false) (h128:x<128) (tk:Tk) (htk:Y9 x=tk) (hk:tk.code=0) (hd:tk.ev.data=[]):
    Calls Tryz.prog 100 #[.slice (some ⟨b,off,none⟩) n c] w (QM w tk):=by
  have e0:¬(n:Int)=0:=(by omega);have HK:=Lib.hid (fun w=>Zc x w h0);rw[htk] at HK;obtain⟨tcode,⟨t1,t2,t3,t4,t5,t6,t7,td⟩,tsize,tpaste,tnone⟩:=tk;dsimp only at *;subst hk hd;clear htk;go_enter Tryz.func100,Tryz.ntmps100;go_wp2_with fail;refine(HK.out _).mono ?_;rintro e w9 ⟨rfl,hb9⟩;have HE:∀A,Hid (QM w ⟨0,⟨t1,t2,t3,t4,t5,t6,t7,[]⟩,tsize,tpaste,tnone⟩ (.returned (tkV ⟨0,⟨t1,t2,t3,t4,t5,t6,t7,[]⟩,tsize,tpaste,tnone⟩ (.slice none 0 0))) ((sets w9 w.heap.size 0 (tkL ⟨0,⟨t1,t2,t3,t4,t5,t6,t7,[]⟩,tsize,tpaste,tnone⟩ (.slice none 0 0))).alloc A)):=fun A=>(Xs (tkL ⟨0,⟨t1,t2,t3,t4,t5,t6,t7,[]⟩,tsize,tpaste,tnone⟩ (.slice none 0 0)) (QT _ _) hb9).more A;obtain⟨hcc,hf⟩:=Qq hb9;have l0:=Xa hb9;have n0:¬w.heap.size=w9.heap.size:=(by omega);clear hb9;unfold tkV;dsimp only;go_wp2_with fail;refine bodyPost_ret (v:=tkV ⟨0,⟨t1,t2,t3,t4,t5,t6,t7,[]⟩,tsize,tpaste,tnone⟩ (.slice none 0 0)) ?_ rfl (HE _).out;simp[results,Tryz.results100,tkV,go_sem,hcc,l0]
theorem Qe8 (b off n c:Nat) (x:Int) (t:Tk) (w:World) (hi:0<n) (hn:n≤1048576) (hnc:n≤c) (hb:b<w.heap.size) (hc:w.cell? ⟨b,off,none⟩=some (.int .u8 x)) (h0:0≤x) (h27:(x==27)=false) (h128:x<128) (htk:Y9 x=Qf 5)
    (HG:Hid (∀w',Below w.heap.size w w'→Calls Tryz.prog 132 #[.slice (some ⟨b,off,none⟩) 1 c] w' (QM w' t))):
    Calls Tryz.prog 100 #[.slice (some ⟨b,off,none⟩) n c] w (QM w t):=by
  have e0:¬(n:Int)=0:=(by omega);have HK:=Lib.hid (fun w=>Zc x w h0);rw[htk] at HK;clear htk;go_enter Tryz.func100,Tryz.ntmps100;go_wp2_with fail;refine(HK.out _).mono ?_;rintro e w1 ⟨rfl,hb1⟩;have HB1:=Lib.hid hb1;have HR2:=Lib.hid (fun A=>HG.out _ (Qa (Qa (Qb _ _) hb1) (Qb _ A)));have l0:=Xa hb1;have n0:¬w.heap.size=w1.heap.size:=(by omega);clear hb1 HG;unfold tkV Qf Xy;dsimp only;go_wp2_with fail;refine(HR2.out _).mono ?_;rintro e w9 ⟨v,rfl,ho,hb9⟩;obtain⟨px,cx,hv⟩:=ho.slice;subst hv;have hb6:=QA HB1.out hb9;have HE:Hid (QM w t (.returned (tkV t (.slice px t.ev.data.length cx))) (sets w9 w.heap.size 0 (tkL t (.slice px t.ev.data.length cx)))):=Xs (tkL t (.slice px t.ev.data.length cx)) (ho.lower (Jn HB1.out _)) hb6;clear l0 n0;obtain⟨hcc,hf⟩:=Qq hb6;clear ho hb9 hb6;unfold tkV;go_wp2_with fail;refine bodyPost_ret (v:=tkV t (.slice px t.ev.data.length cx)) ?_ rfl HE.out;simp[results,Tryz.results100,tkV,go_sem,hcc]
theorem Qea (b off n c:Nat) (x zp zs:Int) (w:World) (hi:0<n) (hn:n≤1048576) (hb:b<w.heap.size) (hc:w.cell? ⟨b,off,none⟩=some (.int .u8 x)) (h27:(x==27)=false) (h128:128≤x)
    (HF:Hid (∀o,Calls Tryz.prog 133 #[.slice (some ⟨b,off,none⟩) n c] (w.alloc o) (YK (w.alloc o) (6,zp,zs)))):
    Calls Tryz.prog 100 #[.slice (some ⟨b,off,none⟩) n c] w (Qm w (Qf 6)):=by
  have e0:¬(n:Int)=0:=(by omega);unfold YK at HF;dsimp only at HF;go_enter Tryz.func100,Tryz.ntmps100;go_wp2_with fail;refine(HF.out _).mono ?_;rintro e w1 ⟨rfl,hb1⟩;have HB1:=Lib.hid hb1;clear hb1;go_wp2_with fail;refine(Q8 _ _).mono ?_;rintro e w9 ⟨rfl,hb9⟩;have hb6:=HB1.out.trans (hb9.mono HB1.out.size);have HE:Hid (Qm w (Qf 6) (.returned (tkV (Qf 6) (.slice none 0 0))) (sets w9 w.heap.size 0 (tkL (Qf 6) (.slice none 0 0)))):=Qu (tkL (Qf 6) (.slice none 0 0)) hb6;obtain⟨hcc,hf⟩:=Qq hb6;clear hb9 hb6;unfold tkV Qf Xy;go_wp2_with fail;refine bodyPost_ret (v:=tkV (Qf 6) (.slice none 0 0)) ?_ rfl HE.out;simp[results,Tryz.results100,tkV,Qf,Xy,go_sem,hcc]
theorem Qe9 (b off n c:Nat) (x zp zs:Int) (w:World) (hi:0<n) (hn:n≤1048576) (hb:b<w.heap.size) (hc:w.cell? ⟨b,off,none⟩=some (.int .u8 x)) (h27:(x==27)=false) (h128:128≤x) (h160:¬zp<160)
    (HF:Hid (∀o,Calls Tryz.prog 133 #[.slice (some ⟨b,off,none⟩) n c] (w.alloc o) (YK (w.alloc o) (0,zp,zs)))):
    Calls Tryz.prog 100 #[.slice (some ⟨b,off,none⟩) n c] w (Qm w (Qo zp 0 zs)):=by
  have e0:¬(n:Int)=0:=(by omega);unfold YK at HF;dsimp only at HF;go_enter Tryz.func100,Tryz.ntmps100;go_wp2_with fail;refine(HF.out _).mono ?_;rintro e w1 ⟨rfl,hb1⟩;have HB1:=Lib.hid hb1;clear hb1;go_wp2_with fail;refine(XR _ _ _ _).mono ?_;rintro e w9 ⟨rfl,hb9⟩;have hb6:=HB1.out.trans (hb9.mono HB1.out.size);have HE:Hid (Qm w (Qo zp 0 zs) (.returned (tkV (Qo zp 0 zs) (.slice none 0 0))) (sets w9 w.heap.size 0 (tkL (Qo zp 0 zs) (.slice none 0 0)))):=Qu (tkL (Qo zp 0 zs) (.slice none 0 0)) hb6;obtain⟨hcc,hf⟩:=Qq hb6;clear hb9 hb6;unfold tkV Qo QL;go_wp2_with fail;refine bodyPost_ret (v:=tkV (Qo zp 0 zs) (.slice none 0 0)) ?_ rfl HE.out;simp[results,Tryz.results100,tkV,Qo,QL,go_sem,hcc]
theorem Qfa (b off n c:Nat) (x zc zp zs:Int) (t:Tk) (w:World) (hi:0<n) (hn:n≤1048576) (hnc:n≤c) (hb:b<w.heap.size) (hc:w.cell? ⟨b,off,none⟩=some (.int .u8 x)) (h27:(x==27)=false) (h128:128≤x) (h6:(zc==6)=false) (h0:(zc==0)=false∨((zc==0)=true∧zp<160))
    (HF:Hid (∀o,Calls Tryz.prog 133 #[.slice (some ⟨b,off,none⟩) n c] (w.alloc o) (YK (w.alloc o) (zc,zp,zs))))
    (HG:Hid (∀w',Below w.heap.size w w'→Calls Tryz.prog 132 #[.slice (some ⟨b,off,none⟩) 1 c] w' (QM w' t))):
    Calls Tryz.prog 100 #[.slice (some ⟨b,off,none⟩) n c] w (QM w t):=by
  have e0:¬(n:Int)=0:=(by omega);have ez:(zc != 0)=!(zc==0):=rfl;unfold YK at HF;dsimp only at HF;rcases h0 with h0 | ⟨h0,h1⟩;all_goals
    rw[h0] at ez;go_enter Tryz.func100,Tryz.ntmps100;go_wp2_with fail;refine(HF.out _).mono ?_;rintro e w1 ⟨rfl,hb1⟩;have HB1:=Lib.hid hb1;have HR2:=Lib.hid (HG.out _ (Qa (Qb _ _) hb1));clear hb1 HG;go_wp2_with fail;refine HR2.out.mono ?_;rintro e w9 ⟨v,rfl,ho,hb9⟩;obtain⟨px,cx,hv⟩:=ho.slice;subst hv;have hb6:=HB1.out.trans (hb9.mono HB1.out.size);have HE:Hid (QM w t (.returned (tkV t (.slice px t.ev.data.length cx))) (sets w9 w.heap.size 0 (tkL t (.slice px t.ev.data.length cx)))):=Xs (tkL t (.slice px t.ev.data.length cx)) (ho.lower HB1.out.size) hb6;obtain⟨hcc,hf⟩:=Qq hb6;clear ho hb9 hb6;unfold tkV;go_wp2_with fail;refine bodyPost_ret (v:=tkV t (.slice px t.ev.data.length cx)) ?_ rfl HE.out;simp[results,Tryz.results100,tkV,go_sem,hcc]
theorem Jf (p:Option Addr) (c:Nat) (l:List UInt8) (w:World) (h:Bs w w.heap.size p l) (hc:l.length≤c) (hl:l.length≤1048576):
    Calls Tryz.prog 100 #[.slice p l.length c] w (QM w (Q0 l)):=by
  unfold Q0;by_cases hne:l=[]
  · subst hne;exact(Qe6 p c w).mono fun _ _ q=>q.new rfl
  rw[if_neg hne];have hpos:0<l.length:=List.length_pos_iff.2 hne;unfold Y4;have hE:=fun w' (hb:Below w.heap.size w w') (h2:2≤l.length)=>Qd9 p c l w' (h.on hb) hc hl h2;have hR:=fun w' (hb:Below w.heap.size w w')=>Qa6 p c 1 l w' (h.on hb) (by omega) (by omega) (by omega) hl;have hF:∀o,Calls Tryz.prog 133 #[.slice p l.length c] (w.alloc o) (YK (w.alloc o) (YI l)):=by
    intro o;rw[Ur]
    match l,hne,h,hl,hc with
    | a::tail,_,h,hl,hc=>exact Qgj p c a tail (w.alloc o) (h.alloc o) (by simpa using hl) (by simpa using hc)
  obtain⟨b,off,rfl,hb,hcell⟩:=h.at 0 (by omega);have hx0:0≤((l.getD 0 0).toNat:Int):=(by omega);by_cases h27:((l.getD 0 0).toNat:Int)=27
  · rw[if_pos h27];rw[h27] at hcell;by_cases h1:l.length=1
    · rw[h1];have e:Za l=Qf 6:=(by unfold Za;rw[if_pos (by omega)]);rw[e];exact(Qe7 b off c w hb hcell).mono fun _ _ q=>q.new rfl
    · exact Qgm b off l.length c _ w (by omega) hl hb hcell (Lib.hid fun w' hb'=>hE w' hb' (by omega))
  rw[if_neg h27];have e27:(((l.getD 0 0).toNat:Int)==27)=false:=(by simpa using h27);by_cases h128:128≤((l.getD 0 0).toNat:Int)
  · rw[if_pos h128];unfold K0;generalize YI l=z at *;obtain⟨zc,zp,zs⟩:=z;dsimp only at *;by_cases h6:zc=6
    · rw[if_pos h6];subst h6;exact(Qea b off l.length c _ zp zs w hpos hl hb hcell e27 h128 (Lib.hid hF)).mono fun _ _ q=>q.new rfl
    · rw[if_neg h6];by_cases h0:zc≠0∨zp<160
      · rw[if_pos h0];refine Qfa b off l.length c _ zc zp zs _ w hpos hl hc hb hcell e27 h128 (by simpa using h6) ?_ (Lib.hid hF) (Lib.hid hR);by_cases hz:zc=0
        · exact .inr ⟨by simpa using hz,h0.resolve_left (fun hh=>hh hz)⟩
        · exact .inl (by simpa using hz)
      · rw[if_neg h0];have hz:zc=0:=(by omega);subst hz;exact(Qe9 b off l.length c _ zp zs w hpos hl hb hcell e27 h128 (by omega) (Lib.hid hF)).mono fun _ _ q=>q.new rfl
  rw[if_neg h128];by_cases hk:(Y9 ((l.getD 0 0).toNat:Int)).code=0
  · rw[if_pos hk];exact Qgn b off l.length c _ w hpos hl hb hcell hx0 e27 (by omega) _ rfl hk (QeR _)
  · rw[if_neg hk];exact Qe8 b off l.length c _ _ w hpos hl hc hb hcell hx0 e27 (by omega) ((Qhe _).resolve_left hk) (Lib.hid hR)
def ZX (l:List UInt8):Tk:=
  if ((l.getD 0 0).toNat:Int)=27∧l.length=1 then Qo 2000004 0 1
  else if ((l.getD 0 0).toNat:Int)=27∧l.length=2 then Qo ((l.getD 1 0).toNat:Int) 2 2
  else Zd (l.take 24)
def Qs (l:List UInt8) (q:Bool):Tk:=
  if l=[] then Qf 4 else if q=true then Q7 (l.take 32) else if (Q0 l).code=6 then ZX l else Q0 l
theorem Uz (l:List UInt8):(ZX l).code=0:=by
  unfold ZX;split
  · rfl
  split <;> rfl
theorem Qgo (b off c:Nat) (w:World) (hb:b<w.heap.size) (hc:w.cell? ⟨b,off,none⟩=some (.int .u8 27)):
    Calls Tryz.prog 105 #[.slice (some ⟨b,off,none⟩) 1 c] w (QG w (QL 2000004 0) 1 false false):=by
  go_enter Tryz.func105,Tryz.ntmps105;go_wp2_with fail;refine(YR _ _ _ _).mono ?_;rintro e w2 ⟨rfl,hb2⟩;obtain⟨hcc,hf⟩:=Qq hb2;have HE:Hid (QG w (QL 2000004 0) 1 false false (.returned (Xx (QL 2000004 0) (.slice none 0 0) 1 false false)) (sets w2 w.heap.size 0 (Zr (QL 2000004 0) (.slice none 0 0) 1 false false))):=Xw (Zr (QL 2000004 0) (.slice none 0 0) 1 false false) (QT _ _) hb2;clear hb2;unfold Xx QL;dsimp only;go_wp2_with fail;refine bodyPost_ret (v:=Xx (QL 2000004 0) (.slice none 0 0) 1 false false) ?_ rfl HE.out;simp[results,Tryz.results105,Xx,QL,go_sem,hcc]
theorem Qgp (b off c:Nat) (x:Int) (w:World) (hb:b<w.heap.size) (hc:w.cell? ⟨b,off,none⟩=some (.int .u8 27)) (hc1:w.cell? ⟨b,off+1,none⟩=some (.int .u8 x)) (h0:0≤x) (h1:x≤255):
    Calls Tryz.prog 105 #[.slice (some ⟨b,off,none⟩) 2 c] w (QG w (QL x 2) 2 false false):=by
  have hw:IntKind.i64.wrap x=x:=IntWalk.i64_in _ ⟨by omega,by omega⟩;go_enter Tryz.func105,Tryz.ntmps105;go_wp2_with fail;refine(YR _ _ _ _).mono ?_;rintro e w2 ⟨rfl,hb2⟩;obtain⟨hcc,hf⟩:=Qq hb2;have HE:Hid (QG w (QL x 2) 2 false false (.returned (Xx (QL x 2) (.slice none 0 0) 2 false false)) (sets w2 w.heap.size 0 (Zr (QL x 2) (.slice none 0 0) 2 false false))):=Xw (Zr (QL x 2) (.slice none 0 0) 2 false false) (QT _ _) hb2;clear hb2;unfold Xx QL;dsimp only;go_wp2_with fail;refine bodyPost_ret (v:=Xx (QL x 2) (.slice none 0 0) 2 false false) ?_ rfl HE.out;simp[results,Tryz.results105,Xx,QL,go_sem,hcc]
theorem QbI (b off n k c:Nat) (x:Int) (d:List UInt8) (w:World) (hn:0<n) (hnl:n≤1048576) (hb:b<w.heap.size) (hc:w.cell? ⟨b,off,none⟩=some (.int .u8 x)) (hx:(x==27)=false∨((x==27)=true∧2<n))
    (HB:Hid (∀w,Calls Tryz.prog 104 #[.slice (some ⟨b,off,none⟩) n c,.int .i64 24] w fun e w'=>e=.returned (.slice (some ⟨b,off,none⟩) k c)∧w=w'))
    (HR:Hid (∀w',Below w.heap.size w w'→Calls Tryz.prog 139 #[.slice (some ⟨b,off,none⟩) k c] w' (QG w' (QS d) k false false))):
    Calls Tryz.prog 105 #[.slice (some ⟨b,off,none⟩) n c] w (QG w (QS d) k false false):=by
  rcases hx with hx | ⟨hx,h2⟩
  · go_enter Tryz.func105,Tryz.ntmps105;go_wp2_with fail;refine(HB.out _).mono ?_;rintro e w' ⟨rfl,rfl⟩;go_wp2_with fail;refine(HR.out _ (Qb _ _)).mono ?_;rintro e w2 ⟨v,rfl,ho,hb2⟩;obtain⟨pp,cc,hv⟩:=ho.slice;subst hv;obtain⟨hcc,hf⟩:=Qq hb2;have HE:Hid (QG w (QS d) k false false (.returned (Xx (QS d) (.slice pp d.length cc) k false false)) (sets w2 w.heap.size 0 (Zr (QS d) (.slice pp d.length cc) k false false))):=Xw (Zr (QS d) (.slice pp d.length cc) k false false) ho hb2;clear ho hb2;unfold Xx QS;dsimp only;go_wp2_with fail;refine bodyPost_ret (v:=Xx (QS d) (.slice pp d.length cc) k false false) ?_ rfl HE.out;simp[results,Tryz.results105,Xx,QS,go_sem,hcc]
  · have e1:¬(n:Int)=1:=(by omega);have e2:¬(n:Int)=2:=(by omega);go_enter Tryz.func105,Tryz.ntmps105;go_wp2_with fail;refine(HB.out _).mono ?_;rintro e w' ⟨rfl,rfl⟩;go_wp2_with fail;refine(HR.out _ (Qb _ _)).mono ?_;rintro e w2 ⟨v,rfl,ho,hb2⟩;obtain⟨pp,cc,hv⟩:=ho.slice;subst hv;obtain⟨hcc,hf⟩:=Qq hb2;have HE:Hid (QG w (QS d) k false false (.returned (Xx (QS d) (.slice pp d.length cc) k false false)) (sets w2 w.heap.size 0 (Zr (QS d) (.slice pp d.length cc) k false false))):=Xw (Zr (QS d) (.slice pp d.length cc) k false false) ho hb2;clear ho hb2;unfold Xx QS;dsimp only;go_wp2_with fail;refine bodyPost_ret (v:=Xx (QS d) (.slice pp d.length cc) k false false) ?_ rfl HE.out;simp[results,Tryz.results105,Xx,QS,go_sem,hcc]
theorem Qhf (x:UInt8):(x.toNat:Int)≤255:=by
  have:=x.toNat_lt;omega
theorem KJ (p:Option Addr) (c:Nat) (l:List UInt8) (m:Nat) (hm:m≤100) (hc:l.length≤c) (w:World):
    Calls Tryz.prog 104 #[.slice p l.length c,.int .i64 m] w fun e w'=>e=.returned (.slice p (l.take m).length c)∧w=w':=by
  rw[List.length_take];by_cases h:l.length≤m
  · rw[Nat.min_eq_right h];exact Zt p l.length c m w h hc hm
  · rw[Nat.min_eq_left (by omega)];exact ZQ p l.length c m w (by omega) hc hm
theorem QjX {l:List UInt8} (h:l≠[]):l.take 24≠[]:=by
  intro e;rw[List.take_eq_nil_iff] at e;rcases e with e | e
  · omega
  · exact h e
theorem Qae (p:Option Addr) (c:Nat) (l:List UInt8) (w:World) (h:Bs w w.heap.size p l) (hc:l.length≤c) (hl:l.length≤1048576) (hne:l≠[]):
    Calls Tryz.prog 105 #[.slice p l.length c] w (QG w (ZX l).ev (ZX l).size (ZX l).paste (ZX l).none):=by
  have hpos:0<l.length:=List.length_pos_iff.2 hne;have h1c:=h.at 1;have HB:=fun w=>KJ p c l 24 (by omega) hc w;have HR:=fun w' (hb:Below w.heap.size w w')=>UQ p c (l.take 24) w' ((h.on hb).head 24) (by simp;omega) (QjX hne);obtain⟨b,off,rfl,hb,hcell⟩:=h.at 0 (by omega);unfold ZX;by_cases h27:((l.getD 0 0).toNat:Int)=27
  · by_cases h1:l.length=1
    · rw[if_pos ⟨h27,h1⟩];rw[h27] at hcell;rw[h1];exact Qgo b off c w hb hcell
    · rw[if_neg (fun hh=>h1 hh.2)];by_cases h2:l.length=2
      · rw[if_pos ⟨h27,h2⟩];rw[h27] at hcell;obtain⟨b',off',e',_,hc2⟩:=h1c (by omega);have he:=Option.some.inj e';have hb1:b=b':=congrArg Addr.block he;have ho1:off=off':=congrArg Addr.off he;subst hb1 ho1;rw[h2];exact Qgp b off c _ w hb hcell hc2 (by omega) (Qhf _)
      · rw[if_neg (fun hh=>h2 hh.2)];exact QbI b off l.length _ c _ (l.take 24) w hpos hl hb hcell (.inr ⟨by simpa using h27,by omega⟩) (Lib.hid HB) (Lib.hid HR)
  · rw[if_neg (fun hh=>h27 hh.1),if_neg (fun hh=>h27 hh.1)];exact QbI b off l.length _ c _ (l.take 24) w hpos hl hb hcell (.inl (by simpa using h27)) (Lib.hid HB) (Lib.hid HR)
theorem QcC (p:Option Addr) (c:Nat) (q:Bool) (w:World):
    Calls Tryz.prog 73 #[.slice p 0 c,.bool q] w (Qm w (Qf 4)):=by
  go_enter Tryz.func73,Tryz.ntmps73;go_wp2;have HE:Hid (Qm w (Qf 4) (.returned (tkV (Qf 4) (.slice none 0 0))) (w.alloc (.cells (tkL (Qf 4) (.slice none 0 0)).toArray 90))):=⟨rfl,Qb _ _⟩;refine bodyPost_ret (v:=tkV (Qf 4) (.slice none 0 0)) ?_ rfl HE.out;simp[results,Tryz.results73,tkV,Qf,Xy,go_sem]
theorem QbJ (p:Option Addr) (n k c:Nat) (d:List UInt8) (w:World) (hn:0<n)
    (HB:Hid (∀w,Calls Tryz.prog 104 #[.slice p n c,.int .i64 32] w fun e w'=>e=.returned (.slice p k c)∧w=w'))
    (HR:Hid (∀w',Below w.heap.size w w'→Calls Tryz.prog 103 #[.slice p k c] w' (QG w' (QX d) k true false))):
    Calls Tryz.prog 73 #[.slice p n c,.bool true] w (QM w (pTk d k)):=by
  have e0:¬(n:Int)=0:=(by omega);go_enter Tryz.func73,Tryz.ntmps73;go_wp2_with fail;refine(HB.out _).mono ?_;rintro e w' ⟨rfl,rfl⟩;go_wp2_with fail;refine(HR.out _ (Qb _ _)).mono ?_;rintro e w2 ⟨v,rfl,ho,hb2⟩;obtain⟨pp,cc,hv⟩:=ho.slice;subst hv;obtain⟨hcc,hf⟩:=Qq hb2;have HE:Hid (QM w (pTk d k) (.returned (tkV (pTk d k) (.slice pp d.length cc))) (sets w2 w.heap.size 0 (tkL (pTk d k) (.slice pp d.length cc)))):=Xs (tkL (pTk d k) (.slice pp d.length cc)) ho hb2;clear ho hb2;unfold Xx QX;dsimp only;go_wp2_with fail;refine bodyPost_ret (v:=tkV (pTk d k) (.slice pp d.length cc)) ?_ rfl HE.out;simp[results,Tryz.results73,tkV,pTk,QX,go_sem,hcc]
theorem QcD (p:Option Addr) (n c:Nat) (t:Tk) (w:World) (hn:0<n) (ht:t.code=0)
    (HT:Hid (∀o,Calls Tryz.prog 96 #[.slice p n c] (w.alloc o) (QM (w.alloc o) (Qf 6))))
    (HA:Hid (∀w',Below w.heap.size w w'→Calls Tryz.prog 105 #[.slice p n c] w' (QG w' t.ev t.size t.paste t.none))):
    Calls Tryz.prog 73 #[.slice p n c,.bool false] w (QM w t):=by
  have e0:¬(n:Int)=0:=(by omega);obtain⟨tc,te,ts,tp,tn⟩:=t;dsimp only at *;subst ht;go_enter Tryz.func73,Tryz.ntmps73;go_wp2_with fail;refine(HT.out _).mono ?_;rintro e w1 ⟨v,rfl,ho,hb1⟩;obtain⟨pp,cc,hv⟩:=ho.slice;subst hv;have HB1:=Lib.hid hb1;have HA2:=Lib.hid (fun A=>HA.out _ (Qa (Qa (Qb _ _) hb1) (Qb _ A)));have l0:=Xa hb1;have n0:¬w.heap.size=w1.heap.size:=(by omega);clear hb1 ho HA;unfold tkV Qf Xy;dsimp only;go_wp2_with fail;refine(HA2.out _).mono ?_;rintro e w2 ⟨v,rfl,ho,hb2⟩;obtain⟨px,cx,hv⟩:=ho.slice;subst hv;have hb3:=QA HB1.out hb2;clear l0 n0;obtain⟨hcc,hf⟩:=Qq hb3;have HE:Hid (QM w ⟨0,te,ts,tp,tn⟩ (.returned (tkV ⟨0,te,ts,tp,tn⟩ (.slice px te.data.length cx))) (sets w2 w.heap.size 0 (tkL ⟨0,te,ts,tp,tn⟩ (.slice px te.data.length cx)))):=Xs (tkL ⟨0,te,ts,tp,tn⟩ (.slice px te.data.length cx)) (ho.lower (Jn HB1.out _)) hb3;clear ho hb2 hb3;unfold Xx;go_wp2_with fail;refine bodyPost_ret (v:=tkV ⟨0,te,ts,tp,tn⟩ (.slice px te.data.length cx)) ?_ rfl HE.out;simp[results,Tryz.results73,tkV,go_sem,hcc]
theorem QbK (p:Option Addr) (n c:Nat) (t:Tk) (w:World) (hn:0<n) (ht:(t.code==6)=false)
    (HT:Hid (∀o,Calls Tryz.prog 96 #[.slice p n c] (w.alloc o) (QM (w.alloc o) t))):
    Calls Tryz.prog 73 #[.slice p n c,.bool false] w (QM w t):=by
  have e0:¬(n:Int)=0:=(by omega);go_enter Tryz.func73,Tryz.ntmps73;go_wp2_with fail;refine(HT.out _).mono ?_;rintro e w1 ⟨v,rfl,ho,hb1⟩;obtain⟨pp,cc,hv⟩:=ho.slice;subst hv;have HE:∀A,Hid (QM w t (.returned (tkV t (.slice pp t.ev.data.length cc))) ((sets w1 w.heap.size 0 (tkL t (.slice pp t.ev.data.length cc))).alloc A)):=fun A=>(Xs (tkL t (.slice pp t.ev.data.length cc)) ho hb1).more A;obtain⟨hcc,hf⟩:=Qq hb1;have l0:=Xa hb1;have n0:¬w.heap.size=w1.heap.size:=(by omega);clear hb1 ho;unfold tkV;go_wp2_with fail;refine bodyPost_ret (v:=tkV t (.slice pp t.ev.data.length cc)) ?_ rfl (HE _).out;simp[results,Tryz.results73,tkV,go_sem,hcc,l0]
end Go.Proofs.YtbfickdgjgbfhaaGreatDoor
