/- The first token as plain data. -/
import Derived.Test.YtbfickdgjgbfhaaGreatDoorQCut0ToRaw
import Derived.Test.YtbfickdgjgbfhaaGreatDoorQMouseToMouse2
import Derived.Test.YtbfickdgjgbfhaaGreatDoorQPaste3ToPaste5
import Derived.Test.YtbfickdgjgbfhaaGreatDoorQFirstPureToFirstBack
set_option linter.unusedVariables false
set_option maxRecDepth 100000
set_option maxHeartbeats 4000000
namespace Go.Proofs.YtbfickdgjgbfhaaGreatDoor
open Go.RowKit
theorem Qdb (l:List UInt8) (s:Nat) (hs:s≤l.length):Vo l s=⟨6,false,[],0,0⟩∨(¬(Vo l s).code=6∧∃k:Nat,(Vo l s).size=(k:Int)∧1≤k∧k≤l.length):=by
  have hb:=QdD l s hs;unfold Vo;split
  · exact .inl rfl
  split
  · exact .inr ⟨by simp,s+bsz (l.drop s)+1,by simp,by omega,by omega⟩
  split
  · exact .inr ⟨by simp,s+bsz (l.drop s)+1,by simp,by omega,by omega⟩
  · exact .inr ⟨by simp,s+bsz (l.drop s)+1,by simp,by omega,by omega⟩
theorem QjK (l:List UInt8) (s:Nat):(Vo l s).code=0∨((Vo l s).nums=[]∧(Vo l s).fin=0):=by
  unfold Vo;split
  · exact .inr ⟨rfl,rfl⟩
  split
  · exact .inr ⟨rfl,rfl⟩
  split
  · exact .inr ⟨rfl,rfl⟩
  · exact .inl rfl
theorem QjL (l:List UInt8) (s:Nat):∀x∈(Vo l s).nums,0≤x∧x≤9999999:=by
  unfold Vo;split
  · simp
  split
  · simp
  split
  · simp
  · intro x hx;simp only[XO,List.mem_map] at hx;obtain⟨y,_,rfl⟩:=hx;exact QeB y
theorem Us (l:List UInt8):Qco l=⟨6,false,[],0,0⟩∨(¬(Qco l).code=6∧∃k:Nat,(Qco l).size=(k:Int)∧1≤k∧k≤l.length):=by
  unfold Qco;split
  · rename_i h;refine Qdb l 1 ?_
    cases l with
    | nil=>simp at h
    | cons _ _=>simp
  · exact Qdb l 0 (by omega)
theorem QjM (l:List UInt8):(Qco l).code=0∨((Qco l).nums=[]∧(Qco l).fin=0):=by
  unfold Qco;split <;> exact QjK _ _
theorem Qbm (l:List UInt8):∀x∈(Qco l).nums,0≤x∧x≤9999999:=by
  unfold Qco;split <;> exact QjL _ _
def XY (r:Pt):Pt:=⟨r.code,r.priv,r.nums,r.fin,r.size+2⟩
def YB (r:Pt):Bool:=(r.code==0)&&((r.priv==false)&&((r.fin==126)&&(r.nums==[200])))
def JA (n:Int):Tk:=⟨0,Xy,n,true,true⟩
def QhK (r:Pt) (d:List UInt8):Tk:=
  if YB r=true then JA r.size
  else if (Zv r).code=0 then Zv r
  else if (Xk r).code=0 then Xk r
  else Zd (d.take r.size.toNat)
def Zz (l:List UInt8):Tk:=
  if (Qco ((l.take 24).drop 2)).code=6 then (if l.length<24 then Qf 6 else Zd (l.take 24))
  else QhK (XY (Qco ((l.take 24).drop 2))) (l.take 24)
def Jc (l:List UInt8):Tk:=
  if l.length<3 then Qf 6 else if QJ ((l.getD 2 0).toNat:Int)=0 then Zd (l.take 3) else Qo (QJ ((l.getD 2 0).toNat:Int)) 0 3
def Za (l:List UInt8):Tk:=
  if l.length<2 then Qf 6
  else if ((l.getD 1 0).toNat:Int)=91 then Zz l
  else if ((l.getD 1 0).toNat:Int)=79 then Jc l
  else if inR ((l.getD 1 0).toNat:Int) 32 126=true then Qo ((l.getD 1 0).toNat:Int) 2 2
  else Qo 2000004 0 1
def K0 (l:List UInt8):Tk:=
  if (YI l).1=6 then Qf 6 else if (YI l).1≠0∨(YI l).2.1<160 then Zd (l.take 1) else Qo (YI l).2.1 0 (YI l).2.2
def Y4 (l:List UInt8):Tk:=
  if ((l.getD 0 0).toNat:Int)=27 then Za l
  else if 128≤((l.getD 0 0).toNat:Int) then K0 l
  else if (Y9 ((l.getD 0 0).toNat:Int)).code=0 then Y9 ((l.getD 0 0).toNat:Int) else Zd (l.take 1)
def Q0 (l:List UInt8):Tk:=if l=[] then Qf 4 else Y4 l
def VI (w:World) (t:Tk) (e:Ending) (w':World):Prop:=(t.code=0∧QG w t.ev t.size t.paste t.none e w')∨(t.code=6∧JX w e w')
theorem Ut (r:Pt) (d:List UInt8):(QhK r d).code=0:=by
  unfold QhK;split
  · rfl
  split
  · assumption
  split
  · assumption
  · rfl
theorem Bs.at {w:World} {B:Nat} {p:Option Addr} {l:List UInt8} (h:Bs w B p l) (i:Nat) (hi:i<l.length):∃b off,p=some ⟨b,off,none⟩∧b<B∧w.cell? ⟨b,off+i,none⟩=some (.int .u8 ((l.getD i 0).toNat:Int)):=by
  obtain⟨b,off,hp,hb,hc⟩:=h (by intro e;rw[e] at hi;simp at hi);exact⟨b,off,hp,hb,by simpa using hc i hi⟩
theorem QG.more {w w':World} {e:Ev} {s:Int} {pa no:Bool} {en:Ending} (h:QG w e s pa no en w') (A:Obj):QG w e s pa no en (w'.alloc A):=by
  obtain⟨v,he,ho,hb⟩:=h;exact⟨v,he,ho.on (Qb _ _),Qa hb (Qb _ _)⟩
theorem QA {W w1 w2:World} {o:Obj} (h:Below W.heap.size W w1) (k:Below (w1.alloc o).heap.size (w1.alloc o) w2):Below W.heap.size W w2:=Qa (Qa h (Qb _ o)) k
theorem Jn {W w1:World} (h:Below W.heap.size W w1) (o:Obj):W.heap.size≤(w1.alloc o).heap.size:=(Qa h (Qb _ o)).size
theorem Xa {w w1:World} {o:Obj} (h:Below (w.alloc o).heap.size (w.alloc o) w1):w.heap.size<w1.heap.size:=by
  have:=h.size;simp only[World.size_alloc] at this;omega
theorem XT (b off n c i:Nat) (x:Int) (w:World) (hi:i<n) (hn:n≤1048576) (hc:w.cell? ⟨b,off+i,none⟩=some (.int .u8 x)):
    Calls Tryz.prog 179 #[.slice (some ⟨b,off,none⟩) n c,.int .i64 i] w fun e w'=>e=.returned (.int .u8 x)∧w=w':=by
  have hx:¬((n:Int)≤(i:Int)):=(by omega);go_enter Tryz.func179,Tryz.ntmps179;go_wp2;go_ret;exact⟨rfl,rfl⟩
theorem JY (p:Option Addr) (n c i:Nat) (w:World) (hi:n≤i) (hn:i≤1048576):
    Calls Tryz.prog 179 #[.slice p n c,.int .i64 i] w (JX w):=by
  have hx:((n:Int)≤(i:Int)):=(by omega);go_enter Tryz.func179,Tryz.ntmps179;go_wp2;exact⟨rfl,rfl,Below.refl _ _⟩
theorem Qhc (f s:Int):Zv ⟨0,false,[],f,s⟩=if QJ f=0 then Qf 5 else Qo (QJ f) 0 s:=by
  unfold Zv;dsimp only;by_cases hf:f=126∨f=117
  · have h0:QJ f=0:=(by rcases hf with rfl | rfl <;> rfl);rw[QdW hf,if_neg (by simp),if_pos h0]
  · rw[Qaq _ hf];by_cases ht:QJ f=0
    · rw[if_neg (by simp[ht]),if_pos ht]
    · rw[if_pos (by simp[Ze,ht,ZP]),if_neg ht];rfl
theorem U7 (p:Option Addr) (n c:Nat) (w:World) (hn:n≤2):
    Calls Tryz.prog 181 #[.slice p n c] w (JX w):=by
  have HN:=Lib.hid (fun w=>JY p n c 2 w hn (by omega));go_enter Tryz.func181,Tryz.ntmps181;go_wp2_with fail;refine(HN.out _).mono ?_;rintro e w1 ⟨rfl,hb⟩;go_wp2_with fail;exact⟨rfl,rfl,Qa (Qb _ _) hb⟩
theorem Qbn (b off n c:Nat) (k:Int) (x:Int) (w:World) (hi:2<n) (hn:n≤1048576) (hb:b<w.heap.size) (hc:w.cell? ⟨b,off+2,none⟩=some (.int .u8 x)) (hk:k=QJ x) (h0:¬QJ x=0):
    Calls Tryz.prog 181 #[.slice (some ⟨b,off,none⟩) n c] w (QG w (QL k 0) 3 false false):=by
  have HN:=Lib.hid (fun(w:World) hc=>XT b off n c 2 x w hi hn hc);have HK:=Lib.hid (fun(w:World)=>XS ⟨0,false,[],x,3⟩ none 0 w (by intro h;simp at h) (by simp));rw[Qhc,if_neg h0,←hk] at HK;unfold ptV at HK;have f1:=Qao;have f2:=Vw;clear hk h0;go_enter Tryz.func181,Tryz.ntmps181;go_wp2_with fail;refine(HN.out _ ?_).mono ?_
  · simp[go_sem,hc,hb]
  rintro e w1 ⟨rfl,rfl⟩;go_wp2_with fail;refine(HK.out _).mono ?_;rintro e w1 ⟨rfl,hb1⟩;obtain⟨hcc,hf⟩:=Qq hb1;have HE:∀A,Hid (QG w (QL k 0) 3 false false (.returned (Xx (QL k 0) (.slice none 0 0) 3 false false)) ((sets w1 w.heap.size 0 (Zr (QL k 0) (.slice none 0 0) 3 false false)).alloc A)):=fun A=>(Xw (Zr (QL k 0) (.slice none 0 0) 3 false false) (QT _ _) hb1).more A;have l0:=Xa hb1;have n0:¬w.heap.size=w1.heap.size:=(by omega);clear hb1;unfold tkV Qo QL;dsimp only;go_wp2_with fail;refine bodyPost_ret (v:=Xx (QL k 0) (.slice none 0 0) 3 false false) ?_ rfl (HE _).out;simp[results,Tryz.results181,Xx,QL,go_sem,hcc,l0]
theorem Qbo (b off n c:Nat) (x:Int) (d:List UInt8) (w:World) (hi:2<n) (hn:n≤1048576) (hnc:n≤c) (hb:b<w.heap.size) (hc:w.cell? ⟨b,off+2,none⟩=some (.int .u8 x)) (h0:QJ x=0) (HR:Hid (∀w',Below w.heap.size w w'→Calls Tryz.prog 139 #[.slice (some ⟨b,off,none⟩) 3 c] w' (QG w' (QS d) 3 false false))):
    Calls Tryz.prog 181 #[.slice (some ⟨b,off,none⟩) n c] w (QG w (QS d) 3 false false):=by
  have HN:=Lib.hid (fun(w:World) hc=>XT b off n c 2 x w hi hn hc);have HK:=Lib.hid (fun(w:World)=>XS ⟨0,false,[],x,3⟩ none 0 w (by intro h;simp at h) (by simp));rw[Qhc,if_pos h0] at HK;unfold ptV at HK;have f1:=Qao;have f2:=Vw;clear h0;go_enter Tryz.func181,Tryz.ntmps181;go_wp2_with fail;refine(HN.out _ ?_).mono ?_
  · simp[go_sem,hc,hb]
  rintro e w1 ⟨rfl,rfl⟩;go_wp2_with fail;refine(HK.out _).mono ?_;rintro e w1 ⟨rfl,hb1⟩;have HB1:=Lib.hid hb1;have HR2:=Lib.hid (fun A=>HR.out _ (Qa (Qa (Qb _ _) hb1) (Qb _ A)));clear hb1 HR;unfold tkV Qf Xy;dsimp only;go_wp2_with fail;refine(HR2.out _).mono ?_;rintro e w2 ⟨v,rfl,ho,hb2⟩;obtain⟨pp,cc,hv⟩:=ho.slice;subst hv;have hb3:=QA HB1.out hb2;obtain⟨hcc,hf⟩:=Qq hb3;have HE:Hid (QG w (QS d) 3 false false (.returned (Xx (QS d) (.slice pp d.length cc) 3 false false)) (sets w2 w.heap.size 0 (Zr (QS d) (.slice pp d.length cc) 3 false false))):=Xw (Zr (QS d) (.slice pp d.length cc) 3 false false) (ho.lower (Jn HB1.out _)) hb3;clear ho hb2 hb3;unfold Xx QS;dsimp only;go_wp2_with fail;refine bodyPost_ret (v:=Xx (QS d) (.slice pp d.length cc) 3 false false) ?_ rfl HE.out;simp[results,Tryz.results181,Xx,QS,go_sem,hcc]
theorem Qbp (p:Option Addr) (c:Nat) (l:List UInt8) (w:World) (h:Bs w w.heap.size p l) (hc:l.length≤c) (hl:l.length≤1048576):
    Calls Tryz.prog 181 #[.slice p l.length c] w (VI w (Jc l)):=by
  unfold Jc;by_cases h3:l.length<3
  · rw[if_pos h3];exact(U7 p l.length c w (by omega)).mono fun _ _ k=>.inr ⟨rfl,k⟩
  · rw[if_neg h3];obtain⟨b,off,rfl,hb,hcell⟩:=h.at 2 (by omega);by_cases h0:QJ ((l.getD 2 0).toNat:Int)=0
    · rw[if_pos h0];have e:(l.take 3).length=3:=(by simp;omega);refine(Qbo b off l.length c _ (l.take 3) w (by omega) hl hc hb hcell h0 (Lib.hid fun w' hb'=>?_)).mono fun _ _ k=>.inl ⟨rfl,?_⟩
      · exact Zl _ c 3 l w' (h.on hb') (by omega) (by omega) hl
      · unfold Zd rTk;rw[e];exact k
    · rw[if_neg h0];exact(Qbn b off l.length c _ _ w (by omega) hl hb hcell rfl h0).mono fun _ _ k=>.inl ⟨rfl,k⟩
end Go.Proofs.YtbfickdgjgbfhaaGreatDoor
