/- The program's tokens: escapeToken and tokenOutside. -/
import Derived.Test.YtbfickdgjgbfhaaGreatDoorQTokImpl5
import Derived.Defers
import Derived.Recover
import Derived.Laws.Pointers
set_option linter.unusedVariables false
set_option maxRecDepth 100000
set_option maxHeartbeats 4000000
namespace Go.Proofs.YtbfickdgjgbfhaaGreatDoor
open Go.RowKit
theorem Kr (b off n c:Nat) (x:Int) (w:World) (hn:n≤1048576) (hb:b<w.heap.size) (hi:1<n) (hc:w.cell? ⟨b,off+1,none⟩=some (.int .u8 x)) (hx:x=91)
    (e:Ev) (s:Int) (pa no:Bool) (HG:Hid (∀w',Below w.heap.size w w'→Calls Tryz.prog 180 #[.slice (some ⟨b,off,none⟩) n c] w' (QG w' e s pa no))):
    Calls Tryz.prog 158 #[.slice (some ⟨b,off,none⟩) n c] w (QG w e s pa no):=by
  have HN:=Lib.hid (fun(w:World) hc=>XT b off n c 1 x w hi hn hc);subst hx;go_enter Tryz.func158,Tryz.ntmps158;go_wp2_with fail;refine(HN.out _ ?_).mono ?_
  · simp[go_sem,hc,hb]
  rintro en w1 ⟨rfl,rfl⟩;go_wp2_with fail;refine(HG.out _ (Qb _ _)).mono ?_;rintro en w2 ⟨v,rfl,ho,hb2⟩;obtain⟨pp,cc,hv⟩:=ho.slice;subst hv;obtain⟨hcc,hf⟩:=Qq hb2;have HE:Hid (QG w e s pa no (.returned (Xx e (.slice pp e.data.length cc) s pa no)) (sets w2 w.heap.size 0 (Zr e (.slice pp e.data.length cc) s pa no))):=Xw (Zr e (.slice pp e.data.length cc) s pa no) ho hb2;clear hb2 ho HG;unfold Xx;go_wp2_with fail;refine bodyPost_ret (v:=Xx e (.slice pp e.data.length cc) s pa no) ?_ rfl HE.out;simp[results,Tryz.results158,Xx,go_sem,hcc]
theorem Ks (b off n c:Nat) (x:Int) (w:World) (hn:n≤1048576) (hb:b<w.heap.size) (hi:1<n) (hc:w.cell? ⟨b,off+1,none⟩=some (.int .u8 x)) (hx:x=91)
    (HG:Hid (∀w',Below w.heap.size w w'→Calls Tryz.prog 180 #[.slice (some ⟨b,off,none⟩) n c] w' (JX w'))):
    Calls Tryz.prog 158 #[.slice (some ⟨b,off,none⟩) n c] w (JX w):=by
  have HN:=Lib.hid (fun(w:World) hc=>XT b off n c 1 x w hi hn hc);subst hx;go_enter Tryz.func158,Tryz.ntmps158;go_wp2_with fail;refine(HN.out _ ?_).mono ?_
  · simp[go_sem,hc,hb]
  rintro en w1 ⟨rfl,rfl⟩;go_wp2_with fail;refine(HG.out _ (Qb _ _)).mono ?_;rintro en w2 ⟨rfl,hb2⟩;go_wp2_with fail;exact⟨rfl,rfl,Qa (Qb _ _) hb2⟩
theorem Kt (b off n c:Nat) (x:Int) (w:World) (hn:n≤1048576) (hb:b<w.heap.size) (hi:1<n) (hc:w.cell? ⟨b,off+1,none⟩=some (.int .u8 x)) (hx:x=79)
    (e:Ev) (s:Int) (pa no:Bool) (HG:Hid (∀w',Below w.heap.size w w'→Calls Tryz.prog 181 #[.slice (some ⟨b,off,none⟩) n c] w' (QG w' e s pa no))):
    Calls Tryz.prog 158 #[.slice (some ⟨b,off,none⟩) n c] w (QG w e s pa no):=by
  have HN:=Lib.hid (fun(w:World) hc=>XT b off n c 1 x w hi hn hc);subst hx;go_enter Tryz.func158,Tryz.ntmps158;go_wp2_with fail;refine(HN.out _ ?_).mono ?_
  · simp[go_sem,hc,hb]
  rintro en w1 ⟨rfl,rfl⟩;go_wp2_with fail;refine(HG.out _ (Qb _ _)).mono ?_;rintro en w2 ⟨v,rfl,ho,hb2⟩;obtain⟨pp,cc,hv⟩:=ho.slice;subst hv;obtain⟨hcc,hf⟩:=Qq hb2;have HE:Hid (QG w e s pa no (.returned (Xx e (.slice pp e.data.length cc) s pa no)) (sets w2 w.heap.size 0 (Zr e (.slice pp e.data.length cc) s pa no))):=Xw (Zr e (.slice pp e.data.length cc) s pa no) ho hb2;clear hb2 ho HG;unfold Xx;go_wp2_with fail;refine bodyPost_ret (v:=Xx e (.slice pp e.data.length cc) s pa no) ?_ rfl HE.out;simp[results,Tryz.results158,Xx,go_sem,hcc]
theorem Ku (b off n c:Nat) (x:Int) (w:World) (hn:n≤1048576) (hb:b<w.heap.size) (hi:1<n) (hc:w.cell? ⟨b,off+1,none⟩=some (.int .u8 x)) (hx:x=79)
    (HG:Hid (∀w',Below w.heap.size w w'→Calls Tryz.prog 181 #[.slice (some ⟨b,off,none⟩) n c] w' (JX w'))):
    Calls Tryz.prog 158 #[.slice (some ⟨b,off,none⟩) n c] w (JX w):=by
  have HN:=Lib.hid (fun(w:World) hc=>XT b off n c 1 x w hi hn hc);subst hx;go_enter Tryz.func158,Tryz.ntmps158;go_wp2_with fail;refine(HN.out _ ?_).mono ?_
  · simp[go_sem,hc,hb]
  rintro en w1 ⟨rfl,rfl⟩;go_wp2_with fail;refine(HG.out _ (Qb _ _)).mono ?_;rintro en w2 ⟨rfl,hb2⟩;go_wp2_with fail;exact⟨rfl,rfl,Qa (Qb _ _) hb2⟩
theorem JZ (b off n c:Nat) (x:Int) (w:World) (hn:n≤1048576) (hb:b<w.heap.size) (hi:0<n) (hc:w.cell? ⟨b,off,none⟩=some (.int .u8 x)) (hx:x=27)
    (e:Ev) (s:Int) (pa no:Bool) (HG:Hid (∀w',Below w.heap.size w w'→Calls Tryz.prog 158 #[.slice (some ⟨b,off,none⟩) n c] w' (QG w' e s pa no))):
    Calls Tryz.prog 126 #[.slice (some ⟨b,off,none⟩) n c] w (QG w e s pa no):=by
  subst hx;go_enter Tryz.func126,Tryz.ntmps126;go_wp2_with fail;refine(HG.out _ (Qb _ _)).mono ?_;rintro en w2 ⟨v,rfl,ho,hb2⟩;obtain⟨pp,cc,hv⟩:=ho.slice;subst hv;obtain⟨hcc,hf⟩:=Qq hb2;have HE:Hid (QG w e s pa no (.returned (Xx e (.slice pp e.data.length cc) s pa no)) (sets w2 w.heap.size 0 (Zr e (.slice pp e.data.length cc) s pa no))):=Xw (Zr e (.slice pp e.data.length cc) s pa no) ho hb2;clear hb2 ho HG;unfold Xx;go_wp2_with fail;refine bodyPost_ret (v:=Xx e (.slice pp e.data.length cc) s pa no) ?_ rfl HE.out;simp[results,Tryz.results126,Xx,go_sem,hcc]
theorem J0 (b off n c:Nat) (x:Int) (w:World) (hn:n≤1048576) (hb:b<w.heap.size) (hi:0<n) (hc:w.cell? ⟨b,off,none⟩=some (.int .u8 x)) (hx:x=27)
    (HG:Hid (∀w',Below w.heap.size w w'→Calls Tryz.prog 158 #[.slice (some ⟨b,off,none⟩) n c] w' (JX w'))):
    Calls Tryz.prog 126 #[.slice (some ⟨b,off,none⟩) n c] w (JX w):=by
  subst hx;go_enter Tryz.func126,Tryz.ntmps126;go_wp2_with fail;refine(HG.out _ (Qb _ _)).mono ?_;rintro en w2 ⟨rfl,hb2⟩;go_wp2_with fail;exact⟨rfl,rfl,Qa (Qb _ _) hb2⟩
theorem Kv (b off n c:Nat) (x:Int) (w:World) (hn:n≤1048576) (hb:b<w.heap.size) (hi:0<n) (hc:w.cell? ⟨b,off,none⟩=some (.int .u8 x)) (hx:(x==27)=false) (hy:128≤x)
    (e:Ev) (s:Int) (pa no:Bool) (HG:Hid (∀w',Below w.heap.size w w'→Calls Tryz.prog 159 #[.slice (some ⟨b,off,none⟩) n c] w' (QG w' e s pa no))):
    Calls Tryz.prog 126 #[.slice (some ⟨b,off,none⟩) n c] w (QG w e s pa no):=by
  go_enter Tryz.func126,Tryz.ntmps126;go_wp2_with fail;refine(HG.out _ (Qb _ _)).mono ?_;rintro en w2 ⟨v,rfl,ho,hb2⟩;obtain⟨pp,cc,hv⟩:=ho.slice;subst hv;obtain⟨hcc,hf⟩:=Qq hb2;have HE:Hid (QG w e s pa no (.returned (Xx e (.slice pp e.data.length cc) s pa no)) (sets w2 w.heap.size 0 (Zr e (.slice pp e.data.length cc) s pa no))):=Xw (Zr e (.slice pp e.data.length cc) s pa no) ho hb2;clear hb2 ho HG;unfold Xx;go_wp2_with fail;refine bodyPost_ret (v:=Xx e (.slice pp e.data.length cc) s pa no) ?_ rfl HE.out;simp[results,Tryz.results126,Xx,go_sem,hcc]
theorem Kw (b off n c:Nat) (x:Int) (w:World) (hn:n≤1048576) (hb:b<w.heap.size) (hi:0<n) (hc:w.cell? ⟨b,off,none⟩=some (.int .u8 x)) (hx:(x==27)=false) (hy:128≤x)
    (HG:Hid (∀w',Below w.heap.size w w'→Calls Tryz.prog 159 #[.slice (some ⟨b,off,none⟩) n c] w' (JX w'))):
    Calls Tryz.prog 126 #[.slice (some ⟨b,off,none⟩) n c] w (JX w):=by
  go_enter Tryz.func126,Tryz.ntmps126;go_wp2_with fail;refine(HG.out _ (Qb _ _)).mono ?_;rintro en w2 ⟨rfl,hb2⟩;go_wp2_with fail;exact⟨rfl,rfl,Qa (Qb _ _) hb2⟩
theorem U9 (b off n c:Nat) (x:Int) (w:World) (hn:n≤1048576) (hb:b<w.heap.size) (hi:0<n) (hc:w.cell? ⟨b,off,none⟩=some (.int .u8 x)) (h0:0≤x) (hx:(x==27)=false) (hy:x<128) (tk:Tk) (htk:Y9 x=tk) (hk:tk.code=0) (hd:tk.ev.data=[]):
    Calls Tryz.prog 126 #[.slice (some ⟨b,off,none⟩) n c] w (QG w tk.ev tk.size tk.paste tk.none):=by
  have HK:=Lib.hid (fun w=>Zb x w h0);rw[htk] at HK;obtain⟨tcode,⟨t1,t2,t3,t4,t5,t6,t7,td⟩,tsize,tpaste,tnone⟩:=tk;dsimp only at *;subst hk hd;clear htk;go_enter Tryz.func126,Tryz.ntmps126;go_wp2_with fail;refine(HK.out _).mono ?_;rintro e w2 ⟨rfl,hb2⟩;obtain⟨hcc,hf⟩:=Qq hb2;have l0:=Xa hb2;have n0:¬w.heap.size=w2.heap.size:=(by omega);have HE:∀A,Hid (QG w ⟨t1,t2,t3,t4,t5,t6,t7,[]⟩ tsize tpaste tnone (.returned (Xx ⟨t1,t2,t3,t4,t5,t6,t7,[]⟩ (.slice none 0 0) tsize tpaste tnone)) ((sets w2 w.heap.size 0 (Zr ⟨t1,t2,t3,t4,t5,t6,t7,[]⟩ (.slice none 0 0) tsize tpaste tnone)).alloc A)):=fun A=>(Xw (Zr ⟨t1,t2,t3,t4,t5,t6,t7,[]⟩ (.slice none 0 0) tsize tpaste tnone) (QT _ _) hb2).more A;clear hb2;unfold tkV;dsimp only;go_wp2_with fail;refine bodyPost_ret (v:=Xx ⟨t1,t2,t3,t4,t5,t6,t7,[]⟩ (.slice none 0 0) tsize tpaste tnone) ?_ rfl (HE _).out;simp[results,Tryz.results126,Xx,go_sem,hcc,l0]
theorem Qaa (b off n c:Nat) (x:Int) (w:World) (hn:n≤1048576) (hb:b<w.heap.size) (hi:0<n) (hnc:n≤c) (hc:w.cell? ⟨b,off,none⟩=some (.int .u8 x)) (h0:0≤x) (hx:(x==27)=false) (hy:x<128) (htk:Y9 x=Qf 5) (d:List UInt8)
    (HR:Hid (∀w',Below w.heap.size w w'→Calls Tryz.prog 139 #[.slice (some ⟨b,off,none⟩) 1 c] w' (QG w' (QS d) 1 false false))):
    Calls Tryz.prog 126 #[.slice (some ⟨b,off,none⟩) n c] w (QG w (QS d) 1 false false):=by
  have HK:=Lib.hid (fun w=>Zb x w h0);rw[htk] at HK;clear htk;go_enter Tryz.func126,Tryz.ntmps126;go_wp2_with fail;refine(HK.out _).mono ?_;rintro e w1 ⟨rfl,hb1⟩;have HB1:=Lib.hid hb1;have HR2:=Lib.hid (fun A=>HR.out _ (Qa (Qa (Qb _ _) hb1) (Qb _ A)));clear hb1 HR;unfold tkV Qf Xy;dsimp only;go_wp2_with fail;refine(HR2.out _).mono ?_;rintro e w2 ⟨v,rfl,ho,hb2⟩;obtain⟨pp,cc,hv⟩:=ho.slice;subst hv;have hb3:=QA HB1.out hb2;obtain⟨hcc,hf⟩:=Qq hb3;have HE:Hid (QG w (QS d) 1 false false (.returned (Xx (QS d) (.slice pp d.length cc) 1 false false)) (sets w2 w.heap.size 0 (Zr (QS d) (.slice pp d.length cc) 1 false false))):=Xw (Zr (QS d) (.slice pp d.length cc) 1 false false) (ho.lower (Jn HB1.out _)) hb3;clear ho hb2 hb3;unfold Xx QS;dsimp only;go_wp2_with fail;refine bodyPost_ret (v:=Xx (QS d) (.slice pp d.length cc) 1 false false) ?_ rfl HE.out;simp[results,Tryz.results126,Xx,QS,go_sem,hcc]
theorem Qdd (l:List UInt8):(Zz l).code=0∨(Zz l).code=6:=by
  unfold Zz;split
  · split
    · exact .inr rfl
    · exact .inl rfl
  · exact .inl (Ut _ _)
theorem Qde (l:List UInt8):(Jc l).code=0∨(Jc l).code=6:=by
  unfold Jc;split
  · exact .inr rfl
  split
  · exact .inl rfl
  · exact .inl rfl
theorem Qdf (l:List UInt8):(Za l).code=0∨(Za l).code=6:=by
  unfold Za;split
  · exact .inr rfl
  split
  · exact Qdd l
  split
  · exact Qde l
  split
  · exact .inl rfl
  · exact .inl rfl
theorem Qe1 (l:List UInt8):(K0 l).code=0∨(K0 l).code=6:=by
  unfold K0;split
  · exact .inr rfl
  split
  · exact .inl rfl
  · exact .inl rfl
theorem Qhe (b:Int):(Y9 b).code=0∨Y9 b=Qf 5:=by
  unfold Y9;repeat' split
  all_goals first | exact .inl rfl | exact .inr rfl
theorem Kj (l:List UInt8):(Y4 l).code=0∨(Y4 l).code=6:=by
  unfold Y4;split
  · exact Qdf l
  split
  · exact Qe1 l
  split
  · exact .inl (by assumption)
  · exact .inl rfl
theorem VI.done {w:World} {t:Tk} (h0:t.code=0) {e:Ending} {w':World} (h:VI w t e w'):QG w t.ev t.size t.paste t.none e w':=by
  rcases h with h | h
  · exact h.2
  · have:=h.1;omega
theorem VI.wait {w:World} {t:Tk} (h6:t.code=6) {e:Ending} {w':World} (h:VI w t e w'):JX w e w':=by
  rcases h with h | h
  · have:=h.1;omega
  · exact h.2
theorem Qbt (p:Option Addr) (c:Nat) (l:List UInt8) (w:World) (h:Bs w w.heap.size p l) (hc:l.length≤c) (hl:l.length≤1048576):
    Calls Tryz.prog 158 #[.slice p l.length c] w (VI w (Za l)):=by
  unfold Za;by_cases h2:l.length<2
  · rw[if_pos h2];exact(U8 p l.length c w (by omega)).mono fun _ _ q=>.inr ⟨rfl,q⟩
  rw[if_neg h2];have hS:=fun w' (hb:Below w.heap.size w w')=>Uw p c l w' (h.on hb) hc hl (by omega);have hL:=fun w' (hb:Below w.heap.size w w')=>Qbp p c l w' (h.on hb) hc hl;obtain⟨b,off,rfl,hb,hcell⟩:=h.at 1 (by omega);by_cases h91:((l.getD 1 0).toNat:Int)=91
  · rw[if_pos h91];rcases Qdd l with h0 | h6
    · exact(Kr b off l.length c _ w hl hb (by omega) hcell h91 _ _ _ _ (Lib.hid fun w' hw=>(hS w' hw).mono fun _ _ q=>q.done h0)).mono fun _ _ q=>.inl ⟨h0,q⟩
    · exact(Ks b off l.length c _ w hl hb (by omega) hcell h91 (Lib.hid fun w' hw=>(hS w' hw).mono fun _ _ q=>q.wait h6)).mono fun _ _ q=>.inr ⟨h6,q⟩
  rw[if_neg h91];by_cases h79:((l.getD 1 0).toNat:Int)=79
  · rw[if_pos h79];rcases Qde l with h0 | h6
    · exact(Kt b off l.length c _ w hl hb (by omega) hcell h79 _ _ _ _ (Lib.hid fun w' hw=>(hL w' hw).mono fun _ _ q=>q.done h0)).mono fun _ _ q=>.inl ⟨h0,q⟩
    · exact(Ku b off l.length c _ w hl hb (by omega) hcell h79 (Lib.hid fun w' hw=>(hL w' hw).mono fun _ _ q=>q.wait h6)).mono fun _ _ q=>.inr ⟨h6,q⟩
  rw[if_neg h79];by_cases hp:inR ((l.getD 1 0).toNat:Int) 32 126=true
  · rw[if_pos hp];exact(Ux b off l.length c _ w (by omega) hl hb hcell h91 h79 hp).mono fun _ _ q=>.inl ⟨rfl,q⟩
  · rw[if_neg hp];exact(Qbs b off l.length c _ w (by omega) hl hb hcell h91 h79 (by simpa using hp)).mono fun _ _ q=>.inl ⟨rfl,q⟩
theorem Qab (p:Option Addr) (c:Nat) (l:List UInt8) (w:World) (h:Bs w w.heap.size p l) (ht:Yo w) (hc:l.length≤c) (hl:l.length≤1048576) (hne:l≠[]):
    Calls Tryz.prog 126 #[.slice p l.length c] w (VI w (Y4 l)):=by
  have hpos:0<l.length:=List.length_pos_iff.2 hne;unfold Y4;have hE:=fun w' (hb:Below w.heap.size w w')=>Qbt p c l w' (h.on hb) hc hl;have hP:=fun w' (hb:Below w.heap.size w w')=>Qcz p c l w' (h.on hb) (ht.on hb) hc hl hne;obtain⟨b,off,rfl,hb,hcell⟩:=h.at 0 (by omega);have hx0:0≤((l.getD 0 0).toNat:Int):=(by omega);by_cases h27:((l.getD 0 0).toNat:Int)=27
  · rw[if_pos h27];rcases Qdf l with h0 | h6
    · exact(JZ b off l.length c _ w hl hb (by omega) hcell h27 _ _ _ _ (Lib.hid fun w' hw=>(hE w' hw).mono fun _ _ q=>q.done h0)).mono fun _ _ q=>.inl ⟨h0,q⟩
    · exact(J0 b off l.length c _ w hl hb (by omega) hcell h27 (Lib.hid fun w' hw=>(hE w' hw).mono fun _ _ q=>q.wait h6)).mono fun _ _ q=>.inr ⟨h6,q⟩
  rw[if_neg h27];have e27:(((l.getD 0 0).toNat:Int)==27)=false:=(by simpa using h27);by_cases h128:128≤((l.getD 0 0).toNat:Int)
  · rw[if_pos h128];rcases Qe1 l with h0 | h6
    · exact(Kv b off l.length c _ w hl hb (by omega) hcell e27 h128 _ _ _ _ (Lib.hid fun w' hw=>(hP w' hw).mono fun _ _ q=>q.done h0)).mono fun _ _ q=>.inl ⟨h0,q⟩
    · exact(Kw b off l.length c _ w hl hb (by omega) hcell e27 h128 (Lib.hid fun w' hw=>(hP w' hw).mono fun _ _ q=>q.wait h6)).mono fun _ _ q=>.inr ⟨h6,q⟩
  rw[if_neg h128];by_cases hk:(Y9 ((l.getD 0 0).toNat:Int)).code=0
  · rw[if_pos hk];exact(U9 b off l.length c _ w hl hb (by omega) hcell hx0 e27 (by omega) _ rfl hk (QeR _)).mono fun _ _ q=>.inl ⟨hk,q⟩
  · rw[if_neg hk];have hbad:=(Qhe _).resolve_left hk;have e:(l.take 1).length=1:=(by simp;omega);refine(Qaa b off l.length c _ w hl hb (by omega) hc hcell hx0 e27 (by omega) hbad (l.take 1) (Lib.hid fun w' hw=>Zl _ c 1 l w' (h.on hw) (by omega) (by omega) hl)).mono fun _ _ q=>.inl ⟨rfl,?_⟩;unfold Zd rTk;rw[e];exact q
theorem Qdg (l:List UInt8) (h:(Y4 l).code=6):Y4 l=Qf 6:=by
  have hS:(Zz l).code=6→Zz l=Qf 6:=by
    unfold Zz;split
    · split
      · intro _;rfl
      · intro h;exact absurd h (by simp[Zd,rTk])
    · intro h;rw[Ut] at h;omega
  have hL:(Jc l).code=6→Jc l=Qf 6:=by
    unfold Jc;split
    · intro _;rfl
    split
    · intro h;exact absurd h (by simp[Zd,rTk])
    · intro h;exact absurd h (by simp[Qo])
  have hE:(Za l).code=6→Za l=Qf 6:=by
    unfold Za;split
    · intro _;rfl
    split
    · exact hS
    split
    · exact hL
    split
    · intro h;exact absurd h (by simp[Qo])
    · intro h;exact absurd h (by simp[Qo])
  have hP:(K0 l).code=6→K0 l=Qf 6:=by
    unfold K0;split
    · intro _;rfl
    split
    · intro h;exact absurd h (by simp[Zd,rTk])
    · intro h;exact absurd h (by simp[Qo])
  revert h;unfold Y4;split
  · exact hE
  split
  · exact hP
  split
  · intro h;omega
  · intro h;exact absurd h (by simp[Zd,rTk])
theorem Qe2 (b:Nat) (u:TypeId) (pv:Value) (older:List PanicEntry) (w:World) (h:AtL w b (tkL (Qf 0) (.slice none 0 0))) (hz:∀o,w.frozen? ⟨b,o,none⟩=false):
    CallsD Tryz.prog 125 #[.pointer (some ⟨b,0,none⟩)] (.panicking ({v:=.iface u pv,recovered:=false }::older)) w fun e u' w'=>
      e=.returned (.tuple #[])∧u'=.panicking ({v:=.iface u pv,recovered:=true }::older)∧w'=sets w b 0 (tkL (Qf 6) (.slice none 0 0)):=by
  have h0:=h.get 0 rfl;have h1:=h.get 1 rfl;have h2:=h.get 2 rfl;have h3:=h.get 3 rfl;have h4:=h.get 4 rfl;have h5:=h.get 5 rfl;have h6:=h.get 6 rfl;have h7:=h.get 7 rfl;have h8:=h.get 8 rfl;have h9:=h.get 9 rfl;have h10:=h.get 10 rfl;have h11:=h.get 11 rfl;clear h;refine callsD_of_wpS Tryz.func125 rfl fun c₀ cs hu=>?_;apply wpS_seq;apply wpS_region;simp[wpOpsS,go_sem,recoverD,hu,Tryz.ntmps125,Exit.thenS];refine wpS_cond (t:=true) (by simp[Act.eval,Array.replicate]) ?_;simp only[if_true];apply wpS_region;simp[wpOpsS,go_sem,h0,h1,h2,h3,h4,h5,h6,h7,h8,h9,h10,h11,hz,bodyPostS,results,Tryz.results125];rfl
theorem QhL (p:Addr) (w:World):
    CallsD Tryz.prog 125 #[.pointer (some p)] .returning w fun e u' w'=>e=.returned (.tuple #[])∧u'=.returning∧w'=w:=by
  refine callsD_of_wpS Tryz.func125 rfl fun c₀ cs hu=>?_;apply wpS_seq;apply wpS_region;simp[wpOpsS,go_sem,recoverD,hu,Tryz.ntmps125,Exit.thenS];refine wpS_cond (t:=false) (by simp[Act.eval,Array.replicate]) ?_;simp only[Bool.false_eq_true,if_false];refine wpS_of_wp (wp_skip ?_)
  cases c₀
  simp_all [bodyPostS,results,Tryz.results125]
theorem K5 (p:Option Addr) (c:Nat) (l:List UInt8) (w:World) (hpos:0<l.length) (hl:l.length≤1048576) (HW:Hid (∀o,Calls Tryz.prog 126 #[.slice p l.length c] (w.alloc o) (JX (w.alloc o)))):
    Calls Tryz.prog 96 #[.slice p l.length c] w (Qm w (Qf 6)):=by
  have hmf:∀(fn:Fn) (first cap:Array Value) (w:World),(Instr.makeFunc fn first cap).run Tryz.prog w=.ok (.func fn first cap) w:=fun _ _ _ _=>rfl;have hne:¬((l.length:Int)=0):=by omega
  go_enter_defers Tryz.func96,Tryz.ntmps96
  go_wp2_with fail;refine(HW.out _).mono ?_;rintro e w1 ⟨rfl,hb⟩;unfold Qa8;go_wp2_with fail;have HE:Hid (Qm w (Qf 6) (.returned (tkV (Qf 6) (.slice none 0 0))) (sets w1 w.heap.size 0 (tkL (Qf 6) (.slice none 0 0)))):=Qu (tkL (Qf 6) (.slice none 0 0)) hb;have HA:Hid (AtL w1 w.heap.size (tkL (Qf 0) (.slice none 0 0))):=(AtL.new w (tkL (Qf 0) (.slice none 0 0)) 90).on hb;have HZ:Hid (∀o,w1.frozen? ⟨w.heap.size,o,none⟩=false):=fun o=>(hb.frozen (p:=⟨w.heap.size,o,none⟩) (by simp)).trans (by simp);obtain⟨hcc,hf⟩:=Qq hb;clear hb;refine leaves_cons (f:=125) (args:=#[.pointer (some ⟨w.heap.size,0,none⟩)]) (by simp) (by simp[go_sem]) ?_;refine(Qe2 w.heap.size 9 _ [] w1 HA.out HZ.out).mono ?_;rintro e u' w'' ⟨rfl,rfl,rfl⟩;simp[Leaves,settle,results,Tryz.results96,go_sem,sets,tkL,Qf,Xy,hcc];exact HE.out
theorem K6 (p:Option Addr) (c:Nat) (l:List UInt8) (w:World) (ev:Ev) (s:Int) (pa no:Bool) (hpos:0<l.length) (hl:l.length≤1048576) (HW:Hid (∀o,Calls Tryz.prog 126 #[.slice p l.length c] (w.alloc o) (QG (w.alloc o) ev s pa no))):
    Calls Tryz.prog 96 #[.slice p l.length c] w (QM w ⟨0,ev,s,pa,no⟩):=by
  have hmf:∀(fn:Fn) (first cap:Array Value) (w:World),(Instr.makeFunc fn first cap).run Tryz.prog w=.ok (.func fn first cap) w:=fun _ _ _ _=>rfl;have hne:¬((l.length:Int)=0):=by omega
  go_enter_defers Tryz.func96,Tryz.ntmps96
  go_wp2_with fail;refine(HW.out _).mono ?_;rintro e w1 ⟨v,rfl,ho,hb⟩;obtain⟨hcc,hf⟩:=Qq hb;obtain⟨pp,cc,hv⟩:=ho.slice;subst hv;unfold Xx;go_wp2_with fail;have HE:Hid (QM w ⟨0,ev,s,pa,no⟩ (.returned (tkV ⟨0,ev,s,pa,no⟩ (.slice pp ev.data.length cc))) (sets w1 w.heap.size 0 (tkL ⟨0,ev,s,pa,no⟩ (.slice pp ev.data.length cc)))):=Xs (tkL ⟨0,ev,s,pa,no⟩ (.slice pp ev.data.length cc)) ho hb;clear hb ho;refine leaves_cons (f:=125) (args:=#[.pointer (some ⟨w.heap.size,0,none⟩)]) (by simp) (by simp[go_sem]) ?_;refine(QhL ⟨w.heap.size,0,none⟩ _).mono ?_;rintro e u' w'' ⟨rfl,rfl,rfl⟩;simp[Leaves,settle,results,Tryz.results96,go_sem,hcc];exact HE.out
theorem K7 (p:Option Addr) (c:Nat) (w:World):
    Calls Tryz.prog 96 #[.slice p 0 c] w (Qm w (Qf 4)):=by
  have hmf:∀(fn:Fn) (first cap:Array Value) (w:World),(Instr.makeFunc fn first cap).run Tryz.prog w=.ok (.func fn first cap) w:=fun _ _ _ _=>rfl
  go_enter_defers Tryz.func96,Tryz.ntmps96
  go_wp2;have HE:Hid (Qm w (Qf 4) (.returned (tkV (Qf 4) (.slice none 0 0))) (w.alloc (.cells (tkL (Qf 4) (.slice none 0 0)).toArray 90))):=⟨rfl,Qb _ _⟩;simp[bodyPostD,Leaves,results,Tryz.results96,go_sem];exact HE.out
theorem Jd (p:Option Addr) (c:Nat) (l:List UInt8) (w:World) (h:Bs w w.heap.size p l) (ht:Yo w) (hc:l.length≤c) (hl:l.length≤1048576):
    Calls Tryz.prog 96 #[.slice p l.length c] w (QM w (Q0 l)):=by
  unfold Q0;by_cases h0:l=[]
  · subst h0;exact(K7 p c w).mono fun _ _ hp=>hp.new rfl
  rw[if_neg h0];have hpos:0<l.length:=List.length_pos_iff.2 h0;have hO:=fun o=>Qab p c l (w.alloc o) (h.alloc o) (ht.on (Qb _ o)) hc hl h0;rcases Kj l with hz | hz
  · have e:Y4 l=⟨0,(Y4 l).ev,(Y4 l).size,(Y4 l).paste,(Y4 l).none⟩:=(by rw[←hz]);rw[e];exact K6 p c l w _ _ _ _ hpos hl (Lib.hid fun o=>(hO o).mono fun _ _ q=>q.done hz)
  · have e:Y4 l=Qf 6:=Qdg l hz;rw[e];exact(K5 p c l w hpos hl (Lib.hid fun o=>(hO o).mono fun _ _ q=>q.wait hz)).mono fun _ _ hp=>hp.new rfl
end Go.Proofs.YtbfickdgjgbfhaaGreatDoor
