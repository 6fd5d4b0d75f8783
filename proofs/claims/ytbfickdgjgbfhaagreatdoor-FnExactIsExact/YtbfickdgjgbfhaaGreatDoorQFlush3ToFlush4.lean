/- FlushToken of the model; both are the same. -/
import Derived.Test.YtbfickdgjgbfhaaGreatDoorQTokSpec3ToFlush2
set_option linter.unusedVariables false
set_option maxRecDepth 100000
set_option maxHeartbeats 4000000
namespace Go.Proofs.YtbfickdgjgbfhaaGreatDoor
open Go.RowKit
theorem J2 (l:List UInt8) (h:(Q0 l).code=6):Q0 l=Qf 6:=by
  revert h;unfold Q0;split
  · intro h;exact absurd h (by simp[Qf])
  · exact Qdg l
theorem VQ (p:Option Addr) (c:Nat) (l:List UInt8) (q:Bool) (w:World) (h:Bs w w.heap.size p l) (ht:Yo w) (hc:l.length≤c) (hl:l.length≤1048576):
    Calls Tryz.prog 73 #[.slice p l.length c,.bool q] w (QM w (Qs l q)):=by
  unfold Qs;by_cases hne:l=[]
  · subst hne;exact(QcC p c q w).mono fun _ _ hp=>hp.new rfl
  rw[if_neg hne];have hpos:0<l.length:=List.length_pos_iff.2 hne
  cases q
  · simp only[Bool.false_eq_true,if_false];have HT:=fun o=>Jd p c l (w.alloc o) (h.alloc o) (ht.on (Qb _ o)) hc hl;by_cases h6:(Q0 l).code=6
    · rw[if_pos h6];rw[J2 l h6] at HT;exact QcD p l.length c _ w hpos (Uz l) (Lib.hid HT) (Lib.hid fun w' hb=>Qae p c l w' (h.on hb) hc hl hne)
    · rw[if_neg h6];exact QbK p l.length c _ w hpos (by simpa using h6) (Lib.hid HT)
  · rw[if_pos rfl];refine QbJ p l.length (l.take 32).length c (l.take 32) w hpos (Lib.hid fun w=>KJ p c l 32 (by omega) hc w) (Lib.hid fun w' hb=>?_);refine KE p c (l.take 32) w' ((h.on hb).head 32) (by simp;omega) ?_;intro e;rw[List.take_eq_nil_iff] at e;rcases e with e | e
    · omega
    · exact hne e
theorem Qgq (b off c:Nat) (w:World) (hb:b<w.heap.size) (hc:w.cell? ⟨b,off,none⟩=some (.int .u8 27)):
    Calls Tryz.prog 140 #[.slice (some ⟨b,off,none⟩) 1 c] w (Qm w (Qo 2000004 0 1)):=by
  go_enter Tryz.func140,Tryz.ntmps140;go_wp2_with fail;refine(XR _ _ _ _).mono ?_;rintro e w9 ⟨rfl,hb9⟩;have HE:Hid (Qm w (Qo 2000004 0 1) (.returned (tkV (Qo 2000004 0 1) (.slice none 0 0))) (sets w9 w.heap.size 0 (tkL (Qo 2000004 0 1) (.slice none 0 0)))):=Qu (tkL (Qo 2000004 0 1) (.slice none 0 0)) hb9;obtain⟨hcc,hf⟩:=Qq hb9;clear hb9;unfold tkV Qo QL;go_wp2_with fail;refine bodyPost_ret (v:=tkV (Qo 2000004 0 1) (.slice none 0 0)) ?_ rfl HE.out;simp[results,Tryz.results140,tkV,Qo,QL,go_sem,hcc]
theorem Qgr (b off c:Nat) (x:Int) (w:World) (hb:b<w.heap.size) (hc:w.cell? ⟨b,off,none⟩=some (.int .u8 27)) (hc1:w.cell? ⟨b,off+1,none⟩=some (.int .u8 x)) (h0:0≤x) (h1:x≤255):
    Calls Tryz.prog 140 #[.slice (some ⟨b,off,none⟩) 2 c] w (Qm w (Qo x 2 2)):=by
  have hw:IntKind.i64.wrap x=x:=IntWalk.i64_in _ ⟨by omega,by omega⟩;go_enter Tryz.func140,Tryz.ntmps140;go_wp2_with fail;refine(XR _ _ _ _).mono ?_;rintro e w9 ⟨rfl,hb9⟩;have HE:Hid (Qm w (Qo x 2 2) (.returned (tkV (Qo x 2 2) (.slice none 0 0))) (sets w9 w.heap.size 0 (tkL (Qo x 2 2) (.slice none 0 0)))):=Qu (tkL (Qo x 2 2) (.slice none 0 0)) hb9;obtain⟨hcc,hf⟩:=Qq hb9;clear hb9;unfold tkV Qo QL;go_wp2_with fail;refine bodyPost_ret (v:=tkV (Qo x 2 2) (.slice none 0 0)) ?_ rfl HE.out;simp[results,Tryz.results140,tkV,Qo,QL,go_sem,hcc]
theorem QbL (b off n c:Nat) (x:Int) (t:Tk) (w:World) (hn:0<n) (hnl:n≤1048576) (hb:b<w.heap.size) (hc:w.cell? ⟨b,off,none⟩=some (.int .u8 x)) (hx:2<n∨((x==27)=false∧(n=1∨n=2)))
    (HG:Hid (∀w',Below w.heap.size w w'→Calls Tryz.prog 132 #[.slice (some ⟨b,off,none⟩) n c] w' (QM w' t))):
    Calls Tryz.prog 140 #[.slice (some ⟨b,off,none⟩) n c] w (QM w t):=by
  rcases hx with hx | ⟨hx,rfl | rfl⟩
  · have e1:¬(n:Int)=1:=(by omega);have e2:¬(n:Int)=2:=(by omega);go_enter Tryz.func140,Tryz.ntmps140;go_wp2_with fail;refine(HG.out _ (Qb _ _)).mono ?_;rintro e w9 ⟨v,rfl,ho,hb9⟩;obtain⟨px,cx,hv⟩:=ho.slice;subst hv;have HE:Hid (QM w t (.returned (tkV t (.slice px t.ev.data.length cx))) (sets w9 w.heap.size 0 (tkL t (.slice px t.ev.data.length cx)))):=Xs (tkL t (.slice px t.ev.data.length cx)) ho hb9;obtain⟨hcc,hf⟩:=Qq hb9;clear ho hb9;unfold tkV;go_wp2_with fail;refine bodyPost_ret (v:=tkV t (.slice px t.ev.data.length cx)) ?_ rfl HE.out;simp[results,Tryz.results140,tkV,go_sem,hcc]
  all_goals
    go_enter Tryz.func140,Tryz.ntmps140;go_wp2_with fail;refine(HG.out _ (Qb _ _)).mono ?_;rintro e w9 ⟨v,rfl,ho,hb9⟩;obtain⟨px,cx,hv⟩:=ho.slice;subst hv;have HE:Hid (QM w t (.returned (tkV t (.slice px t.ev.data.length cx))) (sets w9 w.heap.size 0 (tkL t (.slice px t.ev.data.length cx)))):=Xs (tkL t (.slice px t.ev.data.length cx)) ho hb9;obtain⟨hcc,hf⟩:=Qq hb9;clear ho hb9;unfold tkV;go_wp2_with fail;refine bodyPost_ret (v:=tkV t (.slice px t.ev.data.length cx)) ?_ rfl HE.out;simp[results,Tryz.results140,tkV,go_sem,hcc]
theorem Qgs (p:Option Addr) (c:Nat) (l:List UInt8) (w:World) (h:Bs w w.heap.size p l) (hc:l.length≤c) (hl:l.length≤1048576) (hne:l≠[]):
    Calls Tryz.prog 140 #[.slice p l.length c] w (QM w (ZX l)):=by
  have hpos:0<l.length:=List.length_pos_iff.2 hne;have h1c:=h.at 1;have HR:=fun w' (hb:Below w.heap.size w w')=>Qa5 p c l w' (h.on hb) hc hl;obtain⟨b,off,rfl,hb,hcell⟩:=h.at 0 (by omega);unfold ZX;by_cases h27:((l.getD 0 0).toNat:Int)=27
  · by_cases h1:l.length=1
    · rw[if_pos ⟨h27,h1⟩];rw[h27] at hcell;rw[h1];exact(Qgq b off c w hb hcell).mono fun _ _ q=>q.new rfl
    · rw[if_neg (fun hh=>h1 hh.2)];by_cases h2:l.length=2
      · rw[if_pos ⟨h27,h2⟩];rw[h27] at hcell;obtain⟨b',off',e',_,hc2⟩:=h1c (by omega);have he:=Option.some.inj e';have hb1:b=b':=congrArg Addr.block he;have ho1:off=off':=congrArg Addr.off he;subst hb1 ho1;rw[h2];exact(Qgr b off c _ w hb hcell hc2 (by omega) (Qhf _)).mono fun _ _ q=>q.new rfl
      · rw[if_neg (fun hh=>h2 hh.2)];exact QbL b off l.length c _ _ w hpos hl hb hcell (.inl (by omega)) (Lib.hid HR)
  · rw[if_neg (fun hh=>h27 hh.1),if_neg (fun hh=>h27 hh.1)];refine QbL b off l.length c _ _ w hpos hl hb hcell ?_ (Lib.hid HR);by_cases h3:2<l.length
    · exact .inl h3
    · exact .inr ⟨by simpa using h27,by omega⟩
theorem QcE (p:Option Addr) (c:Nat) (q:Bool) (w:World):
    Calls Tryz.prog 106 #[.slice p 0 c,.bool q] w (Qm w (Qf 4)):=by
  go_enter Tryz.func106,Tryz.ntmps106;go_wp2_with fail;refine(Q8 _ _).mono ?_;rintro e w9 ⟨rfl,hb9⟩;have HE:Hid (Qm w (Qf 4) (.returned (tkV (Qf 4) (.slice none 0 0))) (sets w9 w.heap.size 0 (tkL (Qf 4) (.slice none 0 0)))):=Qu (tkL (Qf 4) (.slice none 0 0)) hb9;obtain⟨hcc,hf⟩:=Qq hb9;clear hb9;unfold tkV Qf Xy;go_wp2_with fail;refine bodyPost_ret (v:=tkV (Qf 4) (.slice none 0 0)) ?_ rfl HE.out;simp[results,Tryz.results106,tkV,Qf,Xy,go_sem,hcc]
theorem QbM (p:Option Addr) (n c:Nat) (t:Tk) (w:World) (hn:0<n)
    (HG:Hid (∀w',Below w.heap.size w w'→Calls Tryz.prog 129 #[.slice p n c] w' (QM w' t))):
    Calls Tryz.prog 106 #[.slice p n c,.bool true] w (QM w t):=by
  have e0:¬(n:Int)=0:=(by omega);go_enter Tryz.func106,Tryz.ntmps106;go_wp2_with fail;refine(HG.out _ (Qb _ _)).mono ?_;rintro e w9 ⟨v,rfl,ho,hb9⟩;obtain⟨px,cx,hv⟩:=ho.slice;subst hv;have HE:Hid (QM w t (.returned (tkV t (.slice px t.ev.data.length cx))) (sets w9 w.heap.size 0 (tkL t (.slice px t.ev.data.length cx)))):=Xs (tkL t (.slice px t.ev.data.length cx)) ho hb9;obtain⟨hcc,hf⟩:=Qq hb9;clear ho hb9;unfold tkV;go_wp2_with fail;refine bodyPost_ret (v:=tkV t (.slice px t.ev.data.length cx)) ?_ rfl HE.out;simp[results,Tryz.results106,tkV,go_sem,hcc]
theorem QcF (p:Option Addr) (n c:Nat) (t:Tk) (w:World) (hn:0<n)
    (HT:Hid (∀o,Calls Tryz.prog 100 #[.slice p n c] (w.alloc o) (QM (w.alloc o) (Qf 6))))
    (HG:Hid (∀w',Below w.heap.size w w'→Calls Tryz.prog 140 #[.slice p n c] w' (QM w' t))):
    Calls Tryz.prog 106 #[.slice p n c,.bool false] w (QM w t):=by
  have e0:¬(n:Int)=0:=(by omega);go_enter Tryz.func106,Tryz.ntmps106;go_wp2_with fail;refine(HT.out _).mono ?_;rintro e w1 ⟨v,rfl,ho,hb1⟩;obtain⟨pp,cc,hv⟩:=ho.slice;subst hv;have HB1:=Lib.hid hb1;have HA2:=Lib.hid (fun A=>HG.out _ (Qa (Qa (Qb _ _) hb1) (Qb _ A)));have l0:=Xa hb1;have n0:¬w.heap.size=w1.heap.size:=(by omega);clear hb1 ho HG;unfold tkV Qf Xy;dsimp only;go_wp2_with fail;refine(HA2.out _).mono ?_;rintro e w2 ⟨v,rfl,ho,hb2⟩;obtain⟨px,cx,hv⟩:=ho.slice;subst hv;have hb3:=QA HB1.out hb2;clear l0 n0;obtain⟨hcc,hf⟩:=Qq hb3;have HE:Hid (QM w t (.returned (tkV t (.slice px t.ev.data.length cx))) (sets w2 w.heap.size 0 (tkL t (.slice px t.ev.data.length cx)))):=Xs (tkL t (.slice px t.ev.data.length cx)) (ho.lower (Jn HB1.out _)) hb3;clear ho hb2 hb3;unfold tkV;go_wp2_with fail;refine bodyPost_ret (v:=tkV t (.slice px t.ev.data.length cx)) ?_ rfl HE.out;simp[results,Tryz.results106,tkV,go_sem,hcc]
theorem QbN (p:Option Addr) (n c:Nat) (t:Tk) (w:World) (hn:0<n) (ht:(t.code==6)=false)
    (HT:Hid (∀o,Calls Tryz.prog 100 #[.slice p n c] (w.alloc o) (QM (w.alloc o) t))):
    Calls Tryz.prog 106 #[.slice p n c,.bool false] w (QM w t):=by
  have e0:¬(n:Int)=0:=(by omega);go_enter Tryz.func106,Tryz.ntmps106;go_wp2_with fail;refine(HT.out _).mono ?_;rintro e w1 ⟨v,rfl,ho,hb1⟩;obtain⟨pp,cc,hv⟩:=ho.slice;subst hv;have HE:∀A,Hid (QM w t (.returned (tkV t (.slice pp t.ev.data.length cc))) ((sets w1 w.heap.size 0 (tkL t (.slice pp t.ev.data.length cc))).alloc A)):=fun A=>(Xs (tkL t (.slice pp t.ev.data.length cc)) ho hb1).more A;obtain⟨hcc,hf⟩:=Qq hb1;have l0:=Xa hb1;have n0:¬w.heap.size=w1.heap.size:=(by omega);clear hb1 ho;unfold tkV;go_wp2_with fail;refine bodyPost_ret (v:=tkV t (.slice pp t.ev.data.length cc)) ?_ rfl (HE _).out;simp[results,Tryz.results106,tkV,go_sem,hcc,l0]
theorem VR (p:Option Addr) (c:Nat) (l:List UInt8) (q:Bool) (w:World) (h:Bs w w.heap.size p l) (hc:l.length≤c) (hl:l.length≤1048576):
    Calls Tryz.prog 106 #[.slice p l.length c,.bool q] w (QM w (Qs l q)):=by
  unfold Qs;by_cases hne:l=[]
  · subst hne;exact(QcE p c q w).mono fun _ _ hp=>hp.new rfl
  rw[if_neg hne];have hpos:0<l.length:=List.length_pos_iff.2 hne
  cases q
  · simp only[Bool.false_eq_true,if_false];have HT:=fun o=>Jf p c l (w.alloc o) (h.alloc o) hc hl;by_cases h6:(Q0 l).code=6
    · rw[if_pos h6];rw[J2 l h6] at HT;exact QcF p l.length c _ w hpos (Lib.hid HT) (Lib.hid fun w' hb=>Qgs p c l w' (h.on hb) hc hl hne)
    · rw[if_neg h6];exact QbN p l.length c _ w hpos (by simpa using h6) (Lib.hid HT)
  · rw[if_pos rfl];exact QbM p l.length c _ w hpos (Lib.hid fun w' hb=>UP p c l w' (h.on hb) hc hl)
end Go.Proofs.YtbfickdgjgbfhaaGreatDoor
