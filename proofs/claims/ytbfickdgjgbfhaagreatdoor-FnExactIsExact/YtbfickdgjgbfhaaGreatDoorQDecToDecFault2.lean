/- Decoders as data; the law's own helpers over them; SameDecoders of the model and of the program. -/
import Derived.Test.YtbfickdgjgbfhaaGreatDoorQFaultToFirstFull
import Derived.Test.YtbfickdgjgbfhaaGreatDoorQPutToBytesRes
import Derived.Test.YtbfickdgjgbfhaaGreatDoorQBytesToCells
import Derived.Deep.QuietTactic
import Derived.Test.YtbfickdgjgbfhaaGreatDoorQTokImpl6ToTokImpl8
import Derived.Test.YtbfickdgjgbfhaaGreatDoorQTokSpec3ToFlush2
import Derived.Test.YtbfickdgjgbfhaaGreatDoorQPaste3ToPaste5
import Derived.Test.YtbfickdgjgbfhaaGreatDoorQTokFactsToPasteMore
import Derived.Test.YtbfickdgjgbfhaaGreatDoorQTokToTokRes
import Derived.Test.YtbfickdgjgbfhaaGreatDoorQFlush3ToFlush4
set_option linter.unusedVariables false
set_option maxRecDepth 100000
set_option maxHeartbeats 1000000
namespace Go.Proofs.YtbfickdgjgbfhaaGreatDoor
open Go.RowKit
structure Dc where
  pend:List UInt8
  paste:Bool
  due:Int
def dcV (d:Dc) (p:Option Addr) (c:Nat):Value:=.agg #[.slice p d.pend.length c,.bool d.paste,.int .i64 d.due]
def dcL (d:Dc) (p:Option Addr) (c:Nat):List Value:=[.slice p d.pend.length c,.bool d.paste,.int .i64 d.due]
theorem AtL.three {w:World} {b:Nat} {v0 v1 v2:Value} (h:AtL w b [v0,v1,v2]):w.cell? ⟨b,0,none⟩=some v0∧w.cell? ⟨b,1,none⟩=some v1∧w.cell? ⟨b,2,none⟩=some v2:=
  ⟨h.get 0 rfl,h.get 1 rfl,h.get 2 rfl⟩
def Qw (l:List UInt8) (q:Bool):Tk:=if q=true then Q2 l else Q0 l
def Xe (d:Dc):Int:=
  if inR d.due 0 2000000=false then 3
  else if d.pend=[] then (if d.due=0 then 0 else 7)
  else if (Qw d.pend d.paste).code=6 then 0 else 7
theorem J5 (p:Option Addr) (c:Nat) (l:List UInt8) (q:Bool) (w:World) (h:Bs w w.heap.size p l) (ht:Yo w) (hc:l.length≤c) (hl:l.length≤1048576):
    Calls Tryz.prog 56 #[.slice p l.length c,.bool q] w (QM w (Qw l q)):=by
  have HP:=Lib.hid (fun o=>VA p c l (w.alloc o) (h.alloc _) hc hl);have HF:=Lib.hid (fun o=>Jd p c l (w.alloc o) (h.alloc _) (ht.on (Qb _ _)) hc hl);unfold Qw;generalize Q2 l=t1 at *;generalize Q0 l=t2 at *;clear h ht
  cases q
  · go_enter Tryz.func56,Tryz.ntmps56;go_wp2_with fail;refine(HF.out _).mono ?_;rintro e w1 ⟨v,rfl,ho,hb⟩;obtain⟨pp,cc,hv⟩:=ho.slice;subst hv;have HE:=Lib.hid (Xs (t:=t2) (tkL t2 (.slice pp t2.ev.data.length cc)) ho hb);obtain⟨hcc,hf⟩:=Qq hb;clear ho hb;unfold tkV;go_wp2_with fail;refine bodyPost_ret (v:=tkV t2 (.slice pp t2.ev.data.length cc)) ?_ rfl HE.out;simp[results,Tryz.results56,tkV,go_sem,hcc]
  · go_enter Tryz.func56,Tryz.ntmps56;go_wp2_with fail;refine(HP.out _).mono ?_;rintro e w1 ⟨v,rfl,ho,hb⟩;obtain⟨pp,cc,hv⟩:=ho.slice;subst hv;have HE:=Lib.hid (Xs (t:=t1) (tkL t1 (.slice pp t1.ev.data.length cc)) ho hb);obtain⟨hcc,hf⟩:=Qq hb;clear ho hb;unfold tkV;go_wp2_with fail;refine bodyPost_ret (v:=tkV t1 (.slice pp t1.ev.data.length cc)) ?_ rfl HE.out;simp[results,Tryz.results56,tkV,go_sem,hcc]
theorem QgA (p:Option Addr) (c:Nat) (l:List UInt8) (q:Bool) (w:World) (h:Bs w w.heap.size p l) (hc:l.length≤c) (hl:l.length≤1048576):
    Calls Tryz.prog 65 #[.slice p l.length c,.bool q] w (QM w (Qw l q)):=by
  have HP:=Lib.hid (fun o=>Vz p c l (w.alloc o) (h.alloc _) hc hl);have HF:=Lib.hid (fun o=>Jf p c l (w.alloc o) (h.alloc _) hc hl);unfold Qw;generalize Q2 l=t1 at *;generalize Q0 l=t2 at *;clear h
  cases q
  · go_enter Tryz.func65,Tryz.ntmps65;go_wp2_with fail;refine(HF.out _).mono ?_;rintro e w1 ⟨v,rfl,ho,hb⟩;obtain⟨pp,cc,hv⟩:=ho.slice;subst hv;have HE:=Lib.hid (Xs (t:=t2) (tkL t2 (.slice pp t2.ev.data.length cc)) ho hb);obtain⟨hcc,hf⟩:=Qq hb;clear ho hb;unfold tkV;go_wp2_with fail;refine bodyPost_ret (v:=tkV t2 (.slice pp t2.ev.data.length cc)) ?_ rfl HE.out;simp[results,Tryz.results65,tkV,go_sem,hcc]
  · go_enter Tryz.func65,Tryz.ntmps65;go_wp2_with fail;refine(HP.out _).mono ?_;rintro e w1 ⟨v,rfl,ho,hb⟩;obtain⟨pp,cc,hv⟩:=ho.slice;subst hv;have HE:=Lib.hid (Xs (t:=t1) (tkL t1 (.slice pp t1.ev.data.length cc)) ho hb);obtain⟨hcc,hf⟩:=Qq hb;clear ho hb;unfold tkV;go_wp2_with fail;refine bodyPost_ret (v:=tkV t1 (.slice pp t1.ev.data.length cc)) ?_ rfl HE.out;simp[results,Tryz.results65,tkV,go_sem,hcc]
theorem Qeb {d:Dc} (h:inR d.due 0 2000000=false):Xe d=3:=by unfold Xe;rw[if_pos h]
theorem Qfd {d:Dc} (h:inR d.due 0 2000000=true) (h0:d.pend=[]):Xe d=if d.due=0 then 0 else 7:=by unfold Xe;rw[if_neg (by rw[h];simp),if_pos h0]
theorem UT {d:Dc} (h:inR d.due 0 2000000=true) (h0:d.pend≠[]):Xe d=if (Qw d.pend d.paste).code=6 then 0 else 7:=by unfold Xe;rw[if_neg (by rw[h];simp),if_neg h0]
theorem JN (d:Dc) (p:Option Addr) (c:Nat) (w:World) (hr:inR d.due 0 2000000=false):
    Calls Tryz.prog 16 #[dcV d p c] w fun e w'=>e=.returned (.int .i64 (Xe d))∧Below w.heap.size w w':=by
  have HF:=Lib.hid (Qeb hr);unfold dcV;go_enter Tryz.func16,Tryz.ntmps16;go_wp2_with fail;refine(Qv _ _ _ _ _ _ (by simp)).mono ?_;rw[hr];rintro e w1 ⟨rfl,rfl⟩;go_wp2_with fail;go_ret;exact⟨Xg HF.out.symm,Qa (Qb _ _) (Qb _ _)⟩
theorem J6 (d:Dc) (p:Option Addr) (c:Nat) (w:World) (hr:inR d.due 0 2000000=true) (h0:d.pend=[]):
    Calls Tryz.prog 16 #[dcV d p c] w fun e w'=>e=.returned (.int .i64 (Xe d))∧Below w.heap.size w w':=by
  have HF:=Lib.hid (Qfd hr h0);unfold dcV;rw[h0]
  cases hz:(d.due==0)
  · have hz':¬d.due=0:=(by simpa using hz);have hz2:(d.due != 0)=true:=(by simpa using hz');go_enter Tryz.func16,Tryz.ntmps16;go_wp2_with fail;refine(Qv _ _ _ _ _ _ (by simp)).mono ?_;rw[hr];rintro e w1 ⟨rfl,rfl⟩;go_wp2_with fail;go_ret;exact⟨Xg (by rw[HF.out,if_neg hz']),Qa (Qb _ _) (Qb _ _)⟩
  · have hz':d.due=0:=(by simpa using hz);have hz2:(d.due != 0)=false:=(by simpa using hz');go_enter Tryz.func16,Tryz.ntmps16;go_wp2_with fail;refine(Qv _ _ _ _ _ _ (by simp)).mono ?_;rw[show inR 0 0 2000000=true from rfl];rintro e w1 ⟨rfl,rfl⟩;go_wp2_with fail;go_ret;exact⟨Xg (by rw[HF.out,if_pos hz']),Qa (Qb _ _) (Qb _ _)⟩
theorem J7 (d:Dc) (p:Option Addr) (c:Nat) (w:World) (hr:inR d.due 0 2000000=true) (h0:d.pend≠[]) (h:Bs w w.heap.size p d.pend) (ht:Yo w) (hc:d.pend.length≤c) (hl:d.pend.length≤1048576):
    Calls Tryz.prog 16 #[dcV d p c] w fun e w'=>e=.returned (.int .i64 (Xe d))∧Below w.heap.size w w':=by
  have HF:=Lib.hid (UT hr h0);have hpos:0<d.pend.length:=List.length_pos_iff.2 h0;have e0:¬(d.pend.length:Int)=0:=(by omega);have HC:=Lib.hid (fun o1 o2=>J5 p c d.pend d.paste ((w.alloc o1).alloc o2) ((h.alloc _).alloc _) ((ht.on (Qb _ _)).on (Qb _ _)) hc hl);generalize Qw d.pend d.paste=t at *;clear h ht h0;unfold dcV
  cases hz:(t.code==6)
  all_goals
    have hz2:(t.code != 6)=!(t.code==6):=rfl;rw[hz] at hz2;go_enter Tryz.func16,Tryz.ntmps16;go_wp2_with fail;refine(Qv _ _ _ _ _ _ (by simp)).mono ?_;rw[hr];rintro e w1 ⟨rfl,rfl⟩;go_wp2_with fail;refine(HC.out _ _).mono ?_;rintro e w2 ⟨v,rfl,ho,hb⟩;have D2:=Qa (Qa (Qb w _) (Qb _ _)) hb;unfold tkV;clear ho hb;have hfd:=Qao;go_wp2_with fail;go_ret;exact⟨Xg (by rw[HF.out];simp at hz;simp[hz]),D2⟩
theorem ZA (d:Dc) (p:Option Addr) (c:Nat) (w:World) (h:Bs w w.heap.size p d.pend) (ht:Yo w) (hc:d.pend.length≤c) (hl:d.pend.length≤1048576):
    Calls Tryz.prog 16 #[dcV d p c] w fun e w'=>e=.returned (.int .i64 (Xe d))∧Below w.heap.size w w':=by
  cases hr:inR d.due 0 2000000
  · exact JN d p c w hr
  by_cases h0:d.pend=[]
  · exact J6 d p c w hr h0
  · exact J7 d p c w hr h0 h ht hc hl
abbrev Qer:=List UInt8→Bool→Tk
def Yn (f:Qer):Prop:=∀l q,(f l q).code=0→J4 (f l q) l.length
def QcI (t:Tk):List Ev:=if t.none=true then [] else [t.ev]
def Qfe (f:Qer):Nat→List UInt8→Bool→List Ev×List UInt8×Bool
  | 0,l,q=>([],l,q)
  | n+1,l,q=>
    if (f l q).code=0 then (QcI (f l q)++(Qfe f n (l.drop (f l q).size.toNat) (f l q).paste).1,(Qfe f n (l.drop (f l q).size.toNat) (f l q).paste).2)
    else ([],l,q)
def QF (f:Qer) (l:List UInt8) (q:Bool):List Ev×List UInt8×Bool:=Qfe f (l.length+1) l q
theorem UU {f:Qer} (hf:Yn f):∀(n m:Nat) (l:List UInt8) (q:Bool),l.length<n→l.length<m→Qfe f n l q=Qfe f m l q
  | 0,_,_,_,h,_=>by omega
  | _,0,_,_,_,h=>by omega
  | n+1,m+1,l,q,hn,hm=>by
    unfold Qfe;by_cases hc:(f l q).code=0
    · obtain⟨⟨k,hk,h1,h2⟩,_⟩:=hf l q hc;have hd:(l.drop (f l q).size.toNat).length<l.length:=(by rw[hk];simp;omega);rw[if_pos hc,if_pos hc,UU hf n m _ _ (by omega) (by omega)]
    · rw[if_neg hc,if_neg hc]
theorem XU {f:Qer} (hf:Yn f) {l:List UInt8} {q:Bool} (hc:(f l q).code=0):
    QF f l q=(QcI (f l q)++(QF f (l.drop (f l q).size.toNat) (f l q).paste).1,(QF f (l.drop (f l q).size.toNat) (f l q).paste).2):=by
  obtain⟨⟨k,hk,h1,h2⟩,_⟩:=hf l q hc;have hd:(l.drop (f l q).size.toNat).length<l.length:=by rw[hk];simp;omega
  conv=>lhs;unfold QF Qfe
  rw[if_pos hc,UU hf l.length ((l.drop (f l q).size.toNat).length+1) _ _ hd (by omega)];rfl
theorem Yf {f:Qer} {l:List UInt8} {q:Bool} (hc:¬(f l q).code=0):QF f l q=([],l,q):=by
  unfold QF Qfe;rw[if_neg hc]
theorem JD {f:Qer} (hf:Yn f) {P:List UInt8→Bool→Prop} (stop:∀l q,¬(f l q).code=0→P l q)
    (step:∀l q,(f l q).code=0→P (l.drop (f l q).size.toNat) (f l q).paste→P l q):∀(n:Nat) (l:List UInt8) (q:Bool),l.length<n→P l q
  | 0,_,_,h=>by omega
  | n+1,l,q,h=>by
    by_cases hc:(f l q).code=0
    · obtain⟨⟨k,hk,h1,h2⟩,_⟩:=hf l q hc;exact step l q hc (JD hf stop step n _ _ (by rw[hk];simp;omega))
    · exact stop l q hc
theorem QbQ {f:Qer} (hf:Yn f) (l:List UInt8) (q:Bool):¬(f (QF f l q).2.1 (QF f l q).2.2).code=0:=by
  refine JD hf (P:=fun l q=>¬(f (QF f l q).2.1 (QF f l q).2.2).code=0) ?_ ?_ (l.length+1) l q (by omega)
  · intro l q hc;rw[Yf hc];exact hc
  · intro l q hc ih;rw[XU hf hc];exact ih
theorem K9 {f:Qer} (hf:Yn f) (l:List UInt8) (q:Bool):(QF f l q).2.1.length≤l.length∧(QF f l q).1.length+(QF f l q).2.1.length≤l.length:=by
  refine JD hf (P:=fun l q=>(QF f l q).2.1.length≤l.length∧(QF f l q).1.length+(QF f l q).2.1.length≤l.length) ?_ ?_ (l.length+1) l q (by omega)
  · intro l q hc;rw[Yf hc];simp
  · intro l q hc ih;obtain⟨⟨k,hk,h1,h2⟩,_⟩:=hf l q hc;have hd:(l.drop (f l q).size.toNat).length+k=l.length:=(by rw[hk];simp;omega);have he:(QcI (f l q)).length≤1:=(by unfold QcI;split <;> simp);rw[XU hf hc];simp only[List.length_append];omega
theorem Yg:Yn Qw:=by
  intro l q h;unfold Qw at *;split at h
  · rename_i hq;rw[if_pos hq];exact QbP l h
  · rename_i hq;rw[if_neg hq];exact VT l h
theorem Xf:Yn Qs:=by
  intro l q h;by_cases hne:l=[]
  · subst hne;exact absurd h (by simp[Qs,Qf])
  · exact(ZC l q hne).2
end Go.Proofs.YtbfickdgjgbfhaaGreatDoor
