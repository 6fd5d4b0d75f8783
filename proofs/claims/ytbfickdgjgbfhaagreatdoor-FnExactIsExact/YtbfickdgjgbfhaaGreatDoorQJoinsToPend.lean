/- Joined bytes: appends into memory of the call's own, as a law's walk meets them. -/
import Derived.Test.YtbfickdgjgbfhaaGreatDoorQPutToBytesRes
import Derived.Test.YtbfickdgjgbfhaaGreatDoorQBytesToCells
import Derived.Test.YtbfickdgjgbfhaaGreatDoorQDecToDecFault2
import Derived.Test.YtbfickdgjgbfhaaGreatDoorQJoinBToAppFull
import Derived.Test.YtbfickdgjgbfhaaGreatDoorQTokSpecHToTokSpecA
import Derived.Test.YtbfickdgjgbfhaaGreatDoorQTokToTokRes
import Derived.Deep.Cut
set_option linter.unusedVariables false
set_option maxRecDepth 100000
set_option maxHeartbeats 2000000
namespace Go.Proofs.YtbfickdgjgbfhaaGreatDoor
open Go.RowKit
theorem Qj3 {w:World} {b off:Nat} {l:List UInt8} (h:∀i,i<l.length→w.cell? ⟨b,off+i,none⟩=some (.int .u8 ((l.getD i 0).toNat:Int))) (j:Nat) (u:Value) (hj:(l.map (fun x:UInt8=>Value.int .u8 (x.toNat:Int)))[j]? =some u):
    w.cell? ((⟨b,off,none⟩:Addr).add j)=some u:=by
  have hjl:j<l.length:=(by have:=(List.getElem?_eq_some_iff.1 hj).1;simpa using this);have e:(⟨b,off,none⟩:Addr).add j=⟨b,off+j,none⟩:=(by unfold Addr.add;split <;> simp_all);rw[e,h j hjl,←hj];simp[hjl]
theorem XG {w:World} {B b off:Nat} {l:List UInt8} (h:Bs w B (some ⟨b,off,none⟩) l) (j:Nat) (u:Value) (hj:(l.map (fun x:UInt8=>Value.int .u8 (x.toNat:Int)))[j]? =some u):
    w.cell? ((⟨b,off,none⟩:Addr).add j)=some u:=by
  have hjl:j<l.length:=(by have:=(List.getElem?_eq_some_iff.1 hj).1;simpa using this);obtain⟨b',off',e,_,hc⟩:=h (by rintro rfl;simp at hjl);simp only[Option.some.injEq,Addr.mk.injEq] at e;obtain⟨rfl,rfl,-⟩:=e;exact Qj3 hc j u hj
theorem Q6 (l:List UInt8):∀u∈l.map (fun x:UInt8=>Value.int .u8 (x.toNat:Int)),u.oneCell'=true:=by
  intro u hu;obtain⟨x,_,rfl⟩:=List.mem_map.1 hu;rfl
theorem ZD {w wr w2:World} {v v':Value} {l q:List UInt8} {n:Nat} (ho:Own wr w.heap.size v l) (hb:Below w.heap.size w wr)
    (h:w2.ownsRow w.heap.size 5 1 v' n (l.map (fun x:UInt8=>Value.int .u8 (x.toNat:Int))++q.map (fun x:UInt8=>Value.int .u8 (x.toNat:Int)))) (hg:wr.grownBy w2 v.ownBlock):Own w2 w.heap.size v' (l++q)∧Below w.heap.size w w2:=
  by
  have hn:n=l.length+q.length:=(by have:=h.1;simpa using this.symm);subst hn;exact⟨by rw[Own,List.map_append,List.length_append];exact h,hb.grown hg hb.size fun j ej=>(ho.lt j ej).1⟩
theorem Xp {w:World} {base:Nat} {v:Value} {l:List UInt8} (h:Own w base v l) (h0:l≠[]):∃g cap,v=.slice (some ⟨g,0,none⟩) l.length cap∧l.length≤cap:=by
  rcases h.2 with⟨e,hn⟩ | ⟨g,cap,cur,e,hb,hh,hcap,_⟩
  · exact absurd (List.eq_nil_of_length_eq_zero hn) h0
  · exact⟨g,cap,e,hcap⟩
theorem Qaf (p:Option Addr) (n c f:Nat) (w:World):
    Calls Tryz.prog 94 #[.slice p n c,.func (.func f) #[] #[]] w fun e w'=>e=.returned (.tuple #[.func (.func 121) #[] #[.pointer (some ⟨w.heap.size+1,0,none⟩),.pointer (some ⟨w.heap.size,0,none⟩)],.func (.func 122) #[] #[.pointer (some ⟨w.heap.size,0,none⟩)]])
      ∧(w.alloc (.cells #[.slice p n c] 22)).alloc (.cells #[.func (.func f) #[] #[]] 111)=w':=by
  have hmf:∀(fn:Fn) (first cap:Array Value) (w:World),(Instr.makeFunc fn first cap).run Tryz.prog w=.ok (.func fn first cap) w:=fun _ _ _ _=>rfl;go_enter Tryz.func94,Tryz.ntmps94;go_wp2
  go_ret2
  exact⟨rfl,rfl⟩
def Qfh (w:World) (b:Nat) (p:Option Addr) (c:Nat) (l:List UInt8):Prop:=
  AtM w b [.slice p l.length c]∧Bs w b p l∧(p=none→c=0)∧l.length≤c∧l.length≤1048576
theorem QbR (b:Nat) (p:Option Addr) (c:Nat) (l:List UInt8) (w:World) (h:Qfh w b p c l):
    Calls Tryz.prog 122 #[.pointer (some ⟨b,0,none⟩)] w (Ql w l):=by
  obtain⟨ha,hb,hc,hcap,hl⟩:=h;have h0:=ha.cells.get 0 rfl;have HR:Hid (∀t,QeT (w.alloc (.cells #[.slice p l.length c] t)) w.heap.size [(p,c,l)]):=fun t=>
    ⟨by simp,fun i hi=>by obtain rfl:i=0:=by simpa using hi
                             simp[Qc2],fun r hr=>by obtain rfl:r=(p,c,l):=by simpa using hr
                                                           exact⟨(hb.more (Nat.le_of_lt ha.cells.1)).alloc _,hc⟩⟩
  clear ha hb hc hcap;go_enter Tryz.func122,Tryz.ntmps122;go_wp2_with fail;refine(YW _ [(p,c,l)] _ _ (HR.out _) (by simp) (by simpa [QdV] using hl)).mono ?_;rintro e w1 ⟨v,rfl,ho,hb⟩;have hd:=Qa (Qb _ _) hb;have ho2:Own w1 w.heap.size v l:=(by simpa [QdV] using ho.lower (base':=w.heap.size) (by simp));clear ho hb;go_wp2_with fail;go_ret;exact⟨v,rfl,ho2,hd⟩
def Qld (F:Nat) (f:Qer):Prop:=∀(p:Option Addr) (c:Nat) (l:List UInt8) (q:Bool) (w:World),Bs w w.heap.size p l→Yo w→l.length≤c→l.length≤1048576→
  Calls Tryz.prog F #[.slice p l.length c,.bool q] w (QM w (f l q))
def X0 (f:Qer) (l:List UInt8) (q:Bool):List UInt8:=l.drop (f l q).size.toNat
def QbS (f:Qer):Prop:=∀l q,∃k:Nat,(f l q).size=(k:Int)∧k≤l.length
def Ql6 (w:World) (b:Nat) (t:Tk) (r:List UInt8) (e:Ending) (w':World):Prop:=
  ∃v p' c',e=.returned (tkV t v)∧Own w' w.heap.size v t.ev.data∧Qfh w' b p' c' r∧w.grownBy w' (some b)
theorem Kl {w:World} {B:Nat} {p:Option Addr} {c:Nat} {l:List UInt8} (h:Bs w B p l) (hp:p=none→c=0) (hc:l.length≤c) (k:Nat) (hk:k≤l.length):
    Bs w B (if c=k then p else p.map (·.add k)) (l.drop k)∧((if c=k then p else p.map (·.add k))=none→c - k=0)∧(l.drop k).length≤c - k:=by
  refine⟨h.tail k c hc,?_,by simp;omega⟩;intro e;by_cases hck:c=k
  · omega
  · rw[if_neg hck] at e
    cases p with
    | none=>have:=hp rfl;omega
    | some a=>simp at e
structure Mid (w:World) (R b:Nat) (t:Tk) (v:Value) (r:List UInt8) (W:World):Prop where
  res:AtM W w.heap.size [.int .i64 0,.int .i64 0,.int .i64 0,.int .i64 0,.int .i64 0,.int .i64 0,.int .i64 0,.int .i64 0,.slice none 0 0,.int .i64 0,.bool false,.bool false]
  tok:AtM W R (tkL t v)
  box:∃p c,Qfh W b p c r
  own:Own W (w.heap.size+1) v t.ev.data
  grown:w.grownBy W (some b)
theorem Mid.done {w:World} {R b:Nat} {t:Tk} {v:Value} {r:List UInt8} {W:World} (h:Mid w R b t v r W) (hb:b<w.heap.size):Ql6 w b t r (.returned (tkV t v)) (sets W w.heap.size 0 (tkL t v)):=by
  obtain⟨p,c,h1,h2,h3,h4,h5⟩:=h.box;refine⟨v,p,c,rfl,(Kf (by omega) _ 0 _ h.own).lower (by omega),⟨h1.beside (by omega) _ 0,h2.keep (Nat.le_refl _) (fun a ha=>World.cell?_of_block (Um (by omega) _ 0 _)),h3,h4,h5⟩,?_⟩;have k:=Un (b:=w.heap.size) (tkL t v) 0 W;have g:=h.grown;exact⟨k.os.trans g.os,k.tape.trans g.tape,k.output.trans g.output,Nat.le_trans g.size k.size,fun j hj hne=>(k.block j (Nat.lt_of_lt_of_le hj g.size) (fun e=>by cases e;omega)).trans (g.block j hj hne)⟩
theorem Qj4 {w W:World} {b:Nat} (h:Below w.heap.size w W) (v:Value):w.grownBy (W.setCell ⟨b,0,none⟩ v) (some b):=
  ⟨h.os,h.tape,h.output,Nat.le_trans h.size (by simp),fun j hj hne=>(Below.heap_setCell _ _ _ _ (fun e=>hne (by rw[e]))).trans (h.block j hj)⟩
theorem Mid.cut {w W:World} {R b:Nat} {t:Tk} {v:Value} {l:List UInt8} {p:Option Addr} {c k:Nat}
    (hres:AtM W w.heap.size [.int .i64 0,.int .i64 0,.int .i64 0,.int .i64 0,.int .i64 0,.int .i64 0,.int .i64 0,.int .i64 0,.slice none 0 0,.int .i64 0,.bool false,.bool false])
    (htok:AtM W R (tkL t v)) (hbox:AtM W b [.slice p l.length c]) (hbs:Bs W b p l) (hp:p=none→c=0) (hc:l.length≤c) (hl:l.length≤1048576) (hown:Own W (w.heap.size+1) v t.ev.data) (hd:Below w.heap.size w W)
    (hb:b<w.heap.size) (hR:b≠R) (hk:k≤l.length) {n' c':Nat} (hn:n'=l.length - k) (hc':c'=c - k) {p':Option Addr} (hp':p'=if c=k then p else p.map (·.add k)):Mid w R b t v (l.drop k) (W.setCell ⟨b,0,none⟩ (.slice p' n' c')):=by
  obtain⟨d1,d2,d3⟩:=Kl hbs hp hc k hk;rw[←hp'] at d1 d2;rw[←hc'] at d2 d3;have hn2:n'=(l.drop k).length:=(by simp;exact hn);refine⟨hres.other (by omega) _ _,htok.other (Ne.symm hR) _ _,⟨p',c',?_,d1.keep (Nat.le_refl _) (fun a ha=>World.cell?_of_block (Below.heap_setCell _ _ _ _ (by show a.block≠b;omega))),d2,d3,by simp;omega⟩,hown.setBelow (by show b<_;omega) _,Qj4 hd _⟩;have:=hbox.set 0 (.slice p' n' c');rw[hn2] at this ⊢;exact this
theorem Qag (HF:Hid (Qld 56 Qw)) (hs:QbS Qw) (b1 b:Nat) (p:Option Addr) (c:Nat) (l:List UInt8) (q:Bool) (w:World) (h1:AtL w b1 [.func (.func 56) #[] #[]]) (h:Qfh w b p c l) (ht:Yo w):
    Calls Tryz.prog 121 #[.bool q,.pointer (some ⟨b1,0,none⟩),.pointer (some ⟨b,0,none⟩)] w (Ql6 w b (Qw l q) (X0 Qw l q)):=by
  obtain⟨ha,hb,hc,hcap,hl⟩:=h;have g0:=h1.get 0 rfl;have g1:=ha.cells.get 0 rfl;have f1:=ha.free 0;have l0:=h1.1;have l1:=ha.cells.1;have HC:=Lib.hid (fun o=>HF.out p c l q (w.alloc o) ((hb.more (Nat.le_of_lt ha.cells.1)).alloc o) (ht.on (Qb _ _)) hcap hl);obtain⟨k,hk,hkl⟩:=hs l q;have HK:=Lib.hid hk;unfold X0;generalize Qw l q=t at *;have HX:=Lib.hid (And.intro ha (And.intro hb (And.intro hc (And.intro h1 ht))));clear hk hs ha hb hc h1 ht;go_enter Tryz.func121,Tryz.ntmps121;go_wp2_with fail;refine(HC.out _).mono ?_;rintro e w1 ⟨v,rfl,ho,hb⟩;obtain⟨pp,cc,hv⟩:=ho.slice;subst hv;unfold tkV;go_upto_region 2 with(fail);have AR:=(AtM.new w [.int .i64 0,.int .i64 0,.int .i64 0,.int .i64 0,.int .i64 0,.int .i64 0,.int .i64 0,.int .i64 0,.slice none 0 0,.int .i64 0,.bool false,.bool false] 90).on hb;have AB:=(HX.out.1.on (Qb w (.cells #[.int .i64 0,.int .i64 0,.int .i64 0,.int .i64 0,.int .i64 0,.int .i64 0,.int .i64 0,.int .i64 0,.slice none 0 0,.int .i64 0,.bool false,.bool false] 90))).on hb;have BB:=HX.out.2.1;have D1:=Qa (Qb w (.cells #[.int .i64 0,.int .i64 0,.int .i64 0,.int .i64 0,.int .i64 0,.int .i64 0,.int .i64 0,.int .i64 0,.slice none 0 0,.int .i64 0,.bool false,.bool false] 90)) hb;have O1:Own w1 (w.heap.size+1) (.slice pp t.ev.data.length cc) t.ev.data:=(by simpa using ho);have B2:=Qb w1 (.cells (tkL t (.slice pp t.ev.data.length cc)).toArray 90);have A5:=AtM.new w1 (tkL t (.slice pp t.ev.data.length cc)) 90;have hR1:w.heap.size<w1.heap.size:=AR.cells.1;have HAR:=Lib.hid (AR.on B2);have HAB:=Lib.hid (AB.on B2);have HD:=Lib.hid (Qa D1 B2);have HBB:=Lib.hid (BB.below (HD.out.mono (Nat.le_of_lt l1)));have HO:=Lib.hid (O1.on B2);have HA5:=Lib.hid A5;have HC:=Lib.hid HX.out.2.2.1;clear AR AB BB D1 O1 B2 A5 ho hb HX HF g0 g1 f1 l0;unfold tkL at HA5 HAR HAB HBB HD HO;generalize w1.alloc (.cells [Value.int .i64 t.code,.int .i64 t.ev.kind,.int .i64 t.ev.code,.int .i64 t.ev.mods,.int .i64 t.ev.button,.int .i64 t.ev.act,.int .i64 t.ev.col,.int .i64 t.ev.row,.slice pp t.ev.data.length cc,.int .i64 t.size,.bool t.paste,.bool t.none].toArray 90)=W at *;have g1:=HAB.out.cells.get 0 rfl;have f1:=HAB.out.free 0;have s9:=HA5.out.cells.get 9 rfl;rw[HK.out] at s9;have hkI:(k:Int)≤(l.length:Int):=(by omega);have HE:Hid (∀(p':Option Addr) (n' c':Nat),n'=l.length - k→c'=c - k→(p'=if c=k then p else p.map (·.add k))→Mid w w1.heap.size b t (.slice pp t.ev.data.length cc) (l.drop k) (W.setCell ⟨b,0,none⟩ (.slice p' n' c'))):=fun p' n' c' h1 h2 h3=>
    Mid.cut HAR.out HA5.out HAB.out HBB.out HC.out hcap hl HO.out HD.out l1 (by omega) hkl h1 h2 h3
  have hk2:t.size.toNat=k:=(by rw[HK.out];simp);rw[hk2];have HK2:=Lib.hid hk2;clear HAR HAB HA5 HBB HC HO HD hk2;by_cases hck:c=k;all_goals
    go_upto_region 3 with(fail);refine J1 (Mid w w1.heap.size b t (.slice pp t.ev.data.length cc) (l.drop k)) (HE.out _ _ _ (by omega) (by omega) (by simp[hck])) (fun W' hM=>?_);clear g1 f1 s9 HE;obtain⟨a0,a1,a2,a3,a4,a5,a6,a7,a8,a9,a10,a11⟩:=AtL.twelve hM.tok.cells;obtain⟨r0,r1,r2,r3,r4,r5,r6,r7,r8,r9,r10,r11⟩:=AtL.twelve hM.res.cells;have hf:=hM.res.free;have HM:=Lib.hid (hM.done l1);clear hM;go_wp2_with fail;rw[HK2.out];refine bodyPost_ret (v:=tkV t (.slice pp t.ev.data.length cc)) ?_ rfl HM.out;simp[results,Tryz.results121,tkV,go_sem,r0,r1,r2,r3,r4,r5,r6,r7,r8,r9,r10,r11]
theorem UC (HF:Hid (Qld 73 Qs)) (hs:QbS Qs) (b1 b:Nat) (p:Option Addr) (c:Nat) (l:List UInt8) (q:Bool) (w:World) (h1:AtL w b1 [.func (.func 73) #[] #[]]) (h:Qfh w b p c l) (ht:Yo w):
    Calls Tryz.prog 121 #[.bool q,.pointer (some ⟨b1,0,none⟩),.pointer (some ⟨b,0,none⟩)] w (Ql6 w b (Qs l q) (X0 Qs l q)):=by
  obtain⟨ha,hb,hc,hcap,hl⟩:=h;have g0:=h1.get 0 rfl;have g1:=ha.cells.get 0 rfl;have f1:=ha.free 0;have l0:=h1.1;have l1:=ha.cells.1;have HC:=Lib.hid (fun o=>HF.out p c l q (w.alloc o) ((hb.more (Nat.le_of_lt ha.cells.1)).alloc o) (ht.on (Qb _ _)) hcap hl);obtain⟨k,hk,hkl⟩:=hs l q;have HK:=Lib.hid hk;unfold X0;generalize Qs l q=t at *;have HX:=Lib.hid (And.intro ha (And.intro hb (And.intro hc (And.intro h1 ht))));clear hk hs ha hb hc h1 ht;go_enter Tryz.func121,Tryz.ntmps121;go_wp2_with fail;refine(HC.out _).mono ?_;rintro e w1 ⟨v,rfl,ho,hb⟩;obtain⟨pp,cc,hv⟩:=ho.slice;subst hv;unfold tkV;go_upto_region 2 with(fail);have AR:=(AtM.new w [.int .i64 0,.int .i64 0,.int .i64 0,.int .i64 0,.int .i64 0,.int .i64 0,.int .i64 0,.int .i64 0,.slice none 0 0,.int .i64 0,.bool false,.bool false] 90).on hb;have AB:=(HX.out.1.on (Qb w (.cells #[.int .i64 0,.int .i64 0,.int .i64 0,.int .i64 0,.int .i64 0,.int .i64 0,.int .i64 0,.int .i64 0,.slice none 0 0,.int .i64 0,.bool false,.bool false] 90))).on hb;have BB:=HX.out.2.1;have D1:=Qa (Qb w (.cells #[.int .i64 0,.int .i64 0,.int .i64 0,.int .i64 0,.int .i64 0,.int .i64 0,.int .i64 0,.int .i64 0,.slice none 0 0,.int .i64 0,.bool false,.bool false] 90)) hb;have O1:Own w1 (w.heap.size+1) (.slice pp t.ev.data.length cc) t.ev.data:=(by simpa using ho);have B2:=Qb w1 (.cells (tkL t (.slice pp t.ev.data.length cc)).toArray 90);have A5:=AtM.new w1 (tkL t (.slice pp t.ev.data.length cc)) 90;have hR1:w.heap.size<w1.heap.size:=AR.cells.1;have HAR:=Lib.hid (AR.on B2);have HAB:=Lib.hid (AB.on B2);have HD:=Lib.hid (Qa D1 B2);have HBB:=Lib.hid (BB.below (HD.out.mono (Nat.le_of_lt l1)));have HO:=Lib.hid (O1.on B2);have HA5:=Lib.hid A5;have HC:=Lib.hid HX.out.2.2.1;clear AR AB BB D1 O1 B2 A5 ho hb HX HF g0 g1 f1 l0;unfold tkL at HA5 HAR HAB HBB HD HO;generalize w1.alloc (.cells [Value.int .i64 t.code,.int .i64 t.ev.kind,.int .i64 t.ev.code,.int .i64 t.ev.mods,.int .i64 t.ev.button,.int .i64 t.ev.act,.int .i64 t.ev.col,.int .i64 t.ev.row,.slice pp t.ev.data.length cc,.int .i64 t.size,.bool t.paste,.bool t.none].toArray 90)=W at *;have g1:=HAB.out.cells.get 0 rfl;have f1:=HAB.out.free 0;have s9:=HA5.out.cells.get 9 rfl;rw[HK.out] at s9;have hkI:(k:Int)≤(l.length:Int):=(by omega);have HE:Hid (∀(p':Option Addr) (n' c':Nat),n'=l.length - k→c'=c - k→(p'=if c=k then p else p.map (·.add k))→Mid w w1.heap.size b t (.slice pp t.ev.data.length cc) (l.drop k) (W.setCell ⟨b,0,none⟩ (.slice p' n' c'))):=fun p' n' c' h1 h2 h3=>
    Mid.cut HAR.out HA5.out HAB.out HBB.out HC.out hcap hl HO.out HD.out l1 (by omega) hkl h1 h2 h3
  have hk2:t.size.toNat=k:=(by rw[HK.out];simp);rw[hk2];have HK2:=Lib.hid hk2;clear HAR HAB HA5 HBB HC HO HD hk2;by_cases hck:c=k;all_goals
    go_upto_region 3 with(fail);refine J1 (Mid w w1.heap.size b t (.slice pp t.ev.data.length cc) (l.drop k)) (HE.out _ _ _ (by omega) (by omega) (by simp[hck])) (fun W' hM=>?_);clear g1 f1 s9 HE;obtain⟨a0,a1,a2,a3,a4,a5,a6,a7,a8,a9,a10,a11⟩:=AtL.twelve hM.tok.cells;obtain⟨r0,r1,r2,r3,r4,r5,r6,r7,r8,r9,r10,r11⟩:=AtL.twelve hM.res.cells;have hf:=hM.res.free;have HM:=Lib.hid (hM.done l1);clear hM;go_wp2_with fail;rw[HK2.out];refine bodyPost_ret (v:=tkV t (.slice pp t.ev.data.length cc)) ?_ rfl HM.out;simp[results,Tryz.results121,tkV,go_sem,r0,r1,r2,r3,r4,r5,r6,r7,r8,r9,r10,r11]
end Go.Proofs.YtbfickdgjgbfhaaGreatDoor
