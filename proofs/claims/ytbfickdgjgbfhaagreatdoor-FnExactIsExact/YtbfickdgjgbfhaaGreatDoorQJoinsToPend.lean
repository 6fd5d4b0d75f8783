/- Joined bytes: appends into memory of the call's own, as a law's walk meets them. -/
import Derived.Test.YtbfickdgjgbfhaaGreatDoorQPutToBytesRes
import Derived.Test.YtbfickdgjgbfhaaGreatDoorQBytesToCells
import Derived.Test.YtbfickdgjgbfhaaGreatDoorQTokToTokRes
import Derived.Laws.AppendOwnNone
import Derived.Test.YtbfickdgjgbfhaaGreatDoorQDecToDecFault2
import Derived.Test.YtbfickdgjgbfhaaGreatDoorQTokSpecHToTokSpecA
import Derived.Deep.Cut
set_option linter.unusedVariables false
set_option maxRecDepth 100000
set_option maxHeartbeats 2000000
namespace Go.Proofs.YtbfickdgjgbfhaaGreatDoor
open Go.RowKit
theorem Qj0 {w:World} {b off:Nat} {l:List UInt8} (h:∀i,i<l.length→w.cell? ⟨b,off+i,none⟩=some (.int .u8 ((l.getD i 0).toNat:Int))) (j:Nat) (u:Value) (hj:(l.map (fun x:UInt8=>Value.int .u8 (x.toNat:Int)))[j]? =some u):
    w.cell? ((⟨b,off,none⟩:Addr).add j)=some u:=by
  have hjl:j<l.length:=(by have:=(List.getElem?_eq_some_iff.1 hj).1;simpa using this);have e:(⟨b,off,none⟩:Addr).add j=⟨b,off+j,none⟩:=(by unfold Addr.add;split <;> simp_all);rw[e,h j hjl,←hj];simp[hjl]
theorem XG {w:World} {B b off:Nat} {l:List UInt8} (h:Bs w B (some ⟨b,off,none⟩) l) (j:Nat) (u:Value) (hj:(l.map (fun x:UInt8=>Value.int .u8 (x.toNat:Int)))[j]? =some u):
    w.cell? ((⟨b,off,none⟩:Addr).add j)=some u:=by
  have hjl:j<l.length:=(by have:=(List.getElem?_eq_some_iff.1 hj).1;simpa using this);obtain⟨b',off',e,_,hc⟩:=h (by rintro rfl;simp at hjl);simp only[Option.some.injEq,Addr.mk.injEq] at e;obtain⟨rfl,rfl,-⟩:=e;exact Qj0 hc j u hj
theorem Q6 (l:List UInt8):∀u∈l.map (fun x:UInt8=>Value.int .u8 (x.toNat:Int)),u.oneCell'=true:=by
  intro u hu;obtain⟨x,_,rfl⟩:=List.mem_map.1 hu;rfl
theorem ZD {w wr w2:World} {v v':Value} {l q:List UInt8} {n:Nat} (ho:Own wr w.heap.size v l) (hb:Below w.heap.size w wr)
    (h:w2.ownsRow w.heap.size 5 1 v' n (l.map (fun x:UInt8=>Value.int .u8 (x.toNat:Int))++q.map (fun x:UInt8=>Value.int .u8 (x.toNat:Int)))) (hg:wr.grownBy w2 v.ownBlock):Own w2 w.heap.size v' (l++q)∧Below w.heap.size w w2:=
  by
  have hn:n=l.length+q.length:=(by have:=h.1;simpa using this.symm);subst hn;exact⟨by rw[Own,List.map_append,List.length_append];exact h,hb.grown hg hb.size fun j ej=>(ho.lt j ej).1⟩
theorem Xp {w:World} {base:Nat} {v:Value} {l:List UInt8} (h:Own w base v l) (h0:l≠[]):∃g cap,v=.slice (some ⟨g,0,none⟩) l.length cap∧l.length≤cap:=by
  rcases h.2 with⟨e,hn⟩ | ⟨g,cap,cur,e,hb,hh,hcap,_⟩
  · exact absurd (List.eq_nil_of_length_eq_zero hn) h0
  · exact⟨g,cap,e,hcap⟩
abbrev Qlc:=Option Addr×Nat×List UInt8
def Qdh (r:Qlc):Value:=.slice r.1 r.2.2.length r.2.1
def Qec (xs:List Qlc):List UInt8:=xs.flatMap fun r=>r.2.2
structure Qff (w:World) (g:Nat) (xs:List Qlc):Prop where
  lt:g<w.heap.size
  cell:∀i (h:i<xs.length),w.cell? ⟨g,i,none⟩=some (Qdh xs[i])
  bs:∀r∈xs,Bs w w.heap.size r.1 r.2.2∧(r.1=none→r.2.1=0)
theorem Qff.on {w w':World} {g:Nat} {xs:List Qlc} (h:Qff w g xs) (hb:Below w.heap.size w w'):Qff w' g xs:=
  ⟨Nat.lt_of_lt_of_le h.lt hb.size,fun i hi=>(hb.cell (p:=⟨g,i,none⟩) h.lt).trans (h.cell i hi),fun r hr=>⟨(h.bs r hr).1.on hb,(h.bs r hr).2⟩⟩
theorem Bs.src {w:World} {B:Nat} {p:Option Addr} {l:List UInt8} (h:Bs w B p l):(p=none∧l=[])∨∃ad,p=some ad∧∀j u,(l.map (fun x:UInt8=>Value.int .u8 (x.toNat:Int)))[j]? =some u→w.cell? (ad.add j)=some u:=by
  by_cases hl:l=[]
  · cases p with
    | none=>exact .inl ⟨rfl,hl⟩
    | some ad=>subst hl;exact .inr ⟨ad,rfl,fun j u hj=>by simp at hj⟩
  · obtain⟨b,off,rfl,hb,hc⟩:=h hl;exact .inr ⟨_,rfl,fun j u hj=>Qj0 hc j u hj⟩
def Qmu (w:World) (xs:List Qlc) (v i:Value) (wr:World):Prop:=
  ∃j:Nat,j≤xs.length∧i=.int .i64 j∧Own wr w.heap.size v (Qec (xs.take j))∧Below w.heap.size w wr
theorem Qj1 (xs:List Qlc) (j:Nat) (h:j<xs.length):Qec (xs.take (j+1))=Qec (xs.take j)++xs[j].2.2:=by
  unfold Qec;rw[List.take_succ_eq_append_getElem h,List.flatMap_append];simp
theorem Qj2 (xs:List Qlc) (j:Nat):(Qec (xs.take j)).length≤(Qec xs).length:=by
  conv=>rhs;rw[←List.take_append_drop j xs]
  simp only[Qec,List.flatMap_append,List.length_append];omega
theorem Y6 (g:Nat) (xs:List Qlc) (c:Nat) (w:World) (h:Qff w g xs) (hn:xs.length≤1000) (hl:(Qec xs).length≤1048576):
    Calls Tryz.prog 54 #[.slice (some ⟨g,0,none⟩) xs.length c] w (Ql w (Qec xs)):=by
  have H:=Lib.hid h;have HL:=Lib.hid hl;clear h hl;obtain⟨i0,hi,hz0,hz1,hz2⟩:=info_parts Tryz.info_u8;have HI:=Lib.hid (And.intro hi (And.intro hz0 (And.intro hz1 hz2)));clear hi hz0 hz1 hz2;go_enter Tryz.func54,Tryz.ntmps54;go_wp2
  go_loopw [3,5,8] (fun v _ i wr=>Qmu w xs v i wr) (fun _ _ i _=>xs.length - (intOf i).toNat)
  case atStart=>exact⟨0,by omega,rfl,by simpa [Qec] using QT w w.heap.size,Below.refl _ _⟩
  case round=>
    obtain⟨j,hj,rfl,ho,hb⟩:=hrel;have HO:=Lib.hid ho;have HB:=Lib.hid hb;clear ho hb;by_cases hlt:j<xs.length
    · have hR:=H.out.on HB.out;have hc:=hR.cell j hlt;obtain⟨hbs,hnil⟩:=hR.bs xs[j] (List.getElem_mem hlt);have HS:=Lib.hid (Qj1 xs j hlt);have HT:=Lib.hid (Qj2 xs (j+1));have hlt2:(j:Int)<(xs.length:Int):=(by omega);unfold Qdh at hc;have hsz:=HB.out.size;generalize xs[j]=r at *;obtain⟨p,cp,l⟩:=r;dsimp only at hc hbs hnil HS;clear hR;rcases hbs.src with⟨rfl,rfl⟩ | ⟨ad,rfl,hcells⟩
      · have h0:=hnil rfl;subst h0;clear hbs hnil;go_wp2_with (at_builtin;refine wpList_append_own_none rfl _ _ 22 rfl w.heap.size 5 i0 1 Tryz.underlying22 HI.out.1 _ _ _ rfl HO.out rfl ?_);exact⟨⟨j+1,by omega,by go_num,by rw[HS.out,List.append_nil];exact HO.out,HB.out⟩,by simp[intOf];omega⟩
      · have HC:=Lib.hid hcells;have hlen:(Qec (xs.take j)).length+l.length≤1048576:=by
          have h1:=HT.out;rw[HS.out,List.length_append] at h1;exact Nat.le_trans h1 HL.out
        clear hbs hnil hcells;go_wp2_with (at_builtin;refine wpList_append_own _ rfl _ _ 22 rfl w.heap.size 5 i0 (.int .u8 0) 1 1 Tryz.underlying22 HI.out.1 HI.out.2.1 HI.out.2.2.1 HI.out.2.2.2 rfl (by decide) _ _ _ rfl HO.out ad l.length cp (l.map fun x:UInt8=>Value.int .u8 (x.toNat:Int)) rfl (by simp) HC.out (Q6 l) ?c3 ?c4 ?c5 ?_)
        case c3=>unfold maxLen;omega
        case c4=>omega
        case c5=>exact hsz
        intro v' w2 hown' hgrow _;have HX:=Lib.hid (ZD HO.out HB.out hown' hgrow);clear hown' hgrow;go_wp2;exact⟨⟨j+1,by omega,by go_num,by rw[HS.out];exact HX.out.1,HX.out.2⟩,by simp[intOf];omega⟩
    · obtain rfl:j=xs.length:=(by omega);go_wp2;go_ret;exact⟨_,rfl,by simpa using HO.out,HB.out⟩
theorem UA (p:Option Addr) (c k:Nat) (a:List UInt8) (w:World) (t:TypeId) (h:Bs w w.heap.size p a) (hp:p=none→c=0) (hl:a.length≤1048576) (g:Nat) (hg:g=w.heap.size):
    Calls Tryz.prog 54 #[.slice (some ⟨g,0,none⟩) 1 k] (w.alloc (.cells #[.slice p a.length c] t)) (Ql (w.alloc (.cells #[.slice p a.length c] t)) a):=by
  subst hg;have HR:Qff (w.alloc (.cells #[.slice p a.length c] t)) w.heap.size [(p,c,a)]:=
    ⟨by simp,fun i hi=>by
                             obtain rfl:i=0:=(by simpa using hi);simp[Qdh],fun r hr=>by
                                                           obtain rfl:r=(p,c,a):=(by simpa using hr);exact⟨h.alloc _,hp⟩⟩
  have:=Y6 w.heap.size [(p,c,a)] k _ HR (by simp) (by simpa [Qec] using hl);simpa [Qec] using this
theorem UB (p q:Option Addr) (c d k:Nat) (a b:List UInt8) (w:World) (t:TypeId) (h:Bs w w.heap.size p a) (hp:p=none→c=0) (h2:Bs w w.heap.size q b) (hq:q=none→d=0) (hl:a.length+b.length≤1048576) (g:Nat) (hg:g=w.heap.size) {ls:List UInt8} (hls:a++b=ls):
    Calls Tryz.prog 54 #[.slice (some ⟨g,0,none⟩) 2 k] (w.alloc (.cells #[.slice p a.length c,.slice q b.length d] t)) (Ql (w.alloc (.cells #[.slice p a.length c,.slice q b.length d] t)) ls):=by
  subst hg hls;have HR:Qff (w.alloc (.cells #[.slice p a.length c,.slice q b.length d] t)) w.heap.size [(p,c,a),(q,d,b)]:=
    ⟨by
        simp,fun i hi=>by
        have:i=0∨i=1:=(by simp at hi;omega);rcases this with rfl | rfl <;> simp[Qdh],fun r hr=>by
        have:r=(p,c,a)∨r=(q,d,b):=(by simpa using hr);rcases this with rfl | rfl
        · exact⟨h.alloc _,hp⟩
        · exact⟨h2.alloc _,hq⟩⟩
  have:=Y6 w.heap.size [(p,c,a),(q,d,b)] k _ HR (by simp) (by simpa [Qec] using hl);simpa [Qec] using this
theorem Qfg (w:World) (a:Addr) (n:Nat) (b:Addr):(w.freeze a n).cell? b=w.cell? b:=by
  unfold World.freeze;split
  · rfl
  · simp only[World.cell?,Array.getElem?_modify];by_cases h:a.block=b.block
    · rw[if_pos h]
      cases w.heap[b.block]? with
      | none=>rfl
      | some o=>cases o <;> rfl
    · rw[if_neg h]
theorem Qed (w:World) (a:Addr) (n k:Nat) (h:a.block≠k):(w.freeze a n).heap[k]? =w.heap[k]?:=by
  unfold World.freeze;split
  · rfl
  · simp only[Array.getElem?_modify];rw[if_neg h]
theorem UV (w:World) (a:Addr) (n:Nat):(w.freeze a n).heap.size=w.heap.size:=by
  unfold World.freeze;split
  · rfl
  · simp
structure Qj3 (g:Nat) (w w':World):Prop where
  cell:∀a,w'.cell? a=w.cell? a
  size:w'.heap.size=w.heap.size
  below:∀B x,Below B x w→B≤g→Below B x w'
theorem Zg (w:World) (g off n c:Nat):∃w',(convert 22 22 (.slice (some ⟨g,off,none⟩) n c)).run Tryz.prog w=.ok (.slice (some ⟨g,off,none⟩) n c) w'∧Qj3 g w w':=by
  cases hs:w.shape? g with
  | none=>
    refine⟨w,?_,fun _=>rfl,rfl,fun _ _ h _=>h⟩;simp[convert,run_underlying Tryz.underlying22,run_underlying Tryz.underlying5,markStringish,hs]
  | some x=>
    obtain⟨e,m⟩:=x;refine⟨w.freeze ⟨g,m,none⟩ 1,?_,fun a=>Qfg _ _ _ _,UV _ _ _,fun B y h hg=>⟨?_,?_,?_,?_,?_⟩⟩
    · simp[convert,run_underlying Tryz.underlying22,run_underlying Tryz.underlying5,markStringish,hs]
    · exact h.os
    · exact h.tape
    · exact h.output
    · rw[UV];exact h.size
    · intro k hk;rw[Qed _ _ _ _ (by show g≠k;omega)];exact h.block k hk
theorem Bs.marked {g:Nat} {w w':World} {p:Option Addr} {l:List UInt8} (h:Bs w w.heap.size p l) (k:Qj3 g w w'):Bs w' w'.heap.size p l:=h.keep (by rw[k.size];exact Nat.le_refl _) fun a _=>k.cell a
theorem QkR (w:World) (g:Nat) (l q:List UInt8) (a:Addr) (c:Nat) (ho:∀j u,(l.map (fun x:UInt8=>Value.int .u8 (x.toNat:Int)))[j]? =some u→w.cell? ((⟨g,0,none⟩:Addr).add j)=some u)
    (hn:∀j u,(q.map (fun x:UInt8=>Value.int .u8 (x.toNat:Int)))[j]? =some u→w.cell? (a.add j)=some u) (hq:q≠[]) (hl:l.length+q.length≤1048576):
    ∃v' w',(Builtin.append_ #[22,22] 22 #[.slice (some ⟨g,0,none⟩) l.length l.length,.slice (some a) q.length c]).run Tryz.prog w=.ok v' w'∧Own w' w.heap.size v' (l++q)∧Below w.heap.size w w':=by
  obtain⟨i0,hi,hz0,hz1,hz2⟩:=info_parts Tryz.info_u8;have hpos:0<q.length:=List.length_pos_iff.2 hq;have hb:(l.length+q.length) * i0.bytes≤140737488355328:=(by rw[hz2];omega);have hr:=run_append_grow (P:=Tryz.prog) (w:=w) 22 22 5 i0 (.int .u8 0) Tryz.underlying22 hi hz0 ⟨g,0,none⟩ l.length l.length (l.map (fun x:UInt8=>Value.int .u8 (x.toNat:Int))) (by rw[hz1];simp) ho a q.length c (q.map (fun x:UInt8=>Value.int .u8 (x.toNat:Int))) (by rw[hz1];simp) hn (by omega) (by omega) (growslice_fits (by omega) hb);have hge:=grownCap_ge w (l.length+q.length) l.length 5;have hle:=grownCap_le_maxLen w (l.length+q.length) l.length 5 (by unfold maxLen;omega);generalize grownCap w (l.length+q.length) l.length 5=cap at *;refine⟨_,_,hr,⟨by simp,.inr ⟨w.heap.size,cap,((l.map (fun x:UInt8=>Value.int .u8 (x.toNat:Int))).toArray++(q.map (fun x:UInt8=>Value.int .u8 (x.toNat:Int))).toArray++Builtin.zeroCells (Value.int .u8 0).cells (cap - (l.length+q.length))),by rw[List.length_append],Nat.le_refl _,heap_alloc_new w.drew _,by rw[List.length_append];exact hge,hle,?_,?_⟩⟩,Qa (Qc (Below.refl _ _) 1) (Qb w.drew _)⟩
  · simp[size_zeroCells,Value.cells];omega
  · simp only[Array.toList_append,List.append_assoc,List.map_append,Nat.mul_one];rw[←List.append_assoc,show(l++q).length=(List.map (fun x:UInt8=>Value.int .u8 (x.toNat:Int)) l++List.map (fun x:UInt8=>Value.int .u8 (x.toNat:Int)) q).length by simp];exact List.take_left
theorem QcJ {P:Program} (w:World) {o:Oper} {a:Act} {K:Act→World→Prop} {Q:Exit→Act→World→Prop} (s x:Operand) (t:TypeId) (ho:o.op=.call {callee:=.builtin .append,args:=#[s,x],argTypes:=#[t,t] }) (v u:Value) (hs:a.eval s=v) (hx:a.eval x=u) {v':Value} {w':World}
    (hr:(Builtin.append_ #[t,t] o.type #[v,u]).run P w=.ok v' w') (h:K (a.put o.dst v') w'):o.wp P a w K Q:=by
  unfold Oper.wp execOp;simp only[ho,resolve,invoke,builtin,Sem.run_bind,Sem.run_pure,Result.andThen_ok,List.map_toArray,List.map_cons,List.map_nil,hs,hx,hr];exact h
theorem VU {P:Program} (w:World) {ops:Array Oper} {rest:List Oper} {o:Oper} {a:Act} {Q:Exit→Act→World→Prop} (hgd:o.guard=none) (s x:Operand) (t:TypeId)
    (ho:o.op=.call {callee:=.builtin .append,args:=#[s,x],argTypes:=#[t,t] }) (v u:Value) (hs:a.eval s=v) (hx:a.eval x=u) {v':Value} {w':World}
    (hr:(Builtin.append_ #[t,t] o.type #[v,u]).run P w=.ok v' w') (h:wpList P ops Q rest (a.put o.dst v') w'):wpList P ops Q (o::rest) a w:=
  wpList_plain hgd fun _ hK=>QcJ w s x t ho v u hs hx hr (hK _ _ h)
theorem Qaf (p:Option Addr) (n c f:Nat) (w:World):
    Calls Tryz.prog 94 #[.slice p n c,.func (.func f) #[] #[]] w fun e w'=>e=.returned (.tuple #[.func (.func 121) #[] #[.pointer (some ⟨w.heap.size+1,0,none⟩),.pointer (some ⟨w.heap.size,0,none⟩)],.func (.func 122) #[] #[.pointer (some ⟨w.heap.size,0,none⟩)]])
      ∧(w.alloc (.cells #[.slice p n c] 22)).alloc (.cells #[.func (.func f) #[] #[]] 111)=w':=by
  have hmf:∀(fn:Fn) (first cap:Array Value) (w:World),(Instr.makeFunc fn first cap).run Tryz.prog w=.ok (.func fn first cap) w:=fun _ _ _ _=>rfl;go_enter Tryz.func94,Tryz.ntmps94;go_wp2
  go_ret2
  exact⟨rfl,rfl⟩
def Qfh (w:World) (b:Nat) (p:Option Addr) (c:Nat) (l:List UInt8):Prop:=
  AtM w b [.slice p l.length c]∧Bs w b p l∧(p=none→c=0)∧l.length≤c∧l.length≤1048576
theorem QbR (b:Nat) (p:Option Addr) (c:Nat) (l:List UInt8) (w:World) (h:Qfh w b p c l):
    Calls Tryz.prog 122 #[.pointer (some ⟨b,0,none⟩)] w (Ql w l):=by
  obtain⟨ha,hb,hc,hcap,hl⟩:=h;have h0:=ha.cells.get 0 rfl;have HR:Hid (∀t,Qff (w.alloc (.cells #[.slice p l.length c] t)) w.heap.size [(p,c,l)]):=fun t=>
    ⟨by simp,fun i hi=>by
                             obtain rfl:i=0:=(by simpa using hi);simp[Qdh],fun r hr=>by
                                                           obtain rfl:r=(p,c,l):=(by simpa using hr);exact⟨(hb.more (Nat.le_of_lt ha.cells.1)).alloc _,hc⟩⟩
  clear ha hb hc hcap;go_enter Tryz.func122,Tryz.ntmps122;go_wp2_with fail;refine(Y6 _ [(p,c,l)] _ _ (HR.out _) (by simp) (by simpa [Qec] using hl)).mono ?_;rintro e w1 ⟨v,rfl,ho,hb⟩;have hd:=Qa (Qb _ _) hb;have ho2:Own w1 w.heap.size v l:=(by simpa [Qec] using ho.lower (base':=w.heap.size) (by simp));clear ho hb;go_wp2_with fail;go_ret;exact⟨v,rfl,ho2,hd⟩
def Qld (F:Nat) (f:Qer):Prop:=∀(p:Option Addr) (c:Nat) (l:List UInt8) (q:Bool) (w:World),Bs w w.heap.size p l→Yo w→l.length≤c→l.length≤1048576→
  Calls Tryz.prog F #[.slice p l.length c,.bool q] w (QM w (f l q))
def X0 (f:Qer) (l:List UInt8) (q:Bool):List UInt8:=l.drop (f l q).size.toNat
def QbS (f:Qer):Prop:=∀l q,∃k:Nat,(f l q).size=(k:Int)∧k≤l.length
def Ql6 (w:World) (b:Nat) (t:Tk) (r:List UInt8) (e:Ending) (w':World):Prop:=
  ∃v p' c',e=.returned (tkV t v)∧Own w' w.heap.size v t.ev.data∧Qfh w' b p' c' r∧w.grownBy w' (some b)
theorem Kl {w:World} {B:Nat} {p:Option Addr} {c:Nat} {l:List UInt8} (h:Bs w B p l) (hp:p=none→c=0) (hc:l.length≤c) (k:Nat) (hk:k≤l.length):
    Bs w B (if c=k then p else p.map (·.add k)) (l.drop k)∧((if c=k then p else p.map (·.add k))=none→c - k=0)∧(l.drop k).length≤c - k:=by
  refine⟨h.tail k c hc,?_,by simp;omega⟩;intro e;by_cases hck:c=k
  · omega
  · rw[if_neg hck] at e
    cases p with
    | none=>have:=hp rfl;omega
    | some a=>simp at e
structure Mid (w:World) (R b:Nat) (t:Tk) (v:Value) (r:List UInt8) (W:World):Prop where
  res:AtM W w.heap.size [.int .i64 0,.int .i64 0,.int .i64 0,.int .i64 0,.int .i64 0,.int .i64 0,.int .i64 0,.int .i64 0,.slice none 0 0,.int .i64 0,.bool false,.bool false]
  tok:AtM W R (tkL t v)
  box:∃p c,Qfh W b p c r
  own:Own W (w.heap.size+1) v t.ev.data
  grown:w.grownBy W (some b)
theorem Mid.done {w:World} {R b:Nat} {t:Tk} {v:Value} {r:List UInt8} {W:World} (h:Mid w R b t v r W) (hb:b<w.heap.size):Ql6 w b t r (.returned (tkV t v)) (sets W w.heap.size 0 (tkL t v)):=by
  obtain⟨p,c,h1,h2,h3,h4,h5⟩:=h.box;refine⟨v,p,c,rfl,(Kf (by omega) _ 0 _ h.own).lower (by omega),⟨h1.beside (by omega) _ 0,h2.keep (Nat.le_refl _) (fun a ha=>World.cell?_of_block (Um (by omega) _ 0 _)),h3,h4,h5⟩,?_⟩;have k:=Un (b:=w.heap.size) (tkL t v) 0 W;have g:=h.grown;exact⟨k.os.trans g.os,k.tape.trans g.tape,k.output.trans g.output,Nat.le_trans g.size k.size,fun j hj hne=>(k.block j (Nat.lt_of_lt_of_le hj g.size) (fun e=>by cases e;omega)).trans (g.block j hj hne)⟩
theorem Qj4 {w W:World} {b:Nat} (h:Below w.heap.size w W) (v:Value):w.grownBy (W.setCell ⟨b,0,none⟩ v) (some b):=
  ⟨h.os,h.tape,h.output,Nat.le_trans h.size (by simp),fun j hj hne=>(Below.heap_setCell _ _ _ _ (fun e=>hne (by rw[e]))).trans (h.block j hj)⟩
theorem Mid.cut {w W:World} {R b:Nat} {t:Tk} {v:Value} {l:List UInt8} {p:Option Addr} {c k:Nat}
    (hres:AtM W w.heap.size [.int .i64 0,.int .i64 0,.int .i64 0,.int .i64 0,.int .i64 0,.int .i64 0,.int .i64 0,.int .i64 0,.slice none 0 0,.int .i64 0,.bool false,.bool false])
    (htok:AtM W R (tkL t v)) (hbox:AtM W b [.slice p l.length c]) (hbs:Bs W b p l) (hp:p=none→c=0) (hc:l.length≤c) (hl:l.length≤1048576) (hown:Own W (w.heap.size+1) v t.ev.data) (hd:Below w.heap.size w W)
    (hb:b<w.heap.size) (hR:b≠R) (hk:k≤l.length) {n' c':Nat} (hn:n'=l.length - k) (hc':c'=c - k) {p':Option Addr} (hp':p'=if c=k then p else p.map (·.add k)):Mid w R b t v (l.drop k) (W.setCell ⟨b,0,none⟩ (.slice p' n' c')):=by
  obtain⟨d1,d2,d3⟩:=Kl hbs hp hc k hk;rw[←hp'] at d1 d2;rw[←hc'] at d2 d3;have hn2:n'=(l.drop k).length:=(by simp;exact hn);refine⟨hres.other (by omega) _ _,htok.other (Ne.symm hR) _ _,⟨p',c',?_,d1.keep (Nat.le_refl _) (fun a ha=>World.cell?_of_block (Below.heap_setCell _ _ _ _ (by show a.block≠b;omega))),d2,d3,by simp;omega⟩,hown.setBelow (by show b<_;omega) _,Qj4 hd _⟩;have:=hbox.set 0 (.slice p' n' c');rw[hn2] at this ⊢;exact this
theorem Qag (HF:Hid (Qld 56 Qw)) (hs:QbS Qw) (b1 b:Nat) (p:Option Addr) (c:Nat) (l:List UInt8) (q:Bool) (w:World) (h1:AtL w b1 [.func (.func 56) #[] #[]]) (h:Qfh w b p c l) (ht:Yo w):
    Calls Tryz.prog 121 #[.bool q,.pointer (some ⟨b1,0,none⟩),.pointer (some ⟨b,0,none⟩)] w (Ql6 w b (Qw l q) (X0 Qw l q)):=by
  obtain⟨ha,hb,hc,hcap,hl⟩:=h;have g0:=h1.get 0 rfl;have g1:=ha.cells.get 0 rfl;have f1:=ha.free 0;have l0:=h1.1;have l1:=ha.cells.1;have HC:=Lib.hid (fun o=>HF.out p c l q (w.alloc o) ((hb.more (Nat.le_of_lt ha.cells.1)).alloc o) (ht.on (Qb _ _)) hcap hl);obtain⟨k,hk,hkl⟩:=hs l q;have HK:=Lib.hid hk;unfold X0;generalize Qw l q=t at *;have HX:=Lib.hid (And.intro ha (And.intro hb (And.intro hc (And.intro h1 ht))));clear hk hs ha hb hc h1 ht;go_enter Tryz.func121,Tryz.ntmps121;go_wp2_with fail;refine(HC.out _).mono ?_;rintro e w1 ⟨v,rfl,ho,hb⟩;obtain⟨pp,cc,hv⟩:=ho.slice;subst hv;unfold tkV;go_upto_region 2 with(fail);have AR:=(AtM.new w [.int .i64 0,.int .i64 0,.int .i64 0,.int .i64 0,.int .i64 0,.int .i64 0,.int .i64 0,.int .i64 0,.slice none 0 0,.int .i64 0,.bool false,.bool false] 90).on hb;have AB:=(HX.out.1.on (Qb w (.cells #[.int .i64 0,.int .i64 0,.int .i64 0,.int .i64 0,.int .i64 0,.int .i64 0,.int .i64 0,.int .i64 0,.slice none 0 0,.int .i64 0,.bool false,.bool false] 90))).on hb;have BB:=HX.out.2.1;have D1:=Qa (Qb w (.cells #[.int .i64 0,.int .i64 0,.int .i64 0,.int .i64 0,.int .i64 0,.int .i64 0,.int .i64 0,.int .i64 0,.slice none 0 0,.int .i64 0,.bool false,.bool false] 90)) hb;have O1:Own w1 (w.heap.size+1) (.slice pp t.ev.data.length cc) t.ev.data:=(by simpa using ho);have B2:=Qb w1 (.cells (tkL t (.slice pp t.ev.data.length cc)).toArray 90);have A5:=AtM.new w1 (tkL t (.slice pp t.ev.data.length cc)) 90;have hR1:w.heap.size<w1.heap.size:=AR.cells.1;have HAR:=Lib.hid (AR.on B2);have HAB:=Lib.hid (AB.on B2);have HD:=Lib.hid (Qa D1 B2);have HBB:=Lib.hid (BB.below (HD.out.mono (Nat.le_of_lt l1)));have HO:=Lib.hid (O1.on B2);have HA5:=Lib.hid A5;have HC:=Lib.hid HX.out.2.2.1;clear AR AB BB D1 O1 B2 A5 ho hb HX HF g0 g1 f1 l0;unfold tkL at HA5 HAR HAB HBB HD HO;generalize w1.alloc (.cells [Value.int .i64 t.code,.int .i64 t.ev.kind,.int .i64 t.ev.code,.int .i64 t.ev.mods,.int .i64 t.ev.button,.int .i64 t.ev.act,.int .i64 t.ev.col,.int .i64 t.ev.row,.slice pp t.ev.data.length cc,.int .i64 t.size,.bool t.paste,.bool t.none].toArray 90)=W at *;have g1:=HAB.out.cells.get 0 rfl;have f1:=HAB.out.free 0;have s9:=HA5.out.cells.get 9 rfl;rw[HK.out] at s9;have hkI:(k:Int)≤(l.length:Int):=(by omega);have HE:Hid (∀(p':Option Addr) (n' c':Nat),n'=l.length - k→c'=c - k→(p'=if c=k then p else p.map (·.add k))→Mid w w1.heap.size b t (.slice pp t.ev.data.length cc) (l.drop k) (W.setCell ⟨b,0,none⟩ (.slice p' n' c'))):=fun p' n' c' h1 h2 h3=>
    Mid.cut HAR.out HA5.out HAB.out HBB.out HC.out hcap hl HO.out HD.out l1 (by omega) hkl h1 h2 h3
  have hk2:t.size.toNat=k:=(by rw[HK.out];simp);rw[hk2];have HK2:=Lib.hid hk2;clear HAR HAB HA5 HBB HC HO HD hk2;by_cases hck:c=k;all_goals
    go_upto_region 3 with(fail);refine J1 (Mid w w1.heap.size b t (.slice pp t.ev.data.length cc) (l.drop k)) (HE.out _ _ _ (by omega) (by omega) (by simp[hck])) (fun W' hM=>?_);clear g1 f1 s9 HE;obtain⟨a0,a1,a2,a3,a4,a5,a6,a7,a8,a9,a10,a11⟩:=AtL.twelve hM.tok.cells;obtain⟨r0,r1,r2,r3,r4,r5,r6,r7,r8,r9,r10,r11⟩:=AtL.twelve hM.res.cells;have hf:=hM.res.free;have HM:=Lib.hid (hM.done l1);clear hM;go_wp2_with fail;rw[HK2.out];refine bodyPost_ret (v:=tkV t (.slice pp t.ev.data.length cc)) ?_ rfl HM.out;simp[results,Tryz.results121,tkV,go_sem,r0,r1,r2,r3,r4,r5,r6,r7,r8,r9,r10,r11]
theorem UC (HF:Hid (Qld 73 Qs)) (hs:QbS Qs) (b1 b:Nat) (p:Option Addr) (c:Nat) (l:List UInt8) (q:Bool) (w:World) (h1:AtL w b1 [.func (.func 73) #[] #[]]) (h:Qfh w b p c l) (ht:Yo w):
    Calls Tryz.prog 121 #[.bool q,.pointer (some ⟨b1,0,none⟩),.pointer (some ⟨b,0,none⟩)] w (Ql6 w b (Qs l q) (X0 Qs l q)):=by
  obtain⟨ha,hb,hc,hcap,hl⟩:=h;have g0:=h1.get 0 rfl;have g1:=ha.cells.get 0 rfl;have f1:=ha.free 0;have l0:=h1.1;have l1:=ha.cells.1;have HC:=Lib.hid (fun o=>HF.out p c l q (w.alloc o) ((hb.more (Nat.le_of_lt ha.cells.1)).alloc o) (ht.on (Qb _ _)) hcap hl);obtain⟨k,hk,hkl⟩:=hs l q;have HK:=Lib.hid hk;unfold X0;generalize Qs l q=t at *;have HX:=Lib.hid (And.intro ha (And.intro hb (And.intro hc (And.intro h1 ht))));clear hk hs ha hb hc h1 ht;go_enter Tryz.func121,Tryz.ntmps121;go_wp2_with fail;refine(HC.out _).mono ?_;rintro e w1 ⟨v,rfl,ho,hb⟩;obtain⟨pp,cc,hv⟩:=ho.slice;subst hv;unfold tkV;go_upto_region 2 with(fail);have AR:=(AtM.new w [.int .i64 0,.int .i64 0,.int .i64 0,.int .i64 0,.int .i64 0,.int .i64 0,.int .i64 0,.int .i64 0,.slice none 0 0,.int .i64 0,.bool false,.bool false] 90).on hb;have AB:=(HX.out.1.on (Qb w (.cells #[.int .i64 0,.int .i64 0,.int .i64 0,.int .i64 0,.int .i64 0,.int .i64 0,.int .i64 0,.int .i64 0,.slice none 0 0,.int .i64 0,.bool false,.bool false] 90))).on hb;have BB:=HX.out.2.1;have D1:=Qa (Qb w (.cells #[.int .i64 0,.int .i64 0,.int .i64 0,.int .i64 0,.int .i64 0,.int .i64 0,.int .i64 0,.int .i64 0,.slice none 0 0,.int .i64 0,.bool false,.bool false] 90)) hb;have O1:Own w1 (w.heap.size+1) (.slice pp t.ev.data.length cc) t.ev.data:=(by simpa using ho);have B2:=Qb w1 (.cells (tkL t (.slice pp t.ev.data.length cc)).toArray 90);have A5:=AtM.new w1 (tkL t (.slice pp t.ev.data.length cc)) 90;have hR1:w.heap.size<w1.heap.size:=AR.cells.1;have HAR:=Lib.hid (AR.on B2);have HAB:=Lib.hid (AB.on B2);have HD:=Lib.hid (Qa D1 B2);have HBB:=Lib.hid (BB.below (HD.out.mono (Nat.le_of_lt l1)));have HO:=Lib.hid (O1.on B2);have HA5:=Lib.hid A5;have HC:=Lib.hid HX.out.2.2.1;clear AR AB BB D1 O1 B2 A5 ho hb HX HF g0 g1 f1 l0;unfold tkL at HA5 HAR HAB HBB HD HO;generalize w1.alloc (.cells [Value.int .i64 t.code,.int .i64 t.ev.kind,.int .i64 t.ev.code,.int .i64 t.ev.mods,.int .i64 t.ev.button,.int .i64 t.ev.act,.int .i64 t.ev.col,.int .i64 t.ev.row,.slice pp t.ev.data.length cc,.int .i64 t.size,.bool t.paste,.bool t.none].toArray 90)=W at *;have g1:=HAB.out.cells.get 0 rfl;have f1:=HAB.out.free 0;have s9:=HA5.out.cells.get 9 rfl;rw[HK.out] at s9;have hkI:(k:Int)≤(l.length:Int):=(by omega);have HE:Hid (∀(p':Option Addr) (n' c':Nat),n'=l.length - k→c'=c - k→(p'=if c=k then p else p.map (·.add k))→Mid w w1.heap.size b t (.slice pp t.ev.data.length cc) (l.drop k) (W.setCell ⟨b,0,none⟩ (.slice p' n' c'))):=fun p' n' c' h1 h2 h3=>
    Mid.cut HAR.out HA5.out HAB.out HBB.out HC.out hcap hl HO.out HD.out l1 (by omega) hkl h1 h2 h3
  have hk2:t.size.toNat=k:=(by rw[HK.out];simp);rw[hk2];have HK2:=Lib.hid hk2;clear HAR HAB HA5 HBB HC HO HD hk2;by_cases hck:c=k;all_goals
    go_upto_region 3 with(fail);refine J1 (Mid w w1.heap.size b t (.slice pp t.ev.data.length cc) (l.drop k)) (HE.out _ _ _ (by omega) (by omega) (by simp[hck])) (fun W' hM=>?_);clear g1 f1 s9 HE;obtain⟨a0,a1,a2,a3,a4,a5,a6,a7,a8,a9,a10,a11⟩:=AtL.twelve hM.tok.cells;obtain⟨r0,r1,r2,r3,r4,r5,r6,r7,r8,r9,r10,r11⟩:=AtL.twelve hM.res.cells;have hf:=hM.res.free;have HM:=Lib.hid (hM.done l1);clear hM;go_wp2_with fail;rw[HK2.out];refine bodyPost_ret (v:=tkV t (.slice pp t.ev.data.length cc)) ?_ rfl HM.out;simp[results,Tryz.results121,tkV,go_sem,r0,r1,r2,r3,r4,r5,r6,r7,r8,r9,r10,r11]
end Go.Proofs.YtbfickdgjgbfhaaGreatDoor
