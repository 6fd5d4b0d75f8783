/- joinedBytes. -/
import Derived.Test.YtbfickdgjgbfhaaGreatDoorQTokToTokRes
import Derived.Test.YtbfickdgjgbfhaaGreatDoorQJoinsToPend
import Derived.Laws.AppendOwnNone
set_option linter.unusedVariables false
set_option maxRecDepth 100000
set_option maxHeartbeats 2000000
namespace Go.Proofs.YtbfickdgjgbfhaaGreatDoor
open Go.RowKit
abbrev Qla:=Option Addr×Nat×List UInt8
def Qc2 (r:Qla):Value:=.slice r.1 r.2.2.length r.2.1
def QdV (xs:List Qla):List UInt8:=xs.flatMap fun r=>r.2.2
structure QeT (w:World) (g:Nat) (xs:List Qla):Prop where
  lt:g<w.heap.size
  cell:∀i (h:i<xs.length),w.cell? ⟨g,i,none⟩=some (Qc2 xs[i])
  bs:∀r∈xs,Bs w w.heap.size r.1 r.2.2∧(r.1=none→r.2.1=0)
theorem QeT.on {w w':World} {g:Nat} {xs:List Qla} (h:QeT w g xs) (hb:Below w.heap.size w w'):QeT w' g xs:=
  ⟨Nat.lt_of_lt_of_le h.lt hb.size,fun i hi=>(hb.cell (p:=⟨g,i,none⟩) h.lt).trans (h.cell i hi),fun r hr=>⟨(h.bs r hr).1.on hb,(h.bs r hr).2⟩⟩
theorem Bs.src {w:World} {B:Nat} {p:Option Addr} {l:List UInt8} (h:Bs w B p l):(p=none∧l=[])∨∃ad,p=some ad∧∀j u,(l.map (fun x:UInt8=>Value.int .u8 (x.toNat:Int)))[j]? =some u→w.cell? (ad.add j)=some u:=by
  by_cases hl:l=[]
  · cases p with
    | none=>exact .inl ⟨rfl,hl⟩
    | some ad=>subst hl;exact .inr ⟨ad,rfl,fun j u hj=>by simp at hj⟩
  · obtain⟨b,off,rfl,hb,hc⟩:=h hl;exact .inr ⟨_,rfl,fun j u hj=>Qj3 hc j u hj⟩
def Qmt (w:World) (xs:List Qla) (v i:Value) (wr:World):Prop:=
  ∃j:Nat,j≤xs.length∧i=.int .i64 j∧Own wr w.heap.size v (QdV (xs.take j))∧Below w.heap.size w wr
theorem QjC (xs:List Qla) (j:Nat) (h:j<xs.length):QdV (xs.take (j+1))=QdV (xs.take j)++xs[j].2.2:=by
  unfold QdV;rw[List.take_succ_eq_append_getElem h,List.flatMap_append];simp
theorem QjD (xs:List Qla) (j:Nat):(QdV (xs.take j)).length≤(QdV xs).length:=by
  conv=>rhs;rw[←List.take_append_drop j xs]
  simp only[QdV,List.flatMap_append,List.length_append];omega
theorem YW (g:Nat) (xs:List Qla) (c:Nat) (w:World) (h:QeT w g xs) (hn:xs.length≤1000) (hl:(QdV xs).length≤1048576):
    Calls Tryz.prog 54 #[.slice (some ⟨g,0,none⟩) xs.length c] w (Ql w (QdV xs)):=by
  have H:=Lib.hid h;have HL:=Lib.hid hl;clear h hl;obtain⟨i0,hi,hz0,hz1,hz2⟩:=info_parts Tryz.info_u8;have HI:=Lib.hid (And.intro hi (And.intro hz0 (And.intro hz1 hz2)));clear hi hz0 hz1 hz2;go_enter Tryz.func54,Tryz.ntmps54;go_wp2
  go_loopw [3,5,8] (fun v _ i wr=>Qmt w xs v i wr) (fun _ _ i _=>xs.length - (intOf i).toNat)
  case atStart=>exact⟨0,by omega,rfl,by simpa [QdV] using QT w w.heap.size,Below.refl _ _⟩
  case round=>
    obtain⟨j,hj,rfl,ho,hb⟩:=hrel;have HO:=Lib.hid ho;have HB:=Lib.hid hb;clear ho hb;by_cases hlt:j<xs.length
    · have hR:=H.out.on HB.out;have hc:=hR.cell j hlt;obtain⟨hbs,hnil⟩:=hR.bs xs[j] (List.getElem_mem hlt);have HS:=Lib.hid (QjC xs j hlt);have HT:=Lib.hid (QjD xs (j+1));have hlt2:(j:Int)<(xs.length:Int):=(by omega);unfold Qc2 at hc;have hsz:=HB.out.size;generalize xs[j]=r at *;obtain⟨p,cp,l⟩:=r;dsimp only at hc hbs hnil HS;clear hR;rcases hbs.src with⟨rfl,rfl⟩ | ⟨ad,rfl,hcells⟩
      · have h0:=hnil rfl;subst h0;clear hbs hnil;go_wp2_with (at_builtin;refine wpList_append_own_none rfl _ _ 22 rfl w.heap.size 5 i0 1 Tryz.underlying22 HI.out.1 _ _ _ rfl HO.out rfl ?_);exact⟨⟨j+1,by omega,by go_num,by rw[HS.out,List.append_nil];exact HO.out,HB.out⟩,by simp[intOf];omega⟩
      · have HC:=Lib.hid hcells;have hlen:(QdV (xs.take j)).length+l.length≤1048576:=by
          have h1:=HT.out;rw[HS.out,List.length_append] at h1;exact Nat.le_trans h1 HL.out
        clear hbs hnil hcells;go_wp2_with (at_builtin;refine wpList_append_own _ rfl _ _ 22 rfl w.heap.size 5 i0 (.int .u8 0) 1 1 Tryz.underlying22 HI.out.1 HI.out.2.1 HI.out.2.2.1 HI.out.2.2.2 rfl (by decide) _ _ _ rfl HO.out ad l.length cp (l.map fun x:UInt8=>Value.int .u8 (x.toNat:Int)) rfl (by simp) HC.out (Q6 l) ?c3 ?c4 ?c5 ?_)
        case c3=>unfold maxLen;omega
        case c4=>omega
        case c5=>exact hsz
        intro v' w2 hown' hgrow _;have HX:=Lib.hid (ZD HO.out HB.out hown' hgrow);clear hown' hgrow;go_wp2;exact⟨⟨j+1,by omega,by go_num,by rw[HS.out];exact HX.out.1,HX.out.2⟩,by simp[intOf];omega⟩
    · obtain rfl:j=xs.length:=(by omega);go_wp2;go_ret;exact⟨_,rfl,by simpa using HO.out,HB.out⟩
theorem Uo (p:Option Addr) (c k:Nat) (a:List UInt8) (w:World) (t:TypeId) (h:Bs w w.heap.size p a) (hp:p=none→c=0) (hl:a.length≤1048576) (g:Nat) (hg:g=w.heap.size):
    Calls Tryz.prog 54 #[.slice (some ⟨g,0,none⟩) 1 k] (w.alloc (.cells #[.slice p a.length c] t)) (Ql (w.alloc (.cells #[.slice p a.length c] t)) a):=by
  subst hg;have HR:QeT (w.alloc (.cells #[.slice p a.length c] t)) w.heap.size [(p,c,a)]:=
    ⟨by simp,fun i hi=>by obtain rfl:i=0:=by simpa using hi
                             simp[Qc2],fun r hr=>by obtain rfl:r=(p,c,a):=by simpa using hr
                                                           exact⟨h.alloc _,hp⟩⟩
  have:=YW w.heap.size [(p,c,a)] k _ HR (by simp) (by simpa [QdV] using hl);simpa [QdV] using this
theorem Up (p q:Option Addr) (c d k:Nat) (a b:List UInt8) (w:World) (t:TypeId) (h:Bs w w.heap.size p a) (hp:p=none→c=0) (h2:Bs w w.heap.size q b) (hq:q=none→d=0) (hl:a.length+b.length≤1048576) (g:Nat) (hg:g=w.heap.size) {ls:List UInt8} (hls:a++b=ls):
    Calls Tryz.prog 54 #[.slice (some ⟨g,0,none⟩) 2 k] (w.alloc (.cells #[.slice p a.length c,.slice q b.length d] t)) (Ql (w.alloc (.cells #[.slice p a.length c,.slice q b.length d] t)) ls):=by
  subst hg hls;have HR:QeT (w.alloc (.cells #[.slice p a.length c,.slice q b.length d] t)) w.heap.size [(p,c,a),(q,d,b)]:=
    ⟨by simp,fun i hi=>by
        have:i=0∨i=1:=(by simp at hi;omega);rcases this with rfl | rfl <;> simp[Qc2],fun r hr=>by
        have:r=(p,c,a)∨r=(q,d,b):=(by simpa using hr);rcases this with rfl | rfl
        · exact⟨h.alloc _,hp⟩
        · exact⟨h2.alloc _,hq⟩⟩
  have:=YW w.heap.size [(p,c,a),(q,d,b)] k _ HR (by simp) (by simpa [QdV] using hl);simpa [QdV] using this
theorem QeU (w:World) (a:Addr) (n:Nat) (b:Addr):(w.freeze a n).cell? b=w.cell? b:=by
  unfold World.freeze;split
  · rfl
  · simp only[World.cell?,Array.getElem?_modify];by_cases h:a.block=b.block
    · rw[if_pos h]
      cases w.heap[b.block]? with
      | none=>rfl
      | some o=>cases o <;> rfl
    · rw[if_neg h]
theorem QdW (w:World) (a:Addr) (n k:Nat) (h:a.block≠k):(w.freeze a n).heap[k]? =w.heap[k]?:=by
  unfold World.freeze;split
  · rfl
  · simp only[Array.getElem?_modify];rw[if_neg h]
theorem UP (w:World) (a:Addr) (n:Nat):(w.freeze a n).heap.size=w.heap.size:=by
  unfold World.freeze;split
  · rfl
  · simp
structure QjE (g:Nat) (w w':World):Prop where
  cell:∀a,w'.cell? a=w.cell? a
  size:w'.heap.size=w.heap.size
  below:∀B x,Below B x w→B≤g→Below B x w'
theorem Zd (w:World) (g off n c:Nat):∃w',(convert 22 22 (.slice (some ⟨g,off,none⟩) n c)).run Tryz.prog w=.ok (.slice (some ⟨g,off,none⟩) n c) w'∧QjE g w w':=by
  cases hs:w.shape? g with
  | none=>
    refine⟨w,?_,fun _=>rfl,rfl,fun _ _ h _=>h⟩;simp[convert,run_underlying Tryz.underlying22,run_underlying Tryz.underlying5,markStringish,hs]
  | some x=>
    obtain⟨e,m⟩:=x;refine⟨w.freeze ⟨g,m,none⟩ 1,?_,fun a=>QeU _ _ _ _,UP _ _ _,fun B y h hg=>⟨?_,?_,?_,?_,?_⟩⟩
    · simp[convert,run_underlying Tryz.underlying22,run_underlying Tryz.underlying5,markStringish,hs]
    · exact h.os
    · exact h.tape
    · exact h.output
    · rw[UP];exact h.size
    · intro k hk;rw[QdW _ _ _ _ (by show g≠k;omega)];exact h.block k hk
theorem Bs.marked {g:Nat} {w w':World} {p:Option Addr} {l:List UInt8} (h:Bs w w.heap.size p l) (k:QjE g w w'):Bs w' w'.heap.size p l:=h.keep (by rw[k.size];exact Nat.le_refl _) fun a _=>k.cell a
theorem QkB (w:World) (g:Nat) (l q:List UInt8) (a:Addr) (c:Nat) (ho:∀j u,(l.map (fun x:UInt8=>Value.int .u8 (x.toNat:Int)))[j]? =some u→w.cell? ((⟨g,0,none⟩:Addr).add j)=some u)
    (hn:∀j u,(q.map (fun x:UInt8=>Value.int .u8 (x.toNat:Int)))[j]? =some u→w.cell? (a.add j)=some u) (hq:q≠[]) (hl:l.length+q.length≤1048576):
    ∃v' w',(Builtin.append_ #[22,22] 22 #[.slice (some ⟨g,0,none⟩) l.length l.length,.slice (some a) q.length c]).run Tryz.prog w=.ok v' w'∧Own w' w.heap.size v' (l++q)∧Below w.heap.size w w':=by
  obtain⟨i0,hi,hz0,hz1,hz2⟩:=info_parts Tryz.info_u8;have hpos:0<q.length:=List.length_pos_iff.2 hq;have hb:(l.length+q.length) * i0.bytes≤140737488355328:=(by rw[hz2];omega);have hr:=run_append_grow (P:=Tryz.prog) (w:=w) 22 22 5 i0 (.int .u8 0) Tryz.underlying22 hi hz0 ⟨g,0,none⟩ l.length l.length (l.map (fun x:UInt8=>Value.int .u8 (x.toNat:Int))) (by rw[hz1];simp) ho a q.length c (q.map (fun x:UInt8=>Value.int .u8 (x.toNat:Int))) (by rw[hz1];simp) hn (by omega) (by omega) (growslice_fits (by omega) hb);have hge:=grownCap_ge w (l.length+q.length) l.length 5;have hle:=grownCap_le_maxLen w (l.length+q.length) l.length 5 (by unfold maxLen;omega);generalize grownCap w (l.length+q.length) l.length 5=cap at *;refine⟨_,_,hr,⟨by simp,.inr ⟨w.heap.size,cap,((l.map (fun x:UInt8=>Value.int .u8 (x.toNat:Int))).toArray++(q.map (fun x:UInt8=>Value.int .u8 (x.toNat:Int))).toArray++Builtin.zeroCells (Value.int .u8 0).cells (cap - (l.length+q.length))),by rw[List.length_append],Nat.le_refl _,heap_alloc_new w.drew _,by rw[List.length_append];exact hge,hle,?_,?_⟩⟩,Qa (Qc (Below.refl _ _) 1) (Qb w.drew _)⟩
  · simp[size_zeroCells,Value.cells];omega
  · simp only[Array.toList_append,List.append_assoc,List.map_append,Nat.mul_one];rw[←List.append_assoc,show(l++q).length=(List.map (fun x:UInt8=>Value.int .u8 (x.toNat:Int)) l++List.map (fun x:UInt8=>Value.int .u8 (x.toNat:Int)) q).length by simp];exact List.take_left
theorem Qct {P:Program} (w:World) {o:Oper} {a:Act} {K:Act→World→Prop} {Q:Exit→Act→World→Prop} (s x:Operand) (t:TypeId) (ho:o.op=.call {callee:=.builtin .append,args:=#[s,x],argTypes:=#[t,t] }) (v u:Value) (hs:a.eval s=v) (hx:a.eval x=u) {v':Value} {w':World}
    (hr:(Builtin.append_ #[t,t] o.type #[v,u]).run P w=.ok v' w') (h:K (a.put o.dst v') w'):o.wp P a w K Q:=by
  unfold Oper.wp execOp;simp only[ho,resolve,invoke,builtin,Sem.run_bind,Sem.run_pure,Result.andThen_ok,List.map_toArray,List.map_cons,List.map_nil,hs,hx,hr];exact h
theorem Vx {P:Program} (w:World) {ops:Array Oper} {rest:List Oper} {o:Oper} {a:Act} {Q:Exit→Act→World→Prop} (hgd:o.guard=none) (s x:Operand) (t:TypeId)
    (ho:o.op=.call {callee:=.builtin .append,args:=#[s,x],argTypes:=#[t,t] }) (v u:Value) (hs:a.eval s=v) (hx:a.eval x=u) {v':Value} {w':World}
    (hr:(Builtin.append_ #[t,t] o.type #[v,u]).run P w=.ok v' w') (h:wpList P ops Q rest (a.put o.dst v') w'):wpList P ops Q (o::rest) a w:=
  wpList_plain hgd fun _ hK=>Qct w s x t ho v u hs hx hr (hK _ _ h)
end Go.Proofs.YtbfickdgjgbfhaaGreatDoor
