/- The program's iterator over the pieces between semicolons: its contract. -/
import Derived.Test.YtbfickdgjgbfhaaGreatDoorQDigitsToPieces
import Derived.RangeFuncNested
import Derived.RangeFuncBound
import Derived.RangeFuncCalls
import Derived.RangeFuncLeaves
import Derived.RangeFuncBox
import Derived.Shelf.Abstract
import Derived.Shelf.RegionOpen
import Derived.OwnWalkIn
import Derived.TacticsInMore
import Derived.LoopNIn
import Derived.LoopIn
import Derived.Maps.AppendAt
import Derived.Laws.OwnMore
set_option maxRecDepth 100000
set_option maxHeartbeats 4000000
namespace Go.Proofs.YtbfickdgjgbfhaaGreatDoor
open Go.RowKit Go.Shelf
attribute [local go_sem] Oper.semAt_some
abbrev Pc (w0:World) (n₀:Nat):Type:={x:(Option Addr×Nat)×List UInt8 // Bs w0 n₀ x.1.1 x.2∧x.2.length≤1048576 }
def Pc.bytes {w0:World} {n₀:Nat} (x:Pc w0 n₀):List UInt8:=x.1.2
def Pc.enc {w0:World} {n₀:Nat} (x:Pc w0 n₀):Array Value:=#[.slice x.1.1.1 x.1.2.length x.1.1.2]
def Qjq (r m:Value):Nat:=match m,r with
  | .bool true,.slice _ n _=>n+1
  | _,_=>0
def Qlq (w0:World) (n₀:Nat) (body:List UInt8) (J:List (Pc w0 n₀)→World→Prop) (r m:Value) (wr:World):Prop:=
  ∃(pre:List (Pc w0 n₀)) (rest:List UInt8) (q:Option Addr) (c:Nat),r=.slice q rest.length c∧rest.length≤c∧rest.length≤1048576∧Bs w0 n₀ q rest∧J pre wr∧Below n₀ w0 wr∧
    ((m=.bool true∧pre.map Pc.bytes++sp rest=Yx body)∨(m=.bool false∧pre.map Pc.bytes=Yx body))
theorem KN (W:World) (n:Nat):W.grownBy (W.drewN n) none:=⟨rfl,rfl,rfl,Nat.le_refl _,fun _ _ _=>rfl⟩
theorem Qhs (n:Nat) (hn:1≤n) (l Bn n₀:Nat) (w0:World) (p:Option Addr) (c:Nat) (body:List UInt8) (hb:Bs w0 n₀ p body) (hc:body.length≤c) (hl:body.length≤1048576) (hn0:n₀≤w0.heap.size)
    (J Jx:List (Pc w0 n₀)→World→Prop) (hJ:∀pre (A B:World),J pre A→A.grownBy B none→J pre B)
    (hY:∀pre (x:Pc w0 n₀) W,J pre W→pre.length<(Yx body).length→YieldAt Fence.wide (n - 1) Tryz.prog l x.enc W fun e W'=>
      (e=.returned (.bool true)∧J (pre++[x]) W'∧Below n₀ W W')∨(e=.returned (.bool false)∧Jx (pre++[x]) W'))
    (W:World) (hW:Below n₀ w0 W) (hBn:W.cell? ⟨Bn,0,none⟩=some (.slice p body.length c)) (h0:J [] W):
    CallsIn Fence.wide n Tryz.prog 228 #[.func (.yield l) #[] #[],.pointer (some ⟨Bn,0,none⟩)] W fun e W'=>(∃v,e=.returned v)∧
      ((∃ys,ys.map Pc.bytes=Yx body∧J ys W')∨(∃pre,pre.map Pc.bytes<+:Yx body∧Jx pre W')):=by
  have H0:=Lib.hid h0;have HB:=Lib.hid hb;have HW:=Lib.hid hW;have HY:=Lib.hid hY;have HJ:=Lib.hid hJ;clear h0 hb hW hY hJ;refine callsIn_of_wp Tryz.func228 rfl trivial ?_ rfl;simp only[Tryz.ntmps228,List.size_toArray,List.length_cons,List.length_nil,Nat.reduceAdd,Nat.reduceSub,Array.replicate_succ,Array.replicate_zero,List.push_toArray,List.append_toArray,List.nil_append,List.cons_append];have hst:Qlq w0 n₀ body J (.slice p body.length c) (.bool (decide (0<body.length))) W:=by
    refine⟨[],body,p,c,rfl,hc,hl,HB.out,H0.out,HW.out,?_⟩
    cases body with
    | nil=>exact .inr ⟨rfl,rfl⟩
    | cons x r=>exact .inl ⟨by simp,by simp[Yx]⟩
  have hstart:∀k,Qlq w0 n₀ body J (.slice p body.length c) (.bool (decide (0<body.length))) (W.drewN k):=fun k=>by
    obtain⟨pre,rest,q,c',e1,e2,e3,e4,e5,e6,e7⟩:=hst;exact⟨pre,rest,q,c',e1,e2,e3,e4,HJ.out _ _ _ e5 (KN _ _),Qc e6 _,e7⟩
  have HS:=Lib.hid hstart;clear hst hstart
  gi_wp2
  gi_quiet (fail)
  gi_wp2
  gi_loopw [3,4] (fun r m wr=>Qlq w0 n₀ body J r m wr) (fun r m _=>Qjq r m)
  case atStart=>exact HS.out _
  case round=>
    obtain⟨pre,rest,q,c',rfl,hrc,hrl,hrb,hJs,hB,(⟨rfl,hp⟩ | ⟨rfl,hp⟩)⟩:=hrel
    · have HRB:=Lib.hid hrb;have HJS:=Lib.hid hJs;have HBB:=Lib.hid hB;have HP:=Lib.hid hp;clear hrb hJs hB hp;have hB1:Below n₀ w0 (wr.alloc (.cells #[.int .u8 59] 5)):=HBB.out.alloc (Nat.le_trans hn0 HBB.out.size) _;have HB1:=Lib.hid hB1;clear hB1
      gi_wp2
      refine⟨trivial,(callsIn_wide.2 (QeD _ _ _ _ _ (B:=n₀) (HRB.out.below HB1.out) hrc hrl (by simp))).mono ?_⟩;rintro e W1 (⟨hno,rfl,k,rfl⟩ | ⟨a,b,p1,p2,c2,rfl,hna,rfl,hb1,hb2,hbc,k,rfl⟩)
      · have hpl:pre.length<(Yx body).length:=(by rw[←HP.out];have:=List.length_pos_iff.2 (QlP rest);simp;omega);have hJ1:J pre ((wr.alloc (.cells #[.int .u8 59] 5)).drewN k):=HJ.out _ _ _ (HJ.out _ _ _ HJS.out (World.grownBy_alloc wr _ none)) (KN _ _);have HQ:=Lib.hid hJ1;obtain⟨fn,tmps,assign,bodyC,hy,hR⟩:=HY.out pre ⟨((q,c'),rest),HRB.out,hrl⟩ _ hJ1 hpl;have hps:pre.map Pc.bytes++[rest]=Yx body:=(by rw[←HP.out,QfY rest hno]);have HPS:=Lib.hid hps;clear hJ1 hpl hps;dsimp only[Pc.enc] at hy
        gi_wp2
        refine hR.mono ?_;rintro e W3 (⟨rfl,hJ3,hk3⟩ | ⟨rfl,hJx3⟩)
        · gi_wp2
          go_roundw
          case rel=>exact⟨pre++[⟨((q,c'),rest),HRB.out,hrl⟩],[],none,0,rfl,by simp,by simp,fun h=>absurd rfl h,hJ3,(Qc HB1.out k).trans hk3,.inr ⟨rfl,by rw[List.map_append];exact HPS.out⟩⟩
          case measure=>simp[Qjq]
        · gi_wp2
          refine bodyPost_ret (results_none rfl _ _ _) rfl ?_;exact⟨⟨_,rfl⟩,.inr ⟨_,by rw[List.map_append,←HPS.out];exact List.prefix_refl _,hJx3⟩⟩
      · have hpl:pre.length<(Yx body).length:=(by rw[←HP.out];have:=List.length_pos_iff.2 (QlP (a++59::b));simp;omega);have hJ1:J pre ((wr.alloc (.cells #[.int .u8 59] 5)).drewN k):=HJ.out _ _ _ (HJ.out _ _ _ HJS.out (World.grownBy_alloc wr _ none)) (KN _ _);have hba:Bs w0 n₀ p1 a:=hb1.keep (Nat.le_refl _) fun x hx=>(HB1.out.cell hx).symm;have hbb:Bs w0 n₀ p2 b:=hb2.keep (Nat.le_refl _) fun x hx=>(HB1.out.cell hx).symm;have hal:a.length≤1048576:=(by simp at hrl;omega);have hbl:b.length≤1048576:=(by simp at hrl;omega);obtain⟨fn,tmps,assign,bodyC,hy,hR⟩:=HY.out pre ⟨((p1,c'),a),hba,hal⟩ _ hJ1 hpl;have hps:pre.map Pc.bytes++(a::sp b)=Yx body:=(by rw[←HP.out,QfZ a b hna]);have HPS:=Lib.hid hps;have HBb:=Lib.hid hbb;have HBa:=Lib.hid hba;clear hJ1 hpl hps hb1 hb2 hbb;dsimp only[Pc.enc] at hy
        gi_wp2
        refine hR.mono ?_;rintro e W3 (⟨rfl,hJ3,hk3⟩ | ⟨rfl,hJx3⟩)
        · gi_wp2
          go_roundw
          case rel=>exact⟨pre++[⟨((p1,c'),a),HBa.out,hal⟩],b,p2,c2,rfl,hbc,hbl,HBb.out,hJ3,(Qc HB1.out k).trans hk3,.inl ⟨rfl,by rw[List.map_append,List.append_assoc];exact HPS.out⟩⟩
          case measure=>simp[Qjq];omega
        · gi_wp2
          refine bodyPost_ret (results_none rfl _ _ _) rfl ?_;exact⟨⟨_,rfl⟩,.inr ⟨_,by rw[List.map_append,←HPS.out];exact⟨sp b,by rw[List.append_assoc];rfl⟩,hJx3⟩⟩
    · gi_wp2
      go_end0
      exact⟨⟨_,rfl⟩,.inl ⟨pre,hp,hJs⟩⟩
theorem Qjr (n:Nat) (p:Option Addr) (m c:Nat) (w:World):
    CallsIn Fence.wide n Tryz.prog 219 #[.slice p m c] w fun e w'=>e=.returned (.func (.func 228) #[] #[.pointer (some ⟨w.heap.size,0,none⟩)])∧w'=w.alloc (.cells #[.slice p m c] 22):=by
  refine callsIn_of_wp Tryz.func219 rfl trivial ?_ rfl;simp only[Tryz.ntmps219,List.size_toArray,List.length_cons,List.length_nil,Nat.reduceAdd,Nat.reduceSub,Array.replicate_succ,Array.replicate_zero,List.push_toArray,List.append_toArray,List.nil_append,List.cons_append]
  gi_wp2
  go_ret;exact⟨rfl,rfl⟩
theorem QeE (n:Nat) (hn:1≤n) (Bn n₀:Nat) (w0:World) (p:Option Addr) (c:Nat) (body:List UInt8) (hb:Bs w0 n₀ p body) (hc:body.length≤c) (hl:body.length≤1048576) (hn0:n₀≤w0.heap.size)
    (w:World) (hw:Below n₀ w0 w) (hBn:Bn<w.heap.size) (hcell:w.cell? ⟨Bn,0,none⟩=some (.slice p body.length c)):
    SeqStopsK Fence.wide n Tryz.prog 228 #[.pointer (some ⟨Bn,0,none⟩)] (Pc.enc (w0:=w0) (n₀:=n₀)) (Below n₀) (fun ys=>ys.map Pc.bytes=Yx body) (fun pre=>pre.map Pc.bytes<+:Yx body) (Yx body).length w:=fun l J Jx W hW hJ _ hY h0=>
  Qhs n hn l Bn n₀ w0 p c body hb hc hl hn0 J Jx (fun pre A B h hg=>hJ pre A B none h hg (fun r e=>by cases e)) hY W (hw.trans (hW.mono (Nat.le_trans hn0 hw.size))) ((hW.cell (p:=⟨Bn,0,none⟩) hBn).trans hcell) h0
attribute [local go_sem] Oper.semAt_some
def ZW (w:World) (base:Nat) (v:Value) (l:List Int):Prop:=w.ownsRow base 2 1 v l.length (l.map (Value.int .i64))
theorem Tryz.info_i64:(Tryz.prog.info? 2).map (fun i=>(i.zero,i.size,i.bytes))=some (some (.int .i64 0),1,8):=by kernel_rfl
theorem Boxed.below {w w':World} {B b:Nat} {t:TypeId} {v:Value} (h:Boxed w b t v) (hb:Below B w w') (hlt:b<B):Boxed w' b t v:=(hb.block b hlt).trans h
theorem Qdy {w w':World} {base B size n:Nat} {e:TypeId} {v:Value} {xs:List Value} (h:w.ownsRow base e size v n xs) (hb:Below B w w') (hB:w.heap.size≤B):w'.ownsRow base e size v n xs:=by
  refine⟨h.1,?_⟩;rcases h.2 with h' | ⟨g,cap,cur,rfl,hg,hh,r⟩
  · exact .inl h'
  · refine .inr ⟨g,cap,cur,rfl,hg,(hb.block g ?_).trans hh,r⟩;rcases Nat.lt_or_ge g w.heap.size with h1 | h1
    · omega
    · rw[Array.getElem?_eq_none h1] at hh;cases hh
theorem QgY {W w1:World} (hb:Below W.heap.size W w1):(∀b o,b<W.heap.size→w1.cell? ⟨b,o,none⟩=W.cell? ⟨b,o,none⟩)∧(∀b o,b<W.heap.size→w1.frozen? ⟨b,o,none⟩=W.frozen? ⟨b,o,none⟩):=
  ⟨fun b o h=>hb.cell (p:=⟨b,o,none⟩) h,fun b o h=>hb.frozen (p:=⟨b,o,none⟩) h⟩
def XO (l:List UInt8):List Int:=(Yx l).map Z2
def fits (l:List UInt8):Bool:=decide ((Yx l).length≤4)
def KO (w:World) (l:List UInt8) (e:Ending) (w':World):Prop:=
  ∃v,e=.returned (.tuple #[v,.bool (fits l)])∧ZW w' w.heap.size v (if fits l=true then XO l else [])∧Below w.heap.size w w'
def Ql9 (w:World) (pre:List (Pc w w.heap.size)) (W:World):Prop:=
  (∃v,Boxed W (w.heap.size+2) 46 v∧W.ownsRow w.heap.size 2 1 v pre.length ((pre.map fun x=>Z2 x.bytes).map (Value.int .i64))∧True)∧
    (pre.length≤4∧Boxed W w.heap.size 46 (.slice none 0 0)∧Boxed W (w.heap.size+1) 4 (.bool false))∧Below w.heap.size w W
def Qmm (w:World) (c:Code) (pre:List (Pc w w.heap.size)) (W:World):Prop:=
  (c=.ret∧5≤pre.length∧Boxed W w.heap.size 46 (.slice none 0 0)∧Boxed W (w.heap.size+1) 4 (.bool false))∧Below w.heap.size w W
theorem QaE {a b:World} (h:Below a.heap.size a b):a.grownBy b none:=⟨h.os,h.tape,h.output,h.size,fun i hi _=>h.block i hi⟩
theorem JU {B:Nat} {a b:World} (h:Below B a.drew b):Below B a b:=⟨h.os,h.tape,h.output,h.size,h.block⟩
theorem Bs.drew {w:World} {B:Nat} {p:Option Addr} {l:List UInt8} (h:Bs w B p l):Bs w.drew B p l:=h
theorem YP {b:Nat} {t:TypeId} {v:Value} {A B:World} {row:Option Nat} (h:Boxed A b t v) (hg:A.grownBy B row) (hr:∀r,row=some r→∃o:Obj,A.heap[r]? =some o∧o.isCells=false):Boxed B b t v:=
  h.kept hg fun e=>by
    obtain⟨o,ho,hc⟩:=hr b e.symm;rw[show A.heap[b]? =_ from h] at ho;cases ho;cases hc
theorem Qkt (w:World) (B:Nat) (hB:w.heap.size≤B):OwnFrom B (Ql9 w):=
  OwnFrom.and (Own.from (holdsRow_own w.heap.size (w.heap.size+2) 46 2 1 (fun pre:List (Pc w w.heap.size)=>pre.length) (fun pre=>(pre.map fun x=>Z2 x.bytes).map (Value.int .i64)) (fun _ _=>True)) _)
    (OwnFrom.and (Own.from (fun _ _ _ _ hs hg hr=>⟨hs.1,YP hs.2.1 hg hr,YP hs.2.2 hg hr⟩) _) (ownFrom_below (Nat.le_refl _) hB))
theorem Qku (w:World) (B:Nat) (hB:w.heap.size≤B) (c:Code):OwnFrom B (Qmm w c):=
  OwnFrom.and (Own.from (fun _ _ _ _ hs hg hr=>⟨hs.1,hs.2.1,YP hs.2.2.1 hg hr,YP hs.2.2.2 hg hr⟩) _) (ownFrom_below (Nat.le_refl _) hB)
def Qma (W W1:World) (n₀ B:Nat) (v:Value) (x:Int) (k:Nat) (xs:List Value):Prop:=
  ∃g cap w2,(∀ty,(Builtin.append_ #[46,46] ty #[v,.slice (some ⟨W1.heap.size,0,none⟩) 1 1]).run Tryz.prog (W1.alloc (.cells #[.int .i64 x] 2))=.ok (.slice (some ⟨g,0,none⟩) (k+1) cap) w2)∧
    Boxed w2 B 46 v∧Boxed (w2.setCell ⟨B,0,none⟩ (.slice (some ⟨g,0,none⟩) (k+1) cap)) B 46 (.slice (some ⟨g,0,none⟩) (k+1) cap)∧
    (w2.setCell ⟨B,0,none⟩ (.slice (some ⟨g,0,none⟩) (k+1) cap)).ownsRow n₀ 2 1 (.slice (some ⟨g,0,none⟩) (k+1) cap) (k+1) (xs++[.int .i64 x])∧
    KeepsOthers W (w2.setCell ⟨B,0,none⟩ (.slice (some ⟨g,0,none⟩) (k+1) cap))∧Below n₀ W (w2.setCell ⟨B,0,none⟩ (.slice (some ⟨g,0,none⟩) (k+1) cap))∧
    (∀b t u,Boxed W b t u→b≠B→t≠2→Boxed (w2.setCell ⟨B,0,none⟩ (.slice (some ⟨g,0,none⟩) (k+1) cap)) b t u)
theorem Qht {W W1:World} {n₀ B:Nat} {v:Value} {x:Int} {k:Nat} {xs:List Value} (hb:Below W.heap.size W W1) (hv:Boxed W B 46 v) (hrow:W.ownsRow n₀ 2 1 v k xs) (hn₀:n₀≤W.heap.size) (hB:n₀≤B) (hk:k≤1000):
    Qma W W1 n₀ B v x k xs:=by
  obtain⟨i0,hi,hz0,hz1,hz2⟩:=info_parts Tryz.info_i64;have hrow1:=Qdy hrow hb (Nat.le_refl _);have hv1:Boxed W1 B 46 v:=Boxed.below hv hb hv.lt;have hn1:n₀≤W1.heap.size:=Nat.le_trans hn₀ hb.size;obtain⟨v',w2,hrun,hown',hgrow,_,_⟩:=run_append_own_at (P:=Tryz.prog) (W1.alloc (.cells #[.int .i64 x] 2)) n₀ 46 46 2 i0 (.int .i64 0) 1 8 Tryz.underlying46 hi hz0 hz1 hz2 rfl (by decide) v k xs (hrow1.alloc _) ⟨W1.heap.size,0,none⟩ 1 1 [.int .i64 x] rfl (cell_one_new _ _ _) (by simp[Value.oneCell']) (by unfold maxLen;omega) (by omega) (by simp;omega);obtain⟨g,cap,rfl⟩:=ownsRow_succ hown';obtain⟨a1,a2,a3,a4,a5⟩:=hv1.appended (by decide) hrow1 hn1 hB hown' hgrow;refine⟨g,cap,w2,fun ty=>hrun,a1,a2,by simpa using a3,(KeepsOthers.of_grownBy (QaE hb) (fun j o ej hj=>by cases ej)).trans a4,(hb.mono hn₀).trans a5,?_⟩;intro b t u hbx hne ht;have h1:Boxed W1 b t u:=Boxed.below hbx hb hbx.lt;have h2:Boxed w2 b t u:=(h1.alloc _).kept hgrow (h1.not_row ht hrow1);exact h2.kept (grownBy_setCell' w2 B _) (fun e=>hne (by simpa using e))
theorem YU {F:Fence} {n:Nat} {P:Program} {w:World} {ops:Array Oper} {o:Oper} {a:Act} {K:Act→World→Prop} {Q:Exit→Act→World→Prop} {E:Prop} (hgd:o.guard=none) (s x:Operand) (t:TypeId)
    (hop:o.op=Op.call {callee:=Callee.builtin Builtin.append,args:=#[s,x],argTypes:=#[t,t] }) (v u:Value) (hs:a.eval s=v) (hx:a.eval x=u) (v':Value) (w':World)
    (hrun:(Builtin.append_ #[t,t] o.type #[v,u]).run P w=.ok v' w') (hK:K (a.put o.dst v') w'):if Region.wanted o (yielded ops a.tmps)=true then Oper.wpIn F n P o a w K Q else E:=by
  have hw:Region.wanted o (yielded ops a.tmps)=true:=(by simp[Region.wanted,hgd]);rw[if_pos hw];unfold Oper.wpIn;refine⟨?_,?_⟩
  · simp[Oper.about,hop,resolve,Target.leads,Sem.run_pure]
  · rw[Oper.semAt_plain F _ _ (by rw[hop];intro c hc';cases hc')];simp[execOp,hop,resolve,invoke,builtin,hs,hx,hrun,Result.andThen];exact hK
theorem JV {w W W':World} (pre:List (Pc w w.heap.size)) (x:Pc w w.heap.size) (v:Value) (hp4:pre.length≤4) (h4:¬pre.length=4) (hv2:Boxed W w.heap.size 46 (.slice none 0 0)) (hv3:Boxed W (w.heap.size+1) 4 (.bool false)) (hB:Below w.heap.size w W)
    (c2:Boxed W' (w.heap.size+2) 46 v) (c3:W'.ownsRow w.heap.size 2 1 v (pre.length+1) ((pre.map fun x=>Z2 x.bytes).map (Value.int .i64)++[.int .i64 (Z2 x.bytes)])) (c4:KeepsOthers W W') (c5:Below w.heap.size W W')
    (c6:∀b t u,Boxed W b t u→b≠w.heap.size+2→t≠2→Boxed W' b t u):KeepsOthers W W'∧Below w.heap.size W W'∧Ql9 w (pre++[x]) W':=
  ⟨c4,c5,⟨v,c2,by simpa using c3,trivial⟩,⟨by simp;omega,c6 _ _ _ hv2 (by omega) (by decide),c6 _ _ _ hv3 (by omega) (by decide)⟩,hB.trans c5⟩
theorem QeF (p:Option Addr) (c:Nat) (l:List UInt8) (w:World) (hb:Bs w w.heap.size p l) (hc:l.length≤c) (hl:l.length≤1048576):
    CallsIn Fence.wide 9 Tryz.prog 210 #[.slice p l.length c] w (KO w l):=by
  obtain⟨i0,hi,hz0,hz1,hz2⟩:=info_parts Tryz.info_i64;refine callsIn_of_wp_marks Tryz.func210 rfl trivial ?_ rfl;simp only[Tryz.ntmps210,List.size_toArray,List.length_cons,List.length_nil,Nat.reduceAdd,Nat.reduceSub,Array.replicate_succ,Array.replicate_zero,List.push_toArray,List.append_toArray,List.nil_append,List.cons_append];have HB:=Lib.hid hb;clear hb
  gi_wp2_with (refine⟨trivial,?_⟩;gi_at_call 219;refine(Qjr _ _ _ _ _).mono ?_;rintro e w' ⟨rfl,rfl⟩)
  have b2:=Boxed.new w 46 (.slice none 0 0);have b3:=Boxed.new (w.alloc (.cells #[.slice none 0 0] 46)) 4 (.bool false);have b4:=Boxed.new ((w.alloc (.cells #[.slice none 0 0] 46)).alloc (.cells #[.bool false] 4)) 46 (.slice none 0 0);have bN:=Boxed.new (((w.alloc (.cells #[.slice none 0 0] 46)).alloc (.cells #[.bool false] 4)).alloc (.cells #[.slice none 0 0] 46)) 22 (.slice p l.length c);simp only[World.size_alloc] at b3 b4 bN;have hB0:Below w.heap.size w ((((w.alloc (.cells #[.slice none 0 0] 46)).alloc (.cells #[.bool false] 4)).alloc (.cells #[.slice none 0 0] 46)).alloc (.cells #[.slice p l.length c] 22)):=
    ((((Below.refl _ w).alloc (Nat.le_refl _) _).alloc (by simp) _).alloc (by simp;omega) _).alloc (by simp;omega) _
  refine wpIn_rangeFunc_ownF rfl (by omega) (gf:=228) (lb:=#[.pointer (some ⟨w.heap.size+1+1+1,0,none⟩)]) rfl trivial (enters_of Tryz.func228 (by kernel_rfl) rfl)
    (QeE 8 (by omega) (w.heap.size+1+1+1) w.heap.size w p c l HB.out hc hl (Nat.le_refl _) _ hB0 (by simp) bN.cell) belowK_t (belowK_b (by simp;omega)) (Below.refl _ _) (fun _=>rfl)
    (Ql9 w) (Qmm w) (Qkt w _ (by simp;omega)) (Qku w _ (by simp;omega))
    ⟨⟨_,b4.alloc _,World.ownsRow_nil _ _ _ _,trivial⟩,⟨by simp,((b2.alloc _).alloc _).alloc _,(b3.alloc _).alloc _⟩,hB0⟩
    (fun x=>{tmps:=#[.slice p l.length c,undef,.pointer (some ⟨w.heap.size,0,none⟩),.pointer (some ⟨w.heap.size+1,0,none⟩),.pointer (some ⟨w.heap.size+1+1,0,none⟩),.slice x.1.1.1 x.1.2.length x.1.1.2,.slice p l.length c,.func (.func 228) #[] #[.pointer (some ⟨w.heap.size+1+1+1,0,none⟩)],.slice x.1.1.1 x.1.2.length x.1.1.2,undef,undef,undef,undef,undef,undef,undef,undef,undef,undef],defers:=[] }) ?assign ?body ?done ?stop
  case assign=>
    intro ll x W K hK;dsimp only[Pc.enc]
    gi_wp2
    exact hK
  case body=>
    rintro ll pre x W ⟨⟨v,hv,hrow,_⟩,⟨hp4,hv2,hv3⟩,hB⟩ hlt;have hsz:=hB.size;obtain⟨⟨⟨q,cq⟩,xl⟩,hxb,hxl⟩:=x;dsimp only at hxb hxl ⊢;have hc4:=hv.cell;obtain⟨g,gc,hgv⟩:∃g gc,v=.slice g pre.length gc:=by
      rcases hrow.2 with⟨rfl,h0⟩ | ⟨g,cap,_,rfl,_⟩
      · exact⟨_,_,by rw[h0]⟩
      · exact⟨_,_,rfl⟩
    subst hgv;have HR:=Lib.hid hrow;have HBW:=Lib.hid hB;clear hrow hB;by_cases h4:pre.length=4
    · have h4':((pre.length:Int)==4)=true:=(by simp[h4]);have hc2:=hv2.cell;have hf2:=hv2.frozen;have hc3:=hv3.cell;have hf3:=hv3.frozen
      gi_wp2
      have e2:=(hv2.set (.slice none 0 0)).kept (grownBy_setCell' _ (w.heap.size+1) (.bool false)) (by simp);have e3:=(hv3.kept (grownBy_setCell' W w.heap.size (.slice none 0 0)) (by simp)).set (.bool false);exact⟨(KeepsOthers.setCell _ _ _).trans (KeepsOthers.setCell _ _ _),⟨rfl,by simp;omega,e2,e3⟩,(HBW.out.setCell (p:=⟨w.heap.size,0,none⟩) (Nat.le_refl _) _).setCell (p:=⟨w.heap.size+1,0,none⟩) (by simp) _⟩
    · have h4':((pre.length:Int)==4)=false:=(by simp;omega);have hmx:Tryz.prog.follows .mixedOrders=true:=(by kernel_rfl);have HX:Hid (Bs W W.heap.size q xl):=(hxb.below HBW.out).more hsz;have HAfter:=Lib.hid (fun W1 hb=>Qht (W:=W) (W1:=W1) (x:=Z2 xl) hb hv HR.out hsz (show w.heap.size≤w.heap.size+2 by omega) (by omega));have hblt:w.heap.size+2<W.heap.size:=hv.lt;have hfd:∀(a b:Int) (w:World),(Instr.field 212 (.agg #[.int .i64 a,.int .i64 b]) 1).run Tryz.prog w=.ok (.int .i64 b) w:=fun _ _ _=>by kernel_rfl
      gi_wp2
      refine wpIn_region_any (by kernel_rfl) ?_;change wpAnyIn _ _ _ _ _ _ _ _ _ (World.drew _);refine wpAnyIn_ready (rs:=[0,1]) (by kernel_rfl) (by simp) ?_;refine AllReadyIn.cons rfl (fun K hK=>?_) (AllReadyIn.cons rfl (fun K hK=>?_) AllReadyIn.nil)
      · go_simp;refine hK _ _ ?_;clear hK K;refine wpAnyIn_ready (rs:=[1]) (by kernel_rfl) (by simp) ?_;refine AllReadyIn.cons rfl (fun K hK=>?_) AllReadyIn.nil;go_simp;refine hK _ _ ?_;clear hK K;refine wpAnyIn_ready (rs:=[2]) (by kernel_rfl) (by simp) ?_;refine AllReadyIn.cons rfl (fun K hK=>?_) AllReadyIn.nil;go_simp;refine⟨trivial,(CallsIn.inRound ll (callsIn_wide.2 (Zs _ _ _ _ HX.out.drew hxl))).mono ?_⟩;rintro e W1 ⟨rfl,hb0⟩;have hb1:Below W.heap.size W W1:=JU hb0;clear hb0;unfold irV;refine hK _ _ ?_;clear hK K;obtain⟨gg,gcap,w2,hrun,c1,c2,c3,c4,c5,c6⟩:=HAfter.out _ hb1;have HRUN:=Lib.hid hrun;have HC6:=Lib.hid c6;have hcc:W1.cell? ⟨w.heap.size+1+1,0,none⟩=some (.slice g pre.length gc):=(Boxed.below hv hb1 hv.lt).cell;have hlt1:w.heap.size+1+1<W1.heap.size:=Nat.lt_of_lt_of_le hblt hb1.size;have d1:w2.cell? ⟨w.heap.size+1+1,0,none⟩=some (.slice g pre.length gc):=c1.cell;have d2:w2.frozen? ⟨w.heap.size+1+1,0,none⟩=false:=c1.frozen;clear hrun c6;refine wpAnyIn_ready (rs:=[3]) (by kernel_rfl) (by simp) ?_;refine AllReadyIn.cons rfl (fun K hK=>?_) AllReadyIn.nil;go_simp;refine hK _ _ ?_;clear hK K;refine wpAnyIn_ready (rs:=[4]) (by kernel_rfl) (by simp) ?_;refine AllReadyIn.cons rfl (fun K hK=>?_) AllReadyIn.nil;go_simp;refine hK _ _ ?_;clear hK K;refine wpAnyIn_ready (rs:=[5]) (by kernel_rfl) (by simp) ?_;refine AllReadyIn.cons rfl (fun K hK=>?_) AllReadyIn.nil;refine YU rfl (.tmp 12) (.tmp 16) 46 rfl _ _ rfl rfl _ _ (HRUN.out _) ?_;refine hK _ _ ?_;clear hK K;refine wpAnyIn_ready (rs:=[6]) (by kernel_rfl) (by simp) ?_;refine AllReadyIn.cons rfl (fun K hK=>?_) AllReadyIn.nil;go_simp;refine hK _ _ ?_;clear hK K;refine wpAnyIn_done (by kernel_rfl) ?_ _
        gi_wp2
        exact JV pre _ _ hp4 h4 hv2 hv3 HBW.out c2 c3 c4 c5 HC6.out
      · go_simp;refine hK _ _ ?_;clear hK K;refine wpAnyIn_ready (rs:=[0,2]) (by kernel_rfl) (by simp) ?_;refine AllReadyIn.cons rfl (fun K hK=>?_) (AllReadyIn.cons rfl (fun K hK=>?_) AllReadyIn.nil)
        · go_simp;refine hK _ _ ?_;clear hK K;refine wpAnyIn_ready (rs:=[2]) (by kernel_rfl) (by simp) ?_;refine AllReadyIn.cons rfl (fun K hK=>?_) AllReadyIn.nil;go_simp;refine⟨trivial,(CallsIn.inRound ll (callsIn_wide.2 (Zs _ _ _ _ HX.out.drew hxl))).mono ?_⟩;rintro e W1 ⟨rfl,hb0⟩;have hb1:Below W.heap.size W W1:=JU hb0;clear hb0;unfold irV;refine hK _ _ ?_;clear hK K;obtain⟨gg,gcap,w2,hrun,c1,c2,c3,c4,c5,c6⟩:=HAfter.out _ hb1;have HRUN:=Lib.hid hrun;have HC6:=Lib.hid c6;have hcc:W1.cell? ⟨w.heap.size+1+1,0,none⟩=some (.slice g pre.length gc):=(Boxed.below hv hb1 hv.lt).cell;have hlt1:w.heap.size+1+1<W1.heap.size:=Nat.lt_of_lt_of_le hblt hb1.size;have d1:w2.cell? ⟨w.heap.size+1+1,0,none⟩=some (.slice g pre.length gc):=c1.cell;have d2:w2.frozen? ⟨w.heap.size+1+1,0,none⟩=false:=c1.frozen;clear hrun c6;refine wpAnyIn_ready (rs:=[3]) (by kernel_rfl) (by simp) ?_;refine AllReadyIn.cons rfl (fun K hK=>?_) AllReadyIn.nil;go_simp;refine hK _ _ ?_;clear hK K;refine wpAnyIn_ready (rs:=[4]) (by kernel_rfl) (by simp) ?_;refine AllReadyIn.cons rfl (fun K hK=>?_) AllReadyIn.nil;go_simp;refine hK _ _ ?_;clear hK K;refine wpAnyIn_ready (rs:=[5]) (by kernel_rfl) (by simp) ?_;refine AllReadyIn.cons rfl (fun K hK=>?_) AllReadyIn.nil;refine YU rfl (.tmp 12) (.tmp 16) 46 rfl _ _ rfl rfl _ _ (HRUN.out _) ?_;refine hK _ _ ?_;clear hK K;refine wpAnyIn_ready (rs:=[6]) (by kernel_rfl) (by simp) ?_;refine AllReadyIn.cons rfl (fun K hK=>?_) AllReadyIn.nil;go_simp;refine hK _ _ ?_;clear hK K;refine wpAnyIn_done (by kernel_rfl) ?_ _
          gi_wp2
          exact JV pre _ _ hp4 h4 hv2 hv3 HBW.out c2 c3 c4 c5 HC6.out
        · go_simp;refine⟨trivial,(CallsIn.inRound ll (callsIn_wide.2 (Zs _ _ _ _ HX.out.drew hxl))).mono ?_⟩;rintro e W1 ⟨rfl,hb0⟩;have hb1:Below W.heap.size W W1:=JU hb0;clear hb0;unfold irV;refine hK _ _ ?_;clear hK K;obtain⟨gg,gcap,w2,hrun,c1,c2,c3,c4,c5,c6⟩:=HAfter.out _ hb1;have HRUN:=Lib.hid hrun;have HC6:=Lib.hid c6;have hcc:W1.cell? ⟨w.heap.size+1+1,0,none⟩=some (.slice g pre.length gc):=(Boxed.below hv hb1 hv.lt).cell;have hlt1:w.heap.size+1+1<W1.heap.size:=Nat.lt_of_lt_of_le hblt hb1.size;have d1:w2.cell? ⟨w.heap.size+1+1,0,none⟩=some (.slice g pre.length gc):=c1.cell;have d2:w2.frozen? ⟨w.heap.size+1+1,0,none⟩=false:=c1.frozen;clear hrun c6;refine wpAnyIn_ready (rs:=[0,3]) (by kernel_rfl) (by simp) ?_;refine AllReadyIn.cons rfl (fun K hK=>?_) (AllReadyIn.cons rfl (fun K hK=>?_) AllReadyIn.nil)
          · go_simp;refine hK _ _ ?_;clear hK K;refine wpAnyIn_ready (rs:=[3]) (by kernel_rfl) (by simp) ?_;refine AllReadyIn.cons rfl (fun K hK=>?_) AllReadyIn.nil;go_simp;refine hK _ _ ?_;clear hK K;refine wpAnyIn_ready (rs:=[4]) (by kernel_rfl) (by simp) ?_;refine AllReadyIn.cons rfl (fun K hK=>?_) AllReadyIn.nil;go_simp;refine hK _ _ ?_;clear hK K;refine wpAnyIn_ready (rs:=[5]) (by kernel_rfl) (by simp) ?_;refine AllReadyIn.cons rfl (fun K hK=>?_) AllReadyIn.nil;refine YU rfl (.tmp 12) (.tmp 16) 46 rfl _ _ rfl rfl _ _ (HRUN.out _) ?_;refine hK _ _ ?_;clear hK K;refine wpAnyIn_ready (rs:=[6]) (by kernel_rfl) (by simp) ?_;refine AllReadyIn.cons rfl (fun K hK=>?_) AllReadyIn.nil;go_simp;refine hK _ _ ?_;clear hK K;refine wpAnyIn_done (by kernel_rfl) ?_ _
            gi_wp2
            exact JV pre _ _ hp4 h4 hv2 hv3 HBW.out c2 c3 c4 c5 HC6.out
          · go_simp;refine hK _ _ ?_;clear hK K;refine wpAnyIn_ready (rs:=[0,4]) (by kernel_rfl) (by simp) ?_;refine AllReadyIn.cons rfl (fun K hK=>?_) (AllReadyIn.cons rfl (fun K hK=>?_) AllReadyIn.nil)
            · go_simp;refine hK _ _ ?_;clear hK K;refine wpAnyIn_ready (rs:=[4]) (by kernel_rfl) (by simp) ?_;refine AllReadyIn.cons rfl (fun K hK=>?_) AllReadyIn.nil;go_simp;refine hK _ _ ?_;clear hK K;refine wpAnyIn_ready (rs:=[5]) (by kernel_rfl) (by simp) ?_;refine AllReadyIn.cons rfl (fun K hK=>?_) AllReadyIn.nil;refine YU rfl (.tmp 12) (.tmp 16) 46 rfl _ _ rfl rfl _ _ (HRUN.out _) ?_;refine hK _ _ ?_;clear hK K;refine wpAnyIn_ready (rs:=[6]) (by kernel_rfl) (by simp) ?_;refine AllReadyIn.cons rfl (fun K hK=>?_) AllReadyIn.nil;go_simp;refine hK _ _ ?_;clear hK K;refine wpAnyIn_done (by kernel_rfl) ?_ _
              gi_wp2
              exact JV pre _ _ hp4 h4 hv2 hv3 HBW.out c2 c3 c4 c5 HC6.out
            · go_simp;refine hK _ _ ?_;clear hK K;refine wpAnyIn_ready (rs:=[0]) (by kernel_rfl) (by simp) ?_;refine AllReadyIn.cons rfl (fun K hK=>?_) AllReadyIn.nil;go_simp;refine hK _ _ ?_;clear hK K;refine wpAnyIn_ready (rs:=[5]) (by kernel_rfl) (by simp) ?_;refine AllReadyIn.cons rfl (fun K hK=>?_) AllReadyIn.nil;refine YU rfl (.tmp 12) (.tmp 16) 46 rfl _ _ rfl rfl _ _ (HRUN.out _) ?_;refine hK _ _ ?_;clear hK K;refine wpAnyIn_ready (rs:=[6]) (by kernel_rfl) (by simp) ?_;refine AllReadyIn.cons rfl (fun K hK=>?_) AllReadyIn.nil;go_simp;refine hK _ _ ?_;clear hK K;refine wpAnyIn_done (by kernel_rfl) ?_ _
              gi_wp2
              exact JV pre _ _ hp4 h4 hv2 hv3 HBW.out c2 c3 c4 c5 HC6.out
  case done=>
    rintro D ys W hD hys ⟨⟨v,hv,hrow,_⟩,⟨hp4,hv2,hv3⟩,hB⟩ hK;have hc4:=hv.cell;have hc2:=hv2.cell;have hf2:=hv2.frozen;have hc3:=hv3.cell;have hf3:=hv3.frozen;obtain⟨g,gc,hgv⟩:∃g gc,v=.slice g ys.length gc:=by
      rcases hrow.2 with⟨rfl,h0⟩ | ⟨g,cap,_,rfl,_⟩
      · exact⟨_,_,by rw[h0]⟩
      · exact⟨_,_,rfl⟩
    subst hgv
    gi_wp2
    have e2:=(hv2.set (.slice g ys.length gc)).kept (grownBy_setCell' _ (w.heap.size+1) (.bool true)) (by simp);have e3:=(hv3.kept (grownBy_setCell' W w.heap.size (.slice g ys.length gc)) (by simp)).set (.bool true);have hrow1:=hrow.kept (grownBy_setCell' W w.heap.size (.slice g ys.length gc)) (.inr (hv2.not_row (by decide) hrow).symm);have hrow2:=hrow1.kept (grownBy_setCell' _ (w.heap.size+1) (.bool true)) (.inr ((hv3.kept (grownBy_setCell' W w.heap.size (.slice g ys.length gc)) (by simp)).not_row (by decide) hrow1).symm);have hK':=(KeepsOthers.setCell (W.setCell ⟨w.heap.size,0,none⟩ (.slice g ys.length gc)) ⟨w.heap.size+1,0,none⟩ (.bool true)).same D _ ((KeepsOthers.setCell W ⟨w.heap.size,0,none⟩ (.slice g ys.length gc)).same D _ hK rfl) rfl;refine⟨by simp,.inl ⟨_,_,rfl,run_takeDeferred hK',?_⟩⟩;have f2:=(YP e2 (grownBy_putObj' _ D (.deferred none)) (fun r e=>by cases e;exact⟨_,hK',rfl⟩)).cell;have f3:=(YP e3 (grownBy_putObj' _ D (.deferred none)) (fun r e=>by cases e;exact⟨_,hK',rfl⟩)).cell;have hpl:(Yx l).length=ys.length:=(by rw[←hys,List.length_map]);have hfit:fits l=true:=(by unfold fits;rw[hpl];simpa using hp4);have hnum:XO l=ys.map fun x=>Z2 x.bytes:=(by rw[XO,←hys,List.map_map];rfl);refine⟨.tuple #[.slice g ys.length gc,.bool true],?_,_,by rw[hfit],?_,((hB.setCell (p:=⟨w.heap.size,0,none⟩) (Nat.le_refl _) _).setCell (p:=⟨w.heap.size+1,0,none⟩) (by simp) _).trans (belowK_b (w:=w) (Nat.le_refl _) _ D _ _ (by simp at hD;omega) hK' rfl rfl)⟩
    · simp[results,Tryz.f210,go_sem,f2,f3]
    · rw[if_pos hfit,hnum,ZW,List.length_map];exact ownsRow_putObj hrow2 _ hK' rfl
  case stop=>
    rintro D cc pre W hD hpre ⟨⟨rfl,hp5,hv2,hv3⟩,hB⟩ hK;have hc2:=hv2.cell;have hc3:=hv3.cell
    gi_wp2
    refine⟨by simp,.inl ⟨_,_,rfl,run_takeDeferred hK,?_⟩⟩;have f2:=(YP hv2 (grownBy_putObj' _ D (.deferred none)) (fun r e=>by cases e;exact⟨_,hK,rfl⟩)).cell;have f3:=(YP hv3 (grownBy_putObj' _ D (.deferred none)) (fun r e=>by cases e;exact⟨_,hK,rfl⟩)).cell;have hpl:pre.length≤(Yx l).length:=(by have:=hpre.length_le;rwa [List.length_map] at this);have hfit:fits l=false:=(by unfold fits;simp;omega);refine⟨.tuple #[.slice none 0 0,.bool false],?_,_,by rw[hfit],?_,hB.trans (belowK_b (w:=w) (Nat.le_refl _) _ D _ _ (by simp at hD;omega) hK rfl rfl)⟩
    · simp[results,Tryz.f210,go_sem,f2,f3]
    · rw[hfit];exact World.ownsRow_nil _ _ _ _
theorem Qdz (p:Option Addr) (c:Nat) (l:List UInt8) (w:World) (hb:Bs w w.heap.size p l) (hc:l.length≤c) (hl:l.length≤1048576):
    Calls Tryz.prog 210 #[.slice p l.length c] w (KO w l):=callsIn_wide.1 (QeF p c l w hb hc hl)
end Go.Proofs.YtbfickdgjgbfhaaGreatDoor
namespace Go.Proofs.YtbfickdgjgbfhaaGreatDoor
open Go.RowKit
def Is (w:World) (B:Nat) (p:Option Addr) (l:List Int):Prop:=
  l≠[]→∃b off,p=some ⟨b,off,none⟩∧b<B∧∀i,i<l.length→w.cell? ⟨b,off+i,none⟩=some (.int .i64 (l.getD i 0))
theorem Is.keep {w w':World} {B B':Nat} {p:Option Addr} {l:List Int} (h:Is w B p l) (hB:B≤B') (hk:∀a:Addr,a.block<B→w'.cell? a=w.cell? a):Is w' B' p l:=by
  intro hl;obtain⟨b,off,e,hb,hc⟩:=h hl;exact⟨b,off,e,by omega,fun i hi=>(hk ⟨b,off+i,none⟩ hb).trans (hc i hi)⟩
theorem Is.below {w w':World} {B:Nat} {p:Option Addr} {l:List Int} (h:Is w B p l) (hb:Below B w w'):Is w' B p l:=h.keep (Nat.le_refl _) fun _ ha=>hb.cell ha
theorem Is.more {w:World} {B B':Nat} {p:Option Addr} {l:List Int} (h:Is w B p l) (hB:B≤B'):Is w B' p l:=h.keep hB fun _ _=>rfl
theorem Is.on {w w':World} {p:Option Addr} {l:List Int} (h:Is w w.heap.size p l) (hb:Below w.heap.size w w'):Is w' w'.heap.size p l:=(h.below hb).more hb.size
theorem Is.alloc {w:World} {p:Option Addr} {l:List Int} (h:Is w w.heap.size p l) (o:Obj):Is (w.alloc o) (w.alloc o).heap.size p l:=
  h.keep (by simp) fun a ha=>World.cell?_alloc_lt w o a ha
theorem ZW.form2 {w:World} {base:Nat} {v:Value} {l:List Int} (h:ZW w base v l):
    (v=.slice none 0 0∧l=[])∨∃g cap,v=.slice (some ⟨g,0,none⟩) l.length cap∧base≤g∧g<w.heap.size∧v.ownBlock=some g:=by
  rcases h.2 with⟨rfl,hn⟩ | ⟨g,cap,cur,rfl,hb,hh,_⟩
  · exact .inl ⟨rfl,List.eq_nil_of_length_eq_zero hn⟩
  · refine .inr ⟨g,cap,rfl,hb,?_,rfl⟩;rcases Nat.lt_or_ge g w.heap.size with h | h
    · exact h
    · rw[Array.getElem?_eq_none h] at hh;cases hh
theorem ZW.slice {w:World} {base:Nat} {v:Value} {l:List Int} (h:ZW w base v l):∃p c,v=.slice p l.length c:=by
  rcases h.form2 with⟨rfl,rfl⟩ | ⟨g,cap,rfl,_⟩
  · exact⟨_,_,rfl⟩
  · exact⟨_,_,rfl⟩
theorem ZW.keep {w w':World} {base:Nat} {v:Value} {l:List Int} (h:ZW w base v l) (hk:∀g,v.ownBlock=some g→w'.heap[g]? =w.heap[g]?):ZW w' base v l:=by
  refine⟨h.1,?_⟩;rcases h.2 with h' | ⟨g,cap,cur,rfl,hb,hh,r⟩
  · exact .inl h'
  · exact .inr ⟨g,cap,cur,rfl,hb,(hk g rfl).trans hh,r⟩
theorem ZW.lt {w:World} {base:Nat} {v:Value} {l:List Int} (h:ZW w base v l):∀g,v.ownBlock=some g→base≤g∧g<w.heap.size:=World.ownsRow.lt h
theorem ZW.on {w w':World} {base:Nat} {v:Value} {l:List Int} (h:ZW w base v l) (hb:Below w.heap.size w w'):ZW w' base v l:=h.keep fun g hg=>hb.block g (h.lt g hg).2
theorem ZW.far {w w':World} {base:Nat} {v:Value} {l:List Int} (h:ZW w base v l) {row:Option Nat} (hb:w.grownBy w' row) (hr:∀g,v.ownBlock=some g→some g≠row):ZW w' base v l:=h.keep fun g hg=>hb.block g (h.lt g hg).2 (hr g hg)
theorem ZW.is {w:World} {base:Nat} {p:Option Addr} {n c:Nat} {l:List Int} (h:ZW w base (.slice p n c) l):n=l.length∧Is w w.heap.size p l:=by
  rcases h.form2 with⟨e,rfl⟩ | ⟨g,cap,e,_,hlt,_⟩
  · simp at e;exact⟨by simp[e.2.1],fun h=>absurd rfl h⟩
  · simp at e;obtain⟨rfl,rfl,rfl⟩:=e;refine⟨rfl,fun _=>⟨g,0,rfl,hlt,fun i hi=>?_⟩⟩;have:=World.ownsRow.cellAt h i (by simpa using hi);simp at this ⊢;rw[this];simp[hi]
theorem ZW.stored {w:World} {base g cap n:Nat} {l:List Int} (h:ZW w base (.slice (some ⟨g,0,none⟩) n cap) l) (j:Nat) (x:Int):
    ZW (w.setCell ⟨g,j,none⟩ (.int .i64 x)) base (.slice (some ⟨g,0,none⟩) n cap) (l.set j x)∧w.grownBy (w.setCell ⟨g,j,none⟩ (.int .i64 x)) (some g):=by
  have hn:=h.is.1;subst hn;obtain⟨h1,h2⟩:=World.ownsRow.stored h j (.int .i64 x);refine⟨?_,h2⟩;rw[ZW,List.map_set,List.length_set];exact h1
theorem ZW.cellAt {w:World} {base g cap n:Nat} {l:List Int} (h:ZW w base (.slice (some ⟨g,0,none⟩) n cap) l) (j:Nat) (hj:j<l.length):
    w.cell? ⟨g,j,none⟩=some (.int .i64 (l.getD j 0))∧w.frozen? ⟨g,j,none⟩=false:=by
  have hn:=h.is.1;subst hn;refine⟨?_,World.ownsRow.frozenAt h j⟩;rw[World.ownsRow.cellAt h j (by simpa using hj)];simp[hj]
def bod (b:UInt8):Bool:=dgt b || b==59
def bsz:List UInt8→Nat
  | []=>0
  | c::r=>if bod c=true then bsz r+1 else 0
theorem Qal:∀(l:List UInt8) (k:Nat),k≤l.length→(∀i,i<k→bod (l.getD i 0)=true)→(k=l.length∨bod (l.getD k 0)=false)→bsz l=k
  | [],k,hk,_,_=>by simp at hk;subst hk;rfl
  | c::r,0,_,_,h=>by
    rcases h with h | h
    · simp at h
    · simp at h;simp[bsz,h]
  | c::r,k+1,hk,ha,h=>by
    have h0:=ha 0 (by omega);simp at h0;rw[bsz,if_pos h0,Qal r k (by simpa using hk) (fun i hi=>by have:=ha (i+1) (by omega);simpa using this) (by rcases h with h | h;exact .inl (by simpa using h);exact .inr (by simpa using h))]
theorem Qk5:∀(l:List UInt8),bsz l≤l.length
  | []=>Nat.le_refl _
  | c::r=>by
    rw[bsz];split
    · have:=Qk5 r;simp;omega
    · simp
theorem Qjs:∀(l:List UInt8),(∀x∈l,bod x=true)→∀q∈sp l,QaC q=true
  | [],_,q,hq=>by simp[sp] at hq;subst hq;rfl
  | c::r,h,q,hq=>by
    have ih:=Qjs r (fun x hx=>h x (List.mem_cons_of_mem _ hx));rw[sp] at hq;split at hq
    · rcases List.mem_cons.1 hq with rfl | hq
      · rfl
      · exact ih q hq
    · rename_i hc;have hd:dgt c=true:=by
        have:=h c (by simp);simpa [bod,hc] using this
      split at hq
      · rename_i p ps he;rcases List.mem_cons.1 hq with rfl | hq
        · have:=ih p (by rw[he];simp);simp only[QaC,List.all_cons,hd,Bool.true_and];exact this
        · exact ih q (by rw[he];exact List.mem_cons_of_mem _ hq)
      · simp at hq;subst hq;simp[QaC,hd]
theorem Qf1 (l:List UInt8) (h:∀x∈l,bod x=true):XO l=(Yx l).map Ui:=by
  unfold XO;apply List.map_congr_left;intro q hq;have:QaC q=true:=by
    unfold Yx at hq;split at hq
    · simp at hq
    · exact Qjs l h q hq
  simp[Z2,this]
def Qam (b:UInt8):Bool:=decide (64≤(b.toNat:Int))&&decide ((b.toNat:Int)≤126)
theorem Qjt {x:UInt8} (h:(x.toNat:Int)<64):Qam x=false:=by simp[Qam];omega
theorem Qju {x:UInt8} (h:126<(x.toNat:Int)):Qam x=false:=by simp[Qam];omega
theorem Qjv {x:UInt8} (h:¬(x.toNat:Int)<64) (h2:¬126<(x.toNat:Int)):Qam x=true:=by simp[Qam];omega
theorem Xu (b:UInt8) (w:World):
    Calls Tryz.prog 190 #[.int .u8 (b.toNat:Int)] w fun e w'=>e=.returned (.bool (Qam b))∧w=w':=by
  by_cases h1:64≤(b.toNat:Int)
  · go_enter Tryz.func190,Tryz.ntmps190;go_wp2;all_goals
      go_ret;exact⟨Qi (by simp[Qam, *]),rfl⟩
  · go_enter Tryz.func190,Tryz.ntmps190;go_wp2;go_ret;exact⟨Qi (by simp[Qam];omega),rfl⟩
theorem QdA (x:UInt8):((x.toNat:Int)==59)=(x==59):=by
  rw[Bool.eq_iff_iff];simp[←UInt8.toNat_inj];omega
theorem Qlr (x:UInt8):((x.toNat:Int) != 59)=(x != 59):=by
  simp only[bne,QdA]
def QlQ (l:List UInt8) (i:Value):Prop:=∃k:Nat,k≤l.length∧i=.int .i64 k∧∀j,j<k→bod (l.getD j 0)=true
theorem UM (p:Option Addr) (c:Nat) (l:List UInt8) (w:World) {B:Nat} (h:Bs w B p l) (hl:l.length≤1048576):
    Calls Tryz.prog 209 #[.slice p l.length c] w fun e w'=>e=.returned (.int .i64 (bsz l))∧w=w':=by
  have H:=Lib.hid h;clear h;go_enter Tryz.func209,Tryz.ntmps209;go_wp2
  go_loop [3,4,7] (fun _ _ i=>QlQ l i) (fun _ _ i=>l.length - (intOf i).toNat)
  case atStart=>exact⟨0,by omega,rfl,fun j hj=>by omega⟩
  case round=>
    obtain⟨k,hk,rfl,ht⟩:=hrel;have HT:=Lib.hid ht;clear ht;by_cases hlt:k<l.length
    · obtain⟨b,off,rfl,hb,hc⟩:=H.out (by intro e;simp[e] at hlt);have hc0:=hc k hlt;clear hc;have HX:=Lib.hid (show bod (l.getD k 0)=(dgt (l.getD k 0) || (l.getD k 0)==59) from rfl);have HS:=Lib.hid (fun h=>Qal l k hk HT.out h);generalize hx:l.getD k 0=x at *;have HXX:=Lib.hid hx;clear hx
      cases hd:dgt x with
      | true=>
        have HD:=Lib.hid hd;go_wp2_with (go_at_call 218;refine(Yw _ _).mono ?_;rintro e w' ⟨rfl,rfl⟩);refine⟨⟨k+1,by omega,by go_num,fun j hj=>?_⟩,by simp[intOf];omega⟩;rcases Nat.lt_or_ge j k with h | h
        · exact HT.out j h
        · obtain rfl:j=k:=(by omega);rw[HXX.out,HX.out,HD.out];rfl
      | false=>
        have HD:=Lib.hid hd;have h59:=Qlr x
        cases he:(x==59) with
        | true=>
          have h59':((x.toNat:Int) != 59)=false:=(by rw[h59,bne,he];rfl);have HE:=Lib.hid he;clear h59 he;go_wp2_with (go_at_call 218;refine(Yw _ _).mono ?_;rintro e w' ⟨rfl,rfl⟩);refine⟨⟨k+1,by omega,by go_num,fun j hj=>?_⟩,by simp[intOf];omega⟩;rcases Nat.lt_or_ge j k with h | h
          · exact HT.out j h
          · obtain rfl:j=k:=(by omega);rw[HXX.out,HX.out,HE.out];simp
        | false=>
          have h59':((x.toNat:Int) != 59)=true:=(by rw[h59,bne,he];rfl);have HE:=Lib.hid he;clear h59 he;go_wp2_with (go_at_call 218;refine(Yw _ _).mono ?_;rintro e w' ⟨rfl,rfl⟩);go_ret;exact⟨Xg (by rw[HS.out (.inr (by rw[HX.out,HD.out,HE.out];rfl))]),rfl⟩
    · obtain rfl:k=l.length:=(by omega);go_wp2;go_ret;exact⟨Xg (by rw[Qal l l.length (Nat.le_refl _) HT.out (.inl rfl)]),rfl⟩
theorem JW (p:Option Addr) (c n:Nat) (l:List UInt8) (w:World) {B:Nat} (hn:n=l.length) (h:Bs w B p l) (hd:QaC l=true) (hl:l.length≤1048576):
    Calls Tryz.prog 215 #[.slice p n c] w fun e w'=>e=.returned (.int .i64 (Ui l))∧w=w':=by
  subst hn;exact QeA p c l w h hd hl
def Qmb (w:World) (l:List Int) (e:Ending) (w':World):Prop:=∃v,e=.returned v∧ZW w' w.heap.size v l∧Below w.heap.size w w'
def QlR (w:World) (l:List UInt8) (v f i:Value) (wr:World):Prop:=
  ∃(k f':Nat) (done:List (List UInt8)),i=.int .i64 k∧f=.int .i64 f'∧done.length≤k∧ZW wr w.heap.size v (done.map Ui)∧Below w.heap.size w wr∧
    ((k≤l.length∧f'≤k∧(59:UInt8)∉(l.take k).drop f'∧done++sp (l.drop f')=sp l)∨(k=l.length+1∧done=sp l))
theorem ZW.form {w:World} {base:Nat} {v:Value} {l:List Int} (h:ZW w base v l):∃p c,v=.slice p l.length c:=by
  rcases h.2 with⟨rfl,hn⟩ | ⟨g,cap,cur,rfl,_⟩
  · exact⟨_,_,by rw[hn]⟩
  · exact⟨_,_,rfl⟩
theorem QeG (w:World):ZW (w.alloc (.cells #[] 2)) w.heap.size (.slice (some ⟨w.heap.size,0,none⟩) 0 0) []:=by
  have h:=World.ownsRow_lit (base:=w.heap.size) (e:=2) (size:=1) w #[] 0 (Nat.le_refl _) (by simp[maxLen]) (by simp);simpa [ZW] using h
theorem Qhu (l:List UInt8) (k:Nat) (hk:k<l.length):l.drop k=l.getD k 0::l.drop (k+1):=by
  rw[List.drop_eq_getElem_cons hk,List.getD_eq_getElem?_getD,List.getElem?_eq_getElem hk];rfl
theorem Qhv (l:List UInt8) (f k:Nat) (hf:f≤k) (hk:k<l.length) (h:l.getD k 0=59):l.drop f=(l.take k).drop f++59::l.drop (k+1):=by
  have e1:l=l.take k++l.drop k:=(List.take_append_drop k l).symm;have e2:l.drop f=(l.take k++l.drop k).drop f:=(by rw[←e1]);rw[e2,List.drop_append_of_le_length (by simp;omega),Qhu l k hk,h]
theorem Qjw (l:List UInt8) (f k:Nat) (hf:f≤k) (hk:k<l.length):(l.take (k+1)).drop f=(l.take k).drop f++[l.getD k 0]:=by
  rw[List.take_succ_eq_append_getElem hk,List.drop_append_of_le_length (by simp;omega),List.getD_eq_getElem?_getD,List.getElem?_eq_getElem hk];rfl
theorem Qf2 {l q:List UInt8} (h:∀x∈l,bod x=true) (hq:∀x∈q,x∈l) (hn:(59:UInt8)∉q):QaC q=true:=by
  simp only[QaC,List.all_eq_true];intro x hx;have h1:=h x (hq x hx);have h2:x≠59:=fun e=>hn (e ▸ hx);simpa [bod,h2] using h1
def Qls (w:World) (done:List (List UInt8)) (q:List UInt8) (wr:World) (v:Value):Prop:=
  ∀(v':Value) (w2:World) (o:Obj),w2.ownsRow w.heap.size 2 1 v' ((done.map Ui).length+1) ((done.map Ui).map (Value.int .i64)++[.int .i64 (Ui q)])→(wr.alloc o).grownBy w2 v.ownBlock→ZW w2 w.heap.size v' ((done++[q]).map Ui)∧Below w.heap.size w w2
theorem Qlt {w wr:World} {done:List (List UInt8)} {q:List UInt8} {v:Value} (ho:ZW wr w.heap.size v (done.map Ui)) (hb:Below w.heap.size w wr):Qls w done q wr v:=by
  intro v' w2 o h hg;refine⟨by simpa [ZW] using h,(hb.alloc hb.size o).grown hg (by have:=hb.size;simp;omega) fun j ej=>?_⟩;rcases ho.2 with⟨rfl,_⟩ | ⟨g,cap,cur,rfl,hgb,_,_⟩
  · simp[Value.ownBlock] at ej
  · obtain rfl:g=j:=(by simpa [Value.ownBlock] using ej);exact hgb
theorem QdB (p:Option Addr) (c:Nat) (l:List UInt8) (w:World) (h:Bs w w.heap.size p l) (hd:∀x∈l,bod x=true) (hc:l.length≤c) (hl:l.length≤1048576):
    Calls Tryz.prog 203 #[.slice p l.length c] w (Qmb w (XO l)):=by
  rw[Qf1 l hd];by_cases he:l=[]
  · subst he;have HO:=Lib.hid (QeG w);show Calls Tryz.prog 203 #[.slice p 0 c] w (Qmb w _);go_enter Tryz.func203,Tryz.ntmps203;go_wp2;go_ret;exact⟨_,rfl,HO.out,(Below.refl _ _).alloc (Nat.le_refl _) _⟩
  have hpos:0<l.length:=List.length_pos_iff.2 he;have hpc:Yx l=sp l:=(by simp[Yx,he]);rw[hpc];obtain⟨b,off,rfl,hb,hcell⟩:=h he;obtain⟨i0,hi,hz0,hz1,hz2⟩:=info_parts Tryz.info_i64;have HD:=Lib.hid hd;have HO:=Lib.hid (QeG w);have H:=Lib.hid h;have HE:=Lib.hid he;have h0:((l.length:Int)==0)=false:=(by simpa using he);clear hd h he hpc hcell;go_enter Tryz.func203,Tryz.ntmps203;go_wp2
  go_loopw [3,4,5] (fun v f i wr=>QlR w l v f i wr) (fun _ _ i _=>l.length+1 - (intOf i).toNat)
  case atStart=>exact⟨0,0,[],rfl,rfl,by simp,HO.out,(Below.refl _ _).alloc (Nat.le_refl _) _,.inl ⟨by omega,by omega,by simp,by simp⟩⟩
  case round=>
    obtain⟨k,f',done,rfl,rfl,hdl,ho,hbw,hcase⟩:=hrel;have hdl':(done.map Ui).length=done.length:=(by simp);have HDL:=Lib.hid hdl';obtain⟨pv,cv,hv⟩:=ho.form;rw[hdl'] at hv;have hv':=hv;subst hv';clear hv;have HR:Hid (wr.ownsRow w.heap.size 2 1 (.slice pv done.length cv) done.length ((done.map Ui).map (Value.int .i64))):=(by have:=ho;rw[ZW,hdl'] at this;exact this);have HBW:=Lib.hid hbw;have HRD:=Lib.hid (fun q=>Qlt (q:=q) ho hbw);have HOO:=Lib.hid ho;have HBB:=Lib.hid (H.out.below hbw);clear ho hbw hdl';rcases hcase with⟨hk,hf,hn,hs⟩ | ⟨hk,hs⟩
    · have HN:=Lib.hid hn;have HS:=Lib.hid hs;clear hn hs;have hql:((l.take k).drop f').length≤1048576:=(by simp;omega);have HQL:=Lib.hid (show k - f'=((l.take k).drop f').length by simp;omega);have HQD:=Lib.hid (Qf2 (q:=(l.take k).drop f') HD.out (fun x hx=>List.mem_of_mem_take (List.mem_of_mem_drop hx)) HN.out);by_cases hlt:k<l.length
      · have hcf:¬c=f':=(by omega);have hbq:=HBB.out.cut f' k c hk hc;rw[if_neg hcf] at hbq;have hbq':Bs wr w.heap.size (some ⟨b,off+f',none⟩) ((l.take k).drop f'):=(by simpa [Addr.add_lit] using hbq);have HQB:=Lib.hid hbq';obtain⟨b',off',hpe,_,hcc⟩:=HBB.out HE.out;obtain⟨rfl,rfl⟩:b=b'∧off=off':=(by simpa using hpe);have hc0:=hcc k hlt;have HSP:=Lib.hid (Qhv l f' k hf hlt);have HTN:=Lib.hid (Qjw l f' k hf hlt);clear hcc hbq hbq' hpe;generalize hx:l.getD k 0=x at *;have HXX:=Lib.hid hx;clear hx;have h59:=QdA x;have hkn:((k:Int)==(l.length:Int))=false:=by simp;omega
        cases he:(x==59) with
        | true=>
          have h59':((x.toNat:Int)==59)=true:=(by rw[h59,he]);have HX:Hid (x=59):=eq_of_beq he;clear h59 he;go_wp2_with (first | (go_at_call 215;refine(JW _ _ _ _ _ HQL.out HQB.out HQD.out hql).mono ?_;rintro e w' ⟨rfl,rfl⟩) | (at_builtin;refine wpList_append_own _ rfl _ _ 46 rfl w.heap.size 2 i0 (.int .i64 0) 1 8 Tryz.underlying46 hi hz0 hz1 hz2 rfl (by decide) _ _ _ rfl (HR.out.alloc _) ⟨wr.heap.size,0,none⟩ 1 1 [.int .i64 (Ui _)] rfl rfl (cell_one_new _ _ _) (by simp[Value.oneCell']) (by unfold maxLen;omega) (by omega) (by have:=HBW.out.size;simp;omega) ?_;intro v' w2 hown' hgrow _));have hr:=HRD.out ((l.take k).drop f') v' w2 _ (by rw[HDL.out];exact hown') hgrow;refine⟨⟨k+1,k+1,done++[(l.take k).drop f'],by go_num,by go_num,by simp;omega,hr.1,hr.2,.inl ⟨by omega,by omega,by rw[List.drop_eq_nil_of_le (by simp;omega)];simp,?_⟩⟩,by simp[intOf];omega⟩;rw[←HS.out,HSP.out HX.out,QfZ _ _ HN.out,List.append_assoc];rfl
        | false=>
          have h59':((x.toNat:Int)==59)=false:=(by rw[h59,he]);have HX:Hid (¬x=59):=fun e=>(by rw[e] at he;simp at he);clear h59 he;go_wp2;refine⟨⟨k+1,f',done,by go_num,rfl,by omega,HOO.out,HBW.out,.inl ⟨by omega,by omega,?_,HS.out⟩⟩,by simp[intOf];omega⟩;rw[HTN.out];simp only[List.mem_append,List.mem_singleton,not_or];exact⟨HN.out,fun e=>HX.out e.symm⟩
      · obtain rfl:k=l.length:=(by omega);have HSP:=Lib.hid (QfY (l.drop f') (by have:=HN.out;rwa [List.take_length] at this));by_cases hcf:c=f'
        · obtain rfl:f'=l.length:=(by omega);have HQN:=Lib.hid (show(l.take l.length).drop l.length=[] by simp);subst hcf;clear hql HQL HQD;go_wp2_with (first | (go_at_call 215;refine(JW _ _ 0 [] _ rfl (B:=w.heap.size) (fun h=>absurd rfl h) rfl (by simp)).mono ?_;rintro e w' ⟨rfl,rfl⟩) | (at_builtin;refine wpList_append_own _ rfl _ _ 46 rfl w.heap.size 2 i0 (.int .i64 0) 1 8 Tryz.underlying46 hi hz0 hz1 hz2 rfl (by decide) _ _ _ rfl (HR.out.alloc _) ⟨wr.heap.size,0,none⟩ 1 1 [.int .i64 (Ui _)] rfl rfl (cell_one_new _ _ _) (by simp[Value.oneCell']) (by unfold maxLen;omega) (by omega) (by have:=HBW.out.size;simp;omega) ?_;intro v' w2 hown' hgrow _));have hr:=HRD.out [] v' w2 _ (by rw[HDL.out];exact hown') hgrow;refine⟨⟨l.length+1,l.length+1,done++[[]],by go_num,by go_num,by simp;omega,hr.1,hr.2,.inr ⟨rfl,?_⟩⟩,by simp[intOf]⟩;rw[←HS.out,HSP.out];simp
        · have hbq:=HBB.out.cut f' l.length c hk hc;rw[if_neg hcf] at hbq;have hbq':Bs wr w.heap.size (some ⟨b,off+f',none⟩) ((l.take l.length).drop f'):=(by simpa [Addr.add_lit] using hbq);have HQB:=Lib.hid hbq';clear hbq hbq';go_wp2_with (first | (go_at_call 215;refine(JW _ _ _ _ _ HQL.out HQB.out HQD.out hql).mono ?_;rintro e w' ⟨rfl,rfl⟩) | (at_builtin;refine wpList_append_own _ rfl _ _ 46 rfl w.heap.size 2 i0 (.int .i64 0) 1 8 Tryz.underlying46 hi hz0 hz1 hz2 rfl (by decide) _ _ _ rfl (HR.out.alloc _) ⟨wr.heap.size,0,none⟩ 1 1 [.int .i64 (Ui _)] rfl rfl (cell_one_new _ _ _) (by simp[Value.oneCell']) (by unfold maxLen;omega) (by omega) (by have:=HBW.out.size;simp;omega) ?_;intro v' w2 hown' hgrow _));have hr:=HRD.out (l.drop f') v' w2 _ (by rw[HDL.out];exact hown') hgrow;refine⟨⟨l.length+1,l.length+1,done++[l.drop f'],by go_num,by go_num,by simp;omega,hr.1,hr.2,.inr ⟨rfl,?_⟩⟩,by simp[intOf]⟩;rw[←HS.out,HSP.out]
    · have HS:=Lib.hid hs;subst hk;clear hs;go_wp2;go_ret;exact⟨_,rfl,by rw[←HS.out];exact HOO.out,HBW.out⟩
structure Pt where
  code:Int
  priv:Bool
  nums:List Int
  fin:Int
  size:Int
def ptV (r:Pt) (v:Value):Value:=.agg #[.int .i64 r.code,.bool r.priv,v,.int .u8 r.fin,.int .i64 r.size]
def Y8 (w:World) (r:Pt) (e:Ending) (w':World):Prop:=∃v,e=.returned (ptV r v)∧ZW w' w.heap.size v r.nums∧Below w.heap.size w w'
def Vo (l:List UInt8) (s:Nat):Pt:=
  if s+bsz (l.drop s)=l.length then ⟨6,false,[],0,0⟩
  else if Qam (l.getD (s+bsz (l.drop s)) 0)=false then ⟨5,false,[],0,(s+bsz (l.drop s):Nat)+1⟩
  else if fits ((l.take (s+bsz (l.drop s))).drop s)=false then ⟨2,false,[],0,(s+bsz (l.drop s):Nat)+1⟩
  else ⟨0,decide (s=1),XO ((l.take (s+bsz (l.drop s))).drop s),((l.getD (s+bsz (l.drop s)) 0).toNat:Int),(s+bsz (l.drop s):Nat)+1⟩
def Qco (l:List UInt8):Pt:=if (l.getD 0 0==60)=true then Vo l 1 else Vo l 0
theorem QeH {l:List UInt8} {s:Nat} (h:s+bsz (l.drop s)=l.length):Vo l s=⟨6,false,[],0,0⟩:=by unfold Vo;rw[if_pos h]
theorem QeI {l:List UInt8} {s:Nat} (h:¬s+bsz (l.drop s)=l.length) (h2:Qam (l.getD (s+bsz (l.drop s)) 0)=false):Vo l s=⟨5,false,[],0,(s+bsz (l.drop s):Nat)+1⟩:=by unfold Vo;rw[if_neg h,if_pos h2]
theorem QeJ {l:List UInt8} {s:Nat} (h:¬s+bsz (l.drop s)=l.length) (h2:Qam (l.getD (s+bsz (l.drop s)) 0)=true) (h3:fits ((l.take (s+bsz (l.drop s))).drop s)=false):Vo l s=⟨2,false,[],0,(s+bsz (l.drop s):Nat)+1⟩:=by
  unfold Vo;rw[if_neg h,if_neg (by rw[h2];simp),if_pos h3]
theorem Qjx {l:List UInt8} {s:Nat} (h:¬s+bsz (l.drop s)=l.length) (h2:Qam (l.getD (s+bsz (l.drop s)) 0)=true) (h3:fits ((l.take (s+bsz (l.drop s))).drop s)=true):
    Vo l s=⟨0,decide (s=1),XO ((l.take (s+bsz (l.drop s))).drop s),((l.getD (s+bsz (l.drop s)) 0).toNat:Int),(s+bsz (l.drop s):Nat)+1⟩:=by
  unfold Vo;rw[if_neg h,if_neg (by rw[h2];simp),if_neg (by rw[h3];simp)]
theorem Z5 (p:Option Addr) (c n:Nat) (l:List UInt8) (w:World) {B:Nat} (hn:n=l.length) (h:Bs w B p l) (hl:l.length≤1048576):
    Calls Tryz.prog 209 #[.slice p n c] w fun e w'=>e=.returned (.int .i64 (bsz l))∧w=w':=by
  subst hn;exact UM p c l w h hl
theorem Ul (p:Option Addr) (c n:Nat) (l:List UInt8) (k:Nat) (w:World) {B:Nat} (hk:bsz l=k) (hn:n=l.length) (h:Bs w B p l) (hl:l.length≤1048576):
    Calls Tryz.prog 209 #[.slice p n c] w fun e w'=>e=.returned (.int .i64 k)∧w=w':=by
  subst hk;exact Z5 p c n l w hn h hl
theorem UN (p:Option Addr) (c:Nat) (w:World):
    Calls Tryz.prog 209 #[.slice p 0 c] w fun e w'=>e=.returned (.int .i64 0)∧w=w':=UM p c [] w (B:=0) (fun h=>absurd rfl h) (by simp)
theorem Vp (p:Option Addr) (c n:Nat) (l:List UInt8) (w:World) (hn:n=l.length) (h:Bs w w.heap.size p l) (hc:n≤c) (hl:l.length≤1048576):
    Calls Tryz.prog 210 #[.slice p n c] w (KO w l):=by
  subst hn;exact Qdz p c l w h hc hl
theorem QdC (x:UInt8):((x.toNat:Int)==60)=(x==60):=by
  rw[Bool.eq_iff_iff];simp[←UInt8.toNat_inj];omega
theorem ZW.setBelow {w:World} {base:Nat} {v:Value} {l:List Int} (h:ZW w base v l) {a:Addr} (ha:a.block<base) (u:Value):ZW (w.setCell a u) base v l:=ownsRow_setCell_below h ha u
theorem ZW.lower {w:World} {base base':Nat} {v:Value} {l:List Int} (h:ZW w base v l) (hb:base'≤base):ZW w base' v l:=by
  refine⟨h.1,?_⟩;rcases h.2 with h' | ⟨g,cap,cur,e,hg,r⟩
  · exact .inl h'
  · exact .inr ⟨g,cap,cur,e,by omega,r⟩
theorem X1 (w:World) (base:Nat):ZW w base (.slice none 0 0) []:=World.ownsRow_nil w _ _ _
theorem QdD (l:List UInt8) (s:Nat) (hs:s≤l.length):s+bsz (l.drop s)≤l.length:=by
  have:=Qk5 (l.drop s);simp at this;omega
theorem QgZ {w w1:World} {o:Obj} {r:Pt} {v u0 u1 u2 u3 u4:Value} (ho:ZW w1 (w.alloc o).heap.size v r.nums) (hb:Below (w.alloc o).heap.size (w.alloc o) w1):
    Y8 w r (.returned (ptV r v)) (((((w1.setCell ⟨w.heap.size,0,none⟩ u0).setCell ⟨w.heap.size,1,none⟩ u1).setCell ⟨w.heap.size,2,none⟩ u2).setCell ⟨w.heap.size,3,none⟩ u3).setCell ⟨w.heap.size,4,none⟩ u4):=by
  have hz:w.heap.size<(w.alloc o).heap.size:=(by simp);refine⟨v,rfl,?_,?_⟩
  · exact(((((ho.setBelow (a:=⟨w.heap.size,0,none⟩) hz u0).setBelow (a:=⟨w.heap.size,1,none⟩) hz u1).setBelow (a:=⟨w.heap.size,2,none⟩) hz u2).setBelow (a:=⟨w.heap.size,3,none⟩) hz u3).setBelow (a:=⟨w.heap.size,4,none⟩) hz u4).lower (by simp)
  · exact(((((Qa (Qb w o) hb).setCell (Nat.le_refl _) _).setCell (Nat.le_refl _) _).setCell (Nat.le_refl _) _).setCell (Nat.le_refl _) _).setCell (Nat.le_refl _) _
theorem QdE (p:Option Addr) (c:Nat) (l:List UInt8) (w:World) (h:Bs w w.heap.size p l) (hc:l.length≤c) (hl:l.length≤1048576) (h60:(l.getD 0 0==60)=false):
    Calls Tryz.prog 196 #[.slice p l.length c] w (Y8 w (Vo l 0)):=by
  have HA:=Lib.hid (h.alloc (.cells #[.int .i64 0,.bool false,.slice none 0 0,.int .u8 0,.int .i64 0] 177));by_cases he:l=[]
  · subst he;clear h60;show Calls Tryz.prog 196 #[.slice p 0 c] w (Y8 w _);go_enter Tryz.func196,Tryz.ntmps196;go_wp2_with (go_at_call 209;refine(UN _ _ _).mono ?_;rintro e w' ⟨rfl,rfl⟩);exact bodyPost_ret (v:=ptV ⟨6,false,[],0,0⟩ (.slice none 0 0)) (by simp[results,Tryz.results196,ptV,go_sem]) rfl ⟨_,rfl,X1 _ _,Qb _ _⟩
  have hpos:0<l.length:=List.length_pos_iff.2 he;obtain⟨b,off,rfl,hb,hcell⟩:=h he;have hc0:=hcell 0 hpos;rw[Nat.add_zero] at hc0;have hm:=QdD l 0 (by omega);have HF:=Lib.hid (QeH (l:=l) (s:=0));have HT:=Lib.hid (QeI (l:=l) (s:=0));have HM:=Lib.hid (QeJ (l:=l) (s:=0));have HK:=Lib.hid (Qjx (l:=l) (s:=0));rw[Nat.zero_add,List.drop_zero] at hm HF HT HM HK;have hct:=HA.out.cut 0 (bsz l) c hm hc;rw[if_neg (by omega),Z3] at hct;have HCT:=Lib.hid hct;clear hct;have h60':(((l.getD 0 0).toNat:Int)==60)=false:=(by rw[QdC];exact h60);have HE:=Lib.hid he;clear h60 he;generalize l.getD 0 0=x0 at *;by_cases hend:bsz l=l.length
  · have hend':((bsz l:Int)==(l.length:Int))=true:=(by simp[hend]);have HEND:=Lib.hid hend;clear hend hcell;go_enter Tryz.func196,Tryz.ntmps196;go_wp2_with (go_at_call 209;refine(Z5 _ _ _ l _ rfl HA.out hl).mono ?_;rintro e w' ⟨rfl,rfl⟩);rw[HF.out HEND.out];exact bodyPost_ret (v:=ptV ⟨6,false,[],0,0⟩ (.slice none 0 0)) (by simp[results,Tryz.results196,ptV,go_sem]) rfl ⟨_,rfl,X1 _ _,Qb _ _⟩
  · have hend':((bsz l:Int)==(l.length:Int))=false:=(by simp;omega);have hlt:bsz l<l.length:=(by omega);have hcE:=hcell (bsz l) hlt;have HEND:=Lib.hid hend;have HT1:=Lib.hid (HT.out hend);have HM1:=Lib.hid (HM.out hend);have HK1:=Lib.hid (HK.out hend);clear hend hcell;generalize l.getD (bsz l) 0=xe at *
    cases hfn:Qam xe with
    | false=>
      have HR:=Lib.hid (HT1.out hfn);go_enter Tryz.func196,Tryz.ntmps196;go_wp2_with (first | (go_at_call 209;refine(Z5 _ _ _ l _ rfl HA.out hl).mono ?_;rintro e w' ⟨rfl,rfl⟩) | (go_at_call 190;refine(Xu _ _).mono ?_;rintro e w' ⟨rfl,rfl⟩));rw[HR.out];exact bodyPost_ret (v:=ptV ⟨5,false,[],0,(bsz l:Int)+1⟩ (.slice none 0 0)) (by simp[results,Tryz.results196,ptV,go_sem]) rfl ⟨_,rfl,X1 _ _,Qb _ _⟩
    | true=>
      have HM2:=Lib.hid (HM1.out hfn);have HK2:=Lib.hid (HK1.out hfn);go_enter Tryz.func196,Tryz.ntmps196;go_wp2_with (first | (go_at_call 209;refine(Z5 _ _ _ l _ rfl HA.out hl).mono ?_;rintro e w' ⟨rfl,rfl⟩) | (go_at_call 190;refine(Xu _ _).mono ?_;rintro e w' ⟨rfl,rfl⟩));refine(Vp _ _ _ ((l.take (bsz l)).drop 0) _ (by simp;omega) (HCT.out) (by omega) (by simp;omega)).mono ?_;rintro e w1 ⟨v,rfl,ho,hb1⟩;obtain⟨hcc,hff⟩:=QgY hb1;have hz1:w.heap.size<w1.heap.size:=(by have:=hb1.size;simp at this;omega);have hcE1:w1.cell? ⟨b,off+bsz l,none⟩=some (.int .u8 (xe.toNat:Int)):=(hcc b _ (by simp;omega)).trans ((World.cell?_alloc_lt w _ ⟨b,off+bsz l,none⟩ hb).trans hcE)
      cases hft:fits ((l.take (bsz l)).drop 0) with
      | false=>
        have HR:=Lib.hid (HM2.out hft);go_wp2;rw[HR.out];exact bodyPost_ret (v:=ptV ⟨2,false,[],0,(bsz l:Int)+1⟩ (.slice none 0 0)) (by simp[results,Tryz.results196,ptV,go_sem,hcc]) rfl (QgZ (X1 _ _) hb1)
      | true=>
        have HR:=Lib.hid (HK2.out hft);rw[hft,if_pos rfl] at ho;obtain⟨pv,cv,hv⟩:=ho.form;subst hv;go_wp2;rw[HR.out];exact bodyPost_ret (v:=ptV ⟨0,false,XO ((l.take (bsz l)).drop 0),(xe.toNat:Int),(bsz l:Int)+1⟩ (.slice pv (XO ((l.take (bsz l)).drop 0)).length cv)) (by simp[results,Tryz.results196,ptV,go_sem,hcc]) rfl (QgZ ho hb1)
theorem QdF (p:Option Addr) (c:Nat) (l:List UInt8) (w:World) (h:Bs w w.heap.size p l) (hc:l.length≤c) (hl:l.length≤1048576) (h60:(l.getD 0 0==60)=true):
    Calls Tryz.prog 196 #[.slice p l.length c] w (Y8 w (Vo l 1)):=by
  have HA:=Lib.hid (h.alloc (.cells #[.int .i64 0,.bool false,.slice none 0 0,.int .u8 0,.int .i64 0] 177));have he:l≠[]:=(by rintro rfl;simp at h60);have hpos:0<l.length:=List.length_pos_iff.2 he;obtain⟨b,off,rfl,hb,hcell⟩:=h he;have hc0:=hcell 0 hpos;rw[Nat.add_zero] at hc0;have h60':(((l.getD 0 0).toNat:Int)==60)=true:=(by rw[QdC];exact h60);have hm:=QdD l 1 hpos;have HF:=Lib.hid (QeH (l:=l) (s:=1));have HT:=Lib.hid (QeI (l:=l) (s:=1));have HM:=Lib.hid (QeJ (l:=l) (s:=1));have HK:=Lib.hid (Qjx (l:=l) (s:=1));clear h60 he;generalize l.getD 0 0=x0 at *;by_cases hc1:c=1
  · subst hc1;have hl1:l.length=1:=(by omega);have hb0:bsz (l.drop 1)=0:=(by rw[List.drop_eq_nil_of_le (by omega)];rfl);have HR:=Lib.hid (HF.out (by rw[hb0,hl1]));rw[hl1];clear hl1 hb0 hcell hm hc hpos hl;go_enter Tryz.func196,Tryz.ntmps196;go_wp2_with (go_at_call 209;refine(UN _ _ _).mono ?_;rintro e w' ⟨rfl,rfl⟩);rw[HR.out];exact bodyPost_ret (v:=ptV ⟨6,false,[],0,0⟩ (.slice none 0 0)) (by simp[results,Tryz.results196,ptV,go_sem]) rfl ⟨_,rfl,X1 _ _,Qb _ _⟩
  have hdr:=HA.out.cut 1 l.length c (Nat.le_refl _) hc;rw[if_neg hc1,List.take_length] at hdr;have hct:=HA.out.cut 1 (1+bsz (l.drop 1)) c hm hc;rw[if_neg hc1] at hct;have HDR:=Lib.hid (show Bs _ _ (some ⟨b,off+1,none⟩) (l.drop 1) from hdr);have HCT:=Lib.hid (show Bs _ _ (some ⟨b,off+1,none⟩) ((l.take (1+bsz (l.drop 1))).drop 1) from hct);clear hdr hct;generalize hkk:bsz (l.drop 1)=k at *;have HKK:=Lib.hid hkk;clear hkk;by_cases hend:1+k=l.length
  · have hend':((1:Int)+(k:Int)==(l.length:Int))=true:=(by simp;omega);have HR:=Lib.hid (HF.out hend);clear hend hcell;go_enter Tryz.func196,Tryz.ntmps196;go_wp2_with (go_at_call 209;refine(Ul _ _ _ (l.drop 1) k _ HKK.out (by simp) HDR.out (by simp;omega)).mono ?_;rintro e w' ⟨rfl,rfl⟩);rw[HR.out];exact bodyPost_ret (v:=ptV ⟨6,false,[],0,0⟩ (.slice none 0 0)) (by simp[results,Tryz.results196,ptV,go_sem]) rfl ⟨_,rfl,X1 _ _,Qb _ _⟩
  · have hend':((1:Int)+(k:Int)==(l.length:Int))=false:=(by simp;omega);have hlt:1+k<l.length:=(by omega);have hcE:=hcell (1+k) hlt;have HT1:=Lib.hid (HT.out hend);have HM1:=Lib.hid (HM.out hend);have HK1:=Lib.hid (HK.out hend);clear hend hcell;generalize l.getD (1+k) 0=xe at *
    cases hfn:Qam xe with
    | false=>
      have HR:=Lib.hid (HT1.out hfn);go_enter Tryz.func196,Tryz.ntmps196;go_wp2_with (first | (go_at_call 209;refine(Ul _ _ _ (l.drop 1) k _ HKK.out (by simp) HDR.out (by simp;omega)).mono ?_;rintro e w' ⟨rfl,rfl⟩) | (go_at_call 190;refine(Xu _ _).mono ?_;rintro e w' ⟨rfl,rfl⟩));rw[HR.out,show((1+k:Nat):Int)+1=1+(k:Int)+1 by omega];exact bodyPost_ret (v:=ptV ⟨5,false,[],0,1+(k:Int)+1⟩ (.slice none 0 0)) (by simp[results,Tryz.results196,ptV,go_sem]) rfl ⟨_,rfl,X1 _ _,Qb _ _⟩
    | true=>
      have HM2:=Lib.hid (HM1.out hfn);have HK2:=Lib.hid (HK1.out hfn);go_enter Tryz.func196,Tryz.ntmps196;go_wp2_with (first | (go_at_call 209;refine(Ul _ _ _ (l.drop 1) k _ HKK.out (by simp) HDR.out (by simp;omega)).mono ?_;rintro e w' ⟨rfl,rfl⟩) | (go_at_call 190;refine(Xu _ _).mono ?_;rintro e w' ⟨rfl,rfl⟩));refine(Vp _ _ _ ((l.take (1+k)).drop 1) _ (by simp;omega) (HCT.out) (by omega) (by simp;omega)).mono ?_;rintro e w1 ⟨v,rfl,ho,hb1⟩;obtain⟨hcc,hff⟩:=QgY hb1;have hz1:w.heap.size<w1.heap.size:=(by have:=hb1.size;simp at this;omega);have hcE1:w1.cell? ⟨b,off+(1+k),none⟩=some (.int .u8 (xe.toNat:Int)):=(hcc b _ (by simp;omega)).trans ((World.cell?_alloc_lt w _ ⟨b,off+(1+k),none⟩ hb).trans hcE)
      cases hft:fits ((l.take (1+k)).drop 1) with
      | false=>
        have HR:=Lib.hid (HM2.out hft);go_wp2;rw[HR.out,show((1+k:Nat):Int)+1=1+(k:Int)+1 by omega];exact bodyPost_ret (v:=ptV ⟨2,false,[],0,1+(k:Int)+1⟩ (.slice none 0 0)) (by simp[results,Tryz.results196,ptV,go_sem,hcc]) rfl (QgZ (X1 _ _) hb1)
      | true=>
        have HR:=Lib.hid (HK2.out hft);rw[hft,if_pos rfl] at ho;obtain⟨pv,cv,hv⟩:=ho.form;subst hv;go_wp2;rw[HR.out,show((1+k:Nat):Int)+1=1+(k:Int)+1 by omega];exact bodyPost_ret (v:=ptV ⟨0,true,XO ((l.take (1+k)).drop 1),(xe.toNat:Int),1+(k:Int)+1⟩ (.slice pv (XO ((l.take (1+k)).drop 1)).length cv)) (by simp[results,Tryz.results196,ptV,go_sem,hcc]) rfl (QgZ ho hb1)
theorem QaF (p:Option Addr) (c:Nat) (l:List UInt8) (w:World) (h:Bs w w.heap.size p l) (hc:l.length≤c) (hl:l.length≤1048576):
    Calls Tryz.prog 196 #[.slice p l.length c] w (Y8 w (Qco l)):=by
  unfold Qco;split
  · exact QdF p c l w h hc hl (by assumption)
  · exact QdE p c l w h hc hl (by simp_all)
theorem Qhw (l:List UInt8) (s:Nat):(Vo l s).nums.length≤4:=by
  unfold Vo;split
  · simp
  split
  · simp
  split
  · simp
  · rename_i h;have:(Yx ((l.take (s+bsz (l.drop s))).drop s)).length≤4:=by
      simpa [fits] using h
    simpa [XO] using this
theorem QcU (l:List UInt8):(Qco l).nums.length≤4:=by
  unfold Qco;split <;> exact Qhw _ _
def Qkv (l:List UInt8) (s:Nat) (v:Value):Prop:=∃m:Nat,s≤m∧m≤l.length∧v=.int .i64 m∧∀j,s≤j→j<m→bod (l.getD j 0)=true
theorem QeK (l:List UInt8) (s j:Nat):(l.drop s).getD j 0=l.getD (s+j) 0:=by simp[List.getD_eq_getElem?_getD]
theorem QdG {l:List UInt8} {s m:Nat} (hs:s≤m) (hm:m≤l.length) (ha:∀j,s≤j→j<m→bod (l.getD j 0)=true) (he:m=l.length∨bod (l.getD m 0)=false):s+bsz (l.drop s)=m:=by
  have:=Qal (l.drop s) (m - s) (by simp;omega) (fun i hi=>by rw[QeK];exact ha _ (by omega) (by omega)) (by
    rcases he with h | h
    · exact .inl (by simp;omega)
    · exact .inr (by rw[QeK,show s+(m - s)=m by omega];exact h))
  omega
theorem Qjy {l:List UInt8} {s m:Nat} (hm:m≤l.length) (ha:∀j,s≤j→j<m→bod (l.getD j 0)=true):∀x∈(l.take m).drop s,bod x=true:=by
  intro x hx;obtain⟨i,hi,rfl⟩:=List.mem_iff_getElem.1 hx;simp at hi;have:=ha (s+i) (by omega) (by omega);rw[List.getD_eq_getElem?_getD,List.getElem?_eq_getElem (by omega)] at this;simpa using this
theorem Vq (p:Option Addr) (c n:Nat) (l:List UInt8) (w:World) (hn:n=l.length) (h:Bs w w.heap.size p l) (hd:∀x∈l,bod x=true) (hc:n≤c) (hl:l.length≤1048576):
    Calls Tryz.prog 203 #[.slice p n c] w (Qmb w (XO l)):=by
  subst hn;exact QdB p c l w h hd hc hl
theorem Qg0 {l:List UInt8} {s m:Nat} (h:s+bsz (l.drop s)=m):Vo l s=(if m=l.length then (⟨6,false,[],0,0⟩:Pt)
    else if Qam (l.getD m 0)=false then ⟨5,false,[],0,(m:Int)+1⟩
    else if fits ((l.take m).drop s)=false then ⟨2,false,[],0,(m:Int)+1⟩
    else ⟨0,decide (s=1),XO ((l.take m).drop s),((l.getD m 0).toNat:Int),(m:Int)+1⟩):=by
  unfold Vo;rw[h]
theorem Qg1 (l:List UInt8):fits l=decide ((XO l).length≤4):=by simp[fits,XO]
theorem Zk (w:World) (o1 o2:Obj):Below w.heap.size w ((w.alloc o1).alloc o2):=((Below.refl _ _).alloc (Nat.le_refl _) _).alloc (by simp) _
theorem QdH {w w1:World} {o1 o2:Obj} {r:Pt} {v u0 u1 u2 u3 u4 x2 x3:Value} (ho:ZW w1 ((w.alloc o1).alloc o2).heap.size v r.nums∨(v=.slice none 0 0∧r.nums=[])) (hb:Below ((w.alloc o1).alloc o2).heap.size ((w.alloc o1).alloc o2) w1):
    Y8 w r (.returned (ptV r v)) (((((((w1.setCell ⟨w.heap.size+1,2,none⟩ x2).setCell ⟨w.heap.size+1,3,none⟩ x3).setCell ⟨w.heap.size,0,none⟩ u0).setCell ⟨w.heap.size,1,none⟩ u1).setCell ⟨w.heap.size,2,none⟩ u2).setCell ⟨w.heap.size,3,none⟩ u3).setCell ⟨w.heap.size,4,none⟩ u4):=by
  have hz:w.heap.size<((w.alloc o1).alloc o2).heap.size:=(by simp;omega);have hz1:w.heap.size+1<((w.alloc o1).alloc o2).heap.size:=(by simp);refine⟨v,rfl,?_,?_⟩
  · rcases ho with ho | ⟨rfl,hr⟩
    · exact(((((((ho.setBelow (a:=⟨w.heap.size+1,2,none⟩) hz1 x2).setBelow (a:=⟨w.heap.size+1,3,none⟩) hz1 x3).setBelow (a:=⟨w.heap.size,0,none⟩) hz u0).setBelow (a:=⟨w.heap.size,1,none⟩) hz u1).setBelow (a:=⟨w.heap.size,2,none⟩) hz u2).setBelow (a:=⟨w.heap.size,3,none⟩) hz u3).setBelow (a:=⟨w.heap.size,4,none⟩) hz u4).lower (by simp;omega)
    · rw[hr];exact X1 _ _
  · have h0:Below w.heap.size w w1:=(Zk w o1 o2).trans (hb.mono (by simp;omega));exact((((((h0.setCell (p:=⟨w.heap.size+1,2,none⟩) (by simp) _).setCell (p:=⟨w.heap.size+1,3,none⟩) (by simp) _).setCell (Nat.le_refl _) _).setCell (Nat.le_refl _) _).setCell (Nat.le_refl _) _).setCell (Nat.le_refl _) _).setCell (Nat.le_refl _) _
theorem QdI (p:Option Addr) (c:Nat) (w:World):Calls Tryz.prog 185 #[.slice p 0 c] w (Y8 w (Vo [] 0)):=by
  go_enter Tryz.func185,Tryz.ntmps185;go_wp2
  go_loop [4] (fun v=>v=.int .i64 0) (fun _=>0)
  case atStart=>rfl
  case round=>
    subst hrel;go_wp2;exact bodyPost_ret (v:=ptV ⟨6,false,[],0,0⟩ (.slice none 0 0)) (by simp[results,Tryz.results185,ptV,go_sem]) rfl ⟨_,rfl,X1 _ _,Zk _ _ _⟩
theorem QdJ (p:Option Addr) (c:Nat) (l:List UInt8) (w:World) (h:Bs w w.heap.size p l) (hc:l.length≤c) (hl:l.length≤1048576) (he:l≠[]) (h60:(l.getD 0 0==60)=false):
    Calls Tryz.prog 185 #[.slice p l.length c] w (Y8 w (Vo l 0)):=by
  have HA:=Lib.hid (fun o1 o2=>(h.alloc o1).alloc o2);have hpos:0<l.length:=List.length_pos_iff.2 he;obtain⟨b,off,rfl,hb,hcell⟩:=h he;have hc0:=hcell 0 hpos;rw[Nat.add_zero] at hc0;have h60':(((l.getD 0 0).toNat:Int)==60)=false:=(by rw[QdC];exact h60);have HC:=Lib.hid hcell;clear h60 he h hcell;generalize l.getD 0 0=x0 at *;go_enter Tryz.func185,Tryz.ntmps185;go_wp2
  go_loop [4] (fun v=>Qkv l 0 v) (fun v=>l.length - (intOf v).toNat)
  case atStart=>exact⟨0,Nat.le_refl _,by omega,rfl,fun j h1 h2=>by omega⟩
  case round=>
    obtain⟨m,hs,hm,rfl,ht⟩:=hrel;have HT:=Lib.hid ht;clear ht;by_cases hlt:m<l.length
    · have hcm:=HC.out m hlt;have HNX:Hid (bod (l.getD m 0)=true→Qkv l 0 (.int .i64 ((m:Int)+1))):=fun hbm=>⟨m+1,by omega,by omega,by go_num,fun j h1 h2=>by
        rcases Nat.lt_or_ge j m with h3 | h3
        · exact HT.out j h1 h3
        · obtain rfl:j=m:=(by omega);exact hbm⟩
      have HST:=Lib.hid (fun h=>Qg0 (QdG hs hm HT.out (.inr h)));have HBD:=Lib.hid (Qjy hm HT.out);have hmn:((m:Int)==(l.length:Int))=false:=(by simp;omega);generalize l.getD m 0=x at *
      cases hd:dgt x with
      | true=>
        have HD:=Lib.hid hd;go_wp2_with (go_at_call 202;refine(XV _ _).mono ?_;rintro e w' ⟨rfl,rfl⟩);exact⟨HNX.out (by simp[bod,HD.out]),by simp[intOf];omega⟩
      | false=>
        have HD:=Lib.hid hd;have h59:=QdA x
        cases hx:(x==59) with
        | true=>
          have h59':((x.toNat:Int)==59)=true:=(by rw[h59,hx]);have HX:=Lib.hid hx;clear h59 hx;go_wp2_with (go_at_call 202;refine(XV _ _).mono ?_;rintro e w' ⟨rfl,rfl⟩);exact⟨HNX.out (by simp[bod,HX.out]),by simp[intOf];omega⟩
        | false=>
          have h59':((x.toNat:Int)==59)=false:=(by rw[h59,hx]);have hbx:bod x=false:=(by simp[bod,hd,hx]);have HR:=Lib.hid (HST.out hbx);clear h59 hx hbx HST HNX;rw[if_neg (by omega)] at HR;by_cases hlo:(x.toNat:Int)<64
          · have HF:=Lib.hid (Qjt hlo);go_wp2_with (go_at_call 202;refine(XV _ _).mono ?_;rintro e w' ⟨rfl,rfl⟩);rw[HR.out,if_pos HF.out];exact bodyPost_ret (v:=ptV ⟨5,false,[],0,(m:Int)+1⟩ (.slice none 0 0)) (by simp[results,Tryz.results185,ptV,go_sem]) rfl ⟨_,rfl,X1 _ _,Zk _ _ _⟩
          by_cases hhi:126<(x.toNat:Int)
          · have HF:=Lib.hid (Qju hhi);go_wp2_with (go_at_call 202;refine(XV _ _).mono ?_;rintro e w' ⟨rfl,rfl⟩);rw[HR.out,if_pos HF.out];exact bodyPost_ret (v:=ptV ⟨5,false,[],0,(m:Int)+1⟩ (.slice none 0 0)) (by simp[results,Tryz.results185,ptV,go_sem]) rfl ⟨_,rfl,X1 _ _,Zk _ _ _⟩
          have HF:=Lib.hid (Qjv hlo hhi);go_wp2_with (go_at_call 202;refine(XV _ _).mono ?_;rintro e w' ⟨rfl,rfl⟩);have hct:=(HA.out (.cells #[.int .i64 0,.bool false,.slice none 0 0,.int .u8 0,.int .i64 0] 177) (.cells #[.int .i64 0,.bool false,.slice none 0 0,.int .u8 0,.int .i64 ((m:Int)+1)] 177)).cut 0 m c hm hc;rw[if_neg (by omega),Z3] at hct;have HCT:=Lib.hid (show Bs _ _ (some ⟨b,off,none⟩) ((l.take m).drop 0) from hct);clear hct;refine(Vq _ _ _ ((l.take m).drop 0) _ (by simp;omega) HCT.out HBD.out (by omega) (by simp;omega)).mono ?_;rintro e w1 ⟨v,rfl,ho,hb1⟩;obtain⟨hcc,hff⟩:=QgY hb1;have hz1:w.heap.size+1<w1.heap.size:=(by have:=hb1.size;simp at this;omega);have hcE1:w1.cell? ⟨b,off+m,none⟩=some (.int .u8 (x.toNat:Int)):=(hcc b _ (by simp;omega)).trans ((World.cell?_alloc_lt _ _ ⟨b,off+m,none⟩ (by simp;omega)).trans ((World.cell?_alloc_lt w _ ⟨b,off+m,none⟩ hb).trans hcm));have hq:∀i,w1.cell? ⟨w.heap.size,i,none⟩=(w.alloc (.cells #[.int .i64 0,.bool false,.slice none 0 0,.int .u8 0,.int .i64 0] 177)).cell? ⟨w.heap.size,i,none⟩:=fun i=>(hcc w.heap.size i (by simp;omega)).trans (World.cell?_alloc_lt _ _ ⟨w.heap.size,i,none⟩ (by simp));have HFL:=Lib.hid (Qg1 ((l.take m).drop 0));obtain⟨pv,cv,hv⟩:=ho.form;subst hv;by_cases hft:(XO ((l.take m).drop 0)).length≤4
          · have hft':¬(4:Int)<((XO ((l.take m).drop 0)).length:Int):=(by omega);have HFT:=Lib.hid (show fits ((l.take m).drop 0)=true by rw[HFL.out];simpa using hft);generalize hnl:(XO ((l.take m).drop 0)).length=nl at *;go_wp2;rw[HR.out,if_neg (by rw[HF.out];simp),if_neg (by rw[HFT.out];simp)];exact bodyPost_ret (v:=ptV ⟨0,false,XO ((l.take m).drop 0),(x.toNat:Int),(m:Int)+1⟩ (.slice pv nl cv)) (by simp[results,Tryz.results185,ptV,go_sem,hq]) rfl (QdH (.inl ho) hb1)
          · have hft':(4:Int)<((XO ((l.take m).drop 0)).length:Int):=(by omega);have HFT:=Lib.hid (show fits ((l.take m).drop 0)=false by rw[HFL.out];simpa using hft);generalize hnl:(XO ((l.take m).drop 0)).length=nl at *;go_wp2;rw[HR.out,if_neg (by rw[HF.out];simp),if_pos HFT.out];exact bodyPost_ret (v:=ptV ⟨2,false,[],0,(m:Int)+1⟩ (.slice none 0 0)) (by simp[results,Tryz.results185,ptV,go_sem,hq]) rfl (QdH (.inr ⟨rfl,rfl⟩) hb1)
    · obtain rfl:m=l.length:=(by omega);have HR:=Lib.hid (Qg0 (QdG hs hm HT.out (.inl rfl)));go_wp2;rw[HR.out,if_pos trivial];exact bodyPost_ret (v:=ptV ⟨6,false,[],0,0⟩ (.slice none 0 0)) (by simp[results,Tryz.results185,ptV,go_sem]) rfl ⟨_,rfl,X1 _ _,Zk _ _ _⟩
theorem QdK (p:Option Addr) (c:Nat) (l:List UInt8) (w:World) (h:Bs w w.heap.size p l) (hc:l.length≤c) (hl:l.length≤1048576) (he:l≠[]) (h60:(l.getD 0 0==60)=true):
    Calls Tryz.prog 185 #[.slice p l.length c] w (Y8 w (Vo l 1)):=by
  have HA:=Lib.hid (fun o1 o2=>(h.alloc o1).alloc o2);have hpos:0<l.length:=List.length_pos_iff.2 he;obtain⟨b,off,rfl,hb,hcell⟩:=h he;have hc0:=hcell 0 hpos;rw[Nat.add_zero] at hc0;have h60':(((l.getD 0 0).toNat:Int)==60)=true:=(by rw[QdC];exact h60);have HC:=Lib.hid hcell;clear h60 he h hcell;generalize l.getD 0 0=x0 at *;go_enter Tryz.func185,Tryz.ntmps185;go_wp2
  go_loop [4] (fun v=>Qkv l 1 v) (fun v=>l.length - (intOf v).toNat)
  case atStart=>exact⟨1,Nat.le_refl _,by omega,rfl,fun j h1 h2=>by omega⟩
  case round=>
    obtain⟨m,hs,hm,rfl,ht⟩:=hrel;have HT:=Lib.hid ht;clear ht;by_cases hlt:m<l.length
    · have hcm:=HC.out m hlt;have HNX:Hid (bod (l.getD m 0)=true→Qkv l 1 (.int .i64 ((m:Int)+1))):=fun hbm=>⟨m+1,by omega,by omega,by go_num,fun j h1 h2=>by
        rcases Nat.lt_or_ge j m with h3 | h3
        · exact HT.out j h1 h3
        · obtain rfl:j=m:=(by omega);exact hbm⟩
      have HST:=Lib.hid (fun h=>Qg0 (QdG hs hm HT.out (.inr h)));have HBD:=Lib.hid (Qjy hm HT.out);have hmn:((m:Int)==(l.length:Int))=false:=(by simp;omega);generalize l.getD m 0=x at *
      cases hd:dgt x with
      | true=>
        have HD:=Lib.hid hd;go_wp2_with (go_at_call 202;refine(XV _ _).mono ?_;rintro e w' ⟨rfl,rfl⟩);exact⟨HNX.out (by simp[bod,HD.out]),by simp[intOf];omega⟩
      | false=>
        have HD:=Lib.hid hd;have h59:=QdA x
        cases hx:(x==59) with
        | true=>
          have h59':((x.toNat:Int)==59)=true:=(by rw[h59,hx]);have HX:=Lib.hid hx;clear h59 hx;go_wp2_with (go_at_call 202;refine(XV _ _).mono ?_;rintro e w' ⟨rfl,rfl⟩);exact⟨HNX.out (by simp[bod,HX.out]),by simp[intOf];omega⟩
        | false=>
          have h59':((x.toNat:Int)==59)=false:=(by rw[h59,hx]);have hbx:bod x=false:=(by simp[bod,hd,hx]);have HR:=Lib.hid (HST.out hbx);clear h59 hx hbx HST HNX;rw[if_neg (by omega)] at HR;by_cases hlo:(x.toNat:Int)<64
          · have HF:=Lib.hid (Qjt hlo);go_wp2_with (go_at_call 202;refine(XV _ _).mono ?_;rintro e w' ⟨rfl,rfl⟩);rw[HR.out,if_pos HF.out];exact bodyPost_ret (v:=ptV ⟨5,false,[],0,(m:Int)+1⟩ (.slice none 0 0)) (by simp[results,Tryz.results185,ptV,go_sem]) rfl ⟨_,rfl,X1 _ _,Zk _ _ _⟩
          by_cases hhi:126<(x.toNat:Int)
          · have HF:=Lib.hid (Qju hhi);go_wp2_with (go_at_call 202;refine(XV _ _).mono ?_;rintro e w' ⟨rfl,rfl⟩);rw[HR.out,if_pos HF.out];exact bodyPost_ret (v:=ptV ⟨5,false,[],0,(m:Int)+1⟩ (.slice none 0 0)) (by simp[results,Tryz.results185,ptV,go_sem]) rfl ⟨_,rfl,X1 _ _,Zk _ _ _⟩
          have HF:=Lib.hid (Qjv hlo hhi);go_wp2_with (go_at_call 202;refine(XV _ _).mono ?_;rintro e w' ⟨rfl,rfl⟩);have hct:=(HA.out (.cells #[.int .i64 0,.bool false,.slice none 0 0,.int .u8 0,.int .i64 0] 177) (.cells #[.int .i64 0,.bool true,.slice none 0 0,.int .u8 0,.int .i64 ((m:Int)+1)] 177)).cut 1 m c hm hc;rw[if_neg (by omega)] at hct;have HCT:=Lib.hid (show Bs _ _ (some ⟨b,off+1,none⟩) ((l.take m).drop 1) from hct);clear hct;refine(Vq _ _ _ ((l.take m).drop 1) _ (by simp;omega) HCT.out HBD.out (by omega) (by simp;omega)).mono ?_;rintro e w1 ⟨v,rfl,ho,hb1⟩;obtain⟨hcc,hff⟩:=QgY hb1;have hz1:w.heap.size+1<w1.heap.size:=(by have:=hb1.size;simp at this;omega);have hcE1:w1.cell? ⟨b,off+m,none⟩=some (.int .u8 (x.toNat:Int)):=(hcc b _ (by simp;omega)).trans ((World.cell?_alloc_lt _ _ ⟨b,off+m,none⟩ (by simp;omega)).trans ((World.cell?_alloc_lt w _ ⟨b,off+m,none⟩ hb).trans hcm));have hq:∀i,w1.cell? ⟨w.heap.size,i,none⟩=(w.alloc (.cells #[.int .i64 0,.bool false,.slice none 0 0,.int .u8 0,.int .i64 0] 177)).cell? ⟨w.heap.size,i,none⟩:=fun i=>(hcc w.heap.size i (by simp;omega)).trans (World.cell?_alloc_lt _ _ ⟨w.heap.size,i,none⟩ (by simp));have HFL:=Lib.hid (Qg1 ((l.take m).drop 1));obtain⟨pv,cv,hv⟩:=ho.form;subst hv;by_cases hft:(XO ((l.take m).drop 1)).length≤4
          · have hft':¬(4:Int)<((XO ((l.take m).drop 1)).length:Int):=(by omega);have HFT:=Lib.hid (show fits ((l.take m).drop 1)=true by rw[HFL.out];simpa using hft);generalize hnl:(XO ((l.take m).drop 1)).length=nl at *;go_wp2;rw[HR.out,if_neg (by rw[HF.out];simp),if_neg (by rw[HFT.out];simp)];exact bodyPost_ret (v:=ptV ⟨0,true,XO ((l.take m).drop 1),(x.toNat:Int),(m:Int)+1⟩ (.slice pv nl cv)) (by simp[results,Tryz.results185,ptV,go_sem,hq]) rfl (QdH (.inl ho) hb1)
          · have hft':(4:Int)<((XO ((l.take m).drop 1)).length:Int):=(by omega);have HFT:=Lib.hid (show fits ((l.take m).drop 1)=false by rw[HFL.out];simpa using hft);generalize hnl:(XO ((l.take m).drop 1)).length=nl at *;go_wp2;rw[HR.out,if_neg (by rw[HF.out];simp),if_pos HFT.out];exact bodyPost_ret (v:=ptV ⟨2,false,[],0,(m:Int)+1⟩ (.slice none 0 0)) (by simp[results,Tryz.results185,ptV,go_sem,hq]) rfl (QdH (.inr ⟨rfl,rfl⟩) hb1)
    · obtain rfl:m=l.length:=(by omega);have HR:=Lib.hid (Qg0 (QdG hs hm HT.out (.inl rfl)));go_wp2;rw[HR.out,if_pos trivial];exact bodyPost_ret (v:=ptV ⟨6,false,[],0,0⟩ (.slice none 0 0)) (by simp[results,Tryz.results185,ptV,go_sem]) rfl ⟨_,rfl,X1 _ _,Zk _ _ _⟩
theorem QaG (p:Option Addr) (c:Nat) (l:List UInt8) (w:World) (h:Bs w w.heap.size p l) (hc:l.length≤c) (hl:l.length≤1048576):
    Calls Tryz.prog 185 #[.slice p l.length c] w (Y8 w (Qco l)):=by
  by_cases he:l=[]
  · subst he;exact QdI p c w
  unfold Qco;split
  · exact QdK p c l w h hc hl he (by assumption)
  · exact QdJ p c l w h hc hl he (by simp_all)
end Go.Proofs.YtbfickdgjgbfhaaGreatDoor
