/- What the listed tables of utf8 give: their cells. -/
import Derived.Test.YtbfickdgjgbfhaaGreatDoorRows
import Derived.Test.YtbfickdgjgbfhaaGreatDoorQFaultToFirstFull
import Derived.Lib.LaidU8
import Derived.Test.YtbfickdgjgbfhaaGreatDoorQShelfAIToL2Bytes
import Derived.Test.YtbfickdgjgbfhaaGreatDoorQBytesToCells
import Derived.ProofKit
import Derived.OpenShut
import Derived.Lib.SmallJoins
import Derived.Test.YtbfickdgjgbfhaaGreatDoorQEvents
import Derived.Test.YtbfickdgjgbfhaaGreatDoorQMdToEnc
set_option maxRecDepth 100000
namespace Go.Proofs.YtbfickdgjgbfhaaGreatDoor
open Go.RowKit
theorem Qk7:Tryz.prog.globalNamed "unicode/utf8.first"=some 0:=by kernel_rfl
theorem Qhy:(Tryz.prog.globals[0]?).map (·.type)=some 200:=by kernel_rfl
theorem Qmc:Tryz.prog.globalNamed "unicode/utf8.acceptRanges"=some 1:=by kernel_rfl
theorem Qkx:(Tryz.prog.globals[1]?).map (·.type)=some 203:=by kernel_rfl
theorem cU8:Tryz.prog.cellsOf 5=1:=by kernel_rfl
theorem QlS:Tryz.prog.cellsOf 200=256:=by kernel_rfl
theorem Qk8:Tryz.prog.cellsOf 202=2:=by kernel_rfl
theorem QlT:Tryz.prog.underlying 200=some (.array 256 5):=by kernel_rfl
theorem Qmn:Tryz.prog.underlying 203=some (.array 16 202):=by kernel_rfl
theorem Qf4:Rows.laid_unicode_utf8_first=Lib.tabData .u8 ((List.range 256).map QD):=by kernel_rfl
theorem Qf5 {w:World} {cs:Array Value} {fuel:Nat} {p:List MemPlace} {ds:List (DataW Unit)} (hvar:w.var? Tryz.prog "unicode/utf8.acceptRanges"=some cs)
    (hd:DataW.trod (fun _=>()) Tryz.prog w 0 (fun _=>true) false fuel 203 cs.toList=some (.agg ds,p)) (i:Nat) (hi:i<16) (lo hi':Int)
    (hds:ds[i]? =some (.agg ([lo,hi'].map fun z=>.lit (.int .u8 z)))):
    w.cell? ⟨1,i * 2,none⟩=some (.int .u8 lo)∧w.cell? ⟨1,i * 2+1,none⟩=some (.int .u8 hi'):=by
  obtain⟨fuel',d,q,hdi,he⟩:=Lib.array_elem Qmn hd i hi;rw[hds] at hdi;obtain rfl:=Option.some.inj hdi;rw[Qk8] at he;have hcs:=Lib.ints_of_struct Tryz.underlying202 (fun j f hj=>by
    match j,hj with
    | 0,hj=>simp at hj;subst hj;exact⟨Tryz.underlying5,rfl,cU8⟩
    | 1,hj=>simp at hj;subst hj;exact⟨Tryz.underlying5,rfl,cU8⟩
    | j+2,hj=>simp at hj) (by rw[Qk8];rfl) he
  have e0:=congrArg (·[0]?) hcs;have e1:=congrArg (·[1]?) hcs;simp only[List.getElem?_take,List.getElem?_drop] at e0 e1;constructor
  · rw[World.var?_cell Qmc hvar (i * 2),←Array.getElem?_toList];simpa using e0
  · rw[World.var?_cell Qmc hvar (i * 2+1),←Array.getElem?_toList];simpa using e1
theorem QdR {w:World} (h3:Lib.VarReads Tryz.prog w "unicode/utf8.first" Rows.laid_unicode_utf8_first) (h4:Lib.VarReads Tryz.prog w "unicode/utf8.acceptRanges" Rows.laid_unicode_utf8_acceptRanges):Yo w:=by
  obtain⟨g,t,cs,fuel,p,hg,hty,hvar,hd⟩:=h3;obtain rfl:=Option.some.inj (Qk7.symm.trans hg);obtain rfl:=Option.some.inj (Qhy.symm.trans hty);rw[Qf4] at hd;have hcs:=Lib.cells_of_tab QlT Tryz.underlying5 cU8 QlS hd;obtain⟨g,t,cs',fuel',p',hg',hty',hvar',hd'⟩:=h4;obtain rfl:=Option.some.inj (Qmc.symm.trans hg');obtain rfl:=Option.some.inj (Qkx.symm.trans hty');have hr:=fun i hi lo hi' hds=>Qf5 hvar' hd' i hi lo hi' hds;refine⟨fun i hi=>?_,(hr 0 (by omega) 128 191 rfl).1,(hr 0 (by omega) 128 191 rfl).2,(hr 1 (by omega) 160 191 rfl).1,(hr 1 (by omega) 160 191 rfl).2,(hr 2 (by omega) 128 159 rfl).1,(hr 2 (by omega) 128 159 rfl).2,
    (hr 3 (by omega) 144 191 rfl).1,(hr 3 (by omega) 144 191 rfl).2,(hr 4 (by omega) 128 143 rfl).1,(hr 4 (by omega) 128 143 rfl).2⟩
  rw[World.var?_cell Qk7 hvar i,←Array.getElem?_toList,hcs];simp[hi]
def Qk9 (cs:Array Value):Obj→Obj
  | .cells _ t frozen=>.cells cs t frozen
  | o=>o
def Qmo:List Int:=[128,191,160,191,128,159,144,191,128,143,0,0,0,0,0,0,0,0,0,0,0,0,0,0,0,0,0,0,0,0,0,0]
theorem Qmp:Tryz.prog.globalNamed "internal/strconv.uint64pow10"=some 2:=by kernel_rfl
theorem Qky:(Tryz.prog.globals[2]?).map (·.type)=some 225:=by kernel_rfl
theorem Qmq:Tryz.prog.cellsOf 206=1:=by kernel_rfl
theorem Qmr:Tryz.prog.cellsOf 225=20:=by kernel_rfl
theorem Qms:Tryz.prog.underlying 225=some (.array 20 206):=by kernel_rfl
theorem QjB:(Rows.laid_internal_strconv_uint64pow10:DataW Unit)=Lib.tabData .u64 Lib.pow10Tab:=by kernel_rfl
theorem QeN {w:World} (h:Lib.VarReads Tryz.prog w "internal/strconv.uint64pow10" Rows.laid_internal_strconv_uint64pow10):Lib.TabIs Tryz.prog w "internal/strconv.uint64pow10" .u64 Lib.pow10Tab:=by
  obtain⟨g,t,cs,fuel,p,hg,hty,hvar,hd⟩:=h;obtain rfl:=Option.some.inj (Qmp.symm.trans hg);obtain rfl:=Option.some.inj (Qky.symm.trans hty);rw[QjB] at hd;have hcs:=Lib.cells_of_tab Qms Tryz.underlying206 Qmq Qmr hd;unfold Lib.TabIs;rw[hvar,←hcs]
def Qf6 (cs:Array Value):Obj→Obj
  | .cells _ t frozen=>.cells cs t frozen
  | o=>o
def Qmd:List Int:=[0,1,28,2,29,14,24,3,30,22,20,15,25,17,4,8,31,27,13,23,21,19,16,7,26,12,18,6,11,5,10,9]
def Qme:List Int:=[0,1,56,2,57,49,28,3,61,58,42,50,38,29,17,4,62,47,59,36,45,43,51,22,53,39,33,30,24,18,12,5,63,55,48,27,60,41,37,16,46,35,44,21,52,32,23,11,54,26,40,15,34,20,31,10,25,14,19,9,13,8,7,6]
noncomputable def KQ (os:Os):World:=
  let w:=World.holding Tryz.prog os ⟨#[],#[],[]⟩
  {w with heap:=((((w.heap.modify 4 (Qf6 (Qmd.map (Value.int .u8)).toArray)).modify 5 (Qf6 (Qme.map (Value.int .u8)).toArray)).modify 2 (Qf6 (Lib.pow10Tab.map (Value.int .u64)).toArray)).modify 0 (Qk9 (((List.range 256).map QD).map (Value.int .u8)).toArray)).modify 1 (Qk9 (Qmo.map (Value.int .u8)).toArray) }
end Go.Proofs.YtbfickdgjgbfhaaGreatDoor
namespace Go.Proofs.YtbfickdgjgbfhaaGreatDoor
open Go.ChangeShapes Go.WideShapes Go.ChangeAt Go.RowKit Go.Deep
theorem Qhz {x:Int} (h:(Lit.int .u8 x).wf=true):0≤x∧x<256:=by
  have h1:IntKind.u8.min=0:=rfl;have h2:IntKind.u8.max=255:=rfl;simp only[Lit.wf,Bool.and_eq_true,decide_eq_true_eq] at h;omega
theorem Qlv {H:Type} {enc:TypeId×Value→H} {P:Program} {t e:TypeId} (ht:P.underlying t=some (.slice e)) (he:P.underlying e=some (.int .u8)) (hc:P.cellsOf e=1) {W:World} {a0:Option Addr} {len cap:Nat} {d0:DataW H} {p:List MemPlace}
    (h0:DataW.Trod enc P W 0 (fun _=>true) true t (.slice a0 len cap) d0 p):∃l:List UInt8,l.length=len∧Bs W W.heap.size a0 l:=by
  obtain⟨fuel,hf⟩:=h0;rcases open_ints ht he hc hf with⟨hcs,hx⟩ | ⟨a,len',cap',zs,hcs,_,hl,hm,hz,hx,hcell,hwz⟩
  · simp[Value.cells] at hcs;obtain⟨rfl,rfl,rfl⟩:=hcs;exact⟨[],rfl,fun h=>absurd rfl h⟩
  · simp[Value.cells] at hcs;obtain⟨rfl,rfl,rfl⟩:=hcs;simp only[if_true] at hz;refine⟨(zs.take len).map fun x=>UInt8.ofNat x.toNat,by simp;omega,fun hne=>?_⟩;have hpos:0<zs.length:=by
      rcases Nat.eq_zero_or_pos zs.length with h | h
      · exact absurd (by simp[List.eq_nil_of_length_eq_zero h]) hne
      · exact h
    obtain⟨b,off,s⟩:=a;have h00:=hcell 0 hpos;obtain rfl:s=none:=(by simpa [Addr.add] using World.cell?_spot h00);have hadd:∀i,(⟨b,off,none⟩:Addr).add i=⟨b,off+i,none⟩:=fun i=>(by unfold Addr.add;split <;> simp_all);refine⟨b,off,rfl,?_,fun i hi=>?_⟩
    · have:=World.block_lt_of_cell? _ _ h00;rw[hadd] at this;exact this
    · simp at hi;have hiz:i<zs.length:=(by omega);have hb:=Qhz (hwz zs[i] (List.getElem_mem hiz));rw[←hadd,hcell i hiz];simp[List.getD_eq_getElem?_getD,List.getElem?_eq_getElem hiz,hi];omega
theorem QeO {H:Type} {enc:TypeId×Value→H} {P:Program} {t e:TypeId} (ht:P.underlying t=some (.slice e)) (he:P.underlying e=some (.int .u8)) (hc:P.cellsOf e=1) {W:World} {v:Value} {fuel:Nat} {y:DataW H×List MemPlace}
    (h0:DataW.trod enc P W 0 (fun _=>true) true fuel t [v]=some y):∃(p:Option Addr) (c:Nat) (l:List UInt8),v=.slice p l.length c∧Bs W W.heap.size p l∧l.length≤maxLen:=by
  have hv:∃p n c,v=.slice p n c∧n≤maxLen:=by
    rcases open_ints ht he hc h0 with⟨hcs,_⟩ | ⟨a,len',cap',zs,hcs,_,hl,hm,_⟩
    · exact⟨_,_,_,by simpa using hcs,Nat.zero_le _⟩
    · exact⟨_,_,_,by simpa using hcs,by omega⟩
  obtain⟨p,n,c,rfl,hn⟩:=hv;obtain⟨l,rfl,hb⟩:=Qlv (d0:=y.1) (p:=y.2) ht he hc ⟨fuel,by simpa [Value.cells] using h0⟩;exact⟨p,c,l,rfl,hb,hn⟩
theorem Qf7 {H:Type} {enc:TypeId×Value→H} {P:Program} {W:World} {base:Nat} {spare:Nat→Bool} {held:Bool} {t:TypeId} {fs:Array Field} {fuel:Nat} {cs:List Value} {x:DataW H×List MemPlace}
    (hs:P.underlying t=some (.struct fs)) (hone:oneCellFields P fs=true) (hC:P.cellsOf t=fs.size) (h:DataW.trod enc P W base spare held fuel t cs=some x):
    ∃n,cs.length=fs.size∧∀(j:Nat) (f:Field) (c:Value),fs[j]? =some f→cs[j]? =some c→∃y,DataW.trod enc P W base spare held n f.type [c]=some y:=by
  obtain⟨xs,n,_,_,hl,hlen,hf⟩:=DataW.trod_struct hs h;refine⟨n,hl.trans hC,fun j f c hj hcj=>?_⟩;obtain⟨ho,hk⟩:=hone_of hone j f hj;have h1:=hf j f hj;have hjl:j<cs.length:=(List.getElem?_eq_some_iff.1 hcj).1;have hxl:j<xs.length:=(by have:=(Array.getElem?_eq_some_iff.1 hj).1;omega);rw[ho,hk,List.drop_eq_getElem_cons hjl,List.getElem?_eq_getElem hxl] at h1;rw[List.getElem?_eq_getElem hjl] at hcj;injection hcj with hcj;exact⟨_,by simpa [hcj] using h1⟩
theorem QaK {H:Type} {enc:TypeId×Value→H} {P:Program} {W:World} {base b0:Nat} {r:Reach} {spare:Nat→Bool} {held:Bool} {t:TypeId} {fs:Array Field} {v:Value} {d:DataW H} {p:List MemPlace}
    (hs:P.underlying t=some (.struct fs)) (hone:oneCellFields P fs=true) (hC:P.cellsOf t=fs.size) (hv:Value.okWide P W r b0 t v) (h:DataW.Trod enc P W base spare held t v d p):
    ∃(cs:List Value) (n:Nat),v=.agg cs.toArray∧cs.length=fs.size∧∀(j:Nat) (f:Field) (c:Value),fs[j]? =some f→cs[j]? =some c→∃y,DataW.trod enc P W base spare held n f.type [c]=some y:=by
  obtain⟨cs,rfl,hsz⟩:=okWide_struct hs hv;obtain⟨fuel,hf⟩:=h;obtain⟨n,hl,hg⟩:=Qf7 hs hone hC hf;refine⟨cs.toList,n,rfl,by simpa using hsz.trans hC,fun j f c hj hcj=>hg j f c hj (by simpa [Value.cells] using hcj)⟩
theorem Z8 {H:Type} {enc:TypeId×Value→H} {P:Program} {W:World} {base:Nat} {spare:Nat→Bool} {held:Bool} {t:TypeId} {k:IntKind} {v:Value} {n:Nat} {y:DataW H×List MemPlace}
    (ht:P.underlying t=some (.int k)) (h:DataW.trod enc P W base spare held n t [v]=some y):∃a,v=.int k a∧(Lit.int k a).wf=true:=by
  obtain⟨a,e,_,w⟩:=DataW.trod_int ht h;exact⟨a,by simpa using e,w⟩
theorem Qf8 {H:Type} {enc:TypeId×Value→H} {W:World} {cs:List Value} {n:Nat} {fs:Array Field}
    (hfs:fs.toList.map (·.type)=[2,2,2,2,2,2,2,22]) (hl:cs.length=fs.size)
    (hf:∀(j:Nat) (f:Field) (c:Value),fs[j]? =some f→cs[j]? =some c→∃y,DataW.trod enc Tryz.prog W 0 (fun _=>true) true n f.type [c]=some y):
    ∃(e:Ev) (p:Option Addr) (c:Nat),cs=(evC e p c).toList∧Bs W W.heap.size p e.data∧e.data.length≤maxLen:=by
  obtain⟨l⟩:=fs;have h8:l.length=8:=by simpa using congrArg List.length hfs
  match l,h8 with
  | [f0,f1,f2,f3,f4,f5,f6,f7],_=>
    simp at hfs;obtain⟨t0,t1,t2,t3,t4,t5,t6,t7⟩:=hfs
    match cs,hl with
    | [c0,c1,c2,c3,c4,c5,c6,c7],_=>
      obtain⟨y0,g0⟩:=hf 0 f0 c0 rfl rfl;obtain⟨y1,g1⟩:=hf 1 f1 c1 rfl rfl;obtain⟨y2,g2⟩:=hf 2 f2 c2 rfl rfl;obtain⟨y3,g3⟩:=hf 3 f3 c3 rfl rfl;obtain⟨y4,g4⟩:=hf 4 f4 c4 rfl rfl;obtain⟨y5,g5⟩:=hf 5 f5 c5 rfl rfl;obtain⟨y6,g6⟩:=hf 6 f6 c6 rfl rfl;obtain⟨y7,g7⟩:=hf 7 f7 c7 rfl rfl;rw[t0] at g0;rw[t1] at g1;rw[t2] at g2;rw[t3] at g3;rw[t4] at g4;rw[t5] at g5;rw[t6] at g6;rw[t7] at g7;obtain⟨a0,rfl,_⟩:=Z8 Tryz.underlying2 g0;obtain⟨a1,rfl,_⟩:=Z8 Tryz.underlying2 g1;obtain⟨a2,rfl,_⟩:=Z8 Tryz.underlying2 g2;obtain⟨a3,rfl,_⟩:=Z8 Tryz.underlying2 g3;obtain⟨a4,rfl,_⟩:=Z8 Tryz.underlying2 g4;obtain⟨a5,rfl,_⟩:=Z8 Tryz.underlying2 g5;obtain⟨a6,rfl,_⟩:=Z8 Tryz.underlying2 g6;obtain⟨p,c,d,rfl,hb,hm⟩:=QeO Tryz.underlying22 Tryz.underlying5 (by kernel_rfl) g7;exact⟨⟨a0,a1,a2,a3,a4,a5,a6,d⟩,p,c,rfl,hb,hm⟩
theorem QdS {H:Type} {enc:TypeId×Value→H} {W:World} {v:Value} {d:DataW H} {p:List MemPlace} {b0:Nat} {r:Reach}
    (hv:Value.okWide Tryz.prog W r b0 65 v) (h:DataW.Trod enc Tryz.prog W 0 (fun _=>true) true 65 v d p):
    ∃(e:Ev) (p:Option Addr) (c:Nat),v=evV e p c∧Bs W W.heap.size p e.data∧e.data.length≤9223372036854775807:=by
  obtain⟨cs,n,rfl,hl,hf⟩:=QaK Tryz.underlying65 (by kernel_rfl) (by kernel_rfl) hv h;obtain⟨e,p,c,rfl,hb,hm⟩:=Qf8 (by rfl) hl hf;exact⟨e,p,c,rfl,hb,by simpa [maxLen] using hm⟩
theorem Ke {H:Type} {enc:TypeId×Value→H} {P:Program} {W:World} {base:Nat} {spare:Nat→Bool} {held:Bool} {t:TypeId} {v:Value} {n:Nat} {y:DataW H×List MemPlace}
    (ht:P.underlying t=some .bool) (h:DataW.trod enc P W base spare held n t [v]=some y):∃a,v=.bool a:=by
  obtain⟨a,e,_⟩:=DataW.trod_bool ht h;exact⟨a,by simpa using e⟩
theorem QdT {H:Type} {enc:TypeId×Value→H} {W:World} {v:Value} {d:DataW H} {p:List MemPlace} {b0:Nat} {r:Reach}
    (hv:Value.okWide Tryz.prog W r b0 64 v) (h:DataW.Trod enc Tryz.prog W 0 (fun _=>true) true 64 v d p):
    ∃m:Md,v=mdV m:=by
  obtain⟨cs,n,rfl,hl,hf⟩:=QaK Tryz.underlying64 (by kernel_rfl) (by kernel_rfl) hv h
  match cs,hl with
  | [c0,c1,c2,c3,c4],_=>
    obtain⟨y0,g0⟩:=hf 0 _ c0 rfl rfl;obtain⟨y1,g1⟩:=hf 1 _ c1 rfl rfl;obtain⟨y2,g2⟩:=hf 2 _ c2 rfl rfl;obtain⟨y3,g3⟩:=hf 3 _ c3 rfl rfl;obtain⟨y4,g4⟩:=hf 4 _ c4 rfl rfl;obtain⟨a0,rfl⟩:=Ke Tryz.underlying4 g0;obtain⟨a1,rfl⟩:=Ke Tryz.underlying4 g1;obtain⟨a2,rfl,_⟩:=Z8 Tryz.underlying2 g2;obtain⟨a3,rfl⟩:=Ke Tryz.underlying4 g3;obtain⟨a4,rfl⟩:=Ke Tryz.underlying4 g4;exact⟨⟨a0,a1,a2,a3,a4⟩,rfl⟩
end Go.Proofs.YtbfickdgjgbfhaaGreatDoor
