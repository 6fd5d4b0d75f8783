/- What is read back from encoded bytes, as data: fed at once, then ticked after the time of escape. -/
import Derived.Test.YtbfickdgjgbfhaaGreatDoorQSpecEnc6ToEncSome
import Derived.Test.YtbfickdgjgbfhaaGreatDoorQTakeToSpecTick
import Derived.Test.YtbfickdgjgbfhaaGreatDoorQEvsToEvs2
import Derived.Laws.AppendOwnNone
import Derived.Test.YtbfickdgjgbfhaaGreatDoorQEncImpl5ToEncImpl7
import Derived.Test.YtbfickdgjgbfhaaGreatDoorQTokToTokRes
set_option linter.unusedVariables false
set_option linter.unusedSimpArgs false
set_option maxRecDepth 100000
set_option maxHeartbeats 8000000
namespace Go.Proofs.YtbfickdgjgbfhaaGreatDoor
open Go.RowKit
def exT (r:List UInt8):List Ev×List UInt8×Bool:=QF Qw r false
def Vk (r:List UInt8):Dc:=⟨(exT r).2.1,(exT r).2.2,if (exT r).2.1=[] then 0 else 50⟩
def JF (d:Dc):List Ev:=if d.pend=[] then [] else (QF Qs d.pend d.paste).1
def JG (r:List UInt8):List Ev:=(exT r).1++JF (Vk r)
def exE (md:Md) (e:Ev):Bool:=if (Xc md e).1=0 then Yd (JG (Xc md e).2) [e] else false
theorem Qep (l:List UInt8) (hne:l≠[]):(Q0 l).code=0∨(Q0 l).code=6:=by
  unfold Q0;rw[if_neg hne];exact Kj l
theorem QgU (l:List UInt8) (q:Bool) (hne:l≠[]):(Qw l q).code=0∨(Qw l q).code=6:=by
  unfold Qw;split
  · exact QcH l hne
  · exact Qep l hne
theorem Qdo (r:List UInt8):Xe (Vk r)=0:=by
  have he:=QbQ Yg r false;by_cases h0:(exT r).2.1=[]
  · unfold Xe Vk;simp[h0,inR]
  · have hd:inR (Vk r).due 0 2000000=true:=(by unfold Vk;simp[h0,inR]);rw[UT hd h0,if_pos];exact(QgU _ _ h0).resolve_left he
theorem Qhj (r:List UInt8):¬(50:Int)<(Vk r).due:=by
  unfold Vk;dsimp only;split <;> omega
theorem Ud (r:List UInt8):(Vk r).pend.length≤r.length:=(K9 Yg r false).1
theorem QgV (r:List UInt8):(exT r).1.length≤r.length:=by have:=(K9 Yg r false).2;unfold exT;omega
theorem Vl (d:Dc):(JF d).length≤d.pend.length:=by
  unfold JF;split
  · simp
  · have:=(K9 Xf d.pend d.paste).2;omega
theorem QfE (r:List UInt8):(JG r).length≤r.length+r.length:=by
  have h1:=QgV r;have h2:=Vl (Vk r);have h3:=Ud r;unfold JG;rw[List.length_append];omega
def zDc:Dc:=⟨[],false,0⟩
theorem Qjc (r:List UInt8) (h:r.length≤200):ZT zDc r 0=⟨0,Vk r,(exT r).1⟩:=by
  have hz:Xe zDc=0:=(by decide);unfold ZT;rw[if_neg (by rw[hz];simp),if_neg (by omega),if_neg (by simp[inR])];rfl
theorem Qjd (r:List UInt8):∃dc,ZV (Vk r) 50=⟨0,dc,JF (Vk r)⟩:=by
  have hd:=Qhj r;unfold ZV;rw[if_neg (by rw[Qdo];simp),if_neg (by simp[inR])];by_cases h0:(Vk r).pend=[]
  · rw[if_pos (.inl h0)];exact⟨_,by unfold JF;rw[if_pos h0]⟩
  · rw[if_neg (by intro h;exact h.elim h0 hd)];exact⟨_,by unfold JF;rw[if_neg h0]⟩
theorem Ko (priv:Bool) (nums:List Int) (fin:UInt8) (hin:Ys nums=true) (h4:nums.length≤4):(Zq priv nums fin).length≤42:=by
  have:=Qle priv nums fin hin h4;unfold Zq;simp only[List.length_append,List.length_cons,List.length_nil];omega
theorem Qkm (c:Int):(Ye c).length≤4:=by have:=Xv c;rw[Yi];omega
theorem Qkn (md:Md) (c m:Int) (hk:Xi c=true) (h0:0≤m) (h7:m≤7):(Qcb md c m).length≤50:=by
  unfold Qcb;split
  · unfold Yj;split
    · have:=Ko false [1,m+1] (Qt (Xb c)) (Xq (by omega) (by omega) (by omega) (by omega)) (by simp);omega
    · split
      · simp
      · have:=Ko false [] (Qt (Xb c)) rfl (by simp);omega
  · rename_i hl;split
    · have hr:=J9 c;unfold ZO;split
      · have:=Ko false [X8 c,m+1] 126 (Xq (by omega) (by omega) (by omega) (by omega)) (by simp);omega
      · have:=Ko false [X8 c] 126 (by simp[Ys,inR];omega) (by simp);omega
    · rename_i ht;have hT:QY c m:=⟨hk,by simpa using hl,by simpa using ht,h0,h7⟩;have hc:=hT.code;have hp:=Qn c m;have hu:=Qkm c;unfold QC;split
      · omega
      · split
        · simp;omega
        · split
          · have:=Ko false [QR c,m+1] 117 (Xq hc.1 hc.2.1 (by omega) (by omega)) (by simp);omega
          · split
            · split <;> (simp;omega)
            · split <;> omega
theorem QgW (md:Md) (e:Ev) (h:Vd e):(Z7 md e).length≤50:=by
  obtain⟨b0,b2,a1,a3,m0,m7,x0,x9,y0,y9⟩:=h;unfold Z7;split
  · have:=ZR e.button e.act e.mods b0 (by omega) m0 m7;have:=Ko true [X9 e.button e.act e.mods,e.col+1,e.row+1] (if e.act=2 then 109 else 77) (Qdk (by omega) (by omega) (by omega) (by omega) (by omega) (by omega)) (by simp);unfold Qk6;omega
  · simp[Vv]
theorem QgX (md:Md) (e:Ev) (h:Vd e):(Zo md e).2.length≤50:=by
  unfold Zo;split
  · exact QgW md e h
  · simp
theorem Ue (md:Md) (e:Ev):(Xc md e).2.length≤100:=by
  by_cases hf:YD md e=0
  · rw[ZF hf];have he:=(Zi hf).2;rcases Km he with h1 | h1 | h1 | h1
    · rw[if_pos h1];obtain⟨g1,g2,g3⟩:=QbY he h1;have:=Qkn md e.code e.mods g1 g2 g3;dsimp only;omega
    · rw[if_neg (by omega),if_pos h1];exact Nat.le_trans (QgX md e (Ve he h1)) (by omega)
    · rw[if_neg (by omega),if_neg (by omega),if_pos h1];have hl:=Zp he (.inl h1);show(QeM md e.data).length≤100;unfold QeM;split
      · simp[Qcs,QaJ];omega
      · omega
    · rw[if_neg (by omega),if_neg (by omega),if_neg (by omega)];have hl:=Zp he (.inr h1);show e.data.length≤100;omega
  · rw[Jg hf];simp
theorem U0 (rows:List Q1):(rows.flatMap QH).length=rows.length * 8:=by
  induction rows with
  | nil=>rfl
  | cons r rs ih=>rw[List.flatMap_cons,List.length_append,ih,List.length_cons];simp[QH,evC];omega
theorem QlH (rows:List Q1):∀u∈rows.flatMap QH,u.oneCell'=true:=by
  intro u hu;obtain⟨r,_,h⟩:=List.mem_flatMap.1 hu;exact Qen r u h
theorem QI.cells {W:World} {base:Nat} {ad:Addr} {n c:Nat} {rows:List Q1} (h:QI W base (.slice (some ad) n c) rows):∀j u,(rows.flatMap QH)[j]? =some u→W.cell? (ad.add j)=some u:=by
  intro j u hu;have hj:j<rows.length * 8:=(by rw[←U0];exact(List.getElem?_eq_some_iff.1 hu).1);rcases h.1.2 with⟨e,_⟩ | ⟨g,cap,cur,e,_⟩
  · simp at e
  · simp only[Value.slice.injEq,Option.some.injEq] at e;obtain⟨rfl,rfl,rfl⟩:=e;have:=World.ownsRow.cellAt h.1 j (by omega);rw[hu] at this;have e:(⟨g,0,none⟩:Addr).add j=⟨g,j,none⟩:=by
      unfold Addr.add;split
      · rename_i h;rw[h]
      · simp
    rw[e,this]
theorem QI.both {W W':World} {base b2:Nat} {v v2 v':Value} {r1 r2:List Q1} (h:QI W base v r1) (h2:QI W b2 v2 r2) (hb:base≤b2)
    (hn:W'.ownsRow base 40 8 v' (r1.length+r2.length) (r1.flatMap QH++r2.flatMap QH)) (hg:W.grownBy W' v.ownBlock):QI W' base v' (r1++r2):=by
  have hk:∀{B:Nat} {x:Q1},Own W B (QU x) x.1.data→Own W' B (QU x) x.1.data:=fun {B x} hx=>hx.far hg (fun j hj e=>by
    rcases Qb1 h.1 hx with h0 | h0
    · rw[h0] at e;cases e
    · exact h0 (hj.trans e))
  refine⟨by rw[List.length_append,List.flatMap_append];exact hn,fun x hx=>?_⟩;rcases List.mem_append.1 hx with h' | h'
  · exact hk (h.2 x h')
  · exact(hk (h2.2 x h')).lower hb
theorem JH {o:Oper} {a:Act} {w:World} {K:Act→World→Prop} {Q:Exit→Act→World→Prop} (s x:Operand)
    (ho:o.op=.call {callee:=.builtin .append,args:=#[s,x],argTypes:=#[28,28] }) {b1 b2:Nat} {v1 v2:Value} {r1 r2:List Q1}
    (hs:a.eval s=v1) (hx:a.eval x=v2) (h1:QI w b1 v1 r1) (h2:QI w b2 v2 r2) (hb:b1≤b2) (hsz:b1≤w.heap.size) (hl:r1.length+r2.length≤1000)
    (h:∀p c n w',n=(r1++r2).length→QI w' b1 (.slice p n c) (r1++r2)→w.grownBy w' v1.ownBlock→K (a.put o.dst (.slice p n c)) w'):o.wp Tryz.prog a w K Q:=by
  obtain⟨i0,hi,hz0,hz1,hz2⟩:=info_parts Tryz.info_evd;obtain⟨p2,c2,rfl⟩:=h2.slice
  cases p2 with
  | none=>
    have hr2:r2=[]∧c2=0:=by
      rcases h2.1.2 with⟨e,e0⟩ | ⟨g,cap,cur,e,_⟩
      · simp only[Value.slice.injEq] at e;exact⟨List.eq_nil_of_length_eq_zero e.2.1,e.2.2⟩
      · simp at e
    obtain⟨rfl,rfl⟩:=hr2;have hrun:=run_append_owned_none (P:=Tryz.prog) (w:=w) b1 28 o.type 40 i0 8 Tryz.underlying28 hi v1 _ _ h1.1;obtain⟨p1,c1,rfl⟩:=h1.slice;have hk:=h p1 c1 r1.length w (by simp) (by simpa using h1) (World.grownBy.refl _ _);have hk2:K (a.put o.dst (.slice p1 r1.length c1)) w:=(by simpa using hk);unfold Oper.wp;simp[execOp,ho,resolve,invoke,builtin,hs,hx,hrun,Result.andThen];exact hk2
  | some ad=>
    refine wp_append_own w s x 28 ho b1 40 i0 _ 8 80 Tryz.underlying28 hi hz0 hz1 hz2 rfl (by decide) v1 r1.length (r1.flatMap QH) hs h1.1 ad r2.length c2 (r2.flatMap QH) hx (U0 r2) h2.cells (QlH r2) (by unfold maxLen;omega) (by omega) hsz ?_;intro v' w' hn hg _;have hb':=h1.both h2 hb hn hg;obtain⟨p,c,rfl⟩:=hb'.slice;exact h p c _ w' rfl hb' hg
theorem UH {ops:Array Oper} {rest:List Oper} {o:Oper} {a:Act} {w:World} {Q:Exit→Act→World→Prop} (hgd:o.guard=none) (s x:Operand)
    (ho:o.op=.call {callee:=.builtin .append,args:=#[s,x],argTypes:=#[28,28] }) {b1 b2:Nat} {v1 v2:Value} {r1 r2:List Q1}
    (hs:a.eval s=v1) (hx:a.eval x=v2) (h1:QI w b1 v1 r1) (h2:QI w b2 v2 r2) (hb:b1≤b2) (hsz:b1≤w.heap.size) (hl:r1.length+r2.length≤1000)
    (h:∀p c n w',n=(r1++r2).length→QI w' b1 (.slice p n c) (r1++r2)→w.grownBy w' v1.ownBlock→wpList Tryz.prog ops Q rest (a.put o.dst (.slice p n c)) w'):wpList Tryz.prog ops Q (o::rest) a w:=
  wpList_plain hgd fun _ hK=>JH s x ho hs hx h1 h2 hb hsz hl fun p c n w' hn hv hg=>hK _ _ (h p c n w' hn hv hg)
theorem Qko (W:World) (e:Ev) (p:Option Addr) (c:Nat) (t:TypeId) (h:Bs W W.heap.size p e.data):Es (W.alloc (.cells (evC e p c) t)) (W.alloc (.cells (evC e p c) t)).heap.size (some ⟨W.heap.size,0,none⟩) [e]:=by
  intro _;refine⟨W.heap.size,0,rfl,by simp,fun i hi=>?_⟩;obtain rfl:i=0:=(by simpa using hi);exact⟨p,c,by simpa using Qax.new W e p c t,by simpa using h.on (Qb W _)⟩
def Qmx (w:World) (db:Nat) (r:List UInt8) (e:Ending) (W:World):Prop:=
  ∃v rows p c,e=.returned v∧rows.map Prod.fst=(exT r).1∧QI W w.heap.size v rows∧AtM W db (dcL (Vk r) p c)∧Own W w.heap.size (.slice p (Vk r).pend.length c) (Vk r).pend∧w.grownBy W (some db)
def QlI (w:World) (db:Nat) (d:Dc) (e:Ending) (W:World):Prop:=
  ∃v rows,e=.returned v∧rows.map Prod.fst=JF d∧QI W w.heap.size v rows∧w.grownBy W (some db)
theorem Qmj (db:Nat) (ad:Addr) (cd:Nat) (r:List UInt8) (w:World) (hd:AtM w db [.slice none 0 0,.bool false,.int .i64 0]) (hdt:Bs w w.heap.size (some ad) r) (hl:r.length≤100):
    Calls Tryz.prog 61 #[.pointer (some ⟨db,0,none⟩),.slice (some ad) r.length cd,.int .i64 0] w (Qmx w db r):=by
  refine(Qjb zDc db none ad 0 cd r 0 w hd (fun h=>absurd rfl h) hdt (by simp[zDc];omega) (by omega) (by omega)).mono ?_;rintro e W ⟨v,rows,p,c,rfl,hr,hev,_,hat,ho,_,hg⟩;exact⟨v,rows,p,c,rfl,hr,hev,hat,ho,hg⟩
theorem Qmk (db:Nat) (d:Dc) (p:Option Addr) (c:Nat) (B:Nat) (w:World) (hf:Xe d=0) (hdue:¬(50:Int)<d.due) (hd:AtM w db (dcL d p c)) (ho:Own w B (.slice p d.pend.length c) d.pend) (hl:d.pend.length≤100):
    Calls Tryz.prog 76 #[.pointer (some ⟨db,0,none⟩),.int .i64 50] w (QlI w db d):=by
  by_cases h0:d.pend=[]
  · refine(QgT d db p c 50 w hd (.inl h0)).mono ?_;rintro e W ⟨rfl,rfl⟩;exact⟨_,[],rfl,by unfold JF;rw[if_pos h0];rfl,QgO _ _,World.grownBy.refl _ _⟩
  · refine(QgS d db p c 50 w hd ho.bs.2 ho.room.2.2 ho.room.2.1 (by omega) h0 hdue (QgR hf)).mono ?_;rintro e W ⟨v,rows,p',c',rfl,hr,hev,_,_,_,_,hg⟩;exact⟨v,rows,rfl,by unfold JF;rw[if_neg h0];exact hr,hev,hg⟩
theorem Qb9 (md:Md) (e:Ev) (p:Option Addr) (c:Nat) (w:World) (hd:Bs w w.heap.size p e.data) (hp:p=none→c=0):
    Calls Tryz.prog 29 #[mdV md,evV e p c] w fun en w'=>en=.returned (.bool (exE md e))∧Below w.heap.size w w':=by
  have hlen:=Ue md e;have hsome:=Qem md e;have SP:=Lib.hid (fun W (hb:Below w.heap.size w W)=>Vh md e p c W (hd.on hb) hp);have b2:=ZM w (.cells #[.bool md.cursor,.bool md.coded,.int .i64 md.mouse,.bool md.sgr,.bool md.paste] 51) (.cells #[.int .i64 e.kind,.int .i64 e.code,.int .i64 e.mods,.int .i64 e.button,.int .i64 e.act,.int .i64 e.col,.int .i64 e.row,.slice p e.data.length c] 40);have HB0:=Lib.hid b2;have HDW:=Lib.hid hd;clear hd;have XA:Hid (AtL ((w.alloc (.cells #[.bool md.cursor,.bool md.coded,.int .i64 md.mouse,.bool md.sgr,.bool md.paste] 51)).alloc (.cells #[.int .i64 e.kind,.int .i64 e.code,.int .i64 e.mods,.int .i64 e.button,.int .i64 e.act,.int .i64 e.col,.int .i64 e.row,.slice p e.data.length c] 40)) (w.heap.size+1) [.int .i64 e.kind,.int .i64 e.code,.int .i64 e.mods,.int .i64 e.button,.int .i64 e.act,.int .i64 e.col,.int .i64 e.row,.slice p e.data.length c]):=by
    have h:=AtL.new (w.alloc (.cells #[.bool md.cursor,.bool md.coded,.int .i64 md.mouse,.bool md.sgr,.bool md.paste] 51)) [.int .i64 e.kind,.int .i64 e.code,.int .i64 e.mods,.int .i64 e.button,.int .i64 e.act,.int .i64 e.col,.int .i64 e.row,.slice p e.data.length c] 40
    rwa [World.size_alloc] at h
  clear b2;by_cases hc:(Xc md e).1=0
  · have HE:Hid (exE md e=Yd (JG (Xc md e).2) [e]):=(by unfold exE;rw[if_pos hc];trivial);rw[hc] at SP;unfold Qk1 at hsome;rw[hc] at hsome;generalize(Xc md e).2=r at *;clear hc;have hne:r≠[]:=by
      rintro rfl;rcases hsome with⟨h,_⟩ | ⟨_,n,h⟩
      · exact h rfl
      · simp at h
    clear hsome;unfold mdV evV at *;go_enter Tryz.func29,Tryz.ntmps29;go_wp2_with fail;refine(SP.out _ HB0.out).mono ?_;rintro en w1 ⟨v,rfl,ho,hb⟩;clear SP;obtain⟨p4,c4,rfl⟩:=ho.slice;obtain⟨b,off,rfl,_⟩:=ho.bs.2 hne;have XB:=ZM w1 (.cells #[.int .i64 0,.slice (some ⟨b,off,none⟩) r.length c4] 100) (.cells #[.slice none 0 0,.bool false,.int .i64 0] 25);have HDC:Hid (AtM ((w1.alloc (.cells #[.int .i64 0,.slice (some ⟨b,off,none⟩) r.length c4] 100)).alloc (.cells #[.slice none 0 0,.bool false,.int .i64 0] 25)) (w1.heap.size+1) [.slice none 0 0,.bool false,.int .i64 0]):=by
      have h:=AtM.new (w1.alloc (.cells #[.int .i64 0,.slice (some ⟨b,off,none⟩) r.length c4] 100)) [.slice none 0 0,.bool false,.int .i64 0] 25
      rwa [World.size_alloc] at h
    have HR:=Lib.hid (ho.bs.2.on XB);have X2:=Lib.hid ((XA.out.on hb).on XB);have HB2:=Lib.hid (Qa (Qa HB0.out hb) XB);have hs1:w.heap.size+2≤w1.heap.size:=(by have:=hb.size;simpa using this);have hs2:((w1.alloc (.cells #[.int .i64 0,.slice (some ⟨b,off,none⟩) r.length c4] 100)).alloc (.cells #[.slice none 0 0,.bool false,.int .i64 0] 25)).heap.size=w1.heap.size+2:=(by simp);clear ho hb XB XA HB0;unfold brV;go_wp2_with fail;generalize(w1.alloc (.cells #[.int .i64 0,.slice (some ⟨b,off,none⟩) r.length c4] 100)).alloc (.cells #[.slice none 0 0,.bool false,.int .i64 0] 25)=W2 at *;refine(Qmj _ _ _ r _ HDC.out HR.out hlen).mono ?_;rintro en w3 ⟨v3,rows,pd,cd,rfl,hrows,hev,hat,hod,hg⟩;have HV3:=Lib.hid hev;have HAT:=Lib.hid hat;have HOD:=Lib.hid hod;have G3:=Lib.hid hg;have HR3:=Lib.hid hrows;clear hrows hev hat hod hg HDC HR;go_wp2_with fail;refine(Qmk _ (Vk r) pd cd W2.heap.size w3 (Qdo r) (Qhj r) HAT.out HOD.out (Nat.le_trans (Ud r) hlen)).mono ?_;rintro en w4 ⟨v4,rows4,rfl,hrows4,hev4,hg4⟩;have hz3:=G3.out.size;have V3:=Lib.hid (HV3.out.src hg4 (by omega));have V4:=Lib.hid hev4;have G4:=Lib.hid (World.grownBy.trans G3.out hg4);have HR4:=Lib.hid hrows4;have hz4:=hg4.size;have hl1:rows.length≤r.length:=(by rw[←List.length_map (f:=Prod.fst),HR3.out];exact QgV r);have hl2:rows4.length≤r.length:=(by rw[←List.length_map (f:=Prod.fst),HR4.out];exact Nat.le_trans (Vl _) (Ud r));have HEQ:(rows++rows4).map Prod.fst=JG r:=(by rw[List.map_append,HR3.out,HR4.out];rfl);have hn5:(rows++rows4).length=(JG r).length:=(by rw[←HEQ,List.length_map]);have hx5:(JG r).length≤1048576:=(by have:=QfE r;omega);have HEQ:=Lib.hid HEQ;have HN5:=Lib.hid hn5;clear hn5;clear hev4 hg4 hrows4 HV3 HAT HOD G3 HR3 HR4;go_wp2_with (at_builtin;refine UH rfl _ _ rfl rfl rfl V3.out V4.out (by omega) (by omega) (by omega) ?_);intro p5 c5 n5 w5 hn hv5 hg5;have hn6:n5=(JG r).length:=by
      have h:=HN5.out;rw[List.length_append] at h;rw[hn,h]
    clear hn;subst hn6;have hes:=hv5.es.2;rw[HEQ.out] at hes;have hlow:Below (w.heap.size+2) W2 w5:=(Jl G4.out (by omega) (by rintro g ⟨⟩;omega)).trans (Jl hg5 (by omega) (fun g hg=>by have:=(V3.out.lt g hg).1;omega));have HB5:=Lib.hid (HB2.out.trans (hlow.mono (by omega)));have X5:=X2.out.keep hlow.size fun o=>hlow.cell (p:=⟨w.heap.size+1,o,none⟩) (by show w.heap.size+1<w.heap.size+2;omega);obtain⟨z0,z1,z2,z3,z4,z5,z6,z7⟩:=AtL.eightE X5;have HES:=Lib.hid hes;clear hv5 hg5 hes hlow X5 X2 V3 V4 G4 HB2 HEQ HN5;go_wp2_with fail;refine(V6 p5 (some ⟨w5.heap.size,0,none⟩) c5 1 (JG r) [e] (w5.alloc (.cells (evC e p c) 40)) (HES.out.on (Qb _ _)) (Qko w5 e p c 40 (HDW.out.on HB5.out)) hx5).mono ?_;rintro en w6 ⟨rfl,hb6⟩;go_wp2_with fail;go_ret;exact⟨Qi HE.out.symm,Qa (Qa HB5.out (Qb _ _)) hb6⟩
  · have HE:Hid (exE md e=false):=(by unfold exE;rw[if_neg hc];trivial);generalize(Xc md e).1=k at *;generalize(Xc md e).2=r at *;clear hsome hlen;unfold mdV evV at *;go_enter Tryz.func29,Tryz.ntmps29;go_wp2_with fail;refine(SP.out _ HB0.out).mono ?_;rintro en w1 ⟨v,rfl,ho,hb⟩;clear SP;obtain⟨p4,c4,rfl⟩:=ho.slice;have HB2:=Lib.hid (Qa (Qa HB0.out hb) (Qb w1 (.cells #[.int .i64 k,.slice p4 r.length c4] 100)));clear ho hb;unfold brV;go_wp2_with fail;go_ret;exact⟨by rw[HE.out];rfl,HB2.out⟩
theorem Qml {w:World} {b:Nat} {e:Ev} {p:Option Addr} {c:Nat} (h:AtL w b (evC e p c).toList) (hd:Bs w w.heap.size p e.data):Es w w.heap.size (some ⟨b,0,none⟩) [e]:=by
  intro _;refine⟨b,0,rfl,h.1,fun i hi=>?_⟩;obtain rfl:i=0:=(by simpa using hi);have hx:Qax w b 0 e p c:=⟨h.get 0 rfl,h.get 1 rfl,h.get 2 rfl,h.get 3 rfl,h.get 4 rfl,h.get 5 rfl,h.get 6 rfl,h.get 7 rfl⟩;exact⟨p,c,by simpa using hx,by simpa using hd⟩
theorem Qeq (p4:Option Addr) (c4:Nat) (r:List UInt8) (W:World) (h:Bs W W.heap.size p4 r) (hp:p4=none→c4=0) (hl:r.length≤100) (ht:Yo W):
    Calls Tryz.prog 10 #[.agg #[.slice none 0 0,.bool false,.int .i64 0],.slice p4 r.length c4,.int .i64 0] W (Qi7 W ⟨0,Vk r,(exT r).1⟩):=by
  have h:=QfA zDc none p4 0 c4 r 0 W (fun h=>absurd rfl h) (fun _=>rfl) (Nat.zero_le _) (by simp[zDc]) h hp (by omega) ht;rw[Qjc r (by omega)] at h;exact h
theorem Qca (md:Md) (e:Ev) (p:Option Addr) (c:Nat) (w:World) (hd:Bs w w.heap.size p e.data) (hp:p=none→c=0) (hT:Pow w) (hU:Yo w):
    Calls Tryz.prog 28 #[mdV md,evV e p c] w fun en w'=>en=.returned (.bool (exE md e))∧Below w.heap.size w w':=by
  have hlen:=Ue md e;have SP:=Lib.hid (fun W (hb:Below w.heap.size w W)=>Vf md e p c W (hT.on hb) (hd.on hb) hp);have b2:=ZM w (.cells #[.bool md.cursor,.bool md.coded,.int .i64 md.mouse,.bool md.sgr,.bool md.paste] 51) (.cells #[.int .i64 e.kind,.int .i64 e.code,.int .i64 e.mods,.int .i64 e.button,.int .i64 e.act,.int .i64 e.col,.int .i64 e.row,.slice p e.data.length c] 40);have HB0:=Lib.hid b2;have HDW:=Lib.hid hd;have HU:=Lib.hid hU;clear hd hT hU;have XA:Hid (AtL ((w.alloc (.cells #[.bool md.cursor,.bool md.coded,.int .i64 md.mouse,.bool md.sgr,.bool md.paste] 51)).alloc (.cells #[.int .i64 e.kind,.int .i64 e.code,.int .i64 e.mods,.int .i64 e.button,.int .i64 e.act,.int .i64 e.col,.int .i64 e.row,.slice p e.data.length c] 40)) (w.heap.size+1) [.int .i64 e.kind,.int .i64 e.code,.int .i64 e.mods,.int .i64 e.button,.int .i64 e.act,.int .i64 e.col,.int .i64 e.row,.slice p e.data.length c]):=by
    have h:=AtL.new (w.alloc (.cells #[.bool md.cursor,.bool md.coded,.int .i64 md.mouse,.bool md.sgr,.bool md.paste] 51)) [.int .i64 e.kind,.int .i64 e.code,.int .i64 e.mods,.int .i64 e.button,.int .i64 e.act,.int .i64 e.col,.int .i64 e.row,.slice p e.data.length c] 40
    rwa [World.size_alloc] at h
  clear b2;by_cases hc:(Xc md e).1=0
  · have HE:Hid (exE md e=Yd (JG (Xc md e).2) [e]):=(by unfold exE;rw[if_pos hc];trivial);rw[hc] at SP;generalize(Xc md e).2=r at *;clear hc;unfold mdV evV at *;go_enter Tryz.func28,Tryz.ntmps28;go_wp2_with fail;refine(SP.out _ HB0.out).mono ?_;rintro en w1 ⟨v,rfl,ho,hb⟩;clear SP;obtain⟨p4,c4,rfl⟩:=ho.slice;have XB:=Qb w1 (.cells #[.int .i64 0,.slice p4 r.length c4] 100);have HR:=Lib.hid (ho.bs.2.on XB);have HZ:=Lib.hid ho.capz;have X2:=Lib.hid ((XA.out.on hb).on XB);have R2:=Lib.hid (AtL.new w1 [.int .i64 0,.slice p4 r.length c4] 100);have HB2:=Lib.hid (Qa (Qa HB0.out hb) XB);have hs1:w.heap.size+2≤w1.heap.size:=(by have:=hb.size;simpa using this);have hs2:(w1.alloc (.cells #[.int .i64 0,.slice p4 r.length c4] 100)).heap.size=w1.heap.size+1:=(by simp);clear ho hb XB XA HB0;unfold brV;go_wp2_with fail;generalize w1.alloc (.cells #[.int .i64 0,.slice p4 r.length c4] 100)=W2 at *;refine(Qeq p4 c4 r W2 HR.out HZ.out hlen (HU.out.on HB2.out)).mono ?_;rintro en w3 ⟨v,u,rows,rfl,hown,hb3⟩;have hpd:=hown.pend;obtain⟨pd,cd,rfl⟩:=hpd.slice;obtain⟨qu,du,rfl⟩:=hown.own.slice;have B3:=Qb w3 (.cells #[.int .i64 0,.slice pd (Vk r).pend.length cd,.bool (Vk r).paste,.int .i64 (Vk r).due,.slice qu rows.length du] 30);have HV3:=Lib.hid (hown.own.below B3);have HP3:=Lib.hid (hpd.on B3);have HR3:=Lib.hid hown.evs;have X3:=Lib.hid ((X2.out.on hb3).on B3);have D3:=Lib.hid (AtL.new w3 [.int .i64 0,.slice pd (Vk r).pend.length cd,.bool (Vk r).paste,.int .i64 (Vk r).due,.slice qu rows.length du] 30);have HB3:=Lib.hid (Qa (Qa HB2.out hb3) B3);have hlt3:∀j,(Value.slice qu rows.length du).ownBlock=some j→W2.heap.size≤j∧j<w3.heap.size:=fun j hj=>hown.own.lt j hj;have HL3:=Lib.hid hlt3;have hs3:=hb3.size;have hs4:(w3.alloc (.cells #[.int .i64 0,.slice pd (Vk r).pend.length cd,.bool (Vk r).paste,.int .i64 (Vk r).due,.slice qu rows.length du] 30)).heap.size=w3.heap.size+1:=(by simp);clear hown hpd hb3 B3 hlt3 X2 HR HZ HB2;dsimp only;go_wp2_with fail;generalize w3.alloc (.cells #[.int .i64 0,.slice pd (Vk r).pend.length cd,.bool (Vk r).paste,.int .i64 (Vk r).due,.slice qu rows.length du] 30)=W3 at *;obtain⟨dc,hdc⟩:=Qjd r;have HT:=Lib.hid (QfC (Vk r) pd cd 50 W3 HP3.out.bs.2 HP3.out.room.2.2 HP3.out.room.2.1 (by have:=Ud r;omega) (HU.out.on HB3.out));rw[hdc] at HT;clear hdc;refine HT.out.mono ?_;rintro en w4 ⟨v,u2,rows4,rfl,hown,hb4⟩;clear HT;have hpd:=hown.pend;obtain⟨pt,ct,rfl⟩:=hpd.slice;obtain⟨qt,dt,rfl⟩:=hown.own.slice;have B4:=Qb w4 (.cells #[.int .i64 0,.slice pt dc.pend.length ct,.bool dc.paste,.int .i64 dc.due,.slice qt rows4.length dt] 30);have V3:=Lib.hid ((HV3.out.below hb4).below B4);have V4:=Lib.hid (hown.own.below B4);have HR4:=Lib.hid hown.evs;have X4:=Lib.hid ((X3.out.on hb4).on B4);have D4:=Lib.hid ((D3.out.on hb4).on B4);have T4:=Lib.hid (AtL.new w4 [.int .i64 0,.slice pt dc.pend.length ct,.bool dc.paste,.int .i64 dc.due,.slice qt rows4.length dt] 30);have HB4:=Lib.hid (Qa (Qa HB3.out hb4) B4);have hs5:=hb4.size;have hs6:(w4.alloc (.cells #[.int .i64 0,.slice pt dc.pend.length ct,.bool dc.paste,.int .i64 dc.due,.slice qt rows4.length dt] 30)).heap.size=w4.heap.size+1:=(by simp);clear hown hpd hb4 B4 HV3 HP3 X3 D3 HB3;dsimp only;go_upto_region 6 with(fail);generalize w4.alloc (.cells #[.int .i64 0,.slice pt dc.pend.length ct,.bool dc.paste,.int .i64 dc.due,.slice qt rows4.length dt] 30)=W at *;obtain⟨x0,x1,x2,x3,x4⟩:=D4.out.five;obtain⟨y0,y1,y2,y3,y4⟩:=T4.out.five;go_wp2_with fail;clear x0 x1 x2 x3 x4 y0 y1 y2 y3 y4;have hg6:some w3.heap.size≠(Value.slice qu rows.length du).ownBlock:=fun h=>(by have:=(HL3.out _ h.symm).2;omega);have hg7:some w4.heap.size≠(Value.slice qu rows.length du).ownBlock:=fun h=>(by have:=(HL3.out _ h.symm).2;omega);have hge:some (w.heap.size+1)≠(Value.slice qu rows.length du).ownBlock:=fun h=>(by have:=(HL3.out _ h.symm).1;omega);have C6:=Lib.hid (fun W' (hg:W.grownBy W' (Value.slice qu rows.length du).ownBlock)=>(D4.out.far hg hg6).five);have C7:=Lib.hid (fun W' (hg:W.grownBy W' (Value.slice qu rows.length du).ownBlock)=>(T4.out.far hg hg7).five);have CE:=Lib.hid (fun W' (hg:W.grownBy W' (Value.slice qu rows.length du).ownBlock)=>AtL.eightE (X4.out.far hg hge));have HBW:=Lib.hid (fun W' (hg:W.grownBy W' (Value.slice qu rows.length du).ownBlock)=>HB4.out.trans (Jl (B:=w.heap.size) hg HB4.out.size (fun g hg=>by have:=(HL3.out g hg).1;omega)));have HEQ:Hid ((rows++rows4).map Prod.fst=JG r):=(by show(rows++rows4).map Prod.fst=JG r;rw[List.map_append,HR3.out,HR4.out];rfl);have hl1:rows.length≤r.length:=(by rw[←List.length_map (f:=Prod.fst),HR3.out];exact QgV r);have hl2:rows4.length≤r.length:=(by rw[←List.length_map (f:=Prod.fst),HR4.out];exact Nat.le_trans (Vl _) (Ud r));have hx5:(JG r).length≤1048576:=(by have:=QfE r;omega);have HS6:=Lib.hid hs6;clear X4 D4 T4 HR3 HR4 HB4 hs6;refine wp_region_noPanic ?_;refine wp_region_held_drew (S:=fun W'=>W.grownBy W' (Value.slice qu rows.length du).ownBlock) (by kernel_rfl) (Vx (World.grownBy.refl _ _) 1) (fun hHeld=>?_);refine Qe 0 29 (.pointer (some ⟨w3.heap.size,4,none⟩)) hHeld ?_;simp only[Act.put,sa,s0,ss];refine Qr 1 30 (.slice qu rows.length du) (fun w o hSw ho=>?_) hHeld ?_
    · obtain rfl:=Option.some.inj ho;obtain⟨z0,z1,z2,z3,z4⟩:=C6.out _ hSw;go_simp
    simp only[Act.put,sa,s0,ss];refine Qe 2 31 (.pointer (some ⟨w4.heap.size,4,none⟩)) hHeld ?_;simp only[Act.put,sa,s0,ss];refine Qr 3 32 (.slice qt rows4.length dt) (fun w o hSw ho=>?_) hHeld ?_
    · obtain rfl:=Option.some.inj ho;obtain⟨z0,z1,z2,z3,z4⟩:=C7.out _ hSw;go_simp
    simp only[Act.put,sa,s0,ss];refine Qr 5 34 (.agg #[.int .i64 e.kind,.int .i64 e.code,.int .i64 e.mods,.int .i64 e.button,.int .i64 e.act,.int .i64 e.col,.int .i64 e.row,.slice p e.data.length c]) (fun w o hSw ho=>?_) hHeld ?_
    · obtain rfl:=Option.some.inj ho;obtain⟨z0,z1,z2,z3,z4,z5,z6,z7⟩:=CE.out _ hSw;go_simp
    simp only[Act.put,sa,s0,ss];refine QfF 4 6 (by kernel_rfl) (by kernel_rfl) (by kernel_rfl) (fun o ho K' hK=>?_) (fun o ho K' hK=>?_)
    · obtain rfl:=Option.some.inj ho;clear ho;refine JH _ _ rfl rfl rfl (V3.out.below (Qc (Below.refl _ _) 1)) (V4.out.below (Qc (Below.refl _ _) 1)) (by omega) (by show W2.heap.size≤W.heap.size;have:=HS6.out;omega) (by omega) ?_;intro p5 c5 n5 w5 hn5 hv5 hg5;have hes:=hv5.es.2;rw[HEQ.out] at hes;obtain rfl:n5=(JG r).length:=(by rw[hn5,←HEQ.out,List.length_map]);have HG5:Hid (W.grownBy w5 (Value.slice qu rows.length du).ownBlock):=World.grownBy.trans hHeld hg5;have HES:=Lib.hid (hes.on (Qb w5 (.cells #[.int .i64 e.kind,.int .i64 e.code,.int .i64 e.mods,.int .i64 e.button,.int .i64 e.act,.int .i64 e.col,.int .i64 e.row,.slice p e.data.length c] 40)));have HEO:=Lib.hid (Qko w5 e p c 40 (HDW.out.on (HBW.out _ HG5.out)));clear hn5 hv5 hg5 hes hHeld;change K' (Act.put _ (some 33) _) w5;refine hK.out _ _ (HG5.out) (fun hHeld=>?_);clear hK K';try simp only[Act.put,sa,s0,ss]
      clear hHeld;refine QQ 6 (by kernel_rfl) (by kernel_rfl) (fun o ho K' hK=>?_);obtain rfl:=Option.some.inj ho;clear ho;go_simp;have HG7:Hid (W.grownBy (w5.alloc (.cells #[.int .i64 e.kind,.int .i64 e.code,.int .i64 e.mods,.int .i64 e.button,.int .i64 e.act,.int .i64 e.col,.int .i64 e.row,.slice p e.data.length c] 40)) (Value.slice qu rows.length du).ownBlock):=World.grownBy.trans HG5.out (World.grownBy_alloc _ _ _);refine hK.out _ _ (HG7.out) (fun hHeld=>?_);clear hK K';try simp only[Act.put,sa,s0,ss]
      clear hHeld;refine QQ 7 (by kernel_rfl) (by kernel_rfl) (fun o ho K' hK=>?_);obtain rfl:=Option.some.inj ho;clear ho;go_simp;refine(Jh p5 (some ⟨w5.heap.size,0,none⟩) c5 1 (JG r) [e] _ HES.out HEO.out hx5).mono ?_;rintro en w6 ⟨rfl,hb6⟩;have HG6:=Lib.hid (World.grownBy.trans HG7.out (XW hb6 _));clear hb6 HES HEO HG5 HG7;go_wp2_with fail;refine hK.out _ _ (HG6.out) (fun hHeld=>?_);clear hK K';try simp only[Act.put,sa,s0,ss]
      refine Qe 8 4 (.bool (Yd (JG r) [e])) hHeld ?_;simp only[Act.put,sa,s0,ss];refine wpAnyH_done (by kernel_rfl) ?_ _;refine NoPanic.normal ?_;have HZ:=Lib.hid (HBW.out _ hHeld);clear hHeld;go_wp2_with fail;go_ret;exact⟨Qi HE.out.symm,HZ.out⟩
    · obtain rfl:=Option.some.inj ho;clear ho;go_simp;have XL:=(AtL.new W [.int .i64 e.kind,.int .i64 e.code,.int .i64 e.mods,.int .i64 e.button,.int .i64 e.act,.int .i64 e.col,.int .i64 e.row,.slice p e.data.length c] 40).on (Qc (Below.refl _ _) 1);have HG4:Hid (W.grownBy (W.alloc (.cells #[.int .i64 e.kind,.int .i64 e.code,.int .i64 e.mods,.int .i64 e.button,.int .i64 e.act,.int .i64 e.col,.int .i64 e.row,.slice p e.data.length c] 40)).drew (Value.slice qu rows.length du).ownBlock):=Vx (World.grownBy_alloc W _ _) 1;refine hK.out _ _ (HG4.out) (fun hHeld=>?_);clear hK K';try simp only[Act.put,sa,s0,ss]
      clear hHeld;refine QQ 4 (by kernel_rfl) (by kernel_rfl) (fun o ho K' hK=>?_);obtain rfl:=Option.some.inj ho;clear ho;refine JH _ _ rfl rfl rfl ((V3.out.alloc (.cells #[.int .i64 e.kind,.int .i64 e.code,.int .i64 e.mods,.int .i64 e.button,.int .i64 e.act,.int .i64 e.col,.int .i64 e.row,.slice p e.data.length c] 40)).below (Qc (Below.refl _ _) 1)) ((V4.out.alloc (.cells #[.int .i64 e.kind,.int .i64 e.code,.int .i64 e.mods,.int .i64 e.button,.int .i64 e.act,.int .i64 e.col,.int .i64 e.row,.slice p e.data.length c] 40)).below (Qc (Below.refl _ _) 1)) (by omega) (by show W2.heap.size≤(W.alloc (.cells #[.int .i64 e.kind,.int .i64 e.code,.int .i64 e.mods,.int .i64 e.button,.int .i64 e.act,.int .i64 e.col,.int .i64 e.row,.slice p e.data.length c] 40)).heap.size;have:=HS6.out;simp;omega) (by omega) ?_;intro p5 c5 n5 w5 hn5 hv5 hg5;have hes:=hv5.es.2;rw[HEQ.out] at hes;obtain rfl:n5=(JG r).length:=(by rw[hn5,←HEQ.out,List.length_map]);have HG5:Hid (W.grownBy w5 (Value.slice qu rows.length du).ownBlock):=World.grownBy.trans HG4.out hg5;have HES:=Lib.hid hes;have HEO:=Lib.hid (Qml (XL.far hg5 (fun h=>by have:=(HL3.out _ h.symm).2;have:=HS6.out;omega)) (HDW.out.on (HBW.out _ HG5.out)));clear hn5 hv5 hg5 hes XL HG4;change K' (Act.put _ (some 33) _) w5;refine hK.out _ _ (HG5.out) (fun hHeld=>?_);clear hK K';try simp only[Act.put,sa,s0,ss]
      clear hHeld;refine QQ 7 (by kernel_rfl) (by kernel_rfl) (fun o ho K' hK=>?_);obtain rfl:=Option.some.inj ho;clear ho;go_simp;refine(Jh p5 (some ⟨W.heap.size,0,none⟩) c5 1 (JG r) [e] _ HES.out HEO.out hx5).mono ?_;rintro en w6 ⟨rfl,hb6⟩;have HG6:=Lib.hid (World.grownBy.trans HG5.out (XW hb6 _));clear hb6 HES HEO HG5;go_wp2_with fail;refine hK.out _ _ (HG6.out) (fun hHeld=>?_);clear hK K';try simp only[Act.put,sa,s0,ss]
      refine Qe 8 4 (.bool (Yd (JG r) [e])) hHeld ?_;simp only[Act.put,sa,s0,ss];refine wpAnyH_done (by kernel_rfl) ?_ _;refine NoPanic.normal ?_;have HZ:=Lib.hid (HBW.out _ hHeld);clear hHeld;go_wp2_with fail;go_ret;exact⟨Qi HE.out.symm,HZ.out⟩
  · have HE:Hid (exE md e=false):=(by unfold exE;rw[if_neg hc];trivial);generalize(Xc md e).1=k at *;generalize(Xc md e).2=r at *;clear hlen;unfold mdV evV at *;go_enter Tryz.func28,Tryz.ntmps28;go_wp2_with fail;refine(SP.out _ HB0.out).mono ?_;rintro en w1 ⟨v,rfl,ho,hb⟩;clear SP;obtain⟨p4,c4,rfl⟩:=ho.slice;have HB2:=Lib.hid (Qa (Qa HB0.out hb) (Qb w1 (.cells #[.int .i64 k,.slice p4 r.length c4] 100)));clear ho hb;unfold brV;go_wp2_with fail;go_ret;exact⟨by rw[HE.out];rfl,HB2.out⟩
theorem QcS (md:Md) (e:Ev) (p:Option Addr) (c:Nat) (w:World) (h:Bs w w.heap.size p e.data) (hn:e.data.length≤9223372036854775807) (hT:Pow w) (hU:Yo w):
    Calls Tryz.prog 7 #[mdV md,evV e p c] w fun en w'=>en=.returned (.bool true)∧Below w.heap.size w w':=by
  have HMD:=Lib.hid (fun W=>Qf3 md W);have b0:=ZM w (.cells #[.bool md.cursor,.bool md.coded,.int .i64 md.mouse,.bool md.sgr,.bool md.paste] 64) (.cells #[.int .i64 e.kind,.int .i64 e.code,.int .i64 e.mods,.int .i64 e.button,.int .i64 e.act,.int .i64 e.col,.int .i64 e.row,.slice p e.data.length c] 65);by_cases hs:ZZ 1048576 e.data.length<0
  · unfold mdV evV;go_enter Tryz.func7,Tryz.ntmps7;go_wp2_with (go_at_call 44;refine(QaA e p c _ _ hn (by omega) (by omega)).mono ?_;rintro en w1 ⟨rfl,b1⟩);go_ret;exact⟨rfl,Qa b0 b1⟩
  have hs0:0≤ZZ 1048576 e.data.length:=(by omega);have hl:e.data.length≤1048576:=(by have:=(Qjk hs0).2;omega);generalize hr:ZZ 1048576 e.data.length=lf at *;have HR:=Lib.hid hr;clear hr;have SP:=Lib.hid (fun p c W (h:Bs W W.heap.size p e.data) (hp:p=none→c=0)=>Qb9 md e p c W h hp);have IP:=Lib.hid (fun p c W (h:Bs W W.heap.size p e.data) (hp:p=none→c=0) (hT:Pow W) (hU:Yo W)=>Qca md e p c W h hp hT hU);generalize exE md e=x at *;have MA:AtL ((w.alloc (.cells #[.bool md.cursor,.bool md.coded,.int .i64 md.mouse,.bool md.sgr,.bool md.paste] 64)).alloc (.cells #[.int .i64 e.kind,.int .i64 e.code,.int .i64 e.mods,.int .i64 e.button,.int .i64 e.act,.int .i64 e.col,.int .i64 e.row,.slice p e.data.length c] 65)) w.heap.size [.bool md.cursor,.bool md.coded,.int .i64 md.mouse,.bool md.sgr,.bool md.paste]:=(AtL.new w [.bool md.cursor,.bool md.coded,.int .i64 md.mouse,.bool md.sgr,.bool md.paste] 64).on (Qb _ _);have EA:AtL ((w.alloc (.cells #[.bool md.cursor,.bool md.coded,.int .i64 md.mouse,.bool md.sgr,.bool md.paste] 64)).alloc (.cells #[.int .i64 e.kind,.int .i64 e.code,.int .i64 e.mods,.int .i64 e.button,.int .i64 e.act,.int .i64 e.col,.int .i64 e.row,.slice p e.data.length c] 65)) (w.heap.size+1) [.int .i64 e.kind,.int .i64 e.code,.int .i64 e.mods,.int .i64 e.button,.int .i64 e.act,.int .i64 e.col,.int .i64 e.row,.slice p e.data.length c]:=by
    have h:=AtL.new (w.alloc (.cells #[.bool md.cursor,.bool md.coded,.int .i64 md.mouse,.bool md.sgr,.bool md.paste] 64)) [.int .i64 e.kind,.int .i64 e.code,.int .i64 e.mods,.int .i64 e.button,.int .i64 e.act,.int .i64 e.col,.int .i64 e.row,.slice p e.data.length c] 65
    rwa [World.size_alloc] at h
  have HQ:=Lib.hid h;have HT:=Lib.hid hT;have HU:=Lib.hid hU;clear h hT hU;have hsz:=QaA e p c;unfold mdV evV at *;go_enter Tryz.func7,Tryz.ntmps7;go_wp2_with fail;refine(hsz _ _ hn (by omega) (by omega)).mono ?_;rw[HR.out];rintro en w1 ⟨rfl,b1⟩;have HMA:=Lib.hid (fun W (hW:Below w1.heap.size w1 W)=>((MA.on b1).on hW).five);have HEA:=Lib.hid (fun W (hW:Below w1.heap.size w1 W)=>AtL.eightE ((EA.on b1).on hW));have HB1:=Lib.hid (Qa b0 b1);clear MA EA b0 b1 hsz;go_wp2_with fail
  go_cut [6] (fun s6 wx=>s6=.bool x∧Below w1.heap.size w1 wx)
  case first=>
    refine wp_region_noPanic ?_;refine wp_region_held_drew (S:=fun W'=>Below (w1).heap.size (w1) W') (by kernel_rfl) (Qc (Below.refl _ _) 1) (fun hHeld=>?_);refine Qr 0 14 (.agg #[.bool md.cursor,.bool md.coded,.int .i64 md.mouse,.bool md.sgr,.bool md.paste]) (fun w o hSw ho=>?_) hHeld ?_
    · obtain rfl:=Option.some.inj ho;obtain⟨z0,z1,z2,z3,z4⟩:=HMA.out _ hSw;go_simp
    simp only[Act.put,sa,s0,ss];refine Qr 2 16 (.agg #[.int .i64 e.kind,.int .i64 e.code,.int .i64 e.mods,.int .i64 e.button,.int .i64 e.act,.int .i64 e.col,.int .i64 e.row,.slice p e.data.length c]) (fun w o hSw ho=>?_) hHeld ?_
    · obtain rfl:=Option.some.inj ho;obtain⟨z0,z1,z2,z3,z4,z5,z6,z7⟩:=HEA.out _ hSw;go_simp
    simp only[Act.put,sa,s0,ss];refine QQ 1 (by kernel_rfl) (by kernel_rfl) (fun o ho K' hK=>?_);obtain rfl:=Option.some.inj ho;clear ho;go_simp;refine(HMD.out _).mono ?_;rintro en V1 ⟨rfl,hbx⟩;have HD1:=Lib.hid (Qa hHeld hbx);clear hHeld hbx;go_wp2_with fail;refine hK.out _ _ (HD1.out) (fun hHeld=>?_);clear hK K';try simp only[Act.put,sa,s0,ss]
    refine QQ 3 (by kernel_rfl) (by kernel_rfl) (fun o ho K' hK=>?_);obtain rfl:=Option.some.inj ho;clear ho;go_simp;refine(Vi e p c _ (HQ.out.on (Qa HB1.out hHeld)) hl).mono ?_;rintro en V2 ⟨gx,rfl,o3,hbx⟩;have HX3:=Lib.hid o3.bs.2;have HD2:=Lib.hid (Qa hHeld hbx);clear hHeld o3 hbx;unfold evV;go_wp2_with fail;refine hK.out _ _ (HD2.out) (fun hHeld=>?_);clear hK K';try simp only[Act.put,sa,s0,ss]
    refine QQ 4 (by kernel_rfl) (by kernel_rfl) (fun o ho K' hK=>?_);obtain rfl:=Option.some.inj ho;clear ho;go_simp;refine(SP.out _ _ _ HX3.out (by simp)).mono ?_;rintro en V3 ⟨rfl,hbx⟩;have HD3:=Lib.hid (Qa hHeld hbx);clear hHeld hbx;go_wp2_with fail;refine hK.out _ _ (HD3.out) (fun hHeld=>?_);clear hK K';try simp only[Act.put,sa,s0,ss]
    refine Qe 5 6 (.bool x) hHeld ?_;simp only[Act.put,sa,s0,ss];refine wpAnyH_done (by kernel_rfl) ?_ _;refine NoPanic.normal ?_;go_wp2_with fail
    go_meet
    exact⟨rfl,hHeld⟩
  case rest=>
    obtain⟨rfl,hb⟩:=hcut;obtain⟨P,hren⟩:∃V,V=wc:=⟨_,rfl⟩;subst hren;have HBP:=Lib.hid hb;clear hb SP;obtain⟨z0,z1,z2,z3,z4,z5,z6,z7⟩:=HEA.out _ HBP.out;go_wp2_with fail;clear z0 z1 z2 z3 z4 z5 z6 z7;refine(Vi e p c _ (HQ.out.on (Qa HB1.out HBP.out)) hl).mono ?_;rintro en w2 ⟨g,rfl,o3,hbx⟩;have B2:=Qb w2 (.cells #[.int .i64 e.kind,.int .i64 e.code,.int .i64 e.mods,.int .i64 e.button,.int .i64 e.act,.int .i64 e.col,.int .i64 e.row,.slice (some ⟨g,0,none⟩) e.data.length e.data.length] 40);have HX:=Lib.hid (o3.bs.2.on B2);have XE:=Lib.hid (AtL.new w2 [.int .i64 e.kind,.int .i64 e.code,.int .i64 e.mods,.int .i64 e.button,.int .i64 e.act,.int .i64 e.col,.int .i64 e.row,.slice (some ⟨g,0,none⟩) e.data.length e.data.length] 40);have HB2:=Lib.hid (Qa (Qa HBP.out hbx) B2);clear o3 hbx B2 HBP;unfold evV;go_wp2_with fail;generalize w2.alloc (.cells #[.int .i64 e.kind,.int .i64 e.code,.int .i64 e.mods,.int .i64 e.button,.int .i64 e.act,.int .i64 e.col,.int .i64 e.row,.slice (some ⟨g,0,none⟩) e.data.length e.data.length] 40)=W at *;have HMB:=Lib.hid (fun W' (hW:Below W.heap.size W W')=>HMA.out W' (Qa HB2.out hW));have HEB:=Lib.hid (fun W' (hW:Below W.heap.size W W')=>HEA.out W' (Qa HB2.out hW));have HXB:=Lib.hid (fun W' (hW:Below W.heap.size W W')=>AtL.eightE (XE.out.on hW));have HBW:=Lib.hid (Qa HB1.out HB2.out);clear HMA HEA XE HB1 HB2
    go_cut [8] (fun s8 wx=>s8=.bool x∧Below W.heap.size W wx)
    case first=>
      refine wp_region_noPanic ?_;refine wp_region_held_drew (S:=fun W'=>Below (W).heap.size (W) W') (by kernel_rfl) (Qc (Below.refl _ _) 1) (fun hHeld=>?_);refine Qr 0 21 (.agg #[.bool md.cursor,.bool md.coded,.int .i64 md.mouse,.bool md.sgr,.bool md.paste]) (fun w o hSw ho=>?_) hHeld ?_
      · obtain rfl:=Option.some.inj ho;obtain⟨z0,z1,z2,z3,z4⟩:=HMB.out _ hSw;go_simp
      simp only[Act.put,sa,s0,ss];refine Qr 2 23 (.agg #[.int .i64 e.kind,.int .i64 e.code,.int .i64 e.mods,.int .i64 e.button,.int .i64 e.act,.int .i64 e.col,.int .i64 e.row,.slice (some ⟨g,0,none⟩) e.data.length e.data.length]) (fun w o hSw ho=>?_) hHeld ?_
      · obtain rfl:=Option.some.inj ho;obtain⟨z0,z1,z2,z3,z4,z5,z6,z7⟩:=HXB.out _ hSw;go_simp
      simp only[Act.put,sa,s0,ss];refine QQ 1 (by kernel_rfl) (by kernel_rfl) (fun o ho K' hK=>?_);obtain rfl:=Option.some.inj ho;clear ho;go_simp;refine(HMD.out _).mono ?_;rintro en V1 ⟨rfl,hbx⟩;have HD1:=Lib.hid (Qa hHeld hbx);clear hHeld hbx;go_wp2_with fail;refine hK.out _ _ (HD1.out) (fun hHeld=>?_);clear hK K';try simp only[Act.put,sa,s0,ss]
      refine QQ 3 (by kernel_rfl) (by kernel_rfl) (fun o ho K' hK=>?_);obtain rfl:=Option.some.inj ho;clear ho;go_simp;refine(IP.out _ _ _ (HX.out.on hHeld) (by simp) (HT.out.on (Qa HBW.out hHeld)) (HU.out.on (Qa HBW.out hHeld))).mono ?_;rintro en V3 ⟨rfl,hbx⟩;have HD3:=Lib.hid (Qa hHeld hbx);clear hHeld hbx;go_wp2_with fail;refine hK.out _ _ (HD3.out) (fun hHeld=>?_);clear hK K';try simp only[Act.put,sa,s0,ss]
      refine Qe 4 8 (.bool x) hHeld ?_;simp only[Act.put,sa,s0,ss];refine wpAnyH_done (by kernel_rfl) ?_ _;refine NoPanic.normal ?_;go_wp2_with fail
      go_meet
      exact⟨rfl,hHeld⟩
    case rest=>
      obtain⟨rfl,hb⟩:=hcut;have HBP:=Lib.hid hb;clear hb IP HT HU;have hxx:(x != x)=false:=(by simp);go_wp2_with fail;have HMB:=Lib.hid HMB.out;refine wp_region_noPanic ?_;refine wp_region_held_drew (S:=fun W'=>Below (wc).heap.size (wc) W') (by kernel_rfl) (Qc (Below.refl _ _) 1) (fun hHeld=>?_);refine Qr 0 28 (.agg #[.int .i64 e.kind,.int .i64 e.code,.int .i64 e.mods,.int .i64 e.button,.int .i64 e.act,.int .i64 e.col,.int .i64 e.row,.slice (some ⟨g,0,none⟩) e.data.length e.data.length]) (fun w o hSw ho=>?_) hHeld ?_
      · obtain rfl:=Option.some.inj ho;obtain⟨z0,z1,z2,z3,z4,z5,z6,z7⟩:=HXB.out _ (Qa HBP.out hSw);go_simp
      simp only[Act.put,sa,s0,ss];refine Qr 1 29 (.agg #[.int .i64 e.kind,.int .i64 e.code,.int .i64 e.mods,.int .i64 e.button,.int .i64 e.act,.int .i64 e.col,.int .i64 e.row,.slice p e.data.length c]) (fun w o hSw ho=>?_) hHeld ?_
      · obtain rfl:=Option.some.inj ho;obtain⟨z0,z1,z2,z3,z4,z5,z6,z7⟩:=HEB.out _ (Qa HBP.out hSw);go_simp
      simp only[Act.put,sa,s0,ss];refine QQ 2 (by kernel_rfl) (by kernel_rfl) (fun o ho K' hK=>?_);obtain rfl:=Option.some.inj ho;clear ho;go_simp;refine(Vi e p c _ (HQ.out.on (Qa (Qa HBW.out HBP.out) hHeld)) hl).mono ?_;rintro en V2 ⟨gx,rfl,o3,hbx⟩;have HX3:=Lib.hid o3.bs.2;have HD2:=Lib.hid (Qa hHeld hbx);clear hHeld o3 hbx;unfold evV;go_wp2_with fail;refine hK.out _ _ (HD2.out) (fun hHeld=>?_);clear hK K';try simp only[Act.put,sa,s0,ss]
      refine QQ 3 (by kernel_rfl) (by kernel_rfl) (fun o ho K' hK=>?_);obtain rfl:=Option.some.inj ho;clear ho;go_simp;refine(Qev e _ _ _ _ _ (HX.out.on (Qa HBP.out hHeld)) HX3.out hl).mono ?_;rintro en V3 ⟨rfl,hbx⟩;have HD3:=Lib.hid (Qa hHeld hbx);clear hHeld hbx;go_wp2_with fail;refine hK.out _ _ (HD3.out) (fun hHeld=>?_);clear hK K';try simp only[Act.put,sa,s0,ss]
      refine Qe 4 32 (.bool false) hHeld ?_;simp only[Act.put,sa,s0,ss];refine wpAnyH_done (by kernel_rfl) ?_ _;refine NoPanic.normal ?_;have HZ:=Lib.hid (Qa (Qa HBW.out HBP.out) hHeld);clear hHeld;go_wp2_with fail;go_ret;exact⟨rfl,HZ.out⟩
end Go.Proofs.YtbfickdgjgbfhaaGreatDoor
