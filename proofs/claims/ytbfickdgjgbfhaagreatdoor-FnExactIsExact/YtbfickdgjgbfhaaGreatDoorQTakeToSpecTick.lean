/- takeTokens: what its loop keeps. -/
import Derived.Test.YtbfickdgjgbfhaaGreatDoorQJoinsToPend
import Derived.Test.YtbfickdgjgbfhaaGreatDoorQEvsToEvs2
import Derived.Test.YtbfickdgjgbfhaaGreatDoorQDecToDecFault2
import Derived.Test.YtbfickdgjgbfhaaGreatDoorQFlush3ToFlush4
set_option linter.unusedVariables false
set_option linter.unusedSimpArgs false
set_option maxRecDepth 100000
set_option maxHeartbeats 4000000
namespace Go.Proofs.YtbfickdgjgbfhaaGreatDoor
open Go.RowKit
def Qb3 (w:World) (db:Nat) (due:Int) (r:List Ev×List UInt8×Bool) (e:Ending) (W:World):Prop:=
  ∃v rows p c,e=.returned v∧rows.map Prod.fst=r.1∧QI W w.heap.size v rows∧YT rows∧AtM W db [.slice p r.2.1.length c,.bool r.2.2,.int .i64 due]∧Own W w.heap.size (.slice p r.2.1.length c) r.2.1
    ∧(∀x∈rows,∀j,(QU x).ownBlock=some j→(Value.slice p r.2.1.length c).ownBlock≠some j)∧w.grownBy W (some db)
structure Qb4 where
  w:World
  db:Nat
  F:Nat
  f:Qer
  p:Option Addr
  c:Nat
  l:List UInt8
  q:Bool
  due:Int
structure QgM (E:Qb4) (l':List UInt8) (q':Bool) (bx:List UInt8) (ev:Value) (rows:List Q1) (W:World):Prop where
  all:QF E.f E.l E.q=(rows.map Prod.fst++(QF E.f l' q').1,(QF E.f l' q').2)
  len:rows.length+l'.length≤E.l.length
  evs:QI W (E.w.heap.size+2) ev rows
  dec:AtM W E.db [.slice E.p E.l.length E.c,.bool q',.int .i64 E.due]
  box:∃p c,Qfh W E.w.heap.size p c bx
  rule:AtL W (E.w.heap.size+1) [.func (.func E.F) #[] #[]]
  grown:E.w.grownBy W (some E.db)
  low:E.db<E.w.heap.size
structure UF (E:Qb4) (l':List UInt8) (q':Bool) (rows:List Q1) (R:Nat) (pp:Option Addr) (cc:Nat) (ev:Value) (W:World):Prop where
  keep:QgM E l' q' (X0 E.f l' q') ev rows W
  tok:AtM W R (tkL (E.f l' q') (.slice pp (E.f l' q').ev.data.length cc))
  own:Own W (E.w.heap.size+2) (.slice pp (E.f l' q').ev.data.length cc) (E.f l' q').ev.data
  apart:YT (rows++[((E.f l' q').ev,pp,cc)])
  hi:E.w.heap.size+2≤R
  evR:∀j,ev.ownBlock=some j→j≠R
def Qmv (E:Qb4) (ev r:Value) (W:World):Prop:=
  ∃l' q' rows R pp cc,r=.pointer (some ⟨R,0,none⟩)∧UF E l' q' rows R pp cc ev W
def QlF (b:Nat) (r:Value) (W:World):Nat:=
  (match W.cell? ⟨b,0,none⟩ with | some (.slice _ n _)=>2 * n | _=>0)+(match r with | .pointer (some a)=>(match W.cell? a with | some (.int _ 0)=>1 | _=>0) | _=>0)
theorem Qau {E:Qb4} {l':List UInt8} {q':Bool} {rows:List Q1} {R:Nat} {pp:Option Addr} {cc:Nat} {ev:Value} {W:World} (h:UF E l' q' rows R pp cc ev W):
    QlF E.w.heap.size (.pointer (some ⟨R,0,none⟩)) W=2 * (X0 E.f l' q').length+(if (E.f l' q').code=0 then 1 else 0):=by
  obtain⟨p,c,hb,_⟩:=h.keep.box;have h0:=hb.cells.get 0 rfl;have h1:=h.tok.cells.get 0 rfl;unfold QlF;rw[h0];dsimp only;rw[h1];by_cases hc:(E.f l' q').code=0
  · rw[hc];simp
  · rw[if_neg hc];congr 1;split
    · rename_i e;simp only[Option.some.injEq,Value.int.injEq] at e;exact absurd e.2 hc
    · rfl
theorem Qfh.on {w w':World} {b:Nat} {p:Option Addr} {c:Nat} {l:List UInt8} (h:Qfh w b p c l) (hb:Below w.heap.size w w'):Qfh w' b p c l:=
  ⟨h.1.on hb,h.2.1.below (hb.mono (Nat.le_of_lt h.1.cells.1)),h.2.2⟩
theorem Qfh.far {w w':World} {b:Nat} {p:Option Addr} {c:Nat} {l:List UInt8} {row:Nat} (h:Qfh w b p c l) (hg:w.grownBy w' (some row)) (hr:b<row):Qfh w' b p c l:=
  ⟨h.1.far hg (by intro e;cases e;omega),h.2.1.keep (Nat.le_refl _) (fun a ha=>World.cell?_of_block (hg.block a.block (Nat.lt_trans ha h.1.cells.1) (by intro e;cases e;omega))),h.2.2⟩
theorem Ji {a b c:World} {row:Option Nat} (h:a.grownBy b row) (k:Below b.heap.size b c):a.grownBy c row:=Q4 h (XW k row)
theorem UG {a b c:World} {row:Option Nat} {j:Nat} (h:a.grownBy b row) (k:b.grownBy c (some j)) (hj:a.heap.size≤j):a.grownBy c row:=
  ⟨k.os.trans h.os,k.tape.trans h.tape,k.output.trans h.output,Nat.le_trans h.size k.size,fun i hi hne=>(k.block i (Nat.lt_of_lt_of_le hi h.size) (by intro e;cases e;omega)).trans (h.block i hi hne)⟩
theorem YT.left {xs ys:List Q1} (h:YT (xs++ys)):YT xs:=(List.pairwise_append.1 h).1
theorem YT.snoc {xs:List Q1} {r:Q1} (h:YT xs) (hr:∀x∈xs,∀j,(QU x).ownBlock=some j→(QU r).ownBlock≠some j):YT (xs++[r]):=by
  refine List.pairwise_append.2 ⟨h,by simp,?_⟩;intro a ha b hb;obtain rfl:b=r:=(by simpa using hb);exact hr a ha
theorem YT.fresh {W W':World} {base:Nat} {v:Value} {xs:List Q1} {r:Q1} (h:YT xs) (ho:QI W base v xs) (hn:Own W' W.heap.size (QU r) r.1.data):YT (xs++[r]):=
  h.snoc fun x hx j hj e=>by
    have h1:=((ho.2 x hx).lt j hj).2;have h2:=(hn.lt j e).1;omega
theorem Yo.below {w w':World} {B:Nat} (h:Yo w) (hb:Below B w w') (h0:0<B) (h1:1<B):Yo w':=by
  have k0:∀o,w'.cell? ⟨0,o,none⟩=w.cell? ⟨0,o,none⟩:=fun o=>hb.cell (p:=⟨0,o,none⟩) h0;have k1:∀o,w'.cell? ⟨1,o,none⟩=w.cell? ⟨1,o,none⟩:=fun o=>hb.cell (p:=⟨1,o,none⟩) h1;exact⟨fun i hi=>(k0 i).trans (h.first i hi),(k1 _).trans h.l0,(k1 _).trans h.h0,(k1 _).trans h.l1,(k1 _).trans h.h1,(k1 _).trans h.l2,(k1 _).trans h.h2,(k1 _).trans h.l3,(k1 _).trans h.h3,(k1 _).trans h.l4,(k1 _).trans h.h4⟩
def Qfy (b:Nat):Prop:=0<b∧1<b
theorem Yo.tabLow {w:World} (h:Yo w) {b:Nat} (hb:w.heap.size≤b):Qfy b:=⟨Nat.lt_of_lt_of_le h.lt0 hb,Nat.lt_of_lt_of_le h.lt1 hb⟩
theorem QgM.tabs {E:Qb4} {l':List UInt8} {q':Bool} {bx:List UInt8} {ev:Value} {rows:List Q1} {W:World} (h:QgM E l' q' bx ev rows W) (ht:Yo E.w) (hl:Qfy E.db):Yo W:=
  ht.below (B:=E.db) ⟨h.grown.os,h.grown.tape,h.grown.output,h.grown.size,fun k hk=>h.grown.block k (by have:=h.low;omega) (by intro e;cases e;omega)⟩ hl.1 hl.2
theorem Bs.setOther {w:World} {B:Nat} {p:Option Addr} {l:List UInt8} (h:Bs w B p l) {a:Addr} {v:Value} (hv:w.cell? a=some v) (hn:∀x,v≠.int .u8 x) (u:Value):Bs (w.setCell a u) B p l:=by
  intro hl;obtain⟨b,off,e,hb,hc⟩:=h hl;refine⟨b,off,e,hb,fun i hi=>?_⟩;rw[World.cell?_setCell_other _ _ _ _ (fun e=>by subst e;exact hn _ (Option.some.inj (hv.symm.trans (hc i hi))))];exact hc i hi
theorem XI (W:World) (b i:Nat) (v:Value):W.grownBy (W.setCell ⟨b,i,none⟩ v) (some b):=⟨rfl,rfl,rfl,by simp,fun k _ hk=>Below.heap_setCell _ _ _ _ (fun e=>hk (by rw[e]))⟩
structure Qlh (E:Qb4) (l':List UInt8) (q':Bool) (rows:List Q1) (ev:Value) (R:Nat) (t:Tk) (v:Value) (W:World):Prop where
  keep:QgM E l' q' l' ev rows W
  tok:AtM W R (tkL t v)
  apart:YT rows
  hi:E.w.heap.size+2≤R
theorem QgM.mode {E:Qb4} {l':List UInt8} {q':Bool} {bx:List UInt8} {ev:Value} {rows:List Q1} {W:World} (h:QgM E l' q' bx ev rows W) (q'':Bool) {l'':List UInt8} {rows':List Q1}
    (hall:QF E.f E.l E.q=(rows'.map Prod.fst++(QF E.f l'' q'').1,(QF E.f l'' q'').2)) (hlen:rows'.length+l''.length≤E.l.length) (hr:rows'=rows):
    QgM E l'' q'' bx ev rows' (W.setCell ⟨E.db,1,none⟩ (.bool q'')):=by
  subst hr;obtain⟨p,c,b1,b2,b3⟩:=h.box;have hlow:=h.low;have hg:=XI W E.db 1 (.bool q'');refine⟨hall,hlen,h.evs.kept hg ?_ ?_,?_,⟨p,c,b1.other (by omega) _ _,b2.setOther (h.dec.cells.get 1 rfl) (by simp) _,b3⟩,h.rule.keep (by simp) (fun o=>World.cell?_setCell_far _ _ _ _ (by show E.db≠E.w.heap.size+1;omega)),Q4 h.grown hg,hlow⟩
  · exact .inl fun e=>by have:=(h.evs.lt _ e).1;omega
  · intro r hr j hj e
    cases e
    have:=((h.evs.2 r hr).lt _ hj).1;omega
  · exact h.dec.set 1 (.bool q'')
theorem UF.pass {E:Qb4} {l':List UInt8} {q':Bool} {rows:List Q1} {R:Nat} {pp:Option Addr} {cc:Nat} {ev:Value} {W:World} (hf:Yn E.f) (h:UF E l' q' rows R pp cc ev W) (hc:(E.f l' q').code=0) (hn:(E.f l' q').none=true):
    Qlh E (X0 E.f l' q') (E.f l' q').paste rows ev R (E.f l' q') (.slice pp (E.f l' q').ev.data.length cc) (W.setCell ⟨E.db,1,none⟩ (.bool (E.f l' q').paste)):=by
  obtain⟨⟨k,hk,h1,h2⟩,_⟩:=hf l' q' hc;have hlen:(X0 E.f l' q').length+k=l'.length:=(by unfold X0;rw[hk];simp;omega);have hlow:=h.keep.low;have hhi:=h.hi;refine⟨h.keep.mode _ ?_ ?_ rfl,h.tok.other (by omega) _ _,h.apart.left,h.hi⟩
  · rw[h.keep.all,XU hf hc];unfold QcI X0;rw[if_pos hn];rfl
  · have:=h.keep.len;omega
theorem UF.push {E:Qb4} {l':List UInt8} {q':Bool} {rows:List Q1} {R:Nat} {pp:Option Addr} {cc:Nat} {ev:Value} {W:World} (hf:Yn E.f) (h:UF E l' q' rows R pp cc ev W) (hc:(E.f l' q').code=0) (hn:(E.f l' q').none=false)
    {ev':Value} {W3:World} {o:Obj}
    (ho:W3.ownsRow (E.w.heap.size+2) 40 8 ev' (rows.length+1) (rows.flatMap QH++QH ((E.f l' q').ev,pp,cc))) (hg:((W.setCell ⟨E.db,1,none⟩ (.bool (E.f l' q').paste)).alloc o).grownBy W3 ev.ownBlock):
    Qlh E (X0 E.f l' q') (E.f l' q').paste (rows++[((E.f l' q').ev,pp,cc)]) ev' R (E.f l' q') (.slice pp (E.f l' q').ev.data.length cc) W3:=by
  obtain⟨⟨k,hk,h1,h2⟩,_⟩:=hf l' q' hc;have hlen:(X0 E.f l' q').length+k=l'.length:=(by unfold X0;rw[hk];simp;omega);have hlow:=h.keep.low;have hhi:=h.hi;have hgc:=XI W E.db 1 (.bool (E.f l' q').paste);obtain⟨p,c,b1,b2,b3⟩:=h.keep.box;have hev:QI (W.setCell ⟨E.db,1,none⟩ (.bool (E.f l' q').paste)) (E.w.heap.size+2) ev rows:=h.keep.evs.kept hgc (.inl fun e=>by have:=(h.keep.evs.lt _ e).1;omega) (fun r hr j hj e=>by
    cases e
    have:=((h.keep.evs.2 r hr).lt _ hj).1;omega)
  have how:Own (W.setCell ⟨E.db,1,none⟩ (.bool (E.f l' q').paste)) (E.w.heap.size+2) (.slice pp (E.f l' q').ev.data.length cc) (E.f l' q').ev.data:=h.own.setBelow (by show E.db<_;omega) _;have hbm:=Qb (W.setCell ⟨E.db,1,none⟩ (.bool (E.f l' q').paste)) o;have hev2:=hev.below hbm;have how2:=how.on hbm;have hblk:∀j,ev.ownBlock=some j→E.w.heap.size+2≤j:=fun j hj=>(h.keep.evs.lt j hj).1;have hB:∀j,j<E.w.heap.size+2→some j≠ev.ownBlock:=fun j hj e=>(by have:=hblk j e.symm;omega);have hdec:=((h.keep.dec.set 1 (.bool (E.f l' q').paste)).on hbm).far hg (hB _ (by omega));have hbox:Qfh W3 E.w.heap.size p c (X0 E.f l' q'):=by
    refine⟨((b1.other (c:=E.db) (by omega) 1 _).on hbm).far hg (hB _ (by omega)),?_,b3⟩;have k1:=(b2.setOther (h.keep.dec.cells.get 1 rfl) (by simp) (.bool (E.f l' q').paste));have hsz:E.w.heap.size<W.heap.size:=b1.cells.1;have k2:=k1.below (hbm.mono (by simp;omega));exact k2.keep (Nat.le_refl _) (fun a ha=>World.cell?_of_block (hg.block a.block (by simp;omega) (hB _ (by omega))))
  have hrule:AtL W3 (E.w.heap.size+1) [.func (.func E.F) #[] #[]]:=((h.keep.rule.keep (w':=W.setCell ⟨E.db,1,none⟩ (.bool (E.f l' q').paste)) (by simp) (fun o=>World.cell?_setCell_far _ _ _ _ (by show E.db≠E.w.heap.size+1;omega))).on hbm).far hg (hB _ (by omega));have hgr:E.w.grownBy W3 (some E.db):=by
    have g1:=Ji (Q4 h.keep.grown hgc) hbm;exact⟨hg.os.trans g1.os,hg.tape.trans g1.tape,hg.output.trans g1.output,Nat.le_trans g1.size hg.size,fun j hj hne=>(hg.block j (Nat.lt_of_lt_of_le hj g1.size) (hB _ (by omega))).trans (g1.block j hj hne)⟩
  refine⟨⟨?_,?_,hev2.append (r:=((E.f l' q').ev,pp,cc)) how2 ho hg,hdec,⟨p,c,hbox⟩,hrule,hgr,hlow⟩,?_,h.apart,h.hi⟩
  · rw[h.keep.all,XU hf hc];unfold QcI X0;rw[if_neg (by rw[hn];simp)];simp
  · have:=h.keep.len;rw[List.length_append];simp;omega
  · exact((h.tok.other (c:=E.db) (by omega) 1 _).on hbm).far hg (fun e=>h.evR R e.symm rfl)
theorem Qlh.next {E:Qb4} {l':List UInt8} {q':Bool} {rows:List Q1} {ev:Value} {R:Nat} {t:Tk} {v:Value} {W:World} (h:Qlh E l' q' rows ev R t v W)
    {o:Obj} {us:List Value} (hus:us.length=12) (hn:AtM (W.alloc o) W.heap.size us) {w3:World} {pp:Option Addr} {cc:Nat} {p':Option Addr} {c':Nat}
    (ho:Own w3 (W.alloc o).heap.size (.slice pp (E.f l' q').ev.data.length cc) (E.f l' q').ev.data) (hbox:Qfh w3 E.w.heap.size p' c' (X0 E.f l' q')) (hg:(W.alloc o).grownBy w3 (some E.w.heap.size)):
    UF E l' q' rows W.heap.size pp cc ev (sets w3 W.heap.size 0 (tkL (E.f l' q') (.slice pp (E.f l' q').ev.data.length cc))):=by
  have hlow:=h.keep.low;obtain⟨p0,c0,b0,_⟩:=h.keep.box;have hsz:E.w.heap.size+1<W.heap.size:=h.keep.rule.1;have hbm:=Qb W o;have hsg:=Un (b:=W.heap.size) (tkL (E.f l' q') (.slice pp (E.f l' q').ev.data.length cc)) 0 w3;have hev1:=(h.keep.evs.below hbm).kept hg (.inl fun e=>by have:=(h.keep.evs.lt _ e).1;omega) (fun r hr j hj e=>by cases e;have:=((h.keep.evs.2 r hr).lt _ hj).1;omega);have hev2:=hev1.kept hsg (.inl fun e=>by have:=(h.keep.evs.lt _ e).2;omega) (fun r hr j hj e=>by cases e;have:=((h.keep.evs.2 r hr).lt _ hj).2;omega);have hrow:∀j,(QU ((E.f l' q').ev,pp,cc)).ownBlock=some j→W.heap.size<j:=fun j hj=>(by have:=(ho.lt j hj).1;simp at this;omega);refine⟨⟨h.keep.all,h.keep.len,hev2,((h.keep.dec.on hbm).far hg (by intro e;injection e;omega)).far hsg (by intro e;injection e;omega),⟨p',c',hbox.far hsg (by omega)⟩,
    ((h.keep.rule.on hbm).far hg (by intro e;injection e;omega)).far hsg (by intro e;injection e;omega),?_,hlow⟩,?_,?_,?_,by omega,?_⟩
  · exact UG (UG (Ji h.keep.grown hbm) hg (Nat.le_refl _)) hsg (by omega)
  · exact(hn.far hg (by intro e;injection e;omega)).sets _ (by rw[hus];rfl)
  · refine(Kf (base:=W.heap.size+1) (by omega) _ 0 _ ?_).lower (by omega);exact ho.lower (by simp)
  · refine h.apart.snoc fun x hx j hj e=>?_;have h1:=((h.keep.evs.2 x hx).lt j hj).2;have h2:=hrow j e;omega
  · intro j hj;have:=(h.keep.evs.lt j hj).2;omega
theorem Qdm {w:World} {base base' size n:Nat} {e:TypeId} {v:Value} {xs:List Value} (h:w.ownsRow base e size v n xs) (hb:base'≤base):w.ownsRow base' e size v n xs:=by
  refine⟨h.1,?_⟩;rcases h.2 with h' | ⟨g,cap,cur,e,hg,r⟩
  · exact .inl h'
  · exact .inr ⟨g,cap,cur,e,by omega,r⟩
theorem UF.last {E:Qb4} {l':List UInt8} {q':Bool} {rows:List Q1} {R:Nat} {pp:Option Addr} {cc:Nat} {ev:Value} {W:World} (h:UF E l' q' rows R pp cc ev W) (hc:¬(E.f l' q').code=0) (hz:(E.f l' q').size=0)
    {w4:World} {p4:Option Addr} {c4 n4:Nat} (hn:n4=l'.length) (ho:Own w4 W.heap.size (.slice p4 n4 c4) l') (hb:Below W.heap.size W w4):
    Qb3 E.w E.db E.due (QF E.f E.l E.q) (.returned ev) (w4.setCell ⟨E.db,0,none⟩ (.slice p4 n4 c4)):=by
  subst hn;have hlow:=h.keep.low;have e:QF E.f E.l E.q=(rows.map Prod.fst,l',q'):=(by rw[h.keep.all,Yf hc];simp);rw[e];have hgc:=XI w4 E.db 0 (.slice p4 l'.length c4);have hsz:E.w.heap.size+1<W.heap.size:=h.keep.rule.1;have hev:=(h.keep.evs.below hb).kept hgc (.inl fun e=>by have:=(h.keep.evs.lt _ e).1;omega) (fun r hr j hj e=>by cases e;have:=((h.keep.evs.2 r hr).lt _ hj).1;omega);refine⟨ev,rows,p4,c4,rfl,rfl,⟨Qdm hev.1 (by omega),fun r hr=>(hev.2 r hr).lower (by omega)⟩,h.apart.left,(h.keep.dec.on hb).set 0 _,(ho.setBelow (by show E.db<_;omega) _).lower (by omega),?_,Q4 (Ji h.keep.grown hb) hgc⟩;intro x hx j hj e;have h1:=((h.keep.evs.2 x hx).lt j hj).2;have h2:=(ho.lt j e).1;omega
theorem UF.first {E:Qb4} {w1 w2:World} {pp p2:Option Addr} {cc c2:Nat} {t:TypeId} (hlow:E.db<E.w.heap.size) (hd:AtM w1 E.db [.slice E.p E.l.length E.c,.bool E.q,.int .i64 E.due]) (hr:AtL w1 (E.w.heap.size+1) [.func (.func E.F) #[] #[]]) (hs:w1.heap.size=E.w.heap.size+2)
    (hg1:E.w.grownBy w1 (some E.db)) (ho:Own w2 w1.heap.size (.slice pp (E.f E.l E.q).ev.data.length cc) (E.f E.l E.q).ev.data) (hbox:Qfh w2 E.w.heap.size p2 c2 (X0 E.f E.l E.q)) (hg:w1.grownBy w2 (some E.w.heap.size)):
    UF E E.l E.q [] w2.heap.size pp cc (.slice none 0 0) (w2.alloc (.cells (tkL (E.f E.l E.q) (.slice pp (E.f E.l E.q).ev.data.length cc)).toArray t)):=by
  have hbm:=Qb w2 (.cells (tkL (E.f E.l E.q) (.slice pp (E.f E.l E.q).ev.data.length cc)).toArray t);have hsz:=hg.size;refine⟨⟨by simp,by simp,⟨World.ownsRow_nil _ _ _ _,by simp⟩,(hd.far hg (by intro e;injection e;omega)).on hbm,⟨p2,c2,hbox.on hbm⟩,(hr.far hg (by intro e;injection e;omega)).on hbm,Ji (UG hg1 hg (Nat.le_refl _)) hbm,hlow⟩,AtM.new _ _ _,(ho.on hbm).lower (by omega),by simp[YT],by omega,fun j hj=>by simp[Value.ownBlock] at hj⟩
theorem Qb5 {f:Qer} {l:List UInt8} {q:Bool} (h:(f l q).size=0):X0 f l q=l:=by unfold X0;rw[h];rfl
theorem Qdn {f:Qer} (hf:Yn f) (hz:∀l q,¬(f l q).code=0→(f l q).size=0) (l:List UInt8) (q:Bool):2 * (X0 f l q).length+(if (f l q).code=0 then 1 else 0)<2 * l.length+1:=by
  by_cases hc:(f l q).code=0
  · obtain⟨⟨k,hk,h1,h2⟩,_⟩:=hf l q hc;rw[if_pos hc];unfold X0;rw[hk];simp;omega
  · rw[if_neg hc,Qb5 (hz l q hc)];omega
def QgN (F:Nat) (f:Qer):Prop:=∀(b1 b:Nat) (p:Option Addr) (c:Nat) (l:List UInt8) (q:Bool) (w:World),AtL w b1 [.func (.func F) #[] #[]]→Qfh w b p c l→Yo w→
  Calls Tryz.prog 121 #[.bool q,.pointer (some ⟨b1,0,none⟩),.pointer (some ⟨b,0,none⟩)] w (Ql6 w b (f l q) (X0 f l q))
theorem KL (F:Nat) (f:Qer) (hf:Yn f) (hz:∀l q,¬(f l q).code=0→(f l q).size=0) (HP:Hid (QgN F f)) (db:Nat) (p:Option Addr) (c:Nat) (l:List UInt8) (q:Bool) (due:Int) (w:World)
    (hd:AtM w db [.slice p l.length c,.bool q,.int .i64 due]) (hb:Bs w w.heap.size p l) (hp:p=none→c=0) (hc:l.length≤c) (hl:l.length≤100000) (ht:Yo w) (hlow:Qfy db):
    Calls Tryz.prog 55 #[.pointer (some ⟨db,0,none⟩),.func (.func F) #[] #[]] w (Qb3 w db due (QF f l q)):=by
  have d0:=hd.cells.get 0 rfl;have d1:=hd.cells.get 1 rfl;have dl:=hd.cells.1;have HX:=Lib.hid (And.intro hd (And.intro hb (And.intro hp (And.intro ht hlow))));have HG:=Lib.hid (And.intro hf hz);clear hd hb hp ht hlow hf hz;obtain⟨i0,hi,hz0,hz1,hz2⟩:=info_parts Tryz.info_evd;have HI:=Lib.hid (And.intro hi (And.intro hz0 (And.intro hz1 hz2)));clear hi hz0 hz1 hz2;go_enter Tryz.func55,Tryz.ntmps55;go_wp2_with fail;refine(Qaf p l.length c F w).mono ?_;rintro e w1 ⟨rfl,rfl⟩;have B1:=Qb w (.cells #[.slice p l.length c] 22);have B2:=Qb (w.alloc (.cells #[.slice p l.length c] 22)) (.cells #[.func (.func F) #[] #[]] 111);have D1:=(HX.out.1.on B1).on B2;have HBX:Hid (Qfh ((w.alloc (.cells #[.slice p l.length c] 22)).alloc (.cells #[.func (.func F) #[] #[]] 111)) w.heap.size p c l):=
    ⟨(AtM.new w [.slice p l.length c] 22).on B2,(HX.out.2.1.below (Qa B1 B2)),HX.out.2.2.1,hc,by omega⟩
  have HRL:Hid (AtL ((w.alloc (.cells #[.slice p l.length c] 22)).alloc (.cells #[.func (.func F) #[] #[]] 111)) (w.heap.size+1) [.func (.func F) #[] #[]]):=by
    have:=AtL.new (w.alloc (.cells #[.slice p l.length c] 22)) [.func (.func F) #[] #[]] 111;rw[World.size_alloc] at this;exact this
  have HT1:=Lib.hid ((HX.out.2.2.2.1.on B1).on B2);have HGW:=Lib.hid (XW (Qa B1 B2) (some db));have hsz1:((w.alloc (.cells #[.slice p l.length c] 22)).alloc (.cells #[.func (.func F) #[] #[]] 111)).heap.size=w.heap.size+2:=(by simp);have HSZ:=Lib.hid hsz1;have HD1:=Lib.hid D1;have e1:=D1.cells.get 1 rfl;clear B1 B2 D1 d0 d1 hsz1;generalize(w.alloc (.cells #[.slice p l.length c] 22)).alloc (.cells #[.func (.func F) #[] #[]] 111)=w1 at *;go_wp2_with fail;refine(HP.out _ _ _ _ _ _ _ HRL.out HBX.out HT1.out).mono ?_;rintro e w2 ⟨v,p2,c2,rfl,ho2,hbx2,hg2⟩;obtain⟨pp,cc,hv⟩:=ho2.slice;subst hv;have HF1:Hid (UF ⟨w,db,F,f,p,c,l,q,due⟩ l q [] w2.heap.size pp cc (.slice none 0 0) (w2.alloc (.cells (tkL (f l q) (.slice pp (f l q).ev.data.length cc)).toArray 90))):=
    UF.first (E:=⟨w,db,F,f,p,c,l,q,due⟩) dl HD1.out HRL.out HSZ.out HGW.out ho2 hbx2 hg2
  clear ho2 hbx2 hg2 HBX HRL HT1 HGW HSZ HD1 e1;unfold tkV;unfold tkL at HF1;go_wp2_with fail
  go_loopw [7,8] (fun ev r W=>Qmv ⟨w,db,F,f,p,c,l,q,due⟩ ev r W) (fun _ r W=>QlF w.heap.size r W)
  case atStart=>exact⟨l,q,[],w2.heap.size,pp,cc,rfl,HF1.out⟩
  case round=>
    obtain⟨l',q',rows,R,pq,cq,rfl,hH⟩:=hrel;clear HF1;have HH:=Lib.hid hH;obtain⟨a0,a1,a2,a3,a4,a5,a6,a7,a8,a9,a10,a11⟩:=AtL.twelve hH.tok.cells;have d1:=hH.keep.dec.cells.get 1 rfl;have d2:=hH.keep.dec.free 1;have hRl:=hH.tok.cells.1;have hdl:=hH.keep.dec.cells.1;have hRd:R≠db:=(by have:=hH.hi;have:=dl;dsimp only at *;omega);dsimp only at a0 a1 a2 a3 a4 a5 a6 a7 a8 a9 a10 a11 d1 d2 hdl;clear hH;by_cases hcode:(f l' q').code=0
    · rw[hcode] at a0;have HCO:=Lib.hid hcode
      cases hn:(f l' q').none
      · have HN:=Lib.hid hn;rw[hn] at a11;clear hcode hn;have hlr:rows.length≤100000:=(by have:=HH.out.keep.len;dsimp only at this;omega);have HEV:Hid (∀o,QI ((wr.setCell ⟨db,1,none⟩ (.bool (f l' q').paste)).alloc o) (w.heap.size+2) u7 rows):=fun o=>
          (HH.out.keep.evs.kept (XI wr db 1 (.bool (f l' q').paste)) (.inl fun e=>by have:=(HH.out.keep.evs.lt _ e).1;dsimp only at this;omega) (fun r hr j hj e=>by
            cases e
            have:=((HH.out.keep.evs.2 r hr).lt _ hj).1;dsimp only at this;omega)).alloc o
        have HSW:Hid (w.heap.size+2≤wr.heap.size):=(by have:=HH.out.keep.rule.1;dsimp only at this;exact this);go_wp2_with (at_builtin;refine wpList_append_own_at _ rfl _ _ 28 rfl (w.heap.size+2) 40 i0 _ 8 80 Tryz.underlying28 HI.out.1 HI.out.2.1 HI.out.2.2.1 HI.out.2.2.2 rfl (by decide) _ _ _ rfl (HEV.out _).1 ⟨wr.heap.size,0,none⟩ 1 1 (QH ((f l' q').ev,pq,cq)) rfl (by simp[QgL]) ?c1 ?c2 ?c3 ?c4 ?c5 ?_)
        case c1=>exact Qki _ ((f l' q').ev,pq,cq) _ _ (by simp)
        case c2=>exact Qen _
        case c3=>unfold maxLen;omega
        case c4=>omega
        case c5=>have:=HSW.out;simp;omega
        intro v' w4 hown' hgrow hnil hblk;have HM:Hid (Qlh ⟨w,db,F,f,p,c,l,q,due⟩ (X0 f l' q') (f l' q').paste (rows++[((f l' q').ev,pq,cq)]) v' R (f l' q') (.slice pq (f l' q').ev.data.length cq) w4):=HH.out.push HG.out.1 HCO.out HN.out hown' hgrow;clear hown' hgrow hnil hblk a0 a1 a2 a3 a4 a5 a6 a7 a8 a9 a10 a11 d1 d2 hRl hdl HEV HSW;go_upto_region 9 with(fail);generalize rows++[((f l' q').ev,pq,cq)]=rows2 at *;refine J1 (Qlh ⟨w,db,F,f,p,c,l,q,due⟩ (X0 f l' q') (f l' q').paste rows2 v' R (f l' q') (.slice pq (f l' q').ev.data.length cq)) HM.out (fun W' hM=>?_);clear HM;have HMM:=Lib.hid hM;obtain⟨a0,a1,a2,a3,a4,a5,a6,a7,a8,a9,a10,a11⟩:=AtL.twelve hM.tok.cells;obtain⟨p3,c3,hbx⟩:=hM.keep.box;have e1:=hM.keep.dec.cells.get 1 rfl;have e2:=hM.keep.dec.cells.1;dsimp only at e1 e2;have B3:=Qb W' (.cells (tkL (f l' q') (.slice pq (f l' q').ev.data.length cq)).toArray 90);have HR3:=Lib.hid (hM.keep.rule.on B3);have HB3:=Lib.hid (hbx.on B3);have HT3:=Lib.hid ((hM.keep.tabs HX.out.2.2.2.1 HX.out.2.2.2.2).on B3);have HN3:=Lib.hid (AtM.new W' (tkL (f l' q') (.slice pq (f l' q').ev.data.length cq)) 90);have HNB:Hid (w.heap.size≠W'.heap.size):=(by have:=hM.keep.rule.1;dsimp only at this;show _≠_;omega);dsimp only at HR3 HB3;unfold tkL at HR3 HB3 HT3 HN3;clear hM hbx B3;go_wp2_with fail;refine(HP.out _ _ _ _ _ _ _ HR3.out HB3.out HT3.out).mono ?_;rintro e w5 ⟨v5,p5,c5,rfl,ho5,hbx5,hg5⟩;obtain⟨p6,c6,hv⟩:=ho5.slice;subst hv;have HE:=Lib.hid (HMM.out.next rfl HN3.out ho5 hbx5 hg5);have hnn:=HN3.out.far hg5 (fun e=>HNB.out (by injection e with e;exact e.symm));obtain⟨r0,r1,r2,r3,r4,r5,r6,r7,r8,r9,r10,r11⟩:=AtL.twelve hnn.cells;have hfr:=hnn.free;clear a0 a1 a2 a3 a4 a5 a6 a7 a8 a9 a10 a11 ho5 hbx5 hg5 hnn HR3 HB3 HT3 HN3 e1 e2;unfold tkV;go_wp2_with fail;have hm1:=Qau HE.out;have hm2:=Qau HH.out;rw[if_pos (show((⟨w,db,F,f,p,c,l,q,due⟩:Qb4).f l' q').code=0 from HCO.out)] at hm2;exact⟨⟨_,_,_,_,_,_,rfl,HE.out⟩,Nat.lt_of_le_of_lt (Nat.le_of_eq hm1) (Nat.lt_of_lt_of_le (Qdn HG.out.1 HG.out.2 (X0 f l' q') (f l' q').paste) (Nat.le_of_eq hm2.symm))⟩
      · have HN:=Lib.hid hn;rw[hn] at a11;clear hcode hn;have HM:Hid (Qlh ⟨w,db,F,f,p,c,l,q,due⟩ (X0 f l' q') (f l' q').paste rows u7 R (f l' q') (.slice pq (f l' q').ev.data.length cq) (wr.setCell ⟨db,1,none⟩ (.bool (f l' q').paste))):=HH.out.pass HG.out.1 HCO.out HN.out;go_upto_region 9 with(fail);clear a0 a1 a2 a3 a4 a5 a6 a7 a8 a9 a10 a11 d1 d2 hRl hdl;refine J1 (Qlh ⟨w,db,F,f,p,c,l,q,due⟩ (X0 f l' q') (f l' q').paste rows u7 R (f l' q') (.slice pq (f l' q').ev.data.length cq)) HM.out (fun W' hM=>?_);clear HM;have HMM:=Lib.hid hM;obtain⟨a0,a1,a2,a3,a4,a5,a6,a7,a8,a9,a10,a11⟩:=AtL.twelve hM.tok.cells;obtain⟨p3,c3,hbx⟩:=hM.keep.box;have e1:=hM.keep.dec.cells.get 1 rfl;have e2:=hM.keep.dec.cells.1;dsimp only at e1 e2;have B3:=Qb W' (.cells (tkL (f l' q') (.slice pq (f l' q').ev.data.length cq)).toArray 90);have HR3:=Lib.hid (hM.keep.rule.on B3);have HB3:=Lib.hid (hbx.on B3);have HT3:=Lib.hid ((hM.keep.tabs HX.out.2.2.2.1 HX.out.2.2.2.2).on B3);have HN3:=Lib.hid (AtM.new W' (tkL (f l' q') (.slice pq (f l' q').ev.data.length cq)) 90);have HNB:Hid (w.heap.size≠W'.heap.size):=(by have:=hM.keep.rule.1;dsimp only at this;show _≠_;omega);dsimp only at HR3 HB3;unfold tkL at HR3 HB3 HT3 HN3;clear hM hbx B3;go_wp2_with fail;refine(HP.out _ _ _ _ _ _ _ HR3.out HB3.out HT3.out).mono ?_;rintro e w5 ⟨v5,p5,c5,rfl,ho5,hbx5,hg5⟩;obtain⟨p6,c6,hv⟩:=ho5.slice;subst hv;have HE:=Lib.hid (HMM.out.next rfl HN3.out ho5 hbx5 hg5);have hnn:=HN3.out.far hg5 (fun e=>HNB.out (by injection e with e;exact e.symm));obtain⟨r0,r1,r2,r3,r4,r5,r6,r7,r8,r9,r10,r11⟩:=AtL.twelve hnn.cells;have hfr:=hnn.free;clear a0 a1 a2 a3 a4 a5 a6 a7 a8 a9 a10 a11 ho5 hbx5 hg5 hnn HR3 HB3 HT3 HN3 e1 e2;unfold tkV;go_wp2_with fail;have hm1:=Qau HE.out;have hm2:=Qau HH.out;rw[if_pos (show((⟨w,db,F,f,p,c,l,q,due⟩:Qb4).f l' q').code=0 from HCO.out)] at hm2;exact⟨⟨_,_,_,_,_,_,rfl,HE.out⟩,Nat.lt_of_le_of_lt (Nat.le_of_eq hm1) (Nat.lt_of_lt_of_le (Qdn HG.out.1 HG.out.2 (X0 f l' q') (f l' q').paste) (Nat.le_of_eq hm2.symm))⟩
    · have hce:((f l' q').code==0)=false:=(by simpa using hcode);have HCO:=Lib.hid hcode;clear hcode;obtain⟨p3,c3,hbx⟩:=HH.out.keep.box;have hzz:=HG.out.2 l' q' HCO.out;dsimp only at hbx;rw[Qb5 hzz] at hbx;have HZ:=Lib.hid hzz;clear hzz;go_wp2_with fail;refine(QbR _ _ _ _ _ hbx).mono ?_;rintro e w4 ⟨v4,rfl,ho4,hb4⟩;obtain⟨p4,c4,hv⟩:=ho4.slice;subst hv;have hdd:=HH.out.keep.dec.on hb4;have f0:=hdd.cells.get 0 rfl;have f1:=hdd.free 0;have HE:=Lib.hid (HH.out.last HCO.out HZ.out rfl ho4 hb4);dsimp only at f0 f1;clear a0 a1 a2 a3 a4 a5 a6 a7 a8 a9 a10 a11 d1 d2 hRl hdl hdd ho4 hb4 hbx;go_wp2_with fail;go_ret;exact HE.out
structure Dr where
  code:Int
  dc:Dc
  evs:List Ev
def Qak (c:Int):Dr:=⟨c,⟨[],false,0⟩,[]⟩
structure JO (base:Nat) (r:Dr) (v u:Value) (rows:List Q1) (w':World):Prop where
  evs:rows.map Prod.fst=r.evs
  pend:Own w' base v r.dc.pend
  own:QI w' base u rows
  apart:YT rows
  off:∀x∈rows,∀j,(QU x).ownBlock=some j→v.ownBlock≠some j
def Qi7 (w:World) (r:Dr) (e:Ending) (w':World):Prop:=
  ∃v u rows,e=.returned (.agg #[.int .i64 r.code,v,.bool r.dc.paste,.int .i64 r.dc.due,u])∧JO w.heap.size r v u rows w'∧Below w.heap.size w w'
theorem QI.setBelow {w:World} {base:Nat} {v:Value} {rows:List Q1} (h:QI w base v rows) {b i:Nat} (hb:b<base) (u:Value):QI (w.setCell ⟨b,i,none⟩ u) base v rows:=
  h.kept (XI w b i u) (.inl fun e=>by have:=(h.lt _ e).1;omega) (fun r hr j hj e=>by
    cases e
    have:=((h.2 r hr).lt _ hj).1;omega)
theorem Qhh {b base:Nat} {v:Value} {rows:List Q1} (hb:b<base):∀(vs:List Value) (i:Nat) (w:World),QI w base v rows→QI (sets w b i vs) base v rows
  | [],_,_,h=>h
  | _::r,i,_,h=>Qhh hb r (i+1) _ (h.setBelow hb _)
theorem QI.lower {w:World} {base base':Nat} {v:Value} {rows:List Q1} (h:QI w base v rows) (hb:base'≤base):QI w base' v rows:=⟨Qdm h.1 hb,fun r hr=>(h.2 r hr).lower hb⟩
theorem JO.lower {base base':Nat} {r:Dr} {v u:Value} {rows:List Q1} {w:World} (h:JO base r v u rows w) (hb:base'≤base):JO base' r v u rows w:=⟨h.evs,h.pend.lower hb,h.own.lower hb,h.apart,h.off⟩
theorem JO.on {base:Nat} {r:Dr} {v u:Value} {rows:List Q1} {w w':World} (h:JO base r v u rows w) (hb:Below w.heap.size w w'):JO base r v u rows w':=⟨h.evs,h.pend.on hb,h.own.below hb,h.apart,h.off⟩
theorem JO.setBelow {base:Nat} {r:Dr} {v u:Value} {rows:List Q1} {w:World} (h:JO base r v u rows w) {b i:Nat} (hb:b<base) (x:Value):JO base r v u rows (w.setCell ⟨b,i,none⟩ x):=
  ⟨h.evs,h.pend.setBelow (by exact hb) x,h.own.setBelow hb x,h.apart,h.off⟩
theorem JO.sets {base:Nat} {r:Dr} {v u:Value} {rows:List Q1} {w:World} (h:JO base r v u rows w) {b:Nat} (hb:b<base) (vs:List Value) (i:Nat):JO base r v u rows (Go.Proofs.YtbfickdgjgbfhaaGreatDoor.sets w b i vs):=
  ⟨h.evs,Kf hb vs i _ h.pend,Qhh hb vs i _ h.own,h.apart,h.off⟩
theorem QgO (w:World) (base:Nat):QI w base (.slice none 0 0) []:=⟨World.ownsRow_nil _ _ _ _,by simp⟩
theorem QlG (w:World) (base:Nat) (c:Int):JO base (Qak c) (.slice none 0 0) (.slice none 0 0) [] w:=⟨rfl,QT _ _,QgO _ _,by simp[YT],by simp⟩
theorem Own.room {w:World} {base:Nat} {p:Option Addr} {n c:Nat} {l:List UInt8} (h:Own w base (.slice p n c) l):n=l.length∧l.length≤c∧(p=none→c=0):=by
  refine⟨h.bs.1,?_⟩;rcases h.2 with⟨e,hn⟩ | ⟨g,cap,cur,e,hb,hh,hcap,_⟩
  · simp only[Value.slice.injEq] at e;exact⟨by omega,fun _=>e.2.2⟩
  · simp only[Value.slice.injEq] at e;obtain⟨rfl,rfl,rfl⟩:=e;exact⟨hcap,fun e=>by cases e⟩
theorem Ua (l:List UInt8) (h:(Q2 l).code=6):l.length<38:=by
  by_cases hne:l=[]
  · subst hne;simp
  by_cases h32:32≤unt l
  · rw[Yy hne h32] at h;exact absurd h (by simp[Q7,pTk])
  by_cases h6:l.length<unt l+6
  · omega
  by_cases hp:0<unt l
  · rw[Yz hne h32 h6 hp] at h;exact absurd h (by simp[Q7,pTk])
  · rw[YJ hne h32 h6 hp] at h;exact absurd h (by simp)
theorem Qb6 (l:List UInt8) (q:Bool) (h:(Qw l q).code=6):l.length<38:=by
  unfold Qw at h;split at h
  · exact Ua l h
  · have:=JK l h;omega
theorem Qb7 {d:Dc} (h:Xe d=0):d.pend.length<38:=by
  by_cases h0:d.pend=[]
  · rw[h0];simp
  unfold Xe at h;split at h
  · omega
  split at h
  · rename_i h6;exact Qb6 _ _ h6
  · omega
def ZT (d:Dc) (data:List UInt8) (now:Int):Dr:=
  if ¬Xe d=0 then Qak (Xe d)
  else if 200<data.length then Qak 2
  else if inR now 0 1000000=false then Qak 3
  else ⟨0,⟨(QF Qw (d.pend++data) d.paste).2.1,(QF Qw (d.pend++data) d.paste).2.2,if (QF Qw (d.pend++data) d.paste).2.1=[] then 0 else now+50⟩,(QF Qw (d.pend++data) d.paste).1⟩
theorem UZ (l:List UInt8) (q:Bool) (h:¬(Qw l q).code=0):(Qw l q).size=0:=by
  unfold Qw at *;split
  · rename_i hq;rw[if_pos hq] at h;by_cases hne:l=[]
    · subst hne;rfl
    by_cases h32:32≤unt l
    · rw[Yy hne h32] at h;exact absurd rfl h
    by_cases h6:l.length<unt l+6
    · rw[YX hne h32 h6];rfl
    by_cases hp:0<unt l
    · rw[Yz hne h32 h6 hp] at h;exact absurd rfl h
    · rw[YJ hne h32 h6 hp] at h;exact absurd rfl h
  · rename_i hq;rw[if_neg hq] at h;by_cases hne:l=[]
    · subst hne;rfl
    · rcases(show(Q0 l).code=0∨(Q0 l).code=6 by unfold Q0;rw[if_neg hne];exact Kj l) with h0 | h6
      · exact absurd h0 h
      · rw[J2 l h6];rfl
theorem Ub (l:List UInt8) (q:Bool) (h:¬(Qs l q).code=0):(Qs l q).size=0:=by
  by_cases hne:l=[]
  · subst hne;rfl
  · exact absurd (ZC l q hne).1 h
theorem Qhi {f:Qer} (hf:Yn f) (hz:∀l q,¬(f l q).code=0→(f l q).size=0):QbS f:=fun l q=>by
  by_cases hc:(f l q).code=0
  · obtain⟨⟨k,hk,h1,h2⟩,_⟩:=hf l q hc;exact⟨k,hk,h2⟩
  · exact⟨0,by rw[hz l q hc];rfl,Nat.zero_le _⟩
theorem Qi8:QgN 56 Qw:=fun b1 b p c l q w h1 h2 h3=>
  Qag (fun p c l q w h ht hc hl=>J5 p c l q w h ht hc hl) (Qhi Yg UZ) b1 b p c l q w h1 h2 h3
theorem QgP:QgN 73 Qs:=fun b1 b p c l q w h1 h2 h3=>
  UC (fun p c l q w h ht hc hl=>VQ p c l q w h ht hc hl) (Qhi Xf Ub) b1 b p c l q w h1 h2 h3
theorem ZU (now:Int) (w:World):Calls Tryz.prog 53 #[.int .i64 now] w fun e w'=>e=.returned (.bool (inR now 0 1000000))∧Below w.heap.size w w':=by
  go_enter Tryz.func53,Tryz.ntmps53;go_wp2_with fail;refine(Qv _ _ _ _ _ _ (by simp)).mono ?_;rintro e w1 ⟨rfl,rfl⟩;go_wp2_with fail;go_ret;exact⟨rfl,Qb _ _⟩
theorem Qfz {w W:World} {c:Int} (hd:Below w.heap.size w W):Qi7 w (Qak c) (.returned (.agg #[.int .i64 c,.slice none 0 0,.bool false,.int .i64 0,.slice none 0 0])) (sets W (w.heap.size+1) 0 [.int .i64 c,.slice none 0 0,.bool false,.int .i64 0,.slice none 0 0]):=
  ⟨_,_,[],rfl,QlG _ _ _,QK (by omega) _ 0 _ _ hd⟩
theorem Qli (w:World) (d:Dc) (p:Option Addr) (c:Nat) (t1 t2:TypeId):AtM ((w.alloc (.cells #[.slice p d.pend.length c,.bool d.paste,.int .i64 d.due] t1)).alloc (.cells #[.int .i64 0,.slice none 0 0,.bool false,.int .i64 0,.slice none 0 0] t2)) w.heap.size (dcL d p c)∧
    AtM ((w.alloc (.cells #[.slice p d.pend.length c,.bool d.paste,.int .i64 d.due] t1)).alloc (.cells #[.int .i64 0,.slice none 0 0,.bool false,.int .i64 0,.slice none 0 0] t2)) (w.heap.size+1) [.int .i64 0,.slice none 0 0,.bool false,.int .i64 0,.slice none 0 0]∧
    Below w.heap.size w ((w.alloc (.cells #[.slice p d.pend.length c,.bool d.paste,.int .i64 d.due] t1)).alloc (.cells #[.int .i64 0,.slice none 0 0,.bool false,.int .i64 0,.slice none 0 0] t2)):=by
  refine⟨(AtM.new w (dcL d p c) t1).on (Qb _ _),?_,Qa (Qb _ _) (Qb _ _)⟩;have:=AtM.new (w.alloc (.cells #[.slice p d.pend.length c,.bool d.paste,.int .i64 d.due] t1)) [.int .i64 0,.slice none 0 0,.bool false,.int .i64 0,.slice none 0 0] t2;rw[World.size_alloc] at this;exact this
theorem QI.slice {W:World} {base:Nat} {v:Value} {rows:List Q1} (h:QI W base v rows):∃p c,v=.slice p rows.length c:=by
  rcases h.1.2 with⟨e,e0⟩ | ⟨g,cap,cur,e,_⟩
  · exact⟨none,0,by rw[e,e0]⟩
  · exact⟨_,cap,e⟩
theorem Qkj {w W4:World} {B:Nat} {r:List Ev×List UInt8×Bool} {v:Value} {rows:List Q1} {p:Option Addr} {c:Nat} (due:Int) (hrows:rows.map Prod.fst=r.1) (hevs:QI W4 B v rows) (hap:YT rows) (hp:Own W4 B (.slice p r.2.1.length c) r.2.1)
    (hoff:∀x∈rows,∀j,(QU x).ownBlock=some j→(Value.slice p r.2.1.length c).ownBlock≠some j) (hd:Below w.heap.size w W4) (hB:w.heap.size+1<B) (vs:List Value) (us:List Value):
    Qi7 w ⟨0,⟨r.2.1,r.2.2,due⟩,r.1⟩ (.returned (.agg #[.int .i64 0,.slice p r.2.1.length c,.bool r.2.2,.int .i64 due,v])) (sets (us.foldl (fun W u=>W.setCell ⟨w.heap.size,2,none⟩ u) W4) (w.heap.size+1) 0 vs):=by
  have h0:JO B ⟨0,⟨r.2.1,r.2.2,due⟩,r.1⟩ (.slice p r.2.1.length c) v rows W4:=⟨hrows,hp,hevs,hap,hoff⟩;have h1:∀(us:List Value) (W4:World),JO B ⟨0,⟨r.2.1,r.2.2,due⟩,r.1⟩ (.slice p r.2.1.length c) v rows W4→Below w.heap.size w W4→
      JO B ⟨0,⟨r.2.1,r.2.2,due⟩,r.1⟩ (.slice p r.2.1.length c) v rows (us.foldl (fun W u=>W.setCell ⟨w.heap.size,2,none⟩ u) W4)∧Below w.heap.size w (us.foldl (fun W u=>W.setCell ⟨w.heap.size,2,none⟩ u) W4):=by
    intro us
    induction us with
    | nil=>intro W4 h k;exact⟨h,k⟩
    | cons u us ih=>intro W4 h k;exact ih _ (h.setBelow (by omega) u) (k.setCell (Nat.le_refl _) u)
  obtain⟨h2,h3⟩:=h1 us W4 h0 hd;exact⟨_,_,rows,rfl,(h2.sets (by omega) vs 0).lower (by omega),QK (by omega) vs 0 _ _ h3⟩
theorem QfA (d:Dc) (p pd:Option Addr) (c cd:Nat) (data:List UInt8) (now:Int) (w:World) (h:Bs w w.heap.size p d.pend) (hp:p=none→c=0) (hc:d.pend.length≤c) (hl:d.pend.length≤1048576)
    (hdt:Bs w w.heap.size pd data) (hpd:pd=none→cd=0) (hdl:data.length≤1048576) (ht:Yo w):
    Calls Tryz.prog 10 #[dcV d p c,.slice pd data.length cd,.int .i64 now] w (Qi7 w (ZT d data now)):=by
  have HX:=Lib.hid (And.intro h (And.intro hp (And.intro hdt (And.intro hpd ht))));obtain⟨A0,R0,D0⟩:=Qli w d p c 25 30;have HF:=Lib.hid (fun W (hb:Below w.heap.size w W)=>ZA d p c W (h.on hb) (ht.on hb) hc hl);clear h hp hdt hpd ht;unfold dcV;have HA0:=Lib.hid A0;have HR0:=Lib.hid R0;have HD0:=Lib.hid D0;clear A0 R0 D0;by_cases hf:Xe d=0
  · have hlen:=Qb7 hf;have HZ:=Lib.hid hf;by_cases hbig:200<data.length
    · have e:ZT d data now=Qak 2:=(by unfold ZT;rw[if_neg (by simp[hf]),if_pos hbig]);rw[e];clear e hf;have hbI:(200:Int)<(data.length:Int):=(by omega);go_enter Tryz.func10,Tryz.ntmps10;go_wp2_with fail;refine(HF.out _ HD0.out).mono ?_;rw[HZ.out];rintro e w1 ⟨rfl,hb1⟩;have hr1:=HR0.out.on hb1;obtain⟨r0,r1,r2,r3,r4⟩:=hr1.cells.five;have hfr:=hr1.free;have HE:=Lib.hid (Qfz (c:=2) (Qa HD0.out hb1));clear hb1 hr1;go_wp2_with fail;refine bodyPost_ret (v:=.agg #[.int .i64 2,.slice none 0 0,.bool false,.int .i64 0,.slice none 0 0]) ?_ rfl HE.out;simp[results,Tryz.results10,go_sem,r0,r1,r2,r3,r4]
    · by_cases hnow:inR now 0 1000000=false
      · have e:ZT d data now=Qak 3:=(by unfold ZT;rw[if_neg (by simp[hf]),if_neg hbig,if_pos hnow]);rw[e];clear e hf;have HNW:=Lib.hid hnow;have hbI:¬(200:Int)<(data.length:Int):=(by omega);clear hnow hbig;go_enter Tryz.func10,Tryz.ntmps10;go_wp2_with fail;refine(HF.out _ HD0.out).mono ?_;rw[HZ.out];rintro e w1 ⟨rfl,hb1⟩;go_wp2_with fail;refine(ZU now _).mono ?_;rw[HNW.out];rintro e w2 ⟨rfl,hb2⟩;have hr1:=(HR0.out.on hb1).on hb2;obtain⟨r0,r1,r2,r3,r4⟩:=hr1.cells.five;have hfr:=hr1.free;have HE:=Lib.hid (Qfz (c:=3) (Qa (Qa HD0.out hb1) hb2));clear hb1 hr1 hb2;go_wp2_with fail;refine bodyPost_ret (v:=.agg #[.int .i64 3,.slice none 0 0,.bool false,.int .i64 0,.slice none 0 0]) ?_ rfl HE.out;simp[results,Tryz.results10,go_sem,r0,r1,r2,r3,r4]
      · have hnow2:inR now 0 1000000=true:=(by simpa using hnow);have hn:0≤now∧now≤1000000:=(by simp[inR] at hnow2;exact hnow2);have e:ZT d data now=⟨0,⟨(QF Qw (d.pend++data) d.paste).2.1,(QF Qw (d.pend++data) d.paste).2.2,if (QF Qw (d.pend++data) d.paste).2.1=[] then 0 else now+50⟩,(QF Qw (d.pend++data) d.paste).1⟩:=by
          unfold ZT;rw[if_neg (by simp[hf]),if_neg hbig,if_neg hnow]
        rw[e];clear e hf;have HNW:=Lib.hid hnow2;have hbI:¬(200:Int)<(data.length:Int):=(by omega);have hll:(d.pend++data).length≤100000:=(by simp;omega);have hll2:d.pend.length+data.length≤1048576:=(by omega);clear hnow hnow2 hbig;generalize hls:d.pend++data=ls at *;have HLS:=Lib.hid hls;clear hls;generalize hta:QF Qw ls d.paste=r at *;have HTA:=Lib.hid hta;clear hta;obtain⟨evs,rest,md⟩:=r;dsimp only;generalize hdu:(if rest=[] then 0 else now+50)=due2;have HDU:=Lib.hid hdu;clear hdu;obtain⟨hn0,hn1⟩:=hn;go_enter Tryz.func10,Tryz.ntmps10;go_wp2_with fail;refine(HF.out _ HD0.out).mono ?_;rw[HZ.out];rintro e w1 ⟨rfl,hb1⟩;go_wp2_with fail;refine(ZU now _).mono ?_;rw[HNW.out];rintro e w2 ⟨rfl,hb2⟩;have HR2:=Lib.hid ((HR0.out.on hb1).on hb2);have HA2:=Lib.hid ((HA0.out.on hb1).on hb2);have HD2:=Lib.hid (Qa (Qa HD0.out hb1) hb2);obtain⟨d0,d1,d2⟩:=AtL.three HA2.out.cells;have dl:=HA2.out.cells.1;clear hb1 hb2 HR0 HA0 HD0;go_wp2_with fail;refine(UB p pd c cd _ d.pend data w2 _ (HX.out.1.on HD2.out) HX.out.2.1 (HX.out.2.2.1.on HD2.out) HX.out.2.2.2.1 hll2 _ rfl HLS.out).mono ?_;rintro e w3 ⟨v3,rfl,ho3,hb3⟩;obtain⟨p3,c3,hv⟩:=ho3.slice;subst hv;have B3:=Qa (Qb w2 _) hb3;have hsz3:w.heap.size+1<w2.heap.size:=HR2.out.cells.1;have A3:=HA2.out.on B3;have e0:=A3.cells.get 0 rfl;have e1:=A3.free 0;have HA3:=Lib.hid (A3.set 0 (.slice p3 ls.length c3));have HR3:=Lib.hid ((HR2.out.on B3).other (c:=w.heap.size) (by omega) 0 (.slice p3 ls.length c3));have HD3:=Lib.hid ((Qa HD2.out B3).setCell (p:=⟨w.heap.size,0,none⟩) (Nat.le_refl _) (.slice p3 ls.length c3));have HO3:=Lib.hid ((ho3.lower (base':=w2.heap.size) (by simp)).setBelow (a:=⟨w.heap.size,0,none⟩) (by show w.heap.size<w2.heap.size;omega) (.slice p3 ls.length c3));have HTL:Hid (Qfy w.heap.size):=HX.out.2.2.2.2.tabLow (Nat.le_refl _);clear B3 A3 ho3 hb3 d0 d1 d2 dl;go_wp2_with fail;generalize w3.setCell ⟨w.heap.size,0,none⟩ (.slice p3 ls.length c3)=W3 at *;have hroom:=HO3.out.room;refine(KL 56 Qw Yg UZ Qi8 _ p3 c3 ls d.paste d.due W3 HA3.out HO3.out.bs.2 hroom.2.2 hroom.2.1 hll (HX.out.2.2.2.2.on HD3.out) HTL.out).mono ?_;rw[HTA.out];rintro e w4 ⟨v4,rows,p4,c4,rfl,hrows,hevs,hap,hdec,hpend,hoff,hgr⟩;obtain⟨p5,c5,hv⟩:=hevs.slice;subst hv;obtain⟨d0,d1,d2⟩:=AtL.three hdec.cells;have df:=hdec.free;have hr4:=HR3.out.far hgr (by intro e;injection e;omega);obtain⟨r0,r1,r2,r3,r4⟩:=hr4.cells.five;have hfr:=hr4.free;have HD4:=Lib.hid (HD3.out.grown hgr HD3.out.size (fun k hk=>by injection hk;omega));have HE:=Lib.hid (fun due us vs=>Qkj (w:=w) due hrows hevs hap hpend hoff HD4.out (by have:=HR3.out.cells.1;omega) vs us);dsimp only at d0 d1 d2;clear hrows hevs hap hdec hpend hoff hgr hr4 HR2 HA2 HD2 HR3 HA3 HD3 HO3 hroom;by_cases hr:rest=[]
        · subst hr;obtain rfl:(0:Int)=due2:=(by rw[←HDU.out,if_pos rfl]);clear HDU;go_wp2_with fail;refine bodyPost_ret (v:=.agg #[.int .i64 0,.slice p4 0 c4,.bool md,.int .i64 0,.slice p5 rows.length c5]) ?_ rfl (HE.out 0 [.int .i64 0] [.int .i64 0,.slice p4 0 c4,.bool md,.int .i64 0,.slice p5 rows.length c5]);simp[results,Tryz.results10,go_sem,r0,r1,r2,r3,r4]
        · have hpos:(0:Int)<(rest.length:Int):=(by have:=List.length_pos_iff.2 hr;omega);obtain rfl:now+50=due2:=(by rw[←HDU.out,if_neg hr]);clear hr HDU;go_wp2_with fail;refine bodyPost_ret (v:=.agg #[.int .i64 0,.slice p4 rest.length c4,.bool md,.int .i64 (now+50),.slice p5 rows.length c5]) ?_ rfl (HE.out (now+50) [.int .i64 0,.int .i64 (now+50)] [.int .i64 0,.slice p4 rest.length c4,.bool md,.int .i64 (now+50),.slice p5 rows.length c5]);simp[results,Tryz.results10,go_sem,r0,r1,r2,r3,r4]
  · have e:ZT d data now=Qak (Xe d):=(by unfold ZT;rw[if_pos hf]);rw[e];clear e;have hfb:((Xe d) != 0)=true:=(by simpa using hf);generalize Xe d=fc at *;clear hf;go_enter Tryz.func10,Tryz.ntmps10;go_wp2_with fail;refine(HF.out _ HD0.out).mono ?_;rintro e w1 ⟨rfl,hb1⟩;have hr1:=HR0.out.on hb1;obtain⟨r0,r1,r2,r3,r4⟩:=hr1.cells.five;have hfr:=hr1.free;have HE:=Lib.hid (Qfz (c:=fc) (Qa HD0.out hb1));clear hb1 hr1;go_wp2_with fail;refine bodyPost_ret (v:=.agg #[.int .i64 fc,.slice none 0 0,.bool false,.int .i64 0,.slice none 0 0]) ?_ rfl HE.out;simp[results,Tryz.results10,go_sem,r0,r1,r2,r3,r4]
def ZV (d:Dc) (now:Int):Dr:=
  if ¬Xe d=0 then Qak (Xe d)
  else if inR now 0 1000000=false then Qak 3
  else if d.pend=[]∨now<d.due then ⟨0,d,[]⟩
  else ⟨0,⟨[],d.paste,0⟩,(QF Qs d.pend d.paste).1⟩
theorem Qi9 (l:List UInt8) (q:Bool):(QF Qs l q).2.1=[]:=by
  have h:=QbQ Xf l q;by_cases hne:(QF Qs l q).2.1=[]
  · exact hne
  · exact absurd (ZC _ _ hne).1 h
theorem QgQ (l:List UInt8):(QF Qs l true).2.2=true:=by
  have key:∀(n:Nat) (l:List UInt8) (q:Bool),l.length<n→q=true→(QF Qs l q).2.2=true:=by
    intro n l q hl;refine JD Xf (P:=fun l q=>q=true→(QF Qs l q).2.2=true) ?_ ?_ n l q hl
    · intro l q hc hq;rw[Yf hc];exact hq
    · intro l q hc ih hq;rw[XU Xf hc];refine ih ?_;subst hq;by_cases hne:l=[]
      · subst hne;exact absurd hc (by simp[Qs,Qf])
      · unfold Qs;rw[if_neg hne,if_pos rfl];rfl
  exact key (l.length+1) l true (by omega) rfl
theorem QfB (l:List UInt8) (h:(Q0 l).code=6):QF Qs l false=([(ZX l).ev],[],false)∧Qs l false=ZX l∧(ZX l).size=(l.length:Int):=by
  have hne:l≠[]:=by
    intro e;rw[e] at h;exact absurd h (by simp[Q0,Qf])
  have hlen:=JK l h;have hpos:0<l.length:=List.length_pos_iff.2 hne;have e:Qs l false=ZX l:=by
    unfold Qs;rw[if_neg hne,if_neg (by simp),if_pos h]
  have hs:(ZX l).size=(l.length:Int)∧(ZX l).none=false∧(ZX l).paste=false:=by
    unfold ZX;split
    · rename_i h1;exact⟨by rw[h1.2];rfl,rfl,rfl⟩
    split
    · rename_i h1;exact⟨by rw[h1.2];rfl,rfl,rfl⟩
    · have:l.take 24=l:=List.take_of_length_le (by omega);rw[this];exact⟨rfl,rfl,rfl⟩
  refine⟨?_,e,hs.1⟩;have hc:(Qs l false).code=0:=(by rw[e];exact Uz l);rw[XU Xf hc,e];have hd:l.drop (ZX l).size.toNat=[]:=(by rw[hs.1];simp);rw[hd,hs.2.2,Yf (by simp[Qs,Qf])];unfold QcI;rw[if_neg (by rw[hs.2.1];simp)];rfl
theorem Qja (l:List UInt8) (q:Bool) (h:(Qw l q).code=6):(QF Qs l q).2.2=q:=by
  cases q
  · unfold Qw at h;rw[if_neg (by simp)] at h;rw[(QfB l h).1]
  · exact QgQ l
theorem Qb8 {d:Dc} (h:Xe d=0) (h0:d.pend≠[]):(Qw d.pend d.paste).code=6:=by
  unfold Xe at h;split at h
  · omega
  split at h
  · assumption
  · omega
theorem Qkk {w W:World} {d:Dc} {p:Option Addr} {c B:Nat} (hd:Below w.heap.size w W) (ho:Own W B (.slice p d.pend.length c) d.pend) (hB:w.heap.size+1<B):
    Qi7 w ⟨0,d,[]⟩ (.returned (.agg #[.int .i64 0,.slice p d.pend.length c,.bool d.paste,.int .i64 d.due,.slice none 0 0])) (sets (W.setCell ⟨w.heap.size,0,none⟩ (.slice p d.pend.length c)) (w.heap.size+1) 0 [.int .i64 0,.slice p d.pend.length c,.bool d.paste,.int .i64 d.due,.slice none 0 0]):=by
  have h0:JO B ⟨0,d,[]⟩ (.slice p d.pend.length c) (.slice none 0 0) [] W:=⟨rfl,ho,QgO _ _,by simp[YT],by simp⟩;exact⟨_,_,[],rfl,((h0.setBelow (b:=w.heap.size) (i:=0) (by omega) _).sets (by omega) _ 0).lower (by omega),QK (by omega) _ 0 _ _ (hd.setCell (Nat.le_refl _) _)⟩
theorem QfC (d:Dc) (p:Option Addr) (c:Nat) (now:Int) (w:World) (h:Bs w w.heap.size p d.pend) (hp:p=none→c=0) (hc:d.pend.length≤c) (hl:d.pend.length≤1048576) (ht:Yo w):
    Calls Tryz.prog 22 #[dcV d p c,.int .i64 now] w (Qi7 w (ZV d now)):=by
  have HX:=Lib.hid (And.intro h (And.intro hp ht));obtain⟨A0,R0,D0⟩:=Qli w d p c 25 30;have HF:=Lib.hid (fun W (hb:Below w.heap.size w W)=>ZA d p c W (h.on hb) (ht.on hb) hc hl);clear h hp ht;unfold dcV;have HA0:=Lib.hid A0;have HR0:=Lib.hid R0;have HD0:=Lib.hid D0;clear A0 R0 D0;by_cases hf:Xe d=0
  · have hlen:=Qb7 hf;have HZ:=Lib.hid hf;by_cases hnow:inR now 0 1000000=false
    · have e:ZV d now=Qak 3:=(by unfold ZV;rw[if_neg (by simp[hf]),if_pos hnow]);rw[e];clear e hf;have HNW:=Lib.hid hnow;clear hnow;go_enter Tryz.func22,Tryz.ntmps22;go_wp2_with fail;refine(HF.out _ HD0.out).mono ?_;rw[HZ.out];rintro e w1 ⟨rfl,hb1⟩;go_wp2_with fail;refine(ZU now _).mono ?_;rw[HNW.out];rintro e w2 ⟨rfl,hb2⟩;have hr1:=(HR0.out.on hb1).on hb2;obtain⟨r0,r1,r2,r3,r4⟩:=hr1.cells.five;have hfr:=hr1.free;have HE:=Lib.hid (Qfz (c:=3) (Qa (Qa HD0.out hb1) hb2));clear hb1 hr1 hb2;go_wp2_with fail;refine bodyPost_ret (v:=.agg #[.int .i64 3,.slice none 0 0,.bool false,.int .i64 0,.slice none 0 0]) ?_ rfl HE.out;simp[results,Tryz.results22,go_sem,r0,r1,r2,r3,r4]
    · have hnow2:inR now 0 1000000=true:=(by simpa using hnow);have HNW:=Lib.hid hnow2;by_cases hidle:d.pend=[]∨now<d.due
      · have e:ZV d now=⟨0,d,[]⟩:=(by unfold ZV;rw[if_neg (by simp[hf]),if_neg hnow,if_pos hidle]);rw[e];clear e hf hnow hnow2;have HID:=Lib.hid hidle;clear hidle;go_enter Tryz.func22,Tryz.ntmps22;go_wp2_with fail;refine(HF.out _ HD0.out).mono ?_;rw[HZ.out];rintro e w1 ⟨rfl,hb1⟩;go_wp2_with fail;refine(ZU now _).mono ?_;rw[HNW.out];rintro e w2 ⟨rfl,hb2⟩;have HR2:=Lib.hid ((HR0.out.on hb1).on hb2);have HA2:=Lib.hid ((HA0.out.on hb1).on hb2);have HD2:=Lib.hid (Qa (Qa HD0.out hb1) hb2);obtain⟨d0,d1,d2⟩:=AtL.three HA2.out.cells;have dl:=HA2.out.cells.1;clear hb1 hb2 HR0 HA0 HD0;have HJ:Hid (∀k t,Calls Tryz.prog 54 #[.slice (some ⟨w2.heap.size,0,none⟩) 1 k] (w2.alloc (.cells #[.slice p d.pend.length c] t)) (Ql (w2.alloc (.cells #[.slice p d.pend.length c] t)) d.pend)):=fun k t=>
          UA p c k d.pend w2 t (HX.out.1.on HD2.out) HX.out.2.1 hl _ rfl
        clear d0 d1 d2;by_cases hz:d.pend.length=0
        · have hzb:((d.pend.length:Int)==0)=true:=(by simp[hz]);have HZZ:=Lib.hid hz;clear hz;obtain⟨d0,d1,d2⟩:=AtL.three HA2.out.cells;go_wp2_with fail;refine(HJ.out _ _).mono ?_;rintro e w3 ⟨v3,rfl,ho3,hb3⟩;obtain⟨p3,c3,hv⟩:=ho3.slice;subst hv;have B3:=Qa (Qb w2 _) hb3;have hsz3:w.heap.size+1<w2.heap.size:=HR2.out.cells.1;have A3:=HA2.out.on B3;obtain⟨e0,e1,e2⟩:=AtL.three A3.cells;have ef:=A3.free;have hr4:=HR2.out.on B3;obtain⟨r0,r1,r2,r3,r4⟩:=hr4.cells.five;have hfr:=hr4.free;have HE:=Lib.hid (Qkk (d:=d) (Qa HD2.out B3) (ho3.lower (base':=w2.heap.size) (by simp)) hsz3);clear B3 A3 hr4 ho3 hb3 d0 d1 d2 HJ HR2 HA2 HD2;go_wp2_with fail;refine bodyPost_ret (v:=.agg #[.int .i64 0,.slice p3 d.pend.length c3,.bool d.paste,.int .i64 d.due,.slice none 0 0]) ?_ rfl HE.out;simp[results,Tryz.results22,go_sem,r0,r1,r2,r3,r4]
        · have hzb:((d.pend.length:Int)==0)=false:=(by simpa using hz);have hlt:now<d.due:=by
            rcases HID.out with h | h
            · rw[h] at hz;exact absurd rfl hz
            · exact h
          clear hz;obtain⟨d0,d1,d2⟩:=AtL.three HA2.out.cells;go_wp2_with fail;refine(HJ.out _ _).mono ?_;rintro e w3 ⟨v3,rfl,ho3,hb3⟩;obtain⟨p3,c3,hv⟩:=ho3.slice;subst hv;have B3:=Qa (Qb w2 _) hb3;have hsz3:w.heap.size+1<w2.heap.size:=HR2.out.cells.1;have A3:=HA2.out.on B3;obtain⟨e0,e1,e2⟩:=AtL.three A3.cells;have ef:=A3.free;have hr4:=HR2.out.on B3;obtain⟨r0,r1,r2,r3,r4⟩:=hr4.cells.five;have hfr:=hr4.free;have HE:=Lib.hid (Qkk (d:=d) (Qa HD2.out B3) (ho3.lower (base':=w2.heap.size) (by simp)) hsz3);clear B3 A3 hr4 ho3 hb3 d0 d1 d2 HJ HR2 HA2 HD2;go_wp2_with fail;refine bodyPost_ret (v:=.agg #[.int .i64 0,.slice p3 d.pend.length c3,.bool d.paste,.int .i64 d.due,.slice none 0 0]) ?_ rfl HE.out;simp[results,Tryz.results22,go_sem,r0,r1,r2,r3,r4]
      · have e:ZV d now=⟨0,⟨[],d.paste,0⟩,(QF Qs d.pend d.paste).1⟩:=(by unfold ZV;rw[if_neg (by simp[hf]),if_neg hnow,if_neg hidle]);rw[e];clear e;have hne:d.pend≠[]:=fun e=>hidle (.inl e);have hdue:¬now<d.due:=fun e=>hidle (.inr e);have hR1:=Qi9 d.pend d.paste;have hR2:=Qja d.pend d.paste (Qb8 hf hne);have hzb:((d.pend.length:Int)==0)=false:=(by simpa using hne);have hll:d.pend.length≤100000:=(by omega);clear hf hnow hnow2 hidle hne;have HTF:=QgP;have HTT:=Lib.hid HTF;clear HTF;generalize hta:QF Qs d.pend d.paste=r at *;obtain⟨evs,rest,md⟩:=r;dsimp only at hR1 hR2;subst hR1 hR2;have HTA:=Lib.hid hta;clear hta;dsimp only;go_enter Tryz.func22,Tryz.ntmps22;go_wp2_with fail;refine(HF.out _ HD0.out).mono ?_;rw[HZ.out];rintro e w1 ⟨rfl,hb1⟩;go_wp2_with fail;refine(ZU now _).mono ?_;rw[HNW.out];rintro e w2 ⟨rfl,hb2⟩;have HR2:=Lib.hid ((HR0.out.on hb1).on hb2);have HA2:=Lib.hid ((HA0.out.on hb1).on hb2);have HD2:=Lib.hid (Qa (Qa HD0.out hb1) hb2);obtain⟨d0,d1,d2⟩:=AtL.three HA2.out.cells;have HTL:Hid (Qfy w.heap.size):=HX.out.2.2.tabLow (Nat.le_refl _);clear hb1 hb2 HR0 HA0 HD0;go_wp2_with fail;refine(KL 73 Qs Xf Ub HTT.out _ p c d.pend d.paste d.due w2 HA2.out (HX.out.1.on HD2.out) HX.out.2.1 hc hll (HX.out.2.2.on HD2.out) HTL.out).mono ?_;rw[HTA.out];rintro e w4 ⟨v4,rows,p4,c4,rfl,hrows,hevs,hap,hdec,hpend,hoff,hgr⟩;obtain⟨p5,c5,hv⟩:=hevs.slice;subst hv;obtain⟨e0,e1,e2⟩:=AtL.three hdec.cells;have df:=hdec.free;have hr4:=HR2.out.far hgr (by intro e;injection e;omega);obtain⟨r0,r1,r2,r3,r4⟩:=hr4.cells.five;have hfr:=hr4.free;have HD4:=Lib.hid (HD2.out.grown hgr HD2.out.size (fun k hk=>by injection hk;omega));have HE:=Lib.hid (fun due us vs=>Qkj (w:=w) due hrows hevs hap hpend hoff HD4.out (by have:=HR2.out.cells.1;omega) vs us);dsimp only at e0 e1 e2;clear hrows hevs hap hdec hpend hoff hgr hr4 HR2 HA2 HD2 d0 d1 d2;go_wp2_with fail;refine bodyPost_ret (v:=.agg #[.int .i64 0,.slice p4 0 c4,.bool d.paste,.int .i64 0,.slice p5 rows.length c5]) ?_ rfl (HE.out 0 [.int .i64 0] [.int .i64 0,.slice p4 0 c4,.bool d.paste,.int .i64 0,.slice p5 rows.length c5]);simp[results,Tryz.results22,go_sem,r0,r1,r2,r3,r4]
  · have e:ZV d now=Qak (Xe d):=(by unfold ZV;rw[if_pos hf]);rw[e];clear e;have hfb:((Xe d) != 0)=true:=(by simpa using hf);generalize Xe d=fc at *;clear hf;go_enter Tryz.func22,Tryz.ntmps22;go_wp2_with fail;refine(HF.out _ HD0.out).mono ?_;rintro e w1 ⟨rfl,hb1⟩;have hr1:=HR0.out.on hb1;obtain⟨r0,r1,r2,r3,r4⟩:=hr1.cells.five;have hfr:=hr1.free;have HE:=Lib.hid (Qfz (c:=fc) (Qa HD0.out hb1));clear hb1 hr1;go_wp2_with fail;refine bodyPost_ret (v:=.agg #[.int .i64 fc,.slice none 0 0,.bool false,.int .i64 0,.slice none 0 0]) ?_ rfl HE.out;simp[results,Tryz.results22,go_sem,r0,r1,r2,r3,r4]
structure ZY (E:Qb4) (v0:Value) (B1:Nat) (l':List UInt8) (q':Bool) (p':Option Addr) (c':Nat) (ev:Value) (rows:List Q1) (W:World):Prop where
  all:QF E.f E.l E.q=(rows.map Prod.fst++(QF E.f l' q').1,(QF E.f l' q').2)
  len:rows.length+l'.length≤E.l.length
  evs:QI W B1 ev rows
  apart:YT rows
  dec:AtM W E.db [v0,.bool q',.int .i64 E.due]
  bs:Bs W B1 p' l'
  cap:l'.length≤c'
  nil:p'=none→c'=0
  grown:E.w.grownBy W (some E.db)
  low:E.db<E.w.heap.size
  b1:E.w.heap.size≤B1
  b2:B1≤W.heap.size
theorem ZY.on {E:Qb4} {v0:Value} {B1:Nat} {l':List UInt8} {q':Bool} {p':Option Addr} {c':Nat} {ev:Value} {rows:List Q1} {W W':World} (h:ZY E v0 B1 l' q' p' c' ev rows W) (hb:Below W.heap.size W W'):ZY E v0 B1 l' q' p' c' ev rows W':=
  ⟨h.all,h.len,h.evs.below hb,h.apart,h.dec.on hb,h.bs.below (hb.mono h.b2),h.cap,h.nil,Ji h.grown hb,h.low,h.b1,Nat.le_trans h.b2 hb.size⟩
theorem ZY.pass {E:Qb4} {v0:Value} {B1:Nat} {l':List UInt8} {q':Bool} {p':Option Addr} {c':Nat} {ev:Value} {rows:List Q1} {W:World} (hf:Yn E.f) (h:ZY E v0 B1 l' q' p' c' ev rows W) (hc:(E.f l' q').code=0) (hn:(E.f l' q').none=true)
    {k:Nat} (hk:(E.f l' q').size=(k:Int)) {p'':Option Addr} {c'':Nat} (hc'':c''=c' - k) (hp'':p''=if c'=k then p' else p'.map (·.add k)):
    ZY E v0 B1 (l'.drop k) (E.f l' q').paste p'' c'' ev rows (W.setCell ⟨E.db,1,none⟩ (.bool (E.f l' q').paste)):=by
  obtain⟨⟨k',hk',h1,h2⟩,_⟩:=hf l' q' hc;obtain rfl:k'=k:=(by omega);obtain⟨d1,d2,d3⟩:=Kl h.bs h.nil h.cap k' h2;rw[←hp''] at d1 d2;rw[←hc''] at d2 d3;have hlow:=h.low;have hb1:=h.b1;have hgc:=XI W E.db 1 (.bool (E.f l' q').paste);have e:l'.drop k'=l'.drop (E.f l' q').size.toNat:=(by rw[hk];simp);refine⟨?_,?_,h.evs.setBelow (by omega) _,h.apart,h.dec.set 1 _,d1.setOther (h.dec.cells.get 1 rfl) (by simp) _,d3,d2,Q4 h.grown hgc,hlow,hb1,by simpa using h.b2⟩
  · rw[h.all,XU hf hc,e];unfold QcI;rw[if_pos hn];rfl
  · have:=h.len;simp;omega
theorem ZY.push {E:Qb4} {v0:Value} {B1:Nat} {l':List UInt8} {q':Bool} {p':Option Addr} {c':Nat} {ev:Value} {rows:List Q1} {W:World} (hf:Yn E.f) (h:ZY E v0 B1 l' q' p' c' ev rows W) (hc:(E.f l' q').code=0) (hn:(E.f l' q').none=false)
    {k:Nat} (hk:(E.f l' q').size=(k:Int)) {p'':Option Addr} {c'':Nat} (hc'':c''=c' - k) (hp'':p''=if c'=k then p' else p'.map (·.add k)) {pp:Option Addr} {cc:Nat} {X:Nat} (hX:B1≤X)
    (how:Own W X (.slice pp (E.f l' q').ev.data.length cc) (E.f l' q').ev.data) (hap:YT (rows++[((E.f l' q').ev,pp,cc)]))
    {ev':Value} {W3:World} {o:Obj} (ho:W3.ownsRow B1 40 8 ev' (rows.length+1) (rows.flatMap QH++QH ((E.f l' q').ev,pp,cc))) (hg:((W.setCell ⟨E.db,1,none⟩ (.bool (E.f l' q').paste)).alloc o).grownBy W3 ev.ownBlock):
    ZY E v0 B1 (l'.drop k) (E.f l' q').paste p'' c'' ev' (rows++[((E.f l' q').ev,pp,cc)]) W3:=by
  obtain⟨⟨k',hk',h1,h2⟩,_⟩:=hf l' q' hc;obtain rfl:k'=k:=(by omega);obtain⟨d1,d2,d3⟩:=Kl h.bs h.nil h.cap k' h2;rw[←hp''] at d1 d2;rw[←hc''] at d2 d3;have hlow:=h.low;have hb1:=h.b1;have hb2:=h.b2;have hgc:=XI W E.db 1 (.bool (E.f l' q').paste);have e:l'.drop k'=l'.drop (E.f l' q').size.toNat:=(by rw[hk];simp);have hbm:=Qb (W.setCell ⟨E.db,1,none⟩ (.bool (E.f l' q').paste)) o;have hev2:=(h.evs.setBelow (b:=E.db) (i:=1) (by omega) (.bool (E.f l' q').paste)).below hbm;have how2:=((how.setBelow (a:=⟨E.db,1,none⟩) (by show E.db<X;omega) (.bool (E.f l' q').paste)).on hbm).lower hX;have hblk:∀j,ev.ownBlock=some j→B1≤j:=fun j hj=>(h.evs.lt j hj).1;have hB:∀j,j<B1→some j≠ev.ownBlock:=fun j hj e=>(by have:=hblk j e.symm;omega);have hbs:=((d1.setOther (h.dec.cells.get 1 rfl) (by simp) (.bool (E.f l' q').paste)).below (hbm.mono (by simpa using hb2)));have hgr:E.w.grownBy W3 (some E.db):=by
    have g1:=Ji (Q4 h.grown hgc) hbm;exact⟨hg.os.trans g1.os,hg.tape.trans g1.tape,hg.output.trans g1.output,Nat.le_trans g1.size hg.size,fun j hj hne=>(hg.block j (Nat.lt_of_lt_of_le hj g1.size) (hB _ (by omega))).trans (g1.block j hj hne)⟩
  refine⟨?_,?_,hev2.append (r:=((E.f l' q').ev,pp,cc)) how2 ho hg,hap,((h.dec.set 1 (.bool (E.f l' q').paste)).on hbm).far hg (hB _ (by omega)),hbs.keep (Nat.le_refl _) (fun a ha=>World.cell?_of_block (hg.block a.block (by simp;omega) (hB _ ha))),d3,d2,hgr,hlow,hb1,?_⟩
  · rw[h.all,XU hf hc,e];unfold QcI;rw[if_neg (by rw[hn];simp)];simp
  · have:=h.len;rw[List.length_append];simp;omega
  · have:=hg.size;simp at this;omega
theorem ZY.last {E:Qb4} {v0:Value} {B1:Nat} {l':List UInt8} {q':Bool} {p':Option Addr} {c':Nat} {ev:Value} {rows:List Q1} {W:World} (h:ZY E v0 B1 l' q' p' c' ev rows W) (hc:¬(E.f l' q').code=0)
    {w4:World} {p4:Option Addr} {c4 n4:Nat} (hn:n4=l'.length) (ho:Own w4 W.heap.size (.slice p4 n4 c4) l') (hb:Below W.heap.size W w4) (x y:Int):
    Qb3 E.w E.db 0 (QF E.f E.l E.q) (.returned ev) ((w4.setCell ⟨E.db,0,none⟩ (.slice p4 n4 c4)).setCell ⟨E.db,2,none⟩ (.int .i64 0))∧
    Qb3 E.w E.db y (QF E.f E.l E.q) (.returned ev) (((w4.setCell ⟨E.db,0,none⟩ (.slice p4 n4 c4)).setCell ⟨E.db,2,none⟩ (.int .i64 x)).setCell ⟨E.db,2,none⟩ (.int .i64 y)):=by
  subst hn;have hlow:=h.low;have hb1:=h.b1;have hb2:=h.b2;have e:QF E.f E.l E.q=(rows.map Prod.fst,l',q'):=(by rw[h.all,Yf hc];simp);rw[e];have hoff:∀x∈rows,∀j,(QU x).ownBlock=some j→(Value.slice p4 l'.length c4).ownBlock≠some j:=by
    intro x hx j hj e;have h1:=((h.evs.2 x hx).lt j hj).2;have h2:=(ho.lt j e).1;omega
  have g1:=Ji h.grown hb;have a1:=(h.dec.on hb).set 0 (.slice p4 l'.length c4);have e1:=((h.evs.below hb).setBelow (b:=E.db) (i:=0) (by omega) (.slice p4 l'.length c4));have o1:=(ho.setBelow (a:=⟨E.db,0,none⟩) (by show E.db<_;omega) (.slice p4 l'.length c4));have gg:=Q4 g1 (XI w4 E.db 0 (.slice p4 l'.length c4));refine⟨⟨ev,rows,p4,c4,rfl,rfl,(e1.setBelow (b:=E.db) (i:=2) (by omega) _).lower hb1,h.apart,a1.set 2 _,(o1.setBelow (a:=⟨E.db,2,none⟩) (by show E.db<_;omega) _).lower (by omega),hoff,Q4 gg (XI _ E.db 2 _)⟩,
    ⟨ev,rows,p4,c4,rfl,rfl,((e1.setBelow (b:=E.db) (i:=2) (by omega) _).setBelow (b:=E.db) (i:=2) (by omega) _).lower hb1,h.apart,(a1.set 2 _).set 2 _,((o1.setBelow (a:=⟨E.db,2,none⟩) (by show E.db<_;omega) _).setBelow (a:=⟨E.db,2,none⟩) (by show E.db<_;omega) _).lower (by omega),hoff,Q4 (Q4 gg (XI _ E.db 2 _)) (XI _ E.db 2 _)⟩⟩
def Qmw (E:Qb4) (v0:Value) (B1:Nat) (b ev:Value) (W:World):Prop:=∃l' q' p' c' rows,b=.slice p' l'.length c'∧ZY E v0 B1 l' q' p' c' ev rows W
def Ql4:Value→Nat
  | .slice _ n _=>n
  | _=>0
theorem QfD (w:World):QI (w.alloc (.cells #[] 40)) w.heap.size (.slice (some ⟨w.heap.size,0,none⟩) 0 0) []:=Qk3 w w.heap.size (Nat.le_refl _)
theorem Qjb (d:Dc) (db:Nat) (p:Option Addr) (ad:Addr) (c cd:Nat) (data:List UInt8) (now:Int) (w:World) (hd:AtM w db (dcL d p c)) (h:Bs w w.heap.size p d.pend) (hdt:Bs w w.heap.size (some ad) data)
    (hl:d.pend.length+data.length≤100000) (hn0:0≤now) (hn1:now≤1000000):
    Calls Tryz.prog 61 #[.pointer (some ⟨db,0,none⟩),.slice (some ad) data.length cd,.int .i64 now] w
      (Qb3 w db (if (QF Qw (d.pend++data) d.paste).2.1=[] then 0 else now+50) (QF Qw (d.pend++data) d.paste)):=by
  generalize hdu:(if (QF Qw (d.pend++data) d.paste).2.1=[] then 0 else now+50)=due2;have HDU:=Lib.hid hdu;clear hdu;obtain⟨d0,d1,d2⟩:=AtL.three hd.cells;have dl:=hd.cells.1;have HX:=Lib.hid (And.intro hd (And.intro h hdt));have HL1:=Lib.hid (ZG p c d.pend w h (by omega));clear hd h hdt;obtain⟨i0,hi,hz0,hz1,hz2⟩:=info_parts Tryz.info_u8;have HI:=Lib.hid (And.intro hi (And.intro hz0 (And.intro hz1 hz2)));clear hi hz0 hz1 hz2;obtain⟨i1,hi,hz0,hz1,hz2⟩:=info_parts Tryz.info_evd;have HI1:=Lib.hid (And.intro hi (And.intro hz0 (And.intro hz1 hz2)));clear hi hz0 hz1 hz2;have hll:(d.pend++data).length≤100000:=(by simpa using hl);generalize hls:d.pend++data=ls at *;have HLS:=Lib.hid hls;clear hls;go_enter Tryz.func61,Tryz.ntmps61;go_wp2_with fail;refine HL1.out.mono ?_;rintro e w1 ⟨v1,rfl,ho1,hb1⟩;have HO1:=Lib.hid ho1;have HB1:=Lib.hid hb1;have hsz1:=hb1.size;clear ho1 hb1;have hcells:∀j u,(data.map (fun x:UInt8=>Value.int .u8 (x.toNat:Int)))[j]? =some u→w1.cell? (ad.add j)=some u:=by
    rcases(HX.out.2.2.on HB1.out).src with⟨e,_⟩ | ⟨ad',e,hc⟩
    · cases e
    · obtain rfl:=Option.some.inj e;exact hc
  have HC:=Lib.hid hcells;clear hcells;go_wp2_with (at_builtin;refine wpList_append_own _ rfl _ _ 22 rfl w.heap.size 5 i0 (.int .u8 0) 1 1 Tryz.underlying22 HI.out.1 HI.out.2.1 HI.out.2.2.1 HI.out.2.2.2 rfl (by decide) _ _ _ rfl HO1.out ad data.length cd (data.map fun x:UInt8=>Value.int .u8 (x.toNat:Int)) rfl (by simp) HC.out (Q6 data) ?c3 ?c4 ?c5 ?_)
  case c3=>unfold maxLen;omega
  case c4=>omega
  case c5=>exact hsz1
  intro v2 w2 hown2 hgrow2 _;have hx2:=ZD HO1.out HB1.out hown2 hgrow2;rw[HLS.out] at hx2;obtain⟨p2,c2,hv⟩:=hx2.1.slice;subst hv;have hroom:=hx2.1.room;have HFIRST:Hid (ZY ⟨w,db,0,Qw,none,0,ls,d.paste,d.due⟩ (.slice p d.pend.length c) w2.heap.size ls d.paste p2 c2 (.slice (some ⟨w2.heap.size,0,none⟩) 0 0) [] (w2.alloc (.cells #[] 40))):=
    ⟨by simp,by simp,QfD w2,by simp[YT],(HX.out.1.on hx2.2).on (Qb _ _),hx2.1.bs.2.below (Qb _ _),hroom.2.1,hroom.2.2,XW (Qa hx2.2 (Qb _ _)) _,dl,hx2.2.size,by simp⟩
  clear hown2 hgrow2 hx2 hroom d0 d1 d2 HO1 HB1 HL1 HC HI;go_wp2_with fail
  go_loopw [7,8,9] (fun b ev _ W=>Qmw ⟨w,db,0,Qw,none,0,ls,d.paste,d.due⟩ (.slice p d.pend.length c) w2.heap.size b ev W) (fun b _ _ _=>Ql4 b)
  case atStart=>exact⟨ls,d.paste,p2,c2,[],rfl,HFIRST.out⟩
  case round=>
    obtain⟨l',q',p',c',rows,rfl,hK⟩:=hrel;clear HFIRST;have d1:=hK.dec.cells.get 1 rfl;have hlr:rows.length+l'.length≤100000:=(by have:=hK.len;dsimp only at this;omega);have HL4:=Lib.hid (QgA p' c' l' q' wr (hK.bs.more hK.b2) hK.cap (by omega));have HKK:=Lib.hid hK;have hlow2:w2.heap.size≤wr.heap.size:=hK.b2;dsimp only at d1;clear hK;go_wp2_with fail;refine HL4.out.mono ?_;rintro e w3 ⟨v3,rfl,ho3,hb3⟩;obtain⟨pp,cc,hv⟩:=ho3.slice;subst hv;have B4:=Qb w3 (.cells (tkL (Qw l' q') (.slice pp (Qw l' q').ev.data.length cc)).toArray 90);have HK4:=Lib.hid ((HKK.out.on hb3).on B4);have HO4:=Lib.hid (ho3.on B4);have HAP:=Lib.hid (HKK.out.apart.fresh HKK.out.evs (r:=((Qw l' q').ev,pp,cc)) ho3);have HT4:=Lib.hid (AtM.new w3 (tkL (Qw l' q') (.slice pp (Qw l' q').ev.data.length cc)) 90);unfold tkL at HK4 HO4 HT4;have hsz3:=hb3.size;clear ho3 hb3 B4 HL4 d1;unfold tkV;go_upto_region 4 with(fail);refine J1 (fun W=>ZY ⟨w,db,0,Qw,none,0,ls,d.paste,d.due⟩ (.slice p d.pend.length c) w2.heap.size l' q' p' c' u8 rows W∧AtM W w3.heap.size [.int .i64 (Qw l' q').code,.int .i64 (Qw l' q').ev.kind,.int .i64 (Qw l' q').ev.code,.int .i64 (Qw l' q').ev.mods,.int .i64 (Qw l' q').ev.button,.int .i64 (Qw l' q').ev.act,.int .i64 (Qw l' q').ev.col,.int .i64 (Qw l' q').ev.row,.slice pp (Qw l' q').ev.data.length cc,.int .i64 (Qw l' q').size,.bool (Qw l' q').paste,.bool (Qw l' q').none]∧Own W wr.heap.size (.slice pp (Qw l' q').ev.data.length cc) (Qw l' q').ev.data) ⟨HK4.out,HT4.out,HO4.out⟩ (fun W4 hM=>?_);clear HK4 HT4 HO4;obtain⟨hK4,hT4,hO4⟩:=hM;obtain⟨a0,a1,a2,a3,a4,a5,a6,a7,a8,a9,a10,a11⟩:=AtL.twelve hT4.cells;have d1:=hK4.dec.cells.get 1 rfl;have d2:=hK4.dec.free 1;dsimp only at d1 d2;have HK4:=Lib.hid hK4;have HO4:=Lib.hid hO4;have hne3:w3.heap.size≠db:=(by have:=HKK.out.low;have:=hlow2;have:=HKK.out.b1;have:=hT4.cells.1;dsimp only at *;omega);have hdl:=hK4.dec.cells.1;have hRl:=hT4.cells.1;dsimp only at hdl;clear hK4 hT4 hO4;by_cases hcode:(Qw l' q').code=0
    · obtain⟨⟨k,hk,hk1,hk2⟩,_⟩:=Yg l' q' hcode;rw[hcode] at a0;rw[hk] at a9;have HCO:=Lib.hid hcode;have HKZ:=Lib.hid hk;have hkI:(k:Int)≤(l'.length:Int):=(by omega);have hcapI:=HK4.out.cap;clear hcode hk
      cases hn:(Qw l' q').none
      · have HN:=Lib.hid hn;rw[hn] at a11;clear hn;have HEV:Hid (∀o,QI ((W4.setCell ⟨db,1,none⟩ (.bool (Qw l' q').paste)).alloc o) w2.heap.size u8 rows):=fun o=>
          (HK4.out.evs.setBelow (b:=db) (i:=1) (by have:=HK4.out.low;have:=HK4.out.b1;dsimp only at *;omega) (.bool (Qw l' q').paste)).alloc o
        have HSW:Hid (w2.heap.size≤W4.heap.size):=HK4.out.b2;by_cases hck:c'=k;all_goals
          go_wp2_with (at_builtin;refine wpList_append_own_at _ rfl _ _ 28 rfl w2.heap.size 40 i1 _ 8 80 Tryz.underlying28 HI1.out.1 HI1.out.2.1 HI1.out.2.2.1 HI1.out.2.2.2 rfl (by decide) _ _ _ rfl (HEV.out _).1 ⟨W4.heap.size,0,none⟩ 1 1 (QH ((Qw l' q').ev,pp,cc)) rfl (by simp[QgL]) ?c1 ?c2 ?c3 ?c4 ?c5 ?_)
          case c1=>exact Qki _ ((Qw l' q').ev,pp,cc) _ _ (by simp)
          case c2=>exact Qen _
          case c3=>unfold maxLen;omega
          case c4=>omega
          case c5=>have:=HSW.out;simp;omega
          intro v' w5 hown' hgrow hnil hblk;have HP:=Lib.hid (HK4.out.push Yg HCO.out HN.out HKZ.out (p'':=if c'=k then p' else p'.map (·.add k)) (c'':=c' - k) rfl rfl hlow2 HO4.out HAP.out hown' hgrow);clear hown' hgrow hnil hblk a0 a1 a2 a3 a4 a5 a6 a7 a8 a9 a10 a11 d1 d2;go_wp2_with fail;refine⟨⟨l'.drop k,_,(if c'=k then p' else p'.map (·.add k)),c' - k,_,?_,HP.out⟩,?_⟩
          · simp[hck]
          · show l'.length - k<l'.length;omega
      · have HN:=Lib.hid hn;rw[hn] at a11;clear hn;have HP:=Lib.hid (HK4.out.pass Yg HCO.out HN.out HKZ.out (p'':=if c'=k then p' else p'.map (·.add k)) (c'':=c' - k) rfl rfl);by_cases hck:c'=k;all_goals
          go_wp2_with fail;refine⟨⟨l'.drop k,_,(if c'=k then p' else p'.map (·.add k)),c' - k,_,?_,HP.out⟩,?_⟩
          · simp[hck]
          · show l'.length - k<l'.length;omega
    · have hce:((Qw l' q').code != 0)=true:=(by simpa using hcode);have HCO:=Lib.hid hcode;clear hcode;have HLC:=Lib.hid (ZG p' c' l' W4 (HK4.out.bs.more HK4.out.b2) (by omega));go_wp2_with fail;refine HLC.out.mono ?_;rintro e w5 ⟨v5,rfl,ho5,hb5⟩;obtain⟨p5,c5,hv⟩:=ho5.slice;subst hv;have hdd:=HK4.out.dec.on hb5;obtain⟨e0,e1,e2⟩:=AtL.three hdd.cells;have ef:=hdd.free;dsimp only at e0 e1 e2 ef;have HE:=Lib.hid (HK4.out.last HCO.out rfl ho5 hb5 0 (now+50));have hrest:(QF Qw ls d.paste).2.1=l':=by
        have h1:=HK4.out.all;have h2:=Yf (f:=Qw) (l:=l') (q:=q') HCO.out;dsimp only at h1;rw[h1,h2]
      have hdu2:=HDU.out;rw[hrest] at hdu2;clear a0 a1 a2 a3 a4 a5 a6 a7 a8 a9 a10 a11 d1 d2 hdd ho5 hb5 HLC hrest HAP hRl hdl;by_cases hr:l'=[]
      · subst hr;obtain rfl:(0:Int)=due2:=(by rw[←hdu2,if_pos rfl]);clear hdu2 HDU;go_wp2_with fail;go_ret;exact HE.out.1
      · have hpos:(0:Int)<(l'.length:Int):=(by have:=List.length_pos_iff.2 hr;omega);obtain rfl:now+50=due2:=(by rw[←hdu2,if_neg hr]);clear hdu2 HDU hr;go_wp2_with fail;go_ret;exact HE.out.2
def Uc (l:List UInt8) (q:Bool):Prop:=l=[]∨q=true∨(q=false∧(Q0 l).code=6)
theorem QgR {d:Dc} (h:Xe d=0):Uc d.pend d.paste:=by
  by_cases h0:d.pend=[]
  · exact .inl h0
  · have h6:=Qb8 h h0;unfold Qw at h6
    cases hq:d.paste
    · rw[hq,if_neg (by simp)] at h6;exact .inr (.inr ⟨rfl,h6⟩)
    · exact .inr (.inl rfl)
theorem Qkl {l:List UInt8} {q:Bool} (h:Uc l q) (hne:l≠[]):(Qs l q).paste=q∧(Qs l q).none=false∧Uc (l.drop (Qs l q).size.toNat) q:=by
  rcases h with h | h | ⟨h,h6⟩
  · exact absurd h hne
  · subst h;unfold Qs;rw[if_neg hne,if_pos rfl];exact⟨rfl,rfl,.inr (.inl rfl)⟩
  · subst h;obtain⟨_,e,hs⟩:=QfB l h6;rw[e];refine⟨?_,?_,.inl (by rw[hs];simp)⟩
    · unfold ZX;split
      · rfl
      split <;> rfl
    · unfold ZX;split
      · rfl
      split <;> rfl
theorem ZY.pushT {E:Qb4} {v0:Value} {B1:Nat} {l':List UInt8} {q':Bool} {p':Option Addr} {c':Nat} {ev:Value} {rows:List Q1} {W:World} (hf:Yn E.f) (h:ZY E v0 B1 l' q' p' c' ev rows W) (hc:(E.f l' q').code=0) (hn:(E.f l' q').none=false) (hq:(E.f l' q').paste=q')
    {k:Nat} (hk:(E.f l' q').size=(k:Int)) {p'':Option Addr} {c'':Nat} (hc'':c''=c' - k) (hp'':p''=if c'=k then p' else p'.map (·.add k)) {pp:Option Addr} {cc:Nat} {X:Nat} (hX:B1≤X)
    (how:Own W X (.slice pp (E.f l' q').ev.data.length cc) (E.f l' q').ev.data) (hap:YT (rows++[((E.f l' q').ev,pp,cc)]))
    {ev':Value} {W3:World} {o:Obj} (ho:W3.ownsRow B1 40 8 ev' (rows.length+1) (rows.flatMap QH++QH ((E.f l' q').ev,pp,cc))) (hg:(W.alloc o).grownBy W3 ev.ownBlock):
    ZY E v0 B1 (l'.drop k) q' p'' c'' ev' (rows++[((E.f l' q').ev,pp,cc)]) W3:=by
  obtain⟨⟨k',hk',h1,h2⟩,_⟩:=hf l' q' hc;obtain rfl:k'=k:=(by omega);obtain⟨d1,d2,d3⟩:=Kl h.bs h.nil h.cap k' h2;rw[←hp''] at d1 d2;rw[←hc''] at d2 d3;have hlow:=h.low;have hb1:=h.b1;have hb2:=h.b2;have e:l'.drop k'=l'.drop (E.f l' q').size.toNat:=(by rw[hk];simp);have hbm:=Qb W o;have hev2:=h.evs.below hbm;have how2:=(how.on hbm).lower hX;have hblk:∀j,ev.ownBlock=some j→B1≤j:=fun j hj=>(h.evs.lt j hj).1;have hB:∀j,j<B1→some j≠ev.ownBlock:=fun j hj e=>(by have:=hblk j e.symm;omega);have hbs:=d1.below (hbm.mono hb2);have hgr:E.w.grownBy W3 (some E.db):=by
    have g1:=Ji h.grown hbm;exact⟨hg.os.trans g1.os,hg.tape.trans g1.tape,hg.output.trans g1.output,Nat.le_trans g1.size hg.size,fun j hj hne=>(hg.block j (Nat.lt_of_lt_of_le hj g1.size) (hB _ (by omega))).trans (g1.block j hj hne)⟩
  refine⟨?_,?_,hev2.append (r:=((E.f l' q').ev,pp,cc)) how2 ho hg,hap,(h.dec.on hbm).far hg (hB _ (by omega)),hbs.keep (Nat.le_refl _) (fun a ha=>World.cell?_of_block (hg.block a.block (by simp;omega) (hB _ ha))),d3,d2,hgr,hlow,hb1,?_⟩
  · have:=XU hf hc;rw[hq] at this;rw[h.all,this,e];unfold QcI;rw[if_neg (by rw[hn];simp)];simp
  · have:=h.len;rw[List.length_append];simp;omega
  · have:=hg.size;simp at this;omega
theorem ZY.lastT {E:Qb4} {v0:Value} {B1:Nat} {q':Bool} {p':Option Addr} {c':Nat} {ev:Value} {rows:List Q1} {W:World} (h:ZY E v0 B1 [] q' p' c' ev rows W) (hc:¬(E.f [] q').code=0):
    Qb3 E.w E.db 0 (rows.map Prod.fst,[],q') (.returned ev) ((W.setCell ⟨E.db,0,none⟩ (.slice none 0 0)).setCell ⟨E.db,2,none⟩ (.int .i64 0)):=by
  have hlow:=h.low;have hb1:=h.b1;exact⟨ev,rows,none,0,rfl,rfl,((h.evs.setBelow (b:=E.db) (i:=0) (by omega) _).setBelow (b:=E.db) (i:=2) (by omega) _).lower hb1,h.apart,(h.dec.set 0 (.slice none 0 0)).set 2 (.int .i64 0),QT _ _,fun x _ j _ e=>by simp[Value.ownBlock] at e,Q4 (Q4 h.grown (XI _ E.db 0 _)) (XI _ E.db 2 _)⟩
def Qmi (E:Qb4) (v0:Value) (B1:Nat) (ev b:Value) (W:World):Prop:=∃l' p' c' rows,b=.slice p' l'.length c'∧Uc l' E.q∧ZY E v0 B1 l' E.q p' c' ev rows W
theorem QgS (d:Dc) (db:Nat) (p:Option Addr) (c:Nat) (now:Int) (w:World) (hd:AtM w db (dcL d p c)) (h:Bs w w.heap.size p d.pend) (hp:p=none→c=0) (hc:d.pend.length≤c) (hl:d.pend.length≤100000) (hne:d.pend≠[]) (hdue:¬now<d.due) (htk:Uc d.pend d.paste):
    Calls Tryz.prog 76 #[.pointer (some ⟨db,0,none⟩),.int .i64 now] w (Qb3 w db 0 ((QF Qs d.pend d.paste).1,[],d.paste)):=by
  obtain⟨d0,d1,d2⟩:=AtL.three hd.cells;have dl:=hd.cells.1;have hzb:((d.pend.length:Int)==0)=false:=(by simpa using hne);have HX:=Lib.hid (And.intro hd (And.intro h (And.intro hp htk)));clear hd h hp htk hne;obtain⟨i1,hi,hz0,hz1,hz2⟩:=info_parts Tryz.info_evd;have HI1:=Lib.hid (And.intro hi (And.intro hz0 (And.intro hz1 hz2)));clear hi hz0 hz1 hz2;have HFIRST:Hid (ZY ⟨w,db,0,Qs,none,0,d.pend,d.paste,d.due⟩ (.slice p d.pend.length c) w.heap.size d.pend d.paste p c (.slice (some ⟨w.heap.size,0,none⟩) 0 0) [] (w.alloc (.cells #[] 40))):=
    ⟨by simp,by simp,QfD w,by simp[YT],HX.out.1.on (Qb _ _),HX.out.2.1.below (Qb _ _),hc,HX.out.2.2.1,XW (Qb _ _) _,dl,Nat.le_refl _,by simp⟩
  go_enter Tryz.func76,Tryz.ntmps76;go_wp2_with fail
  go_loopw [5,6,7] (fun ev b _ W=>Qmi ⟨w,db,0,Qs,none,0,d.pend,d.paste,d.due⟩ (.slice p d.pend.length c) w.heap.size ev b W) (fun _ b _ _=>Ql4 b)
  case atStart=>exact⟨d.pend,p,c,[],rfl,HX.out.2.2.2,HFIRST.out⟩
  case round=>
    obtain⟨l',p',c',rows,rfl,htk,hK⟩:=hrel;dsimp only at htk hK;clear HFIRST d0 d1 d2;have HTK:=Lib.hid htk;have HKK:=Lib.hid hK;have hlr:rows.length+l'.length≤100000:=(by have:=hK.len;dsimp only at this;omega);have hlow2:w.heap.size≤wr.heap.size:=hK.b2;by_cases hr:l'=[]
    · subst hr;have hdd:=hK.dec;obtain⟨e0,e1,e2⟩:=AtL.three hdd.cells;have ef:=hdd.free;dsimp only at e0 e1 e2 ef;have hall:(QF Qs d.pend d.paste).1=rows.map Prod.fst:=by
        have h1:=hK.all;dsimp only at h1;rw[h1,Yf (by simp[Qs,Qf])];simp
      have HE:=Lib.hid (hK.lastT (by simp[Qs,Qf]));have HAL:=Lib.hid hall;clear hK htk hdd hall;go_wp2_with fail;go_ret;rw[HAL.out];exact HE.out
    · have hpos:0<l'.length:=List.length_pos_iff.2 hr;have hposI:(0:Int)<(l'.length:Int):=(by omega);have d1:=hK.dec.cells.get 1 rfl;have HL4:=Lib.hid (VR p' c' l' d.paste wr (hK.bs.more hK.b2) hK.cap (by omega));have HST:=Lib.hid (Qkl htk hr);obtain⟨hcode,⟨k,hk,hk1,hk2⟩,_⟩:=ZC l' d.paste hr;have HCO:=Lib.hid hcode;have HKZ:=Lib.hid hk;have hkI:(k:Int)≤(l'.length:Int):=(by omega);dsimp only at d1;clear hK htk hcode hk hr;go_wp2_with fail;refine HL4.out.mono ?_;rintro e w3 ⟨v3,rfl,ho3,hb3⟩;obtain⟨pp,cc,hv⟩:=ho3.slice;subst hv;have B4:=Qb w3 (.cells (tkL (Qs l' d.paste) (.slice pp (Qs l' d.paste).ev.data.length cc)).toArray 90);have HK4:=Lib.hid ((HKK.out.on hb3).on B4);have HO4:=Lib.hid (ho3.on B4);have HAP:=Lib.hid (HKK.out.apart.fresh HKK.out.evs (r:=((Qs l' d.paste).ev,pp,cc)) ho3);have HT4:=Lib.hid (AtM.new w3 (tkL (Qs l' d.paste) (.slice pp (Qs l' d.paste).ev.data.length cc)) 90);unfold tkL at HK4 HO4 HT4;have hsz3:=hb3.size;clear ho3 hb3 B4 HL4 d1;unfold tkV;go_upto_region 7 with(fail);refine J1 (fun W=>ZY ⟨w,db,0,Qs,none,0,d.pend,d.paste,d.due⟩ (.slice p d.pend.length c) w.heap.size l' d.paste p' c' u5 rows W∧AtM W w3.heap.size [.int .i64 (Qs l' d.paste).code,.int .i64 (Qs l' d.paste).ev.kind,.int .i64 (Qs l' d.paste).ev.code,.int .i64 (Qs l' d.paste).ev.mods,.int .i64 (Qs l' d.paste).ev.button,.int .i64 (Qs l' d.paste).ev.act,.int .i64 (Qs l' d.paste).ev.col,.int .i64 (Qs l' d.paste).ev.row,.slice pp (Qs l' d.paste).ev.data.length cc,.int .i64 (Qs l' d.paste).size,.bool (Qs l' d.paste).paste,.bool (Qs l' d.paste).none]∧Own W wr.heap.size (.slice pp (Qs l' d.paste).ev.data.length cc) (Qs l' d.paste).ev.data) ⟨HK4.out,HT4.out,HO4.out⟩ (fun W4 hM=>?_);clear HK4 HT4 HO4;obtain⟨hK4,hT4,hO4⟩:=hM;obtain⟨a0,a1,a2,a3,a4,a5,a6,a7,a8,a9,a10,a11⟩:=AtL.twelve hT4.cells;rw[HKZ.out] at a9;have HK4:=Lib.hid hK4;have HO4:=Lib.hid hO4;have HT4:=Lib.hid hT4;have hRl:=hT4.cells.1;have hcapI:=hK4.cap;clear hK4 hT4 hO4;have HEV:Hid (∀o,QI (W4.alloc o) w.heap.size u5 rows):=fun o=>HK4.out.evs.alloc o;have HSW:Hid (w.heap.size≤W4.heap.size):=HK4.out.b2;by_cases hck:c'=k;all_goals
        go_wp2_with (at_builtin;refine wpList_append_own_at _ rfl _ _ 28 rfl w.heap.size 40 i1 _ 8 80 Tryz.underlying28 HI1.out.1 HI1.out.2.1 HI1.out.2.2.1 HI1.out.2.2.2 rfl (by decide) _ _ _ rfl (HEV.out _).1 ⟨W4.heap.size,0,none⟩ 1 1 (QH ((Qs l' d.paste).ev,pp,cc)) rfl (by simp[QgL]) ?c1 ?c2 ?c3 ?c4 ?c5 ?_)
        case c1=>exact Qki _ ((Qs l' d.paste).ev,pp,cc) _ _ (by simp)
        case c2=>exact Qen _
        case c3=>unfold maxLen;omega
        case c4=>omega
        case c5=>have:=HSW.out;simp;omega
        intro v' w5 hown' hgrow hnil hblk;have HP:=Lib.hid (HK4.out.pushT Xf HCO.out HST.out.2.1 HST.out.1 HKZ.out (p'':=if c'=k then p' else p'.map (·.add k)) (c'':=c' - k) rfl rfl hlow2 HO4.out HAP.out hown' hgrow);have s9:w5.cell? ⟨w3.heap.size,9,none⟩=some (.int .i64 (k:Int)):=by
          have h1:=(HT4.out.on (Qb W4 _)).far hgrow (fun e=>by have:=(HKK.out.evs.lt _ e.symm).2;omega);rw[←HKZ.out];exact h1.cells.get 9 rfl
        clear hown' hgrow hnil hblk a0 a1 a2 a3 a4 a5 a6 a7 a8 a9 a10 a11;go_wp2_with fail;refine⟨⟨l'.drop k,(if c'=k then p' else p'.map (·.add k)),c' - k,_,?_,?_,HP.out⟩,?_⟩
        · simp[hck]
        · have h1:=HST.out.2.2;rw[HKZ.out] at h1;simpa using h1
        · show l'.length - k<l'.length;omega
theorem QgT (d:Dc) (db:Nat) (p:Option Addr) (c:Nat) (now:Int) (w:World) (hd:AtM w db (dcL d p c)) (hidle:d.pend=[]∨now<d.due):
    Calls Tryz.prog 76 #[.pointer (some ⟨db,0,none⟩),.int .i64 now] w fun e w'=>e=.returned (.slice none 0 0)∧w=w':=by
  obtain⟨d0,d1,d2⟩:=AtL.three hd.cells;clear hd;by_cases hz:d.pend.length=0
  · have hzb:((d.pend.length:Int)==0)=true:=(by simp[hz]);clear hz hidle;go_enter Tryz.func76,Tryz.ntmps76;go_wp2_with fail;go_ret;exact⟨rfl,rfl⟩
  · have hzb:((d.pend.length:Int)==0)=false:=(by simpa using hz);have hlt:now<d.due:=by
      rcases hidle with h | h
      · rw[h] at hz;exact absurd rfl hz
      · exact h
    clear hz hidle;go_enter Tryz.func76,Tryz.ntmps76;go_wp2_with fail;go_ret;exact⟨rfl,rfl⟩
end Go.Proofs.YtbfickdgjgbfhaaGreatDoor
