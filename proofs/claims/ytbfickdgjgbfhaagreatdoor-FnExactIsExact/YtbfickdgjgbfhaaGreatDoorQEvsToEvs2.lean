/- Slices of events: the contracts of szEventS and of the comparisons of two events. -/
import Derived.Test.YtbfickdgjgbfhaaGreatDoorQFaultToFirstFull
import Derived.BigGuardPart
import Derived.Deep.DeepCutAuto
import Derived.Test.YtbfickdgjgbfhaaGreatDoorQDrawsToDraws7
import Derived.Test.YtbfickdgjgbfhaaGreatDoorQPutToBytesRes
import Derived.Test.YtbfickdgjgbfhaaGreatDoorQTokToTokRes
import Derived.Maps.AppendAt
set_option linter.unusedVariables false
set_option maxRecDepth 100000
set_option maxHeartbeats 8000000
namespace Go.Proofs.YtbfickdgjgbfhaaGreatDoor
open Go.RowKit
def Es (w:World) (B:Nat) (p:Option Addr) (l:List Ev):Prop:=
  l≠[]→∃b off,p=some ⟨b,off,none⟩∧b<B∧∀i (h:i<l.length),∃q c,Qax w b (off+i * 8) l[i] q c∧Bs w B q l[i].data
theorem Es.keep {w w':World} {B B':Nat} {p:Option Addr} {l:List Ev} (h:Es w B p l) (hB:B≤B') (hk:∀a:Addr,a.block<B→w'.cell? a=w.cell? a):Es w' B' p l:=by
  intro hl;obtain⟨b,off,e,hb,hc⟩:=h hl;refine⟨b,off,e,by omega,fun i hi=>?_⟩;obtain⟨q,c,h1,h2⟩:=hc i hi;exact⟨q,c,h1.keep fun o=>hk ⟨b,o,none⟩ hb,h2.keep hB hk⟩
theorem Es.on {w w':World} {p:Option Addr} {l:List Ev} (h:Es w w.heap.size p l) (hb:Below w.heap.size w w'):Es w' w'.heap.size p l:=h.keep hb.size fun _ ha=>hb.cell ha
def QgJ (a b:Ev):Bool:=
  ((((((a.kind==b.kind&&a.code==b.code)&&a.mods==b.mods)&&a.button==b.button)&&a.act==b.act)&&a.col==b.col)&&a.row==b.row)&&a.data==b.data
theorem Qi6 (a b:Ev) (p q:Option Addr) (c d:Nat) (ba oa bb ob:Nat) (w:World) {B C:Nat} (ha:Qax w ba oa a p c) (hb:Qax w bb ob b q d) (h:Bs w B p a.data) (k:Bs w C q b.data):
    Calls Tryz.prog 117 #[.pointer (some ⟨ba,oa,none⟩),.pointer (some ⟨bb,ob,none⟩)] w fun en w'=>en=.returned (.bool (QgJ a b))∧∃n,w'=w.drewN n:=by
  obtain⟨c0,c1,c2,c3,c4,c5,c6,c7⟩:=ha;obtain⟨d0,d1,d2,d3,d4,d5,d6,d7⟩:=hb;have h1:=fun n=>Yh (P:=Tryz.prog) Tryz.underlying22 Tryz.underlying5 Tryz.underlying9 p c a.data (w.drewN n) (B:=B) (h.keep (Nat.le_refl _) fun _ _=>rfl);have h2:=fun n=>Yh (P:=Tryz.prog) Tryz.underlying22 Tryz.underlying5 Tryz.underlying9 q d b.data (w.drewN n) (B:=C) (k.keep (Nat.le_refl _) fun _ _=>rfl);clear h k
  cases k0:(a.kind==b.kind)
  · go_enter Tryz.func117,Tryz.ntmps117;go_upto_region 1 with(fail);simp only[List.append_eq,List.cons_append,List.nil_append]
    go_quiet (fail)
    go_wp2;go_ret;exact⟨Qi (by simp[QgJ, *]),_,rfl⟩
  cases k1:(a.code==b.code)
  · go_enter Tryz.func117,Tryz.ntmps117;go_upto_region 1 with(fail);simp only[List.append_eq,List.cons_append,List.nil_append]
    go_quiet (fail)
    go_wp2;go_ret;exact⟨Qi (by simp[QgJ, *]),_,rfl⟩
  cases k2:(a.mods==b.mods)
  · go_enter Tryz.func117,Tryz.ntmps117;go_upto_region 1 with(fail);simp only[List.append_eq,List.cons_append,List.nil_append]
    go_quiet (fail)
    go_wp2;go_ret;exact⟨Qi (by simp[QgJ, *]),_,rfl⟩
  cases k3:(a.button==b.button)
  · go_enter Tryz.func117,Tryz.ntmps117;go_upto_region 1 with(fail);simp only[List.append_eq,List.cons_append,List.nil_append]
    go_quiet (fail)
    go_wp2;go_ret;exact⟨Qi (by simp[QgJ, *]),_,rfl⟩
  cases k4:(a.act==b.act)
  · go_enter Tryz.func117,Tryz.ntmps117;go_upto_region 1 with(fail);simp only[List.append_eq,List.cons_append,List.nil_append]
    go_quiet (fail)
    go_wp2;go_ret;exact⟨Qi (by simp[QgJ, *]),_,rfl⟩
  cases k5:(a.col==b.col)
  · go_enter Tryz.func117,Tryz.ntmps117;go_upto_region 1 with(fail);simp only[List.append_eq,List.cons_append,List.nil_append]
    go_quiet (fail)
    go_wp2;go_ret;exact⟨Qi (by simp[QgJ, *]),_,rfl⟩
  cases k6:(a.row==b.row)
  · go_enter Tryz.func117,Tryz.ntmps117;go_upto_region 1 with(fail);simp only[List.append_eq,List.cons_append,List.nil_append]
    go_quiet (fail)
    go_wp2;go_ret;exact⟨Qi (by simp[QgJ, *]),_,rfl⟩
  go_enter Tryz.func117,Tryz.ntmps117;go_upto_region 1 with(fail);simp only[List.append_eq,List.cons_append,List.nil_append]
  go_quiet (fail)
  go_wp2;go_ret;exact⟨Qi (by simp[QgJ, *]),_,rfl⟩
theorem VZ (a b:Ev) (p q:Option Addr) (c d:Nat) (w:World) (h:Bs w w.heap.size p a.data) (k:Bs w w.heap.size q b.data):
    Calls Tryz.prog 70 #[evV a p c,evV b q d] w fun en w'=>en=.returned (.bool (QgJ a b))∧Below w.heap.size w w':=by
  unfold evV;have H:=Lib.hid h;have K:=Lib.hid k;clear h k;go_enter Tryz.func70,Tryz.ntmps70;go_wp2_with (go_at_call 62;refine(Uf _ _ _ _ _ _ _ ((H.out.alloc _).alloc _) ((K.out.alloc _).alloc _)).mono ?_;rintro en w1 ⟨rfl,rfl⟩);all_goals
    go_ret;exact⟨Qi (by simp[QgJ, *]),((Below.refl _ _).alloc (Nat.le_refl _) _).alloc (by simp) _⟩
abbrev Q1:=Ev×Option Addr×Nat
def QH (r:Q1):List Value:=(evC r.1 r.2.1 r.2.2).toList
def QU (r:Q1):Value:=.slice r.2.1 r.1.data.length r.2.2
def QI (W:World) (base:Nat) (v:Value) (rows:List Q1):Prop:=
  W.ownsRow base 40 8 v rows.length (rows.flatMap QH)∧∀r∈rows,Own W base (QU r) r.1.data
theorem Qb1 {W:World} {b1 b2 n:Nat} {v1 v2:Value} {xs:List Value} {l:List UInt8} (h:W.ownsRow b1 40 8 v1 n xs) (k:Own W b2 v2 l):v1.ownBlock=none∨v2.ownBlock≠v1.ownBlock:=by
  rcases h.2 with⟨rfl,_⟩ | ⟨g,cap,cur,rfl,_,hh,_⟩
  · exact .inl rfl
  refine .inr fun e=>?_;rcases k.2 with⟨rfl,_⟩ | ⟨g',cap',cur',rfl,_,hh',_⟩
  · simp[Value.ownBlock] at e
  · simp[Value.ownBlock] at e;subst e;rw[hh] at hh';simp at hh'
theorem QI.kept {W W':World} {base:Nat} {v:Value} {rows:List Q1} {row:Option Nat} (h:QI W base v rows) (hg:W.grownBy W' row) (hv:v.ownBlock≠row∨v.ownBlock=none) (hd:∀r∈rows,∀j,(QU r).ownBlock=some j→some j≠row):QI W' base v rows:=
  ⟨World.ownsRow.kept h.1 hg (hv.symm.imp id id),fun r hr=>(h.2 r hr).far hg (hd r hr)⟩
theorem QI.snoc {W:World} {base:Nat} {v':Value} {rows:List Q1} {r:Q1} (h:W.ownsRow base 40 8 v' (rows.length+1) (rows.flatMap QH++QH r)) (hd:∀r∈rows,Own W base (QU r) r.1.data) (hr:Own W base (QU r) r.1.data):QI W base v' (rows++[r]):=by
  refine⟨by simpa using h,fun x hx=>?_⟩;rcases List.mem_append.1 hx with h' | h'
  · exact hd x h'
  · simp at h';subst h';exact hr
theorem Qkh:∀(rows:List Q1) (i k:Nat) (hi:i<rows.length),k<8→(rows.flatMap QH)[i * 8+k]? =(QH rows[i])[k]?
  | [],_,_,hi,_=>by simp at hi
  | r::rs,0,k,_,hk=>by
    rw[List.flatMap_cons,List.getElem?_append_left (by simp[QH,evC];omega)];simp
  | r::rs,i+1,k,hi,hk=>by
    have e:(QH r).length=8:=(by simp[QH,evC]);rw[List.flatMap_cons,List.getElem?_append_right (by omega),e];have e2:(i+1) * 8+k - 8=i * 8+k:=(by omega);rw[e2,Qkh rs i k (by simpa using hi) hk];simp
theorem QI.es {W:World} {base:Nat} {p:Option Addr} {n c:Nat} {rows:List Q1} (h:QI W base (.slice p n c) rows):n=rows.length∧Es W W.heap.size p (rows.map Prod.fst):=by
  rcases h.1.2 with⟨e,e0⟩ | ⟨g,cap,cur,e,_,hh,_⟩
  · simp at e;refine⟨by omega,fun hne=>absurd (List.eq_nil_of_length_eq_zero e0) (by simpa using hne)⟩
  · simp only[Value.slice.injEq] at e;obtain⟨rfl,rfl,rfl⟩:=e;have hlt:g<W.heap.size:=(Array.getElem?_eq_some_iff.1 hh).1;refine⟨rfl,fun _=>⟨g,0,rfl,hlt,fun i hi=>?_⟩⟩;rw[List.length_map] at hi;have hc:∀k,k<8→W.cell? ⟨g,0+i * 8+k,none⟩=(QH rows[i])[k]?:=by
      intro k hk;have:=World.ownsRow.cellAt h.1 (i * 8+k) (by omega);rw[Qkh rows i k hi hk] at this;simpa using this
    have ho:=h.2 rows[i] (List.getElem_mem _);refine⟨rows[i].2.1,rows[i].2.2,?_,?_⟩
    · simp only[List.getElem_map];exact⟨hc 0 (by omega),hc 1 (by omega),hc 2 (by omega),hc 3 (by omega),hc 4 (by omega),hc 5 (by omega),hc 6 (by omega),hc 7 (by omega)⟩
    · simp only[List.getElem_map];exact ho.bs.2
theorem QI.lt {W:World} {base:Nat} {v:Value} {rows:List Q1} (h:QI W base v rows):∀j,v.ownBlock=some j→base≤j∧j<W.heap.size:=World.ownsRow.lt h.1
theorem QI.below {W W':World} {base:Nat} {v:Value} {rows:List Q1} (h:QI W base v rows) (hb:Below W.heap.size W W'):QI W' base v rows:=
  h.kept (XW hb (some W.heap.size)) (.inl fun e=>Nat.lt_irrefl _ (h.lt _ e).2) (fun r hr j hj e=>by cases e;exact Nat.lt_irrefl _ ((h.2 r hr).lt _ hj).2)
theorem QI.alloc {W:World} {base:Nat} {v:Value} {rows:List Q1} (h:QI W base v rows) (o:Obj):QI (W.alloc o) base v rows:=h.below ((Below.refl _ _).alloc (Nat.le_refl _) o)
theorem QI.src {W W':World} {base g:Nat} {v:Value} {rows:List Q1} (h:QI W base v rows) (hg:W.grownBy W' (some g)) (hlt:g<base):QI W' base v rows:=
  h.kept hg (.inl fun e=>by have:=(h.lt _ e).1;omega) (fun r hr j hj e=>by cases e;have:=((h.2 r hr).lt _ hj).1;omega)
theorem QI.beside {W W':World} {base b2 n:Nat} {v va:Value} {xs:List Value} {rows:List Q1} (h:QI W base v rows) (ha:W.ownsRow b2 40 8 va n xs) (hne:va.ownBlock≠v.ownBlock) (hg:W.grownBy W' va.ownBlock):QI W' base v rows:=
  h.kept hg (.inl fun e=>hne e.symm) (fun r hr j hj e=>by
    rcases Qb1 ha (h.2 r hr) with h0 | h0
    · rw[h0] at e;cases e
    · exact h0 (hj.trans e))
theorem QI.append {W W':World} {base:Nat} {v v':Value} {rows:List Q1} {r:Q1} (h:QI W base v rows) (hr:Own W base (QU r) r.1.data)
    (hn:W'.ownsRow base 40 8 v' (rows.length+1) (rows.flatMap QH++QH r)) (hg:W.grownBy W' v.ownBlock):QI W' base v' (rows++[r]):=by
  have hk:∀{x:Q1},Own W base (QU x) x.1.data→Own W' base (QU x) x.1.data:=fun {x} hx=>hx.far hg (fun j hj e=>by
    rcases Qb1 h.1 hx with h0 | h0
    · rw[h0] at e;cases e
    · exact h0 (hj.trans e))
  exact QI.snoc hn (fun x hx=>hk (h.2 x hx)) (hk hr)
theorem QI.place {W:World} {base:Nat} {v:Value} {rows:List Q1} (h:QI W base v rows) (h0:v≠.slice none 0 0):
    ∃g cap,v=.slice (some ⟨g,0,none⟩) rows.length cap∧base≤g∧g<W.heap.size∧∀o,W.frozen? ⟨g,o,none⟩=false:=by
  rcases h.1.2 with⟨e,_⟩ | ⟨g,cap,cur,e,hb,hh,_⟩
  · exact absurd e h0
  · exact⟨g,cap,e,hb,(Array.getElem?_eq_some_iff.1 hh).1,fun o=>by simp[World.frozen?,hh]⟩
def YT (rows:List Q1):Prop:=rows.Pairwise fun r s=>∀j,(QU r).ownBlock=some j→(QU s).ownBlock≠some j
def Ql3 (k:Nat) (d:List UInt8):Ev:=⟨(k:Int),((k+1:Nat):Int),((k+2:Nat):Int),((k+3:Nat):Int),((k+4:Nat):Int),((k+5:Nat):Int),((k+6:Nat):Int),d⟩
def Ql7 (k n:Nat):Ev:=Ql3 k (QcX (k+7) n)
def KK:Nat→List Q1→List Q1
  | _,[]=>[]
  | k,r::rs=>(Ql7 k r.1.data.length,r.2)::KK (k+7+r.1.data.length) rs
def UE:Nat→List Q1→Nat
  | k,[]=>k
  | k,r::rs=>UE (k+7+r.1.data.length) rs
theorem Js:∀(rs:List Q1) (k:Nat),(KK k rs).length=rs.length
  | [],_=>rfl
  | _::rs,k=>by simp[KK,Js rs]
theorem V0:∀(xs ys:List Q1) (k:Nat),KK k (xs++ys)=KK k xs++KK (UE k xs) ys
  | [],_,_=>rfl
  | r::xs,ys,k=>by simp[KK,UE,V0 xs ys]
theorem Qk2 (k:Nat) (r:Q1):QU (Ql7 k r.1.data.length,r.2)=QU r:=by simp[QU,Ql7,Ql3,Vr]
theorem Qfv:∀(rows:List Q1) (i:Nat) (hi:i<rows.length) (x0 x1 x2 x3 x4 x5 x6:Int),
    ((((((((rows.flatMap QH).set (i * 8) (.int .i64 x0)).set (i * 8+1) (.int .i64 x1)).set (i * 8+2) (.int .i64 x2)).set (i * 8+3) (.int .i64 x3)).set (i * 8+4) (.int .i64 x4)).set (i * 8+5) (.int .i64 x5)).set (i * 8+6) (.int .i64 x6))=
      (rows.set i (⟨x0,x1,x2,x3,x4,x5,x6,rows[i].1.data⟩,rows[i].2)).flatMap QH
  | [],_,hi,_,_,_,_,_,_,_=>by simp at hi
  | r::rs,0,_,x0,x1,x2,x3,x4,x5,x6=>by simp[QH,evC]
  | r::rs,i+1,hi,x0,x1,x2,x3,x4,x5,x6=>by
    have e:(QH r).length=8:=(by simp[QH,evC]);have ih:=Qfv rs i (by simpa using hi) x0 x1 x2 x3 x4 x5 x6;have hs:∀(l:List Value) (f:Nat) (v:Value),(QH r++l).set ((i+1) * 8+f) v=QH r++l.set (i * 8+f) v:=fun l f v=>by
      rw[List.set_append_right _ _ (by omega),e];congr 2;omega
    have h0:=fun l v=>hs l 0 v;simp only[Nat.add_zero] at h0;rw[List.flatMap_cons,h0,hs,hs,hs,hs,hs,hs,ih];simp
theorem Qfw:∀(rows:List Q1) (i:Nat) (hi:i<rows.length) (d:List UInt8),d.length=rows[i].1.data.length→
    (rows.set i ({rows[i].1 with data:=d },rows[i].2)).flatMap QH=rows.flatMap QH
  | [],_,hi,_,_=>by simp at hi
  | r::rs,0,_,d,hd=>by simp at hd;simp[QH,evC,hd]
  | r::rs,i+1,hi,d,hd=>by
    have ih:=Qfw rs i (by simpa using hi) d (by simpa using hd);simpa using ih
theorem QI.put7 {W:World} {base g n c:Nat} {rows:List Q1} (h:QI W base (.slice (some ⟨g,0,none⟩) n c) rows) (i:Nat) (hi:i<rows.length) (x0 x1 x2 x3 x4 x5 x6:Int):
    QI (sets W g (i * 8) [.int .i64 x0,.int .i64 x1,.int .i64 x2,.int .i64 x3,.int .i64 x4,.int .i64 x5,.int .i64 x6]) base (.slice (some ⟨g,0,none⟩) n c) (rows.set i (⟨x0,x1,x2,x3,x4,x5,x6,rows[i].1.data⟩,rows[i].2))∧
    W.grownBy (sets W g (i * 8) [.int .i64 x0,.int .i64 x1,.int .i64 x2,.int .i64 x3,.int .i64 x4,.int .i64 x5,.int .i64 x6]) (some g):=by
  have hn:=h.es.1;subst hn;have s0:=World.ownsRow.stored h.1 (i * 8) (.int .i64 x0);have s1:=World.ownsRow.stored s0.1 (i * 8+1) (.int .i64 x1);have s2:=World.ownsRow.stored s1.1 (i * 8+2) (.int .i64 x2);have s3:=World.ownsRow.stored s2.1 (i * 8+3) (.int .i64 x3);have s4:=World.ownsRow.stored s3.1 (i * 8+4) (.int .i64 x4);have s5:=World.ownsRow.stored s4.1 (i * 8+5) (.int .i64 x5);have s6:=World.ownsRow.stored s5.1 (i * 8+6) (.int .i64 x6);have hg:=Q4 (Q4 (Q4 (Q4 (Q4 (Q4 s0.2 s1.2) s2.2) s3.2) s4.2) s5.2) s6.2;have hr:=s6.1;rw[Qfv rows i hi] at hr;have hk:∀x∈rows,Own (sets W g (i * 8) [.int .i64 x0,.int .i64 x1,.int .i64 x2,.int .i64 x3,.int .i64 x4,.int .i64 x5,.int .i64 x6]) base (QU x) x.1.data:=fun x hx=>(h.2 x hx).far hg (fun j hj e=>by
    rcases Qb1 h.1 (h.2 x hx) with h0 | h0
    · simp[Value.ownBlock] at h0
    · exact h0 (hj.trans e))
  refine⟨⟨by rw[List.length_set];exact hr,fun x hx=>?_⟩,hg⟩;rcases List.mem_or_eq_of_mem_set hx with hx | rfl
  · exact hk x hx
  · exact hk rows[i] (List.getElem_mem _)
theorem QI.data {W W':World} {base:Nat} {v:Value} {rows:List Q1} (h:QI W base v rows) (ha:YT rows) (i:Nat) (hi:i<rows.length) {d:List UInt8} (hd:d.length=rows[i].1.data.length)
    (ho:Own W' base (QU rows[i]) d) (hg:W.grownBy W' (QU rows[i]).ownBlock):QI W' base v (rows.set i ({rows[i].1 with data:=d },rows[i].2)):=by
  refine⟨?_,fun x hx=>?_⟩
  · rw[Qfw rows i hi d hd,List.length_set];refine World.ownsRow.kept h.1 hg ?_;rcases Qb1 h.1 (h.2 rows[i] (List.getElem_mem _)) with h0 | h0
    · exact .inl h0
    · exact .inr (Ne.symm h0)
  · obtain⟨j,hj,rfl⟩:=List.mem_iff_getElem.1 hx;rw[List.length_set] at hj;by_cases hij:i=j
    · subst hij;rw[List.getElem_set_self];simpa [QU,hd] using ho
    · rw[List.getElem_set_ne hij];refine(h.2 rows[j] (List.getElem_mem _)).far hg (fun b hb e=>?_);have ha':=List.pairwise_iff_getElem.1 ha;rcases Nat.lt_or_ge i j with hlt | hge
      · exact ha' i j hi hj hlt b e.symm hb
      · exact ha' j i hj hi (by omega) b hb e.symm
theorem YT.set {rows:List Q1} (h:YT rows) (i:Nat) (hi:i<rows.length) (r:Q1) (hr:QU r=QU rows[i]):YT (rows.set i r):=by
  refine List.pairwise_iff_getElem.2 fun a b ha hb hab j=>?_;rw[List.length_set] at ha hb;have h0:=List.pairwise_iff_getElem.1 h a b ha hb hab j;have e:∀(x:Nat) (hx:x<rows.length) (hx':x<(rows.set i r).length),QU (rows.set i r)[x]=QU rows[x]:=fun x hx hx'=>by
    by_cases hxi:i=x
    · subst hxi;rw[List.getElem_set_self,hr]
    · rw[List.getElem_set_ne hxi]
  rw[e a ha,e b hb];exact h0
def X6 (k:Nat) (rows:List Q1) (i:Nat):List Q1:=KK k (rows.take i)++rows.drop i
theorem Qfx (k:Nat) (rows:List Q1) (i:Nat) (hi:i≤rows.length):(X6 k rows i).length=rows.length:=by simp[X6,Js];omega
theorem QgK (k:Nat) (rows:List Q1) (i:Nat) (hi:i<rows.length) (h:i<(X6 k rows i).length):(X6 k rows i)[i]=rows[i]:=by
  have hl:(KK k (rows.take i)).length=i:=(by rw[Js];simp;omega);have e:(X6 k rows i)[i]? =some rows[i]:=by
    show(KK k (rows.take i)++rows.drop i)[i]? =_;rw[List.getElem?_append_right (by omega),hl,Nat.sub_self,List.drop_eq_getElem_cons hi];rfl
  rw[List.getElem?_eq_getElem h] at e;exact Option.some.inj e
theorem UX (k:Nat) (rows:List Q1) (i:Nat) (hi:i<rows.length):(X6 k rows i).set i (Ql7 (UE k (rows.take i)) rows[i].1.data.length,rows[i].2)=X6 k rows (i+1):=by
  unfold X6;rw[List.set_append_right _ _ (by rw[Js];simp;omega),Js,List.length_take,Nat.min_eq_left (Nat.le_of_lt hi),Nat.sub_self,List.drop_eq_getElem_cons hi,List.set_cons_zero,
    List.take_succ_eq_append_getElem hi,V0,List.append_assoc]
  rfl
theorem QI.mark {W W':World} {base g n c k:Nat} {rows:List Q1} (i:Nat) (hi:i<rows.length) (h:QI W base (.slice (some ⟨g,0,none⟩) n c) (X6 k rows i)) (ha:YT (X6 k rows i))
    {w7:World} (h7:w7=sets W g (i * 8) [.int .i64 (UE k (rows.take i):Nat),.int .i64 (UE k (rows.take i)+1:Nat),.int .i64 (UE k (rows.take i)+2:Nat),.int .i64 (UE k (rows.take i)+3:Nat),.int .i64 (UE k (rows.take i)+4:Nat),.int .i64 (UE k (rows.take i)+5:Nat),.int .i64 (UE k (rows.take i)+6:Nat)])
    (ho:Own W' base (QU rows[i]) (QcX (UE k (rows.take i)+7) rows[i].1.data.length)) (hg:w7.grownBy W' (QU rows[i]).ownBlock):
    QI W' base (.slice (some ⟨g,0,none⟩) n c) (X6 k rows (i+1))∧YT (X6 k rows (i+1)):=by
  have hl:i<(X6 k rows i).length:=(by rw[Qfx k rows i (by omega)];exact hi);have hat:=QgK k rows i hi hl;generalize hK:UE k (rows.take i)=K at *;obtain⟨p1,p2⟩:=h.put7 i hl (K:Nat) (K+1:Nat) (K+2:Nat) (K+3:Nat) (K+4:Nat) (K+5:Nat) (K+6:Nat);rw[←h7] at p1 p2;rw[hat] at p1;generalize hR:(X6 k rows i).set i (⟨(K:Nat),(K+1:Nat),(K+2:Nat),(K+3:Nat),(K+4:Nat),(K+5:Nat),(K+6:Nat),rows[i].1.data⟩,rows[i].2)=R at *;have hRl:i<R.length:=(by rw[←hR,List.length_set];exact hl);have hRi:R[i]=((⟨(K:Nat),(K+1:Nat),(K+2:Nat),(K+3:Nat),(K+4:Nat),(K+5:Nat),(K+6:Nat),rows[i].1.data⟩:Ev),rows[i].2):=(by subst hR;rw[List.getElem_set_self]);have hsl:QU R[i]=QU rows[i]:=(by rw[hRi];rfl);have hAR:YT R:=(by subst hR;exact ha.set i hl _ (by rw[hat];rfl));have h2:=p1.data hAR i hRl (d:=QcX (K+7) rows[i].1.data.length) (by rw[hRi];simp[Vr]) (by rw[hsl];exact ho) (by rw[hsl];exact hg);have e:R.set i ({R[i].1 with data:=QcX (K+7) rows[i].1.data.length },R[i].2)=X6 k rows (i+1):=by
    rw[hRi,←UX k rows i hi,hK,←hR,List.set_set];rfl
  have hA2:YT (X6 k rows (i+1)):=by
    rw[←UX k rows i hi];exact ha.set i hl _ (by rw[hat];exact Qk2 _ _)
  rw[e] at h2;exact⟨h2,hA2⟩
theorem Qk3 (w:World) (t:Nat) (hb:t≤w.heap.size):QI (w.alloc (.cells #[] 40)) t (.slice (some ⟨w.heap.size,0,none⟩) 0 0) []:=
  ⟨World.ownsRow_made w #[] 0 hb (by simp[maxLen]) (by simp),by simp⟩
theorem Tryz.info_evd:(Tryz.prog.info? 40).map (fun i=>(i.zero,i.size,i.bytes))=some (some (.agg #[.int .i64 0,.int .i64 0,.int .i64 0,.int .i64 0,.int .i64 0,.int .i64 0,.int .i64 0,.slice none 0 0]),8,80):=by kernel_rfl
theorem QgL (r:Q1):(QH r).length=8:=by simp[QH,evC]
theorem Qen (r:Q1):∀u∈QH r,u.oneCell'=true:=by
  intro u hu;simp[QH,evC] at hu;rcases hu with rfl | rfl | rfl | rfl | rfl | rfl | rfl | rfl <;> rfl
theorem Qki (W:World) (r:Q1) (t:TypeId) (b:Nat) (hb:b=W.heap.size):∀j u,(QH r)[j]? =some u→(W.alloc (.cells (evC r.1 r.2.1 r.2.2) t)).cell? ((⟨b,0,none⟩:Addr).add j)=some u:=by
  intro j u hj;have ea:(⟨b,0,none⟩:Addr).add j=⟨b,j,none⟩:=(by simp[Addr.add];omega);rw[ea,World.cell?_alloc_at _ _ _ _ hb];simpa [QH] using hj
def Yd:List Ev→List Ev→Bool
  | [],[]=>true
  | a::x,b::y=>QgJ a b&&Yd x y
  | _,_=>false
theorem Vj:∀(x y:List Ev),x.length≠y.length→Yd x y=false
  | [],[],h=>absurd rfl h
  | [],_::_,_=>rfl
  | _::_,[],_=>rfl
  | a::x,b::y,h=>by
    simp only[Yd];rw[Vj x y (by simp at h;exact h)];simp
theorem UY (x y:List Ev) (k:Nat) (hx:k<x.length) (hy:k<y.length):Yd (x.drop k) (y.drop k)=(QgJ x[k] y[k]&&Yd (x.drop (k+1)) (y.drop (k+1))):=by
  rw[List.drop_eq_getElem_cons hx,List.drop_eq_getElem_cons hy,Yd]
theorem Qb2 (x y:List Ev) (h:x.length=y.length):Yd (x.drop x.length) (y.drop x.length)=true:=by
  rw[List.drop_length,h,List.drop_length,Yd]
theorem V6 (p q:Option Addr) (c d:Nat) (x y:List Ev) (w:World) (h:Es w w.heap.size p x) (k:Es w w.heap.size q y) (hx:x.length≤1048576):
    Calls Tryz.prog 80 #[.slice p x.length c,.slice q y.length d] w fun e w'=>e=.returned (.bool (Yd x y))∧Below w.heap.size w w':=by
  cases hne:((x.length:Int) != (y.length:Int))
  · have HL:Hid (x.length=y.length):=(by simp at hne;exact Int.ofNat.inj hne);have hly:x.length≤y.length:=Nat.le_of_eq HL.out;have hly2:y.length≤x.length:=Nat.le_of_eq HL.out.symm;have H:=Lib.hid h;have K:=Lib.hid k;clear h k;go_enter Tryz.func80,Tryz.ntmps80;go_wp2
    go_loopw [5,13] (fun _ i wr=>∃j:Nat,j≤x.length∧i=.int .i64 j∧Yd x y=Yd (x.drop j) (y.drop j)∧Below w.heap.size w wr) (fun _ i _=>x.length - (intOf i).toNat)
    case atStart=>exact⟨0,by omega,rfl,rfl,Below.refl _ _⟩
    case round=>
      obtain⟨j,hj,rfl,hs,hb⟩:=hrel;have HS:=Lib.hid hs;clear hs;by_cases hlt:j<x.length
      · have hlt':j<y.length:=(by omega);obtain⟨b,off,rfl,_,hc⟩:=(H.out.on hb) (by intro e;simp[e] at hlt);obtain⟨b',off',rfl,_,hc'⟩:=(K.out.on hb) (by intro e;simp[e] at hlt');obtain⟨q1,d1,he,hbs⟩:=hc j hlt;obtain⟨q2,d2,he',hbs'⟩:=hc' j hlt';have HD:=Lib.hid (UY x y j hlt hlt');have i1:(j:Int)<(x.length:Int):=(by omega);have i2:(j:Int)<(y.length:Int):=(by omega);have i0:(0:Int)≤(j:Int):=(by omega);have HC:=Lib.hid (fun n=>Calls.quiet_of (w:=wr) (n:=n) (Qi6 x[j] y[j] q1 q2 d1 d2 b (off+j * 8) b' (off'+j * 8) (wr.drewN n) (B:=wr.heap.size) (C:=wr.heap.size) (he.keep fun _=>rfl) (he'.keep fun _=>rfl) (hbs.keep (Nat.le_refl _) fun _ _=>rfl) (hbs'.keep (Nat.le_refl _) fun _ _=>rfl)));clear hc hc' he he'
        cases hq:QgJ x[j] y[j]
        · go_wp2
          go_quiet ((go_at_call 117;exact HC.out _))
          go_wp2;go_ret;exact⟨Qi (by rw[HS.out,HD.out,hq];rfl),Qc hb _⟩
        · go_wp2
          go_quiet ((go_at_call 117;exact HC.out _))
          go_wp2;exact⟨⟨j+1,by omega,by go_num,by rw[HS.out,HD.out,hq];rfl,Qc hb _⟩,by simp[intOf];omega⟩
      · obtain rfl:j=x.length:=(by omega);have HE:=Lib.hid (Qb2 x y HL.out);go_wp2;go_ret;exact⟨Qi (by rw[HS.out,HE.out]),hb⟩
  · have HE:=Lib.hid (Vj x y (by simp at hne;omega));go_enter Tryz.func80,Tryz.ntmps80;go_wp2;go_ret;exact⟨Qi (by rw[HE.out]),Below.refl _ _⟩
theorem Qeo (p q:Option Addr) (c d:Nat) (x y:List Ev) (w:World) (h:Es w w.heap.size p x) (k:Es w w.heap.size q y) (hx:x.length≤1048576):
    Calls Tryz.prog 69 #[.slice p x.length c,.slice q y.length d,.func (.func 70) #[] #[]] w fun e w'=>e=.returned (.bool (Yd x y))∧Below w.heap.size w w':=by
  cases hne:((x.length:Int) != (y.length:Int))
  · have HL:Hid (x.length=y.length):=(by simp at hne;exact Int.ofNat.inj hne);have hly:x.length≤y.length:=Nat.le_of_eq HL.out;have hly2:y.length≤x.length:=Nat.le_of_eq HL.out.symm;have H:=Lib.hid h;have K:=Lib.hid k;clear h k;go_enter Tryz.func69,Tryz.ntmps69;go_wp2
    go_loopw [7,8,9,17] (fun _ _ _ i wr=>∃j:Nat,j≤x.length∧i=.int .i64 j∧Yd x y=Yd (x.drop j) (y.drop j)∧Below w.heap.size w wr) (fun _ _ _ i _=>x.length - (intOf i).toNat)
    case atStart=>exact⟨0,by omega,rfl,rfl,Below.refl _ _⟩
    case round=>
      obtain⟨j,hj,rfl,hs,hb⟩:=hrel;have HS:=Lib.hid hs;clear hs;by_cases hlt:j<x.length
      · have hlt':j<y.length:=(by omega);obtain⟨b,off,rfl,hbl,hc⟩:=(H.out.on hb) (by intro e;simp[e] at hlt);obtain⟨b',off',rfl,hbl',hc'⟩:=(K.out.on hb) (by intro e;simp[e] at hlt');obtain⟨q1,d1,he,hbs⟩:=hc j hlt;obtain⟨q2,d2,he',hbs'⟩:=hc' j hlt';have HD:=Lib.hid (UY x y j hlt hlt');obtain⟨c0,c1,c2,c3,c4,c5,c6,c7⟩:=he;obtain⟨e0,e1,e2,e3,e4,e5,e6,e7⟩:=he';clear hc hc'
        cases hq:QgJ x[j] y[j]
        · go_wp2_with (go_at_call 70;refine(VZ x[j] y[j] q1 q2 d1 d2 _ ((hbs.alloc _).alloc _) ((hbs'.alloc _).alloc _)).mono ?_;rintro en w1 ⟨rfl,hb1⟩);go_ret;exact⟨Qi (by rw[HS.out,HD.out,hq];rfl),Qa ((hb.alloc hb.size _).alloc (by have:=hb.size;simp;omega) _) hb1⟩
        · go_wp2_with (go_at_call 70;refine(VZ x[j] y[j] q1 q2 d1 d2 _ ((hbs.alloc _).alloc _) ((hbs'.alloc _).alloc _)).mono ?_;rintro en w1 ⟨rfl,hb1⟩);exact⟨⟨j+1,by omega,by go_num,by rw[HS.out,HD.out,hq];rfl,Qa ((hb.alloc hb.size _).alloc (by have:=hb.size;simp;omega) _) hb1⟩,by simp[intOf];omega⟩
      · obtain rfl:j=x.length:=(by omega);have HE:=Lib.hid (Qb2 x y HL.out);go_wp2;go_ret;exact⟨Qi (by rw[HS.out,HE.out]),hb⟩
  · have HE:=Lib.hid (Vj x y (by simp at hne;omega));go_enter Tryz.func69,Tryz.ntmps69;go_wp2;go_ret;exact⟨Qi (by rw[HE.out]),Below.refl _ _⟩
theorem Jh (p q:Option Addr) (c d:Nat) (x y:List Ev) (w:World) (h:Es w w.heap.size p x) (k:Es w w.heap.size q y) (hx:x.length≤1048576):
    Calls Tryz.prog 20 #[.slice p x.length c,.slice q y.length d] w fun e w'=>e=.returned (.bool (Yd x y))∧Below w.heap.size w w':=by
  go_enter Tryz.func20,Tryz.ntmps20;go_wp2_with fail;refine(Qeo _ _ _ _ _ _ _ h k hx).mono ?_;rintro e w' ⟨rfl,hb⟩;go_wp2;go_ret;exact⟨rfl,hb⟩
end Go.Proofs.YtbfickdgjgbfhaaGreatDoor
