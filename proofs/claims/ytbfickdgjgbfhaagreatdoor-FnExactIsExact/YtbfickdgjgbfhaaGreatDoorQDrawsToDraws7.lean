/- The draws' source: l1Source, l1Next, l1Pick, l1Chance. -/
import Derived.Test.YtbfickdgjgbfhaaGreatDoorQPutToBytesRes
import Derived.Deep.QuietTactic
import Derived.BigQuiet
import Derived.BigGuardPart
import Derived.Deep.DeepCutAuto
import Derived.Laws.BitsAllLaws
set_option maxRecDepth 100000
set_option maxHeartbeats 2000000
namespace Go.Proofs.YtbfickdgjgbfhaaGreatDoor
open Go.RowKit
structure Qga (w:World) (g:Nat) (q:Option Addr) (c:Nat) (l:List UInt8) (n:Nat):Prop where
  code:w.cell? ⟨g,0,none⟩=some (.slice q l.length c)
  read:w.cell? ⟨g,1,none⟩=some (.int .i64 n)
  free:∀o,w.frozen? ⟨g,o,none⟩=false
  bytes:Bs w g q l
theorem Qga.step {w:World} {g:Nat} {q:Option Addr} {c:Nat} {l:List UInt8} {n:Nat} (h:Qga w g q c l n):
    Qga (w.setCell ⟨g,1,none⟩ (.int .i64 ((n:Int)+1))) g q c l (n+1)∧w.grownBy (w.setCell ⟨g,1,none⟩ (.int .i64 ((n:Int)+1))) (some g):=by
  refine⟨⟨?_,?_,?_,?_⟩,⟨rfl,rfl,rfl,by simp[World.setCell],fun b _ hb=>Below.heap_setCell _ _ _ _ (fun e=>hb (by rw[e]))⟩⟩
  · rw[World.cell?_setCell_other _ _ _ _ (by simp)];exact h.code
  · exact World.cell?_setCell_same _ _ _ h.read
  · intro o;simp[World.frozen?_setCell];exact h.free o
  · exact h.bytes.keep (Nat.le_refl _) fun a ha=>World.cell?_setCell_other _ _ _ _ (fun e=>by subst e;exact Nat.lt_irrefl _ ha)
theorem Qga.drew {w:World} {g:Nat} {q:Option Addr} {c:Nat} {l:List UInt8} {n:Nat} (h:Qga w g q c l n) (k:Nat):Qga (w.drewN k) g q c l n:=
  ⟨h.code,h.read,h.free,h.bytes.keep (Nat.le_refl _) fun _ _=>rfl⟩
theorem Vx {a w:World} {g:Option Nat} (h:a.grownBy w g) (k:Nat):a.grownBy (w.drewN k) g:=⟨h.os,h.tape,h.output,h.size,h.block⟩
def Src (w:World) (g:Nat) (q:Option Addr) (c:Nat) (l:List UInt8) (N:Nat):Prop:=∃n,n≤N∧Qga w g q c l n∧g<w.heap.size
theorem Src.below {w w':World} {g:Nat} {q:Option Addr} {c:Nat} {l:List UInt8} {N:Nat} (h:Src w g q c l N) (k:Below w.heap.size w w'):Src w' g q c l N:=by
  obtain⟨n,hn,h,hg⟩:=h;exact⟨n,hn,⟨(k.cell hg).trans h.code,(k.cell hg).trans h.read,fun o=>(World.frozen?_of_block (k.block g hg)).trans (h.free o),h.bytes.keep (Nat.le_refl _) fun a ha=>k.cell (Nat.lt_trans ha hg)⟩,Nat.lt_of_lt_of_le hg k.size⟩
theorem Qc2 {a b c:World} {g:Nat} {row:Option Nat} (h:a.grownBy b (some g)) (k:b.grownBy c row) (hr:∀j,row=some j→a.heap.size≤j∨j=g):a.grownBy c (some g):=by
  refine⟨k.os.trans h.os,k.tape.trans h.tape,k.output.trans h.output,Nat.le_trans h.size k.size,fun i hi hne=>(k.block i (Nat.lt_of_lt_of_le hi h.size) ?_).trans (h.block i hi hne)⟩;intro e;rcases hr i e.symm with h1 | h1
  · omega
  · exact hne (by rw[h1])
theorem Src.grown {w w':World} {g:Nat} {q:Option Addr} {c:Nat} {l:List UInt8} {N:Nat} {row:Option Nat} (h:Src w g q c l N) (k:w.grownBy w' row) (hr:∀j,row=some j→g<j):Src w' g q c l N:=by
  obtain⟨n,hn,h,hg⟩:=h;have hb:∀i,i≤g→w'.heap[i]? =w.heap[i]?:=fun i hi=>k.block i (by omega) (fun e=>by have:=hr i e.symm;omega);have hb0:=hb g (Nat.le_refl _);exact⟨n,hn,⟨(World.cell?_of_block hb0).trans h.code,(World.cell?_of_block hb0).trans h.read,fun o=>(World.frozen?_of_block hb0).trans (h.free o),h.bytes.keep (Nat.le_refl _) fun a ha=>World.cell?_of_block (hb a.block (by omega))⟩,Nat.lt_of_lt_of_le hg k.size⟩
theorem Src.more {w:World} {g:Nat} {q:Option Addr} {c:Nat} {l:List UInt8} {N M:Nat} (h:Src w g q c l N) (hm:N≤M):Src w g q c l M:=by
  obtain⟨n,hn,h,hg⟩:=h;exact⟨n,by omega,h,hg⟩
theorem Own.next {w2:World} {base:Nat} {v':Value} {bs:List UInt8} {x:Nat} (hx:x<256) (h:w2.ownsRow base 5 1 v' (bs.length+1) (bs.map (fun x:UInt8=>Value.int .u8 (x.toNat:Int))++[.int .u8 (x:Int)])):
    Own w2 base v' (bs++[UInt8.ofNat x]):=by
  have e:((UInt8.ofNat x).toNat:Int)=(x:Int):=(by simp;omega);unfold Own;rw[List.map_append,List.length_append];rw[List.map_cons,List.map_nil,e];exact h
theorem Own.past {w:World} {base g:Nat} {v:Value} {l:List UInt8} (h:Own w base v l) (hg:g<base):∀j,v.ownBlock=some j→g<j:=fun j hj=>Nat.lt_of_lt_of_le hg (World.ownsRow.lt h j hj).1
theorem Own.apart {w:World} {base g:Nat} {v:Value} {l:List UInt8} (h:Own w base v l) (hg:g<base):v.ownBlock=none∨v.ownBlock≠some g:=
  .inr fun e=>Nat.lt_irrefl _ (h.past hg g e)
theorem QhA (q:Option Addr) (c:Nat) (w:World):
    Calls Tryz.prog 97 #[.slice q 0 c] w (Ql w []):=by
  have HO:=Lib.hid (Xz w [] #[] w.heap.size 0 rfl rfl rfl (by simp))
  cases q
  all_goals
    go_enter Tryz.func97,Tryz.ntmps97;go_wp2;go_ret;exact⟨_,rfl,HO.out,(Below.refl _ _).alloc (Nat.le_refl _) _⟩
theorem Qgb (b off c:Nat) (l:List UInt8) (w:World) (hb:b<w.heap.size) (hl:l.length≤1048576) (hc:∀i,i<l.length→w.cell? ⟨b,off+i,none⟩=some (.int .u8 ((l.getD i 0).toNat:Int))):
    Calls Tryz.prog 97 #[.slice (some ⟨b,off,none⟩) l.length c] w (Ql w l):=by
  have HO:=Lib.hid (Xz w [] #[] w.heap.size 0 rfl rfl rfl (by simp));have HC:=Lib.hid hc;clear hc;obtain⟨i0,hi,hz0,hz1,hz2⟩:=info_parts Tryz.info_u8;have HI:=Lib.hid (And.intro hi (And.intro hz0 (And.intro hz1 hz2)));clear hi hz0 hz1 hz2;go_enter Tryz.func97,Tryz.ntmps97;go_wp2_with (at_builtin;refine wpList_append_own _ rfl _ _ 22 rfl w.heap.size 5 i0 (.int .u8 0) 1 1 Tryz.underlying22 HI.out.1 HI.out.2.1 HI.out.2.2.1 HI.out.2.2.2 rfl (by decide) _ _ _ rfl HO.out ⟨b,off,none⟩ l.length c (l.map fun x:UInt8=>Value.int .u8 (x.toNat:Int)) rfl (by simp) ?c1 ?c2 ?c3 ?c4 ?c5 ?_)
  case c1=>
    intro j u hj;have hlt:j<l.length:=by
      rcases Nat.lt_or_ge j l.length with h | h
      · exact h
      · rw[List.getElem?_eq_none (by simpa using h)] at hj;cases hj
    have ea:(⟨b,off,none⟩:Addr).add j=⟨b,off+j,none⟩:=(by simp[Addr.add]);rw[ea];refine(World.cell?_alloc_lt w _ _ hb).trans ((HC.out j hlt).trans ?_);simp[hlt] at hj ⊢;exact hj
  case c2=>intro u hu;simp at hu;obtain⟨x,_,rfl⟩:=hu;rfl
  case c3=>simp[maxLen];omega
  case c4=>simp;omega
  case c5=>simp
  intro v' w2 hown' hgrow _;have HF:=Lib.hid hown';have HG:=Lib.hid hgrow;clear hown' hgrow;go_wp2;go_ret;exact⟨_,rfl,by simpa [Own] using HF.out,((Below.refl _ _).alloc (Nat.le_refl _) _).grown HG.out (by simp) (fun k hk=>(HO.out.lt k hk).1)⟩
theorem ZG (q:Option Addr) (c:Nat) (l:List UInt8) (w:World) (h:Bs w w.heap.size q l) (hl:l.length≤1048576):
    Calls Tryz.prog 97 #[.slice q l.length c] w (Ql w l):=by
  by_cases hl0:l=[]
  · subst hl0;exact QhA q c w
  · obtain⟨b,off,rfl,hb,hc⟩:=h hl0;exact Qgb b off c l w hb hl hc
theorem Own.at {w:World} {base:Nat} {v:Value} {l:List UInt8} (h:Own w base v l) (h0:l≠[]):
    ∃g cap,v=.slice (some ⟨g,0,none⟩) l.length cap∧base≤g∧g<w.heap.size∧(∀i,i<l.length→w.cell? ⟨g,i,none⟩=some (.int .u8 ((l.getD i 0).toNat:Int)))∧∀o,w.frozen? ⟨g,o,none⟩=false:=by
  rcases h.form with⟨_,e⟩ | ⟨g,cap,e,hb,hlt,_⟩
  · exact absurd e h0
  · refine⟨g,cap,e,hb,hlt,?_,?_⟩
    · subst e;obtain⟨b,off,e,_,hc⟩:=h.bs.2 h0;simp at e;obtain⟨rfl,rfl⟩:=e;intro i hi;simpa using hc i hi
    · intro o;rcases h.2 with⟨e',_⟩ | ⟨g',cap',cur,e',_,hh,_⟩
      · rw[e] at e';simp at e'
      · rw[e] at e';simp at e';obtain⟨rfl,-⟩:=e';simp[World.frozen?,hh]
theorem Bs.set {w:World} {g i:Nat} {x:UInt8} {l:List UInt8} (hi:i<l.length) (hlt:g<w.heap.size) (hc:∀i,i<l.length→w.cell? ⟨g,i,none⟩=some (.int .u8 ((l.getD i 0).toNat:Int))):
    Bs (w.setCell ⟨g,i,none⟩ (.int .u8 (x.toNat:Int))) (w.setCell ⟨g,i,none⟩ (.int .u8 (x.toNat:Int))).heap.size (some ⟨g,0,none⟩) (l.set i x):=by
  intro _;refine⟨g,0,rfl,by simp[hlt],fun j hj=>?_⟩;rw[List.length_set] at hj;rw[Nat.zero_add];by_cases e:i=j
  · subst e;rw[World.cell?_setCell_same _ _ _ (hc i hi)];simp[hi]
  · rw[World.cell?_setCell_other _ _ _ _ (by simp),hc j hj];simp[e]
structure DE (w:World) (g:Nat) (q:Option Addr) (c:Nat) (l:List UInt8) (N:Nat) (v:Value) (bs:List UInt8) (W:World):Prop where
  src:Src W g q c l N
  own:Own W (w.heap.size+1) v bs
  kept:w.grownBy W (some g)
  lt:g<w.heap.size
theorem DE.set {w:World} {g:Nat} {q:Option Addr} {c:Nat} {l:List UInt8} {N:Nat} {v:Value} {bs:List UInt8} {W:World} (h:DE w g q c l N v bs W) (o:Nat) (u:Value):
    DE w g q c l N v bs (W.setCell ⟨w.heap.size,o,none⟩ u):=by
  have hg:W.grownBy (W.setCell ⟨w.heap.size,o,none⟩ u) (some w.heap.size):=⟨rfl,rfl,rfl,by simp,fun b _ hb=>Below.heap_setCell _ _ _ _ (fun e=>hb (by rw[e]))⟩;exact⟨h.src.grown hg (fun j hj=>by cases hj;exact h.lt),h.own.setBelow (Nat.lt_succ_self _) _,Qc2 h.kept hg (fun j hj=>by cases hj;exact .inl (Nat.le_refl _)),h.lt⟩
theorem DE.of {w:World} {g:Nat} {q:Option Addr} {c:Nat} {l:List UInt8} {N M:Nat} {v:Value} {bs:List UInt8} {W:World} {o:Obj} (hg:(w.alloc o).grownBy W (some g)) (hs:Src W g q c l M) (hM:M≤N) (ho:Own W (w.heap.size+1) v bs) (hgw:g<w.heap.size):DE w g q c l N v bs W:=
  ⟨hs.more hM,ho,Qc2 (World.grownBy_alloc w o (some g)) hg (fun j hj=>.inr (by cases hj;rfl)),hgw⟩
def Qmg (w:World) (ev:Ev) (e:Ending) (w':World):Prop:=
  ∃p c,e=.returned (evV ev p c)∧Own w' w.heap.size (.slice p ev.data.length c) ev.data∧Below w.heap.size w w'
def OB (w:World) (s B:Nat) (v:Value) (bs:List UInt8) (W:World):Prop:=Own W B v bs∧Below s w W
theorem OB.set {w:World} {s B:Nat} {v:Value} {bs:List UInt8} {W:World} (h:OB w s B v bs W) (b o:Nat) (u:Value) (h1:b<B) (h2:s≤b):OB w s B v bs (W.setCell ⟨b,o,none⟩ u):=
  ⟨h.1.setBelow h1 u,h.2.setCell h2 u⟩
theorem OB.ev {w:World} {B:Nat} {ev:Ev} {p:Option Addr} {c:Nat} {W:World} (h:OB w w.heap.size B (.slice p ev.data.length c) ev.data W) (hB:w.heap.size≤B):Qmg w ev (.returned (evV ev p c)) W:=
  ⟨p,c,rfl,h.1.lower hB,h.2⟩
end Go.Proofs.YtbfickdgjgbfhaaGreatDoor
