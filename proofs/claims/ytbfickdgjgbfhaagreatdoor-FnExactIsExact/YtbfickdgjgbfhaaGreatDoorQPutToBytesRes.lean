/- The contracts of the model's l1Put and of utf8.AppendRune onto nil: a code point's bytes. -/
import Derived.Test.YtbfickdgjgbfhaaGreatDoorQFaultToFirstFull
import Derived.Laws.OwnMore
import Derived.Lib.RuneBytes
set_option maxRecDepth 100000
set_option maxHeartbeats 2000000
namespace Go.Proofs.YtbfickdgjgbfhaaGreatDoor
open Go.RowKit
def UO (p:Int):List Int:=
  if p<128 then [p] else if p<2048 then [192+p / 64,128+p % 64] else if p<65536 then [224+p / 4096,128+p / 64 % 64,128+p % 64]
  else [240+p / 262144,128+p / 4096 % 64,128+p / 64 % 64,128+p % 64]
def Ye (p:Int):List UInt8:=(UO p).map fun x=>UInt8.ofNat x.toNat
theorem QcV {p:Int} (h0:0≤p) (h1:p≤1114111):∀x∈UO p,0≤x∧x<256:=by
  intro x hx;unfold UO at hx;split at hx
  · simp at hx;omega
  split at hx
  · simp at hx;omega
  split at hx
  · simp at hx;omega
  · simp at hx;omega
theorem QcW {p:Int} (h0:0≤p) (h1:p≤1114111):(Ye p).map (fun x:UInt8=>Value.int .u8 (x.toNat:Int))=(UO p).map (Value.int .u8):=by
  unfold Ye;rw[List.map_map];apply List.map_congr_left;intro x hx;have:=QcV h0 h1 x hx;simp;omega
theorem XK {p:Int} (h:Yq p=true):0≤p∧p≤1114111∧¬(55296≤p∧p≤57343):=by
  simp[Yq,inR] at h;omega
def Own (w:World) (base:Nat) (v:Value) (l:List UInt8):Prop:=
  w.ownsRow base 5 1 v l.length (l.map fun x:UInt8=>Value.int .u8 (x.toNat:Int))
theorem Xz (w:World) (l:List UInt8) (cs:Array Value) (g n:Nat) (hg:g=w.heap.size) (hn:n=l.length) (hcs:cs=Yu l) (hm:l.length≤1048576):
    Own (w.alloc (.cells cs 5)) w.heap.size (.slice (some ⟨g,0,none⟩) n n) l:=by
  subst hg;subst hn;subst hcs;have h:=World.ownsRow_lit (base:=w.heap.size) (e:=5) (size:=1) w (Yu l) l.length (Nat.le_refl _) (by simp[maxLen];omega) (by simp[Yu]);simpa [Own,Yu] using h
def Ql (w:World) (l:List UInt8) (e:Ending) (w':World):Prop:=∃v,e=.returned v∧Own w' w.heap.size v l∧Below w.heap.size w w'
theorem Yi {p:Int}:(Ye p).length=(UO p).length:=by simp[Ye]
theorem Xv (p:Int):1≤(UO p).length∧(UO p).length≤4:=by
  unfold UO;split
  · simp
  split
  · simp
  split <;> simp
theorem QdL {p:Int} (h0:0≤p) (h1:p≤1114111) (w:World) (zs:List Int) (hz:UO p=zs):
    Ql w (Ye p) (.returned (.slice (some ⟨w.heap.size,0,none⟩) zs.length zs.length)) (w.alloc (.cells (zs.map (Value.int .u8)).toArray 5)):=by
  subst hz;have hs:=Xv p;exact⟨_,rfl,Xz w (Ye p) _ _ _ rfl Yi.symm (by rw[Yu,QcW h0 h1]) (by rw[Yi];omega),(Below.refl _ _).alloc (Nat.le_refl _) _⟩
theorem Qg2 {p:Int} (c1:p<128):UO p=[p]:=by unfold UO;rw[if_pos c1]
theorem Qg3 {p:Int} (c1:128≤p) (c2:p<2048):UO p=[192+p / 64,128+p % 64]:=by unfold UO;rw[if_neg (by omega),if_pos c2]
theorem QeL {p:Int} (c2:2048≤p) (c3:p<65536):UO p=[224+p / 4096,128+p / 64 % 64,128+p % 64]:=by unfold UO;rw[if_neg (by omega),if_neg (by omega),if_pos c3]
theorem Qg4 {p:Int} (c3:65536≤p):UO p=[240+p / 262144,128+p / 4096 % 64,128+p / 64 % 64,128+p % 64]:=by unfold UO;rw[if_neg (by omega),if_neg (by omega),if_neg (by omega)]
theorem YV (p:Int) (w:World) (h0:0≤p) (h1:p≤1114111):
    Calls Tryz.prog 166 #[.int .i64 p] w (Ql w (Ye p)):=by
  by_cases c1:p<128
  · have HP:=Lib.hid (QdL h0 h1 w _ (Qg2 c1));go_enter Tryz.func166,Tryz.ntmps166;go_wp2;go_ret;exact HP.out
  by_cases c2:p<2048
  · have HP:=Lib.hid (QdL h0 h1 w _ (Qg3 (by omega) c2));go_enter Tryz.func166,Tryz.ntmps166;go_wp2;go_ret;exact HP.out
  by_cases c3:p<65536
  · have HP:=Lib.hid (QdL h0 h1 w _ (QeL (by omega) c3));go_enter Tryz.func166,Tryz.ntmps166;go_wp2;go_ret;exact HP.out
  · have HP:=Lib.hid (QdL h0 h1 w _ (Qg4 (by omega)));go_enter Tryz.func166,Tryz.ntmps166;go_wp2;go_ret;exact HP.out
theorem appended {p:Int} (h0:0≤p) (h1:p≤1114111) (w w2:World) (o:Obj) (zs:List Int) (v':Value) (n:Nat) (hz:UO p=zs) (hn:n=zs.length)
    (hown:w2.ownsRow w.heap.size 5 1 v' n (zs.map (Value.int .u8))) (hg:(w.alloc o).grownBy w2 none):Ql w (Ye p) (.returned v') w2:=by
  subst hz;subst hn;refine⟨v',rfl,?_,((Below.refl _ _).alloc (Nat.le_refl _) o).grown hg (by simp) (fun k hk=>by cases hk)⟩;rw[Own,QcW h0 h1,Yi];exact hown
theorem Qcp (p:Int) (w:World) (h0:128≤p) (h1:p<2048):
    Calls Tryz.prog 207 #[.slice none 0 0,.int .i32 p] w (Ql w (Ye p)):=by
  have HP:=Lib.hid (fun w2 o v'=>appended (by omega) (by omega) w w2 o _ v' 2 (Qg3 h0 h1) rfl);obtain⟨i0,hi,hz0,hz1,hz2⟩:=info_parts Tryz.info_u8;go_enter Tryz.func207,Tryz.ntmps207;go_wp2_with (at_builtin;refine wpList_append_own _ rfl _ _ 22 rfl w.heap.size 5 i0 (.int .u8 0) 1 1 Tryz.underlying22 hi hz0 hz1 hz2 rfl (by decide) _ _ _ rfl ((World.ownsRow_nil w _ _ _).alloc _) ⟨w.heap.size,0,none⟩ 2 2 [.int .u8 (192+p / 64),.int .u8 (128+p % 64)] rfl rfl ?c1 ?c2 ?c3 ?c4 ?c5 ?_)
  case c1=>
    intro j u hj
    match j,hj with
      | 0,hj=>simp at hj;subst hj;simp[Addr.add]
      | 1,hj=>simp at hj;subst hj;simp[Addr.add]
      | (j+2),hj=>simp at hj
  case c2=>intro u hu;simp at hu;rcases hu with rfl | rfl <;> rfl
  case c3=>unfold maxLen;omega
  case c4=>omega
  case c5=>simp
  intro v' w2 hown' hgrow _;go_wp2;go_ret;exact HP.out _ _ _ (by simpa using hown') hgrow
theorem QdM (p:Int) (w:World) (h0:2048≤p) (h1:p<55296):
    Calls Tryz.prog 207 #[.slice none 0 0,.int .i32 p] w (Ql w (Ye p)):=by
  have HP:=Lib.hid (fun w2 o v'=>appended (by omega) (by omega) w w2 o _ v' 3 (QeL h0 (by omega)) rfl);obtain⟨i0,hi,hz0,hz1,hz2⟩:=info_parts Tryz.info_u8;go_enter Tryz.func207,Tryz.ntmps207;go_wp2_with (at_builtin;refine wpList_append_own _ rfl _ _ 22 rfl w.heap.size 5 i0 (.int .u8 0) 1 1 Tryz.underlying22 hi hz0 hz1 hz2 rfl (by decide) _ _ _ rfl ((World.ownsRow_nil w _ _ _).alloc _) ⟨w.heap.size,0,none⟩ 3 3 [.int .u8 (224+p / 4096),.int .u8 (128+p / 64 % 64),.int .u8 (128+p % 64)] rfl rfl ?c1 ?c2 ?c3 ?c4 ?c5 ?_)
  case c1=>
    intro j u hj
    match j,hj with
      | 0,hj=>simp at hj;subst hj;simp[Addr.add]
      | 1,hj=>simp at hj;subst hj;simp[Addr.add]
      | 2,hj=>simp at hj;subst hj;simp[Addr.add]
      | (j+3),hj=>simp at hj
  case c2=>intro u hu;simp at hu;rcases hu with rfl | rfl | rfl <;> rfl
  case c3=>unfold maxLen;omega
  case c4=>omega
  case c5=>simp
  intro v' w2 hown' hgrow _;go_wp2;go_ret;exact HP.out _ _ _ (by simpa using hown') hgrow
theorem QdN (p:Int) (w:World) (h0:57343<p) (h1:p<65536):
    Calls Tryz.prog 207 #[.slice none 0 0,.int .i32 p] w (Ql w (Ye p)):=by
  have HP:=Lib.hid (fun w2 o v'=>appended (by omega) (by omega) w w2 o _ v' 3 (QeL (by omega) h1) rfl);obtain⟨i0,hi,hz0,hz1,hz2⟩:=info_parts Tryz.info_u8;go_enter Tryz.func207,Tryz.ntmps207;go_wp2_with (at_builtin;refine wpList_append_own _ rfl _ _ 22 rfl w.heap.size 5 i0 (.int .u8 0) 1 1 Tryz.underlying22 hi hz0 hz1 hz2 rfl (by decide) _ _ _ rfl ((World.ownsRow_nil w _ _ _).alloc _) ⟨w.heap.size,0,none⟩ 3 3 [.int .u8 (224+p / 4096),.int .u8 (128+p / 64 % 64),.int .u8 (128+p % 64)] rfl rfl ?c1 ?c2 ?c3 ?c4 ?c5 ?_)
  case c1=>
    intro j u hj
    match j,hj with
      | 0,hj=>simp at hj;subst hj;simp[Addr.add]
      | 1,hj=>simp at hj;subst hj;simp[Addr.add]
      | 2,hj=>simp at hj;subst hj;simp[Addr.add]
      | (j+3),hj=>simp at hj
  case c2=>intro u hu;simp at hu;rcases hu with rfl | rfl | rfl <;> rfl
  case c3=>unfold maxLen;omega
  case c4=>omega
  case c5=>simp
  intro v' w2 hown' hgrow _;go_wp2;go_ret;exact HP.out _ _ _ (by simpa using hown') hgrow
theorem QaH (p:Int) (w:World) (h0:65536≤p) (h1:p≤1114111):
    Calls Tryz.prog 207 #[.slice none 0 0,.int .i32 p] w (Ql w (Ye p)):=by
  have HP:=Lib.hid (fun w2 o v'=>appended (by omega) (by omega) w w2 o _ v' 4 (Qg4 h0) rfl);obtain⟨i0,hi,hz0,hz1,hz2⟩:=info_parts Tryz.info_u8;go_enter Tryz.func207,Tryz.ntmps207;go_wp2_with (at_builtin;refine wpList_append_own _ rfl _ _ 22 rfl w.heap.size 5 i0 (.int .u8 0) 1 1 Tryz.underlying22 hi hz0 hz1 hz2 rfl (by decide) _ _ _ rfl ((World.ownsRow_nil w _ _ _).alloc _) ⟨w.heap.size,0,none⟩ 4 4 [.int .u8 (240+p / 262144),.int .u8 (128+p / 4096 % 64),.int .u8 (128+p / 64 % 64),.int .u8 (128+p % 64)] rfl rfl ?c1 ?c2 ?c3 ?c4 ?c5 ?_)
  case c1=>
    intro j u hj
    match j,hj with
      | 0,hj=>simp at hj;subst hj;simp[Addr.add]
      | 1,hj=>simp at hj;subst hj;simp[Addr.add]
      | 2,hj=>simp at hj;subst hj;simp[Addr.add]
      | 3,hj=>simp at hj;subst hj;simp[Addr.add]
      | (j+4),hj=>simp at hj
  case c2=>intro u hu;simp at hu;rcases hu with rfl | rfl | rfl | rfl <;> rfl
  case c3=>unfold maxLen;omega
  case c4=>omega
  case c5=>simp
  intro v' w2 hown' hgrow _;go_wp2;go_ret;exact HP.out _ _ _ (by simpa using hown') hgrow
theorem Qcq (p:Int) (w:World) (h0:0≤p) (h1:p<128):
    Calls Tryz.prog 189 #[.slice none 0 0,.int .i32 p] w (Ql w (Ye p)):=by
  have HP:=Lib.hid (fun w2 o v'=>appended (by omega) (by omega) w w2 o _ v' 1 (Qg2 h1) rfl);obtain⟨i0,hi,hz0,hz1,hz2⟩:=info_parts Tryz.info_u8;go_enter Tryz.func189,Tryz.ntmps189;go_wp2_with (at_builtin;refine wpList_append_own _ rfl _ _ 22 rfl w.heap.size 5 i0 (.int .u8 0) 1 1 Tryz.underlying22 hi hz0 hz1 hz2 rfl (by decide) _ _ _ rfl ((World.ownsRow_nil w _ _ _).alloc _) ⟨w.heap.size,0,none⟩ 1 1 [.int .u8 p] rfl rfl ?c1 ?c2 ?c3 ?c4 ?c5 ?_)
  case c1=>
    intro j u hj
    match j,hj with
      | 0,hj=>simp at hj;subst hj;simp[Addr.add]
      | (j+1),hj=>simp at hj
  case c2=>intro u hu;simp at hu;subst hu;rfl
  case c3=>unfold maxLen;omega
  case c4=>omega
  case c5=>simp
  intro v' w2 hown' hgrow _;go_wp2;go_ret;exact HP.out _ _ _ (by simpa using hown') hgrow
theorem JL (p:Int) (w:World) (h0:128≤p) (h1:p≤1114111) (hs:¬(55296≤p∧p≤57343)):
    Calls Tryz.prog 207 #[.slice none 0 0,.int .i32 p] w (Ql w (Ye p)):=by
  by_cases c2:p<2048
  · exact Qcp p w h0 c2
  by_cases c3:p<55296
  · exact QdM p w (by omega) c3
  by_cases c4:p<65536
  · exact QdN p w (by omega) c4
  · exact QaH p w (by omega) h1
theorem Qcr (p:Int) (w:World) (h:Yq p=true):
    Calls Tryz.prog 189 #[.slice none 0 0,.int .i32 p] w (Ql w (Ye p)):=by
  obtain⟨h0,h1,hs⟩:=XK h;clear h;by_cases c1:p<128
  · exact Qcq p w h0 c1
  · go_enter Tryz.func189,Tryz.ntmps189;go_wp2_with (go_at_call 207;refine(JL p _ (by omega) h1 hs).mono ?_;rintro e w1 ⟨v,rfl,ho,hb⟩);go_ret;exact⟨v,rfl,ho,hb⟩
theorem Own.form {w:World} {base:Nat} {v:Value} {l:List UInt8} (h:Own w base v l):
    (v=.slice none 0 0∧l=[])∨∃g cap,v=.slice (some ⟨g,0,none⟩) l.length cap∧base≤g∧g<w.heap.size∧v.ownBlock=some g:=by
  rcases h.2 with⟨rfl,hn⟩ | ⟨g,cap,cur,rfl,hb,hh,_⟩
  · exact .inl ⟨rfl,List.eq_nil_of_length_eq_zero hn⟩
  · refine .inr ⟨g,cap,rfl,hb,?_,rfl⟩;rcases Nat.lt_or_ge g w.heap.size with h | h
    · exact h
    · rw[Array.getElem?_eq_none h] at hh;cases hh
theorem Own.keep {w w':World} {base:Nat} {v:Value} {l:List UInt8} (h:Own w base v l) (hk:∀g,v.ownBlock=some g→w'.heap[g]? =w.heap[g]?):Own w' base v l:=by
  refine⟨h.1,?_⟩;rcases h.2 with h' | ⟨g,cap,cur,rfl,hb,hh,r⟩
  · exact .inl h'
  · exact .inr ⟨g,cap,cur,rfl,hb,(hk g rfl).trans hh,r⟩
theorem Own.lt {w:World} {base:Nat} {v:Value} {l:List UInt8} (h:Own w base v l):∀g,v.ownBlock=some g→base≤g∧g<w.heap.size:=World.ownsRow.lt h
theorem Own.below {w w':World} {base B:Nat} {v:Value} {l:List UInt8} (h:Own w base v l) (hb:Below B w w') (hB:∀g,v.ownBlock=some g→g<B):Own w' base v l:=h.keep fun g hg=>hb.block g (hB g hg)
theorem Own.on {w w':World} {base:Nat} {v:Value} {l:List UInt8} (h:Own w base v l) (hb:Below w.heap.size w w'):Own w' base v l:=h.below hb fun g hg=>(h.lt g hg).2
theorem Own.far {w w':World} {base:Nat} {v:Value} {l:List UInt8} (h:Own w base v l) {row:Option Nat} (hb:w.grownBy w' row) (hr:∀g,v.ownBlock=some g→some g≠row):Own w' base v l:=h.keep fun g hg=>hb.block g (h.lt g hg).2 (hr g hg)
theorem Own.bs {w:World} {base:Nat} {p:Option Addr} {n c:Nat} {l:List UInt8} (h:Own w base (.slice p n c) l):n=l.length∧Bs w w.heap.size p l:=by
  rcases h.form with⟨e,rfl⟩ | ⟨g,cap,e,_,hlt,_⟩
  · simp at e;exact⟨by simp[e.2.1],fun h=>absurd rfl h⟩
  · simp at e;obtain⟨rfl,rfl,rfl⟩:=e;refine⟨rfl,fun _=>⟨g,0,rfl,hlt,fun i hi=>?_⟩⟩;have:=World.ownsRow.cellAt h i (by simpa using hi);simp at this ⊢;rw[this];simp[hi]
theorem Q4 {a b c:World} {row:Option Nat} (h:a.grownBy b row) (k:b.grownBy c row):a.grownBy c row:=
  ⟨k.os.trans h.os,k.tape.trans h.tape,k.output.trans h.output,Nat.le_trans h.size k.size,fun i hi hne=>(k.block i (Nat.lt_of_lt_of_le hi h.size) hne).trans (h.block i hi hne)⟩
theorem XW {a b:World} (h:Below a.heap.size a b) (row:Option Nat):a.grownBy b row:=⟨h.os,h.tape,h.output,h.size,fun i hi _=>h.block i hi⟩
theorem Jl {a b:World} {B:Nat} {row:Option Nat} (h:a.grownBy b row) (hB:B≤a.heap.size) (hr:∀g,row=some g→B≤g):Below B a b:=
  ⟨h.os,h.tape,h.output,h.size,fun i hi=>h.block i (by omega) (fun e=>by have:=hr i e.symm;omega)⟩
theorem Own.lower {w:World} {base base':Nat} {v:Value} {l:List UInt8} (h:Own w base v l) (hb:base'≤base):Own w base' v l:=by
  refine⟨h.1,?_⟩;rcases h.2 with h' | ⟨g,cap,cur,e,hg,r⟩
  · exact .inl h'
  · exact .inr ⟨g,cap,cur,e,by omega,r⟩
theorem Own.slice {w:World} {base:Nat} {v:Value} {l:List UInt8} (h:Own w base v l):∃p c,v=.slice p l.length c:=by
  rcases h.form with⟨rfl,rfl⟩ | ⟨g,cap,rfl,_⟩
  · exact⟨_,_,rfl⟩
  · exact⟨_,_,rfl⟩
theorem Own.setBelow {w:World} {base:Nat} {v:Value} {l:List UInt8} (h:Own w base v l) {a:Addr} (ha:a.block<base) (u:Value):Own (w.setCell a u) base v l:=ownsRow_setCell_below h ha u
theorem QT (w:World) (base:Nat):Own w base (.slice none 0 0) []:=World.ownsRow_nil w _ _ _
def QcX (k n:Nat):List UInt8:=(List.range n).map fun i=>UInt8.ofNat (k+i)
theorem Vr (k n:Nat):(QcX k n).length=n:=by simp[QcX]
theorem Own.stored {w:World} {base g cap n:Nat} {l:List UInt8} (h:Own w base (.slice (some ⟨g,0,none⟩) n cap) l) (j:Nat) (x:UInt8):
    Own (w.setCell ⟨g,j,none⟩ (.int .u8 (x.toNat:Int))) base (.slice (some ⟨g,0,none⟩) n cap) (l.set j x)∧w.grownBy (w.setCell ⟨g,j,none⟩ (.int .u8 (x.toNat:Int))) (some g):=by
  have hn:=h.bs.1;subst hn;obtain⟨h1,h2⟩:=World.ownsRow.stored h j (.int .u8 (x.toNat:Int));refine⟨?_,h2⟩;rw[Own,List.map_set,List.length_set];exact h1
theorem Own.cellAt {w:World} {base g cap n:Nat} {l:List UInt8} (h:Own w base (.slice (some ⟨g,0,none⟩) n cap) l) (j:Nat) (hj:j<l.length):
    w.cell? ⟨g,j,none⟩=some (.int .u8 ((l.getD j 0).toNat:Int))∧w.frozen? ⟨g,j,none⟩=false:=by
  have hn:=h.bs.1;subst hn;refine⟨?_,World.ownsRow.frozenAt h j⟩;rw[World.ownsRow.cellAt h j (by simpa using hj)];simp[hj]
def brV (code:Int) (v:Value):Value:=.agg #[.int .i64 code,v]
def XP (w:World) (code:Int) (l:List UInt8) (e:Ending) (w':World):Prop:=
  ∃v,e=.returned (brV code v)∧Own w' w.heap.size v l∧Below w.heap.size w w'
def QaI (p:Int):Int:=if Yq p=true then 0 else 3
def KB (p:Int):List UInt8:=if Yq p=true then Ye p else []
theorem Qjz {w w1:World} {o:Obj} {code:Int} {v u1 u2:Value} {l:List UInt8} (ho:Own w1 (w.alloc o).heap.size v l) (hb:Below (w.alloc o).heap.size (w.alloc o) w1):
    XP w code l (.returned (brV code v)) ((w1.setCell ⟨w.heap.size,0,none⟩ u1).setCell ⟨w.heap.size,1,none⟩ u2):=by
  have hz:w.heap.size<(w.alloc o).heap.size:=(by simp);refine⟨v,rfl,((ho.setBelow (a:=⟨w.heap.size,0,none⟩) hz u1).setBelow (a:=⟨w.heap.size,1,none⟩) hz u2).lower (by simp),?_⟩;exact((Qa ((Below.refl _ _).alloc (Nat.le_refl _) o) hb).setCell (Nat.le_refl _) _).setCell (Nat.le_refl _) _
theorem XC (p:Int) (w:World):Calls Tryz.prog 171 #[.int .i64 p] w (XP w (QaI p) (KB p)):=by
  cases h:Yq p
  · have HP:Hid (QaI p=3∧KB p=[]):=(by simp[Hid,QaI,KB,h]);go_enter Tryz.func171,Tryz.ntmps171;go_wp2_with (go_at_call 136;refine(XJ _ _).mono ?_;rintro e w1 ⟨rfl,hb⟩;obtain⟨hc,hf⟩:=Qq hb);rw[HP.out.1,HP.out.2];exact bodyPost_ret (v:=brV 3 (.slice none 0 0)) (by simp[results,Tryz.results171,brV,go_sem,hc]) rfl (Qjz (QT _ _) hb)
  · have HP:Hid (QaI p=0∧KB p=Ye p):=(by simp[Hid,QaI,KB,h]);obtain⟨h0,h1,_⟩:=XK h;go_enter Tryz.func171,Tryz.ntmps171;go_wp2_with (first
      | (go_at_call 136;refine(XJ _ _).mono ?_;rintro e w1 ⟨rfl,hb1⟩;obtain⟨hc1,hf1⟩:=Qq hb1)
      | (go_at_call 189;refine(Qcr p _ h).mono ?_;rintro e w2 ⟨v,rfl,ho,hb2⟩;have hc:=Kb hb2 w.heap.size (by have:=hb1.size;simp at this;omega);have hf:=Kc hb2 w.heap.size (by have:=hb1.size;simp at this;omega);obtain⟨pp,cc,hv⟩:=ho.slice;subst hv))
    rw[HP.out.1,HP.out.2];exact bodyPost_ret (v:=brV 0 (.slice pp (Ye p).length cc)) (by simp[results,Tryz.results171,brV,go_sem,hc,hc1]) rfl (Qjz (ho.lower hb1.size) (Qa hb1 hb2))
end Go.Proofs.YtbfickdgjgbfhaaGreatDoor
