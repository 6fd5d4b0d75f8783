/- Tokens as plain data, and the contracts of what makes one: keyToken, keyResult; the model's l3Token, l3Key, l3Bad. -/
import Derived.Test.YtbfickdgjgbfhaaGreatDoorQFaultToFirstFull
import Derived.Test.YtbfickdgjgbfhaaGreatDoorQPutToBytesRes
import Derived.Test.YtbfickdgjgbfhaaGreatDoorQBytesToCells
import Derived.Test.YtbfickdgjgbfhaaGreatDoorQNumsToIsSpecial
import Derived.Deep.RegionHeld3
import Derived.Deep.QuietTactic
set_option linter.unusedVariables false
set_option maxRecDepth 100000
set_option maxHeartbeats 4000000
namespace Go.Proofs.YtbfickdgjgbfhaaGreatDoor
open Go.RowKit
structure Tk where
  code:Int
  ev:Ev
  size:Int
  paste:Bool
  none:Bool
def Xy:Ev:=⟨0,0,0,0,0,0,0,[]⟩
def QL (code mods:Int):Ev:=⟨1,code,mods,0,0,0,0,[]⟩
def Qo (code mods size:Int):Tk:=⟨0,QL code mods,size,false,false⟩
def Qf (c:Int):Tk:=⟨c,Xy,0,false,false⟩
def Xx (e:Ev) (v:Value) (size:Int) (paste none:Bool):Value:=
  .agg #[.int .i64 e.kind,.int .i64 e.code,.int .i64 e.mods,.int .i64 e.button,.int .i64 e.act,.int .i64 e.col,.int .i64 e.row,v,.int .i64 size,.bool paste,.bool none]
def tkV (t:Tk) (v:Value):Value:=
  .agg #[.int .i64 t.code,.int .i64 t.ev.kind,.int .i64 t.ev.code,.int .i64 t.ev.mods,.int .i64 t.ev.button,.int .i64 t.ev.act,.int .i64 t.ev.col,.int .i64 t.ev.row,v,.int .i64 t.size,.bool t.paste,.bool t.none]
def tkL (t:Tk) (v:Value):List Value:=
  [.int .i64 t.code,.int .i64 t.ev.kind,.int .i64 t.ev.code,.int .i64 t.ev.mods,.int .i64 t.ev.button,.int .i64 t.ev.act,.int .i64 t.ev.col,.int .i64 t.ev.row,v,.int .i64 t.size,.bool t.paste,.bool t.none]
def Qm (w:World) (t:Tk) (e:Ending) (w':World):Prop:=e=.returned (tkV t (.slice none 0 0))∧Below w.heap.size w w'
def QM (w:World) (t:Tk) (e:Ending) (w':World):Prop:=∃v,e=.returned (tkV t v)∧Own w' w.heap.size v t.ev.data∧Below w.heap.size w w'
theorem Qm.new {w:World} {t:Tk} {e:Ending} {w':World} (ht:t.ev.data=[]) (h:Qm w t e w'):QM w t e w':=⟨_,h.1,by rw[ht];exact QT _ _,h.2⟩
def sets (w:World) (b:Nat):Nat→List Value→World
  | _,[]=>w
  | i,v::r=>sets (w.setCell ⟨b,i,none⟩ v) b (i+1) r
theorem QK {B b:Nat} (hB:B≤b):∀(vs:List Value) (i:Nat) (a w:World),Below B a w→Below B a (sets w b i vs)
  | [],_,_,_,h=>h
  | _::r,i,a,_,h=>QK hB r (i+1) a _ (h.setCell hB _)
theorem Kf {b base:Nat} {v:Value} {l:List UInt8} (hb:b<base):∀(vs:List Value) (i:Nat) (w:World),Own w base v l→Own (sets w b i vs) base v l
  | [],_,_,h=>h
  | _::r,i,_,h=>Kf hb r (i+1) _ (h.setBelow (a:=⟨b,i,none⟩) hb _)
theorem Xs {w w1:World} {o:Obj} {t:Tk} {v:Value} (vs:List Value) (ho:Own w1 (w.alloc o).heap.size v t.ev.data) (hb:Below (w.alloc o).heap.size (w.alloc o) w1):
    QM w t (.returned (tkV t v)) (sets w1 w.heap.size 0 vs):=
  ⟨v,rfl,(Kf (by simp) vs 0 _ ho).lower (by simp),QK (Nat.le_refl _) vs 0 _ _ (Qa (Qb _ o) hb)⟩
theorem Qu {w w1:World} {o:Obj} {t:Tk} (vs:List Value) (hb:Below (w.alloc o).heap.size (w.alloc o) w1):
    Qm w t (.returned (tkV t (.slice none 0 0))) (sets w1 w.heap.size 0 vs):=
  ⟨rfl,QK (Nat.le_refl _) vs 0 _ _ (Qa (Qb _ o) hb)⟩
theorem YR (c m s:Int) (w:World):Calls Tryz.prog 138 #[.int .i64 c,.int .i64 m,.int .i64 s] w fun e w'=>e=.returned (Xx (QL c m) (.slice none 0 0) s false false)∧Below w.heap.size w w':=by
  go_enter Tryz.func138,Tryz.ntmps138;go_wp2;exact bodyPost_ret (v:=Xx (QL c m) (.slice none 0 0) s false false) (by simp[results,Tryz.results138,Xx,QL,go_sem]) rfl ⟨rfl,Qb _ _⟩
theorem XQ (c m s:Int) (w:World):Calls Tryz.prog 184 #[.int .i64 c,.int .i64 m,.int .i64 s] w (Qm w (Qo c m s)):=by
  go_enter Tryz.func184,Tryz.ntmps184;go_wp2_with (go_at_call 138;refine(YR _ _ _ _).mono ?_;rintro e w1 ⟨rfl,hb⟩;unfold Xx QL;obtain⟨hc,hf⟩:=Qq hb);exact bodyPost_ret (v:=tkV (Qo c m s) (.slice none 0 0)) (by simp[results,Tryz.results184,tkV,Qo,QL,go_sem,hc]) rfl (Qu (tkL (Qo c m s) (.slice none 0 0)) hb)
theorem QlV {P:Program} {ops:Array Oper} {Q:Exit→Act→World→Prop} {md:Region.Mode} {S:World→Prop} {fuel:Nat} {listed:Array Bool} {a:Act} {w:World} (i d:Nat) (v:Value)
    (hi:(ops[i]?).map (fun o=>o.dst)=some (some d)) (hs:Region.noSelect ops=true) (hf:Region.free md ops listed i=true) (hr:(Region.ready md ops listed).contains i=true)
    (hQ:∀c (a:Act) w,Q (.panic c) (a.put (some d) v) w→Q (.panic c) a w) (hw:(ops[i]?).map (fun o=>Region.wanted o (yielded ops a.tmps))=some true)
    (hv:∀w o,S w→some o=ops[i]? →(execOp a.eval o).run P w=.ok (.value v) w) (hS:S w)
    (h:wpAnyH P md ops Q S fuel (listed.setIfInBounds i true) (a.put (some d) v) w):wpAnyH P md ops Q S (fuel+1) listed a w:=by
  cases ho:ops[i]? with
  | none=>rw[ho] at hi;simp at hi
  | some o=>
    rw[ho] at hi hw;simp only[Option.map_some,Option.some.injEq] at hi hw;exact wpAnyH_take ho hs hf hr (by rw[hi];exact hQ) (Or.inl ⟨hw,fun w hSw=>hv w o hSw ho.symm⟩) hS (by rw[hi];exact h)
theorem Qmf {P:Program} {ops:Array Oper} {Q:Exit→Act→World→Prop} {md:Region.Mode} {S:World→Prop} {fuel:Nat} {listed:Array Bool} {a:Act} {w:World} (i d:Nat)
    (hi:(ops[i]?).map (fun o=>o.dst)=some (some d)) (hs:Region.noSelect ops=true) (hf:Region.free md ops listed i=true) (hr:(Region.ready md ops listed).contains i=true)
    (hQ:∀c (a:Act) w,Q (.panic c) (a.put (some d) undef) w→Q (.panic c) a w) (hw:(ops[i]?).map (fun o=>Region.wanted o (yielded ops a.tmps))=some false) (hS:S w)
    (h:wpAnyH P md ops Q S fuel (listed.setIfInBounds i true) (a.put (some d) undef) w):wpAnyH P md ops Q S (fuel+1) listed a w:=by
  cases ho:ops[i]? with
  | none=>rw[ho] at hi;simp at hi
  | some o=>
    rw[ho] at hi hw;simp only[Option.map_some,Option.some.injEq] at hi hw;exact wpAnyH_take ho hs hf hr (by rw[hi];exact hQ) (Or.inr ⟨hw,rfl⟩) hS (by rw[hi];exact h)
theorem Qr {P:Program} {ops:Array Oper} {Q:Exit→Act→World→Prop} {md:Region.Mode} {S:World→Prop} {fuel:Nat} {listed:Array Bool} {a:Act} {w:World} (i d:Nat) (v:Value)
    (hv:∀w o,S w→some o=ops[i]? →(execOp a.eval o).run P w=.ok (.value v) w) (hS:S w)
    (h:wpAnyH P md ops Q S fuel (listed.setIfInBounds i true) (a.put (some d) v) w)
    (hi:(ops[i]?).map (fun o=>o.dst)=some (some d):=by kernel_rfl) (hs:Region.noSelect ops=true:=by kernel_rfl) (hf:Region.free md ops listed i=true:=by kernel_rfl) (hr:(Region.ready md ops listed).contains i=true:=by kernel_rfl)
    (hQ:∀c (a:Act) w,Q (.panic c) (a.put (some d) v) w→Q (.panic c) a w:=by exact fun _ _ _ h=>h) (hw:(ops[i]?).map (fun o=>Region.wanted o (yielded ops a.tmps))=some true:=by kernel_rfl):wpAnyH P md ops Q S (fuel+1) listed a w:=
  QlV i d v hi hs hf hr hQ hw hv hS h
theorem Qe {P:Program} {ops:Array Oper} {Q:Exit→Act→World→Prop} {md:Region.Mode} {S:World→Prop} {fuel:Nat} {listed:Array Bool} {a:Act} {w:World} (i d:Nat) (v:Value) (hS:S w)
    (h:wpAnyH P md ops Q S fuel (listed.setIfInBounds i true) (a.put (some d) v) w)
    (hi:(ops[i]?).map (fun o=>o.dst)=some (some d):=by kernel_rfl) (hs:Region.noSelect ops=true:=by kernel_rfl) (hf:Region.free md ops listed i=true:=by kernel_rfl) (hr:(Region.ready md ops listed).contains i=true:=by kernel_rfl)
    (hQ:∀c (a:Act) w,Q (.panic c) (a.put (some d) v) w→Q (.panic c) a w:=by exact fun _ _ _ h=>h) (hw:(ops[i]?).map (fun o=>Region.wanted o (yielded ops a.tmps))=some true:=by kernel_rfl)
    (hv:∀w o,S w→some o=ops[i]? →(execOp a.eval o).run P w=.ok (.value v) w:=by intro w o hSw ho;obtain rfl:=Option.some.inj ho;go_simp):wpAnyH P md ops Q S (fuel+1) listed a w:=
  QlV i d v hi hs hf hr hQ hw hv hS h
theorem YE {P:Program} {ops:Array Oper} {Q:Exit→Act→World→Prop} {md:Region.Mode} {S:World→Prop} {fuel:Nat} {listed:Array Bool} {a:Act} {w:World} (i d:Nat) (hS:S w)
    (h:wpAnyH P md ops Q S fuel (listed.setIfInBounds i true) (a.put (some d) undef) w)
    (hi:(ops[i]?).map (fun o=>o.dst)=some (some d):=by kernel_rfl) (hs:Region.noSelect ops=true:=by kernel_rfl) (hf:Region.free md ops listed i=true:=by kernel_rfl) (hr:(Region.ready md ops listed).contains i=true:=by kernel_rfl)
    (hQ:∀c (a:Act) w,Q (.panic c) (a.put (some d) undef) w→Q (.panic c) a w:=by exact fun _ _ _ h=>h) (hw:(ops[i]?).map (fun o=>Region.wanted o (yielded ops a.tmps))=some false:=by kernel_rfl):wpAnyH P md ops Q S (fuel+1) listed a w:=
  Qmf i d hi hs hf hr hQ hw hS h
theorem sa {α:Type} (l:List α) (i:Nat) (a:α):l.toArray.setIfInBounds i a=(l.set i a).toArray:=List.setIfInBounds_toArray ..
theorem s0 {α:Type} (x:α) (l:List α) (a:α):(x::l).set 0 a=a::l:=rfl
theorem ss {α:Type} (x:α) (l:List α) (n:Nat) (a:α):(x::l).set (n+1) a=x::l.set n a:=rfl
theorem QQ {P:Program} {ops:Array Oper} {Q:Exit→Act→World→Prop} {md:Region.Mode} {S:World→Prop} {fuel:Nat} {listed:Array Bool} {a:Act} {w:World} (i:Nat)
    (hr:Region.ready md ops listed=[i]) (hw:(ops[i]?).map (fun o=>Region.wanted o (yielded ops a.tmps))=some true)
    (h:∀o,some o=ops[i]? →∀K':Act→World→Prop,Shut (∀a w,S w→(S w→wpAnyH P md ops Q S fuel (listed.setIfInBounds i true) a w)→K' a w)→Oper.wp P o a w K' Q):wpAnyH P md ops Q S (fuel+1) listed a w:=by
  cases ho:ops[i]? with
  | none=>rw[ho] at hw;simp at hw
  | some o=>
    rw[ho] at hw;simp only[Option.map_some,Option.some.injEq] at hw;exact wpAnyH_ready hr (by simp) (AllReadyH.cons ho (fun K' hK=>by rw[if_pos hw];exact h o ho.symm K' hK) AllReadyH.nil)
theorem QfF {P:Program} {ops:Array Oper} {Q:Exit→Act→World→Prop} {md:Region.Mode} {S:World→Prop} {fuel:Nat} {listed:Array Bool} {a:Act} {w:World} (i j:Nat)
    (hr:Region.ready md ops listed=[i,j]) (hw:(ops[i]?).map (fun o=>Region.wanted o (yielded ops a.tmps))=some true) (kw:(ops[j]?).map (fun o=>Region.wanted o (yielded ops a.tmps))=some true)
    (h:∀o,some o=ops[i]? →∀K':Act→World→Prop,Shut (∀a w,S w→(S w→wpAnyH P md ops Q S fuel (listed.setIfInBounds i true) a w)→K' a w)→Oper.wp P o a w K' Q)
    (k:∀o,some o=ops[j]? →∀K':Act→World→Prop,Shut (∀a w,S w→(S w→wpAnyH P md ops Q S fuel (listed.setIfInBounds j true) a w)→K' a w)→Oper.wp P o a w K' Q):wpAnyH P md ops Q S (fuel+1) listed a w:=by
  cases ho:ops[i]? with
  | none=>rw[ho] at hw;simp at hw
  | some o=>
    cases ko:ops[j]? with
    | none=>rw[ko] at kw;simp at kw
    | some o'=>
      rw[ho] at hw;rw[ko] at kw;simp only[Option.map_some,Option.some.injEq] at hw kw;exact wpAnyH_ready hr (by simp) (AllReadyH.cons ho (fun K' hK=>by rw[if_pos hw];exact h o ho.symm K' hK) (AllReadyH.cons ko (fun K' hK=>by rw[if_pos kw];exact k o' ko.symm K' hK) AllReadyH.nil))
theorem Ja {b c:Nat} (hbc:c≠b) {us:List Value}:∀(vs:List Value) (i:Nat) (w:World),AtL w c us→AtL (sets w b i vs) c us
  | [],_,_,h=>h
  | v::vs,i,w,h=>Ja hbc vs (i+1) _ (h.keep (by simp) fun o=>World.cell?_setCell_far _ _ _ _ (fun e=>hbc (by simpa using e.symm)))
theorem Qg7 {b:Nat}:∀(vs:List Value) (i k:Nat) (w:World),k<i→(sets w b i vs).cell? ⟨b,k,none⟩=w.cell? ⟨b,k,none⟩
  | [],_,_,_,_=>rfl
  | v::vs,i,k,w,h=>(Qg7 vs (i+1) k _ (by omega)).trans (World.cell?_setCell_other _ _ _ _ (fun e=>by have:=congrArg Addr.off e;simp only at this;omega))
theorem Qc0 {b:Nat}:∀(vs us:List Value) (i:Nat) (w:World),us.length=vs.length→(∀j v,us[j]? =some v→w.cell? ⟨b,i+j,none⟩=some v)→∀j v,vs[j]? =some v→(sets w b i vs).cell? ⟨b,i+j,none⟩=some v
  | [],_,_,_,_,_=>fun j v h=>by simp at h
  | v::vs,[],_,_,hl,_=>by simp at hl
  | v::vs,u::us,i,w,hl,hc=>fun j x h=>by
    match j with
    | 0=>
      simp at h;subst h;exact(Qg7 vs (i+1) i _ (by omega)).trans (World.cell?_setCell_same _ _ _ (hc 0 u rfl))
    | j+1=>
      simp at h;have:=Qc0 vs us (i+1) (w.setCell ⟨b,i,none⟩ v) (by simpa using hl) (fun k y hk=>by
        rw[World.cell?_setCell_other _ _ _ _ (fun e=>by have:=congrArg Addr.off e;simp only at this;omega)];have:=hc (k+1) y (by simpa using hk);rw[show i+1+k=i+(k+1) by omega];exact this) j x h
      rw[show i+(j+1)=i+1+j by omega];exact this
theorem Jm {b:Nat} {us:List Value} {w:World} (vs:List Value) (h:AtL w b us) (hl:us.length=vs.length):AtL (sets w b 0 vs) b vs:=
  ⟨Nat.lt_of_lt_of_le h.1 (QK (B:=0) (Nat.zero_le _) vs 0 w w (Below.refl _ _)).size,fun j v hj=>by
    have:=Qc0 vs us 0 w hl (fun j v hj=>by rw[Nat.zero_add];exact h.2 j v hj) j v hj;rw[Nat.zero_add] at this;exact this⟩
theorem QaL (w:World) (o:Obj) (vs:List Value) (t:TypeId):AtL ((w.alloc o).alloc (.cells vs.toArray t)).drew (w.heap.size+1) vs:=by
  have h:=AtL.new (w.alloc o) vs t;rw[World.size_alloc] at h;exact⟨h.1,h.2⟩
theorem QaM (w:World) (vs:List Value) (t:TypeId) (o:Obj):AtL ((w.alloc (.cells vs.toArray t)).alloc o).drew w.heap.size vs:=by
  have h:=(AtL.new w vs t).on (Qb _ o);exact⟨h.1,h.2⟩
structure AtM (w:World) (b:Nat) (vs:List Value):Prop where
  cells:AtL w b vs
  free:∀o,w.frozen? ⟨b,o,none⟩=false
theorem AtM.keep {w w':World} {b:Nat} {vs:List Value} (h:AtM w b vs) (hs:w.heap.size≤w'.heap.size) (hk:w'.heap[b]? =w.heap[b]?):AtM w' b vs:=
  ⟨h.cells.keep hs fun o=>World.cell?_of_block (a:=⟨b,o,none⟩) hk,fun o=>(World.frozen?_of_block (a:=⟨b,o,none⟩) hk).trans (h.free o)⟩
theorem AtM.on {w w':World} {b:Nat} {vs:List Value} (h:AtM w b vs) (hb:Below w.heap.size w w'):AtM w' b vs:=h.keep hb.size (hb.block b h.cells.1)
theorem AtM.far {w w':World} {b:Nat} {vs:List Value} (h:AtM w b vs) {row:Option Nat} (hg:w.grownBy w' row) (hr:some b≠row):AtM w' b vs:=h.keep hg.size (hg.block b h.cells.1 hr)
theorem AtM.new (w:World) (vs:List Value) (t:TypeId):AtM (w.alloc (.cells vs.toArray t)) w.heap.size vs:=⟨AtL.new w vs t,fun o=>by simp⟩
theorem AtM.set {w:World} {b:Nat} {vs:List Value} (h:AtM w b vs) (i:Nat) (v:Value):AtM (w.setCell ⟨b,i,none⟩ v) b (vs.set i v):=by
  refine⟨⟨by simpa using h.cells.1,fun j u hj=>?_⟩,fun o=>by simpa using h.free o⟩;by_cases hij:i=j
  · subst hij;have hlt:i<vs.length:=by
      have:=(List.getElem?_eq_some_iff.1 hj).1;simpa using this
    rw[List.getElem?_set_self hlt] at hj;obtain rfl:=Option.some.inj hj;exact World.cell?_setCell_same _ _ _ (h.cells.2 i vs[i] (by simp))
  · rw[List.getElem?_set_ne hij] at hj;exact(World.cell?_setCell_other _ _ _ _ (fun e=>hij (by simpa using e.symm))).trans (h.cells.2 j u hj)
theorem AtM.other {w:World} {b c:Nat} {vs:List Value} (h:AtM w b vs) (hne:b≠c) (i:Nat) (v:Value):AtM (w.setCell ⟨c,i,none⟩ v) b vs:=
  h.keep (by simp) (Below.heap_setCell _ _ _ _ hne)
theorem QeQ (b:Nat):∀(vs:List Value) (i:Nat) (w:World),(sets w b i vs).heap.size=w.heap.size
  | [],_,_=>rfl
  | _::vs,i,w=>(QeQ b vs (i+1) _).trans (by simp)
theorem Um {b c:Nat} (hne:c≠b):∀(vs:List Value) (i:Nat) (w:World),(sets w b i vs).heap[c]? =w.heap[c]?
  | [],_,_=>rfl
  | _::vs,i,w=>(Um hne vs (i+1) _).trans (Below.heap_setCell _ _ _ _ hne)
theorem QaN (b:Nat) (a:Addr):∀(vs:List Value) (i:Nat) (w:World),(sets w b i vs).frozen? a=w.frozen? a
  | [],_,_=>rfl
  | _::vs,i,w=>(QaN b a vs (i+1) _).trans (by simp)
theorem AtM.sets {w:World} {b:Nat} {us:List Value} (vs:List Value) (h:AtM w b us) (hl:us.length=vs.length):AtM (sets w b 0 vs) b vs:=
  ⟨Jm vs h.cells hl,fun o=>(QaN b _ vs 0 w).trans (h.free o)⟩
theorem AtM.beside {w:World} {b c:Nat} {us:List Value} (h:AtM w b us) (hne:b≠c) (vs:List Value) (i:Nat):AtM (Go.Proofs.YtbfickdgjgbfhaaGreatDoor.sets w c i vs) b us:=
  h.keep (by rw[QeQ];exact Nat.le_refl _) (Um hne vs i w)
theorem Un {b:Nat}:∀(vs:List Value) (i:Nat) (w:World),w.grownBy (sets w b i vs) (some b)
  | [],_,w=>World.grownBy.refl w _
  | v::vs,i,w=>
    have h:w.grownBy (w.setCell ⟨b,i,none⟩ v) (some b):=⟨rfl,rfl,rfl,by simp,fun k _ hk=>Below.heap_setCell _ _ _ _ (fun e=>hk (by rw[e]))⟩;have k:=Un vs (i+1) (w.setCell ⟨b,i,none⟩ v)
    ⟨k.os.trans h.os,k.tape.trans h.tape,k.output.trans h.output,Nat.le_trans h.size k.size,fun j hj hne=>(k.block j (Nat.lt_of_lt_of_le hj h.size) hne).trans (h.block j hj hne)⟩
def Y9 (b:Int):Tk:=
  if b=9 then Qo 2000002 0 1 else if b=13 then Qo 2000001 0 1 else if b=27 then Qo 2000004 0 1 else if b=127 then Qo 2000003 0 1
  else if b=0 then Qo 32 4 1 else if b≤26 then Qo (96+b) 4 1 else if 32≤b∧b≤126 then Qo b 0 1 else Qf 5
theorem QeR (b:Int):(Y9 b).ev.data=[]:=by
  unfold Y9;repeat' split
  all_goals rfl
theorem KS (e:Ev) (p:Option Addr) (c:Nat) (s:Int) (w:World):Calls Tryz.prog 163 #[evV e p c,.int .i64 s] w fun en w'=>en=.returned (tkV ⟨0,e,s,false,false⟩ (.slice p e.data.length c))∧Below w.heap.size w w':=by
  unfold evV;go_enter Tryz.func163,Tryz.ntmps163;go_wp2;exact bodyPost_ret (v:=tkV ⟨0,e,s,false,false⟩ (.slice p e.data.length c)) (by simp[results,Tryz.results163,tkV,go_sem]) rfl ⟨rfl,Qa (Qb _ _) (Qb _ _)⟩
theorem Q8 (c:Int) (w:World):Calls Tryz.prog 127 #[.int .i64 c] w (Qm w (Qf c)):=by
  go_enter Tryz.func127,Tryz.ntmps127;go_wp2;exact bodyPost_ret (v:=tkV (Qf c) (.slice none 0 0)) (by simp[results,Tryz.results127,tkV,Qf,Xy,go_sem]) rfl ⟨rfl,Qb _ _⟩
theorem Qf9 (c m s:Int) (w:World):Calls Tryz.prog 163 #[.agg #[.int .i64 1,.int .i64 c,.int .i64 m,.int .i64 0,.int .i64 0,.int .i64 0,.int .i64 0,.slice none 0 0],.int .i64 s] w (Qm w (Qo c m s)):=
  KS (QL c m) none 0 s w
theorem XR (c m s:Int) (w:World):Calls Tryz.prog 134 #[.int .i64 c,.int .i64 m,.int .i64 s] w (Qm w (Qo c m s)):=by
  go_enter Tryz.func134,Tryz.ntmps134;go_wp2_with (go_at_call 163;refine(Qf9 _ _ _ _).mono ?_;rintro e w1 ⟨rfl,hb⟩;unfold tkV Qo QL;obtain⟨hc,hf⟩:=Qq hb);exact bodyPost_ret (v:=tkV (Qo c m s) (.slice none 0 0)) (by simp[results,Tryz.results134,tkV,Qo,QL,go_sem,hc]) rfl (Qu (tkL (Qo c m s) (.slice none 0 0)) hb)
theorem XX (b:Int) (w:World):Calls Tryz.prog 182 #[.int .u8 b] w fun e w'=>e=.returned (.bool (inR b 32 126))∧w=w':=by
  by_cases h:32≤b
  · go_enter Tryz.func182,Tryz.ntmps182;go_wp2;go_ret;exact⟨Qi (by simp[inR,h]),rfl⟩
  · go_enter Tryz.func182,Tryz.ntmps182;go_wp2;go_ret;exact⟨Qi (by simp[inR];omega),rfl⟩
theorem QaO (w:World):Calls Tryz.prog 160 #[.int .u8 9] w (Qm w (Qo 2000002 0 1)):=by
  go_enter Tryz.func160,Tryz.ntmps160;go_wp2_with (first | (go_at_call 184;refine(XQ _ _ _ _).mono ?_;rintro e w1 ⟨rfl,hb⟩;unfold tkV Qo QL;obtain⟨hc,hf⟩:=Qq hb) | (go_at_call 182;refine(XX _ _).mono ?_;rintro e w0 ⟨rfl,rfl⟩));exact bodyPost_ret (v:=tkV (Qo 2000002 0 1) (.slice none 0 0)) (by simp[results,Tryz.results160,tkV,Qo,QL,go_sem,hc]) rfl (Qu (tkL (Qo 2000002 0 1) (.slice none 0 0)) hb)
theorem QaP (w:World):Calls Tryz.prog 160 #[.int .u8 13] w (Qm w (Qo 2000001 0 1)):=by
  go_enter Tryz.func160,Tryz.ntmps160;go_wp2_with (first | (go_at_call 184;refine(XQ _ _ _ _).mono ?_;rintro e w1 ⟨rfl,hb⟩;unfold tkV Qo QL;obtain⟨hc,hf⟩:=Qq hb) | (go_at_call 182;refine(XX _ _).mono ?_;rintro e w0 ⟨rfl,rfl⟩));exact bodyPost_ret (v:=tkV (Qo 2000001 0 1) (.slice none 0 0)) (by simp[results,Tryz.results160,tkV,Qo,QL,go_sem,hc]) rfl (Qu (tkL (Qo 2000001 0 1) (.slice none 0 0)) hb)
theorem QaQ (w:World):Calls Tryz.prog 160 #[.int .u8 27] w (Qm w (Qo 2000004 0 1)):=by
  go_enter Tryz.func160,Tryz.ntmps160;go_wp2_with (first | (go_at_call 184;refine(XQ _ _ _ _).mono ?_;rintro e w1 ⟨rfl,hb⟩;unfold tkV Qo QL;obtain⟨hc,hf⟩:=Qq hb) | (go_at_call 182;refine(XX _ _).mono ?_;rintro e w0 ⟨rfl,rfl⟩));exact bodyPost_ret (v:=tkV (Qo 2000004 0 1) (.slice none 0 0)) (by simp[results,Tryz.results160,tkV,Qo,QL,go_sem,hc]) rfl (Qu (tkL (Qo 2000004 0 1) (.slice none 0 0)) hb)
theorem QaR (w:World):Calls Tryz.prog 160 #[.int .u8 127] w (Qm w (Qo 2000003 0 1)):=by
  go_enter Tryz.func160,Tryz.ntmps160;go_wp2_with (first | (go_at_call 184;refine(XQ _ _ _ _).mono ?_;rintro e w1 ⟨rfl,hb⟩;unfold tkV Qo QL;obtain⟨hc,hf⟩:=Qq hb) | (go_at_call 182;refine(XX _ _).mono ?_;rintro e w0 ⟨rfl,rfl⟩));exact bodyPost_ret (v:=tkV (Qo 2000003 0 1) (.slice none 0 0)) (by simp[results,Tryz.results160,tkV,Qo,QL,go_sem,hc]) rfl (Qu (tkL (Qo 2000003 0 1) (.slice none 0 0)) hb)
theorem QaS (w:World):Calls Tryz.prog 160 #[.int .u8 0] w (Qm w (Qo 32 4 1)):=by
  go_enter Tryz.func160,Tryz.ntmps160;go_wp2_with (first | (go_at_call 184;refine(XQ _ _ _ _).mono ?_;rintro e w1 ⟨rfl,hb⟩;unfold tkV Qo QL;obtain⟨hc,hf⟩:=Qq hb) | (go_at_call 182;refine(XX _ _).mono ?_;rintro e w0 ⟨rfl,rfl⟩));exact bodyPost_ret (v:=tkV (Qo 32 4 1) (.slice none 0 0)) (by simp[results,Tryz.results160,tkV,Qo,QL,go_sem,hc]) rfl (Qu (tkL (Qo 32 4 1) (.slice none 0 0)) hb)
theorem QaT (b:Int) (w:World) (hlo:1≤b) (hhi:b≤26) (h9:¬b=9) (h13:¬b=13):Calls Tryz.prog 160 #[.int .u8 b] w (Qm w (Qo (96+b) 4 1)):=by
  go_enter Tryz.func160,Tryz.ntmps160;go_wp2_with (first | (go_at_call 184;refine(XQ _ _ _ _).mono ?_;rintro e w1 ⟨rfl,hb⟩;unfold tkV Qo QL;obtain⟨hc,hf⟩:=Qq hb) | (go_at_call 182;refine(XX _ _).mono ?_;rintro e w0 ⟨rfl,rfl⟩));exact bodyPost_ret (v:=tkV (Qo (96+b) 4 1) (.slice none 0 0)) (by simp[results,Tryz.results160,tkV,Qo,QL,go_sem,hc]) rfl (Qu (tkL (Qo (96+b) 4 1) (.slice none 0 0)) hb)
theorem QaU (b:Int) (w:World) (hlo:32≤b) (hhi:b≤126):Calls Tryz.prog 160 #[.int .u8 b] w (Qm w (Qo b 0 1)):=by
  have hin:inR b 32 126=true:=(by simp[inR,hlo,hhi]);go_enter Tryz.func160,Tryz.ntmps160;go_wp2_with (first | (go_at_call 184;refine(XQ _ _ _ _).mono ?_;rintro e w1 ⟨rfl,hb⟩;unfold tkV Qo QL;obtain⟨hc,hf⟩:=Qq hb) | (go_at_call 182;refine(XX _ _).mono ?_;rintro e w0 ⟨rfl,rfl⟩));exact bodyPost_ret (v:=tkV (Qo b 0 1) (.slice none 0 0)) (by simp[results,Tryz.results160,tkV,Qo,QL,go_sem,hc]) rfl (Qu (tkL (Qo b 0 1) (.slice none 0 0)) hb)
theorem QaV (b:Int) (w:World) (hlo:28≤b) (hne:¬b=127) (hout:b<32∨126<b):Calls Tryz.prog 160 #[.int .u8 b] w (Qm w (Qf 5)):=by
  rcases hout with hout | hout;all_goals
    have hin:inR b 32 126=false:=(by simp[inR];omega);go_enter Tryz.func160,Tryz.ntmps160;go_wp2_with (first | (go_at_call 182;refine(XX _ _).mono ?_;rintro e w0 ⟨rfl,rfl⟩));exact bodyPost_ret (v:=tkV (Qf 5) (.slice none 0 0)) (by simp[results,Tryz.results160,tkV,Qf,Xy,go_sem]) rfl ⟨rfl,Qb _ _⟩
theorem Zb (b:Int) (w:World) (h0:0≤b):Calls Tryz.prog 160 #[.int .u8 b] w (Qm w (Y9 b)):=by
  by_cases h1:b=9
  · have hk:Y9 b=Qo 2000002 0 1:=(by unfold Y9;rw[if_pos h1]);rw[hk,h1];exact QaO w
  by_cases h2:b=13
  · have hk:Y9 b=Qo 2000001 0 1:=(by unfold Y9;rw[if_neg h1,if_pos h2]);rw[hk,h2];exact QaP w
  by_cases h3:b=27
  · have hk:Y9 b=Qo 2000004 0 1:=(by unfold Y9;rw[if_neg h1,if_neg h2,if_pos h3]);rw[hk,h3];exact QaQ w
  by_cases h4:b=127
  · have hk:Y9 b=Qo 2000003 0 1:=(by unfold Y9;rw[if_neg h1,if_neg h2,if_neg h3,if_pos h4]);rw[hk,h4];exact QaR w
  by_cases h5:b=0
  · have hk:Y9 b=Qo 32 4 1:=(by unfold Y9;rw[if_neg h1,if_neg h2,if_neg h3,if_neg h4,if_pos h5]);rw[hk,h5];exact QaS w
  by_cases h6:b≤26
  · have hk:Y9 b=Qo (96+b) 4 1:=(by unfold Y9;rw[if_neg h1,if_neg h2,if_neg h3,if_neg h4,if_neg h5,if_pos h6]);rw[hk];exact QaT b w (by omega) (by omega) h1 h2
  by_cases h7:32≤b∧b≤126
  · have hk:Y9 b=Qo b 0 1:=(by unfold Y9;rw[if_neg h1,if_neg h2,if_neg h3,if_neg h4,if_neg h5,if_neg h6,if_pos h7]);rw[hk];exact QaU b w (by omega) (by omega)
  · have hk:Y9 b=Qf 5:=(by unfold Y9;rw[if_neg h1,if_neg h2,if_neg h3,if_neg h4,if_neg h5,if_neg h6,if_neg h7]);rw[hk];exact QaV b w (by omega) (by omega) (by omega)
theorem QaW (w:World):Calls Tryz.prog 131 #[.int .u8 9] w (Qm w (Qo 2000002 0 1)):=by
  go_enter Tryz.func131,Tryz.ntmps131;go_wp2_with (first | (go_at_call 134;refine(XR _ _ _ _).mono ?_;rintro e w1 ⟨rfl,hb⟩;unfold tkV Qo QL;obtain⟨hc,hf⟩:=Qq hb));exact bodyPost_ret (v:=tkV (Qo 2000002 0 1) (.slice none 0 0)) (by simp[results,Tryz.results131,tkV,Qo,QL,go_sem,hc]) rfl (Qu (tkL (Qo 2000002 0 1) (.slice none 0 0)) hb)
theorem QaX (w:World):Calls Tryz.prog 131 #[.int .u8 13] w (Qm w (Qo 2000001 0 1)):=by
  go_enter Tryz.func131,Tryz.ntmps131;go_wp2_with (first | (go_at_call 134;refine(XR _ _ _ _).mono ?_;rintro e w1 ⟨rfl,hb⟩;unfold tkV Qo QL;obtain⟨hc,hf⟩:=Qq hb));exact bodyPost_ret (v:=tkV (Qo 2000001 0 1) (.slice none 0 0)) (by simp[results,Tryz.results131,tkV,Qo,QL,go_sem,hc]) rfl (Qu (tkL (Qo 2000001 0 1) (.slice none 0 0)) hb)
theorem QaY (w:World):Calls Tryz.prog 131 #[.int .u8 27] w (Qm w (Qo 2000004 0 1)):=by
  go_enter Tryz.func131,Tryz.ntmps131;go_wp2_with (first | (go_at_call 134;refine(XR _ _ _ _).mono ?_;rintro e w1 ⟨rfl,hb⟩;unfold tkV Qo QL;obtain⟨hc,hf⟩:=Qq hb));exact bodyPost_ret (v:=tkV (Qo 2000004 0 1) (.slice none 0 0)) (by simp[results,Tryz.results131,tkV,Qo,QL,go_sem,hc]) rfl (Qu (tkL (Qo 2000004 0 1) (.slice none 0 0)) hb)
theorem QaZ (w:World):Calls Tryz.prog 131 #[.int .u8 127] w (Qm w (Qo 2000003 0 1)):=by
  go_enter Tryz.func131,Tryz.ntmps131;go_wp2_with (first | (go_at_call 134;refine(XR _ _ _ _).mono ?_;rintro e w1 ⟨rfl,hb⟩;unfold tkV Qo QL;obtain⟨hc,hf⟩:=Qq hb));exact bodyPost_ret (v:=tkV (Qo 2000003 0 1) (.slice none 0 0)) (by simp[results,Tryz.results131,tkV,Qo,QL,go_sem,hc]) rfl (Qu (tkL (Qo 2000003 0 1) (.slice none 0 0)) hb)
theorem Qa0 (w:World):Calls Tryz.prog 131 #[.int .u8 0] w (Qm w (Qo 32 4 1)):=by
  go_enter Tryz.func131,Tryz.ntmps131;go_wp2_with (first | (go_at_call 134;refine(XR _ _ _ _).mono ?_;rintro e w1 ⟨rfl,hb⟩;unfold tkV Qo QL;obtain⟨hc,hf⟩:=Qq hb));exact bodyPost_ret (v:=tkV (Qo 32 4 1) (.slice none 0 0)) (by simp[results,Tryz.results131,tkV,Qo,QL,go_sem,hc]) rfl (Qu (tkL (Qo 32 4 1) (.slice none 0 0)) hb)
theorem Qa1 (b:Int) (w:World) (hlo:1≤b) (hhi:b≤26) (h9:¬b=9) (h13:¬b=13):Calls Tryz.prog 131 #[.int .u8 b] w (Qm w (Qo (97+b - 1) 4 1)):=by
  go_enter Tryz.func131,Tryz.ntmps131;go_wp2_with (first | (go_at_call 134;refine(XR _ _ _ _).mono ?_;rintro e w1 ⟨rfl,hb⟩;unfold tkV Qo QL;obtain⟨hc,hf⟩:=Qq hb));exact bodyPost_ret (v:=tkV (Qo (97+b - 1) 4 1) (.slice none 0 0)) (by simp[results,Tryz.results131,tkV,Qo,QL,go_sem,hc]) rfl (Qu (tkL (Qo (97+b - 1) 4 1) (.slice none 0 0)) hb)
theorem Qa2 (b:Int) (w:World) (hlo:32≤b) (hhi:b≤126):Calls Tryz.prog 131 #[.int .u8 b] w (Qm w (Qo b 0 1)):=by
  go_enter Tryz.func131,Tryz.ntmps131;go_wp2_with (first | (go_at_call 134;refine(XR _ _ _ _).mono ?_;rintro e w1 ⟨rfl,hb⟩;unfold tkV Qo QL;obtain⟨hc,hf⟩:=Qq hb));exact bodyPost_ret (v:=tkV (Qo b 0 1) (.slice none 0 0)) (by simp[results,Tryz.results131,tkV,Qo,QL,go_sem,hc]) rfl (Qu (tkL (Qo b 0 1) (.slice none 0 0)) hb)
theorem Qa3 (b:Int) (w:World) (hlo:28≤b) (hne:¬b=127) (hout:b<32∨126<b):Calls Tryz.prog 131 #[.int .u8 b] w (Qm w (Qf 5)):=by
  rcases hout with hout | hout;all_goals
    go_enter Tryz.func131,Tryz.ntmps131;go_wp2_with (first | (go_at_call 127;refine(Q8 _ _).mono ?_;rintro e w1 ⟨rfl,hb⟩;unfold tkV Qf Xy;obtain⟨hc,hf⟩:=Qq hb));all_goals first | (exfalso;omega) | exact bodyPost_ret (v:=tkV (Qf 5) (.slice none 0 0)) (by simp[results,Tryz.results131,tkV,Qf,Xy,go_sem,hc]) rfl (Qu (tkL (Qf 5) (.slice none 0 0)) hb)
theorem Zc (b:Int) (w:World) (h0:0≤b):Calls Tryz.prog 131 #[.int .u8 b] w (Qm w (Y9 b)):=by
  by_cases h1:b=9
  · have hk:Y9 b=Qo 2000002 0 1:=(by unfold Y9;rw[if_pos h1]);rw[hk,h1];exact QaW w
  by_cases h2:b=13
  · have hk:Y9 b=Qo 2000001 0 1:=(by unfold Y9;rw[if_neg h1,if_pos h2]);rw[hk,h2];exact QaX w
  by_cases h3:b=27
  · have hk:Y9 b=Qo 2000004 0 1:=(by unfold Y9;rw[if_neg h1,if_neg h2,if_pos h3]);rw[hk,h3];exact QaY w
  by_cases h4:b=127
  · have hk:Y9 b=Qo 2000003 0 1:=(by unfold Y9;rw[if_neg h1,if_neg h2,if_neg h3,if_pos h4]);rw[hk,h4];exact QaZ w
  by_cases h5:b=0
  · have hk:Y9 b=Qo 32 4 1:=(by unfold Y9;rw[if_neg h1,if_neg h2,if_neg h3,if_neg h4,if_pos h5]);rw[hk,h5];exact Qa0 w
  by_cases h6:b≤26
  · have hk:Y9 b=Qo (96+b) 4 1:=(by unfold Y9;rw[if_neg h1,if_neg h2,if_neg h3,if_neg h4,if_neg h5,if_pos h6]);rw[hk,show 96+b=97+b - 1 by omega];exact Qa1 b w (by omega) (by omega) h1 h2
  by_cases h7:32≤b∧b≤126
  · have hk:Y9 b=Qo b 0 1:=(by unfold Y9;rw[if_neg h1,if_neg h2,if_neg h3,if_neg h4,if_neg h5,if_neg h6,if_pos h7]);rw[hk];exact Qa2 b w (by omega) (by omega)
  · have hk:Y9 b=Qf 5:=(by unfold Y9;rw[if_neg h1,if_neg h2,if_neg h3,if_neg h4,if_neg h5,if_neg h6,if_neg h7]);rw[hk];exact Qa3 b w (by omega) (by omega) (by omega)
theorem Vw (a0 a1 a2 a3 a4 a5 a6 a7 a8 a9 a10 a11:Value) (w:World):(Instr.field 90 (.agg #[a0,a1,a2,a3,a4,a5,a6,a7,a8,a9,a10,a11]) 1).run Tryz.prog w=.ok (.agg #[a1,a2,a3,a4,a5,a6,a7,a8,a9,a10,a11]) w:=by kernel_rfl
theorem Qao (a0 a1 a2 a3 a4 a5 a6 a7 a8 a9 a10 a11:Value) (w:World):(Instr.field 90 (.agg #[a0,a1,a2,a3,a4,a5,a6,a7,a8,a9,a10,a11]) 0).run Tryz.prog w=.ok a0 w:=by kernel_rfl
theorem QeS (a1 a2 a3 a4 a5 a6 a7 a8 a9 a10 a11:Value) (w:World):(Instr.field 88 (.agg #[a1,a2,a3,a4,a5,a6,a7,a8,a9,a10,a11]) 0).run Tryz.prog w=.ok (.agg #[a1,a2,a3,a4,a5,a6,a7,a8]) w:=by kernel_rfl
theorem Qc1 (a1 a2 a3 a4 a5 a6 a7 a8:Value) (w:World):(Instr.field 40 (.agg #[a1,a2,a3,a4,a5,a6,a7,a8]) 1).run Tryz.prog w=.ok a2 w:=by kernel_rfl
end Go.Proofs.YtbfickdgjgbfhaaGreatDoor
