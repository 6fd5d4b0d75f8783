/- The contracts of the program's EventFault and of what it calls. -/
import Derived.Test.YtbfickdgjgbfhaaGreatDoorQEvents
import Derived.BigGuardPart
import Derived.Deep.QuietTactic
import Derived.BigQuiet
set_option maxRecDepth 100000
set_option maxHeartbeats 4000000
namespace Go.Proofs.YtbfickdgjgbfhaaGreatDoor
open Go.RowKit
theorem Qq {W w1:World} (hb:Below W.heap.size W w1):(∀b o,b<W.heap.size→w1.cell? ⟨b,o,none⟩=W.cell? ⟨b,o,none⟩)∧(∀b o,b<W.heap.size→w1.frozen? ⟨b,o,none⟩=W.frozen? ⟨b,o,none⟩):=
  ⟨fun b o h=>hb.cell (p:=⟨b,o,none⟩) h,fun b o h=>hb.frozen (p:=⟨b,o,none⟩) h⟩
theorem Kb {W w1:World} (hb:Below W.heap.size W w1) (b:Nat) (h:b<W.heap.size):∀o,w1.cell? ⟨b,o,none⟩=W.cell? ⟨b,o,none⟩:=fun o=>hb.cell (p:=⟨b,o,none⟩) h
theorem Kc {W w1:World} (hb:Below W.heap.size W w1) (b:Nat) (h:b<W.heap.size):∀o,w1.frozen? ⟨b,o,none⟩=W.frozen? ⟨b,o,none⟩:=fun o=>hb.frozen (p:=⟨b,o,none⟩) h
def Ev.nums (e:Ev):Bool:=
  if e.kind=1 then Xi e.code&&inR e.mods 0 7
  else if e.kind=2 then inR e.button 0 2&&(inR e.act 1 3&&(inR e.mods 0 7&&(inR e.col 0 199&&inR e.row 0 199)))
  else true
def Ev.fits (e:Ev):Bool:=
  if e.kind=3 then inR e.data.length 1 32 else if e.kind=4 then inR e.data.length 1 24 else true
def Ev.fault (e:Ev):Int:=if e.form=false then 1 else if e.nums=false then 3 else if e.fits=false then 2 else 0
theorem QfP (c:Int):(inR c 0 55295 || inR c 57344 1114111)=Yq c:=by
  rw[Bool.eq_iff_iff];simp[Yq,inR];omega
theorem XJ (c:Int) (w:World):
    Calls Tryz.prog 136 #[.int .i64 c] w fun e w'=>e=.returned (.bool (Yq c))∧Below w.heap.size w w':=by
  have HP:=Lib.hid (QfP c);go_enter Tryz.func136,Tryz.ntmps136;go_wp2_with (go_at_call 63;refine(Qdq _ _ _ _ _ _ _ _ (by simp)).mono ?_;rintro e w' ⟨rfl,rfl⟩);go_ret;exact⟨Qi HP.out,(Below.refl _ _).alloc (Nat.le_refl _) _⟩
theorem Jo (c:Int) (w:World):
    Calls Tryz.prog 102 #[.int .i64 c] w fun e w'=>e=.returned (.bool (Xi c))∧Below w.heap.size w w':=by
  cases h0:Qh c
  · cases h1:Yq c
    · go_enter Tryz.func102,Tryz.ntmps102;go_wp2_with (first
        | (go_at_call 135;refine(Qj _ _).mono ?_;rintro e w1 ⟨rfl,hb1⟩)
        | (go_at_call 136;refine(XJ _ _).mono ?_;rintro e w2 ⟨rfl,hb2⟩))
      go_ret;exact⟨Qi (by simp[Xi,h0,h1]),Qa hb1 hb2⟩
    · by_cases h2:32≤c
      · cases h3:(c != 127)
        all_goals
          go_enter Tryz.func102,Tryz.ntmps102;go_wp2_with (first
            | (go_at_call 135;refine(Qj _ _).mono ?_;rintro e w1 ⟨rfl,hb1⟩)
            | (go_at_call 136;refine(XJ _ _).mono ?_;rintro e w2 ⟨rfl,hb2⟩))
          go_ret;exact⟨Qi (by simp[Xi,h0,h1,h2,h3]),Qa hb1 hb2⟩
      · go_enter Tryz.func102,Tryz.ntmps102;go_wp2_with (first
          | (go_at_call 135;refine(Qj _ _).mono ?_;rintro e w1 ⟨rfl,hb1⟩)
          | (go_at_call 136;refine(XJ _ _).mono ?_;rintro e w2 ⟨rfl,hb2⟩))
        go_ret;exact⟨Qi (by simp[Xi,h0,h1];omega),Qa hb1 hb2⟩
  · go_enter Tryz.func102,Tryz.ntmps102;go_wp2_with (first
      | (go_at_call 135;refine(Qj _ _).mono ?_;rintro e w1 ⟨rfl,hb1⟩)
      | (go_at_call 136;refine(XJ _ _).mono ?_;rintro e w2 ⟨rfl,hb2⟩))
    go_ret;exact⟨Qi (by simp[Xi,h0]),hb1⟩
theorem QlJ (a b c d:Int):JQ [a,b,c,d]=(a==0&&(b==0&&(c==0&&d==0))):=by simp[JQ]
theorem QlK (a b c d x y:Int):JQ [a,b,c,d,x,y]=(a==0&&(b==0&&(c==0&&(d==0&&(x==0&&y==0))))):=by simp[JQ]
theorem kinds (k:Int):((k==1)=true∧(k==2)=false∧(k==3)=false∧(k==4)=false)∨((k==1)=false∧(k==2)=true∧(k==3)=false∧(k==4)=false)∨
    ((k==1)=false∧(k==2)=false∧(k==3)=true∧(k==4)=false)∨((k==1)=false∧(k==2)=false∧(k==3)=false∧(k==4)=true)∨
    ((k==1)=false∧(k==2)=false∧(k==3)=false∧(k==4)=false):=by
  simp;omega
theorem Jt (e:Ev) (p:Option Addr) (c:Nat) (w:World):
    Calls Tryz.prog 66 #[evV e p c] w fun en w'=>en=.returned (.bool e.form)∧Below w.heap.size w w':=by
  unfold evV;have hl:=Ka e.data;have Z4:=Lib.hid (QlJ e.button e.act e.col e.row);have Z6:=Lib.hid (QlK e.code e.mods e.button e.act e.col e.row);rcases kinds e.kind with⟨k1,k2,k3,k4⟩ | ⟨k1,k2,k3,k4⟩ | ⟨k1,k2,k3,k4⟩ | ⟨k1,k2,k3,k4⟩ | ⟨k1,k2,k3,k4⟩
  · have HF:Hid (e.form=(JQ [e.button,e.act,e.col,e.row]&&e.data.isEmpty)):=by
      rw[Z4.out];unfold Ev.form;rw[if_pos (by simpa using k1)];rfl
    cases hz:JQ [e.button,e.act,e.col,e.row]
    all_goals
      go_enter Tryz.func66,Tryz.ntmps66;go_wp2_with (go_at_call 101;refine(Qes _ _ _ _ _ _ _ (by simp)).mono ?_;rintro e w' ⟨rfl,rfl⟩);go_ret;exact⟨Qi (by rw[HF.out,hz];simp),((Below.refl _ _).alloc (Nat.le_refl _) _).alloc (by simp) _⟩
  · have HF:Hid (e.form=(e.code==0&&e.data.isEmpty)):=by
      unfold Ev.form;rw[if_neg (by simpa using k1),if_pos (by simpa using k2)];rfl
    cases hz:(e.code==0)
    all_goals
      go_enter Tryz.func66,Tryz.ntmps66;go_wp2;go_ret;exact⟨Qi (by rw[HF.out,hz];simp),(Below.refl _ _).alloc (Nat.le_refl _) _⟩
  · have HF:Hid (e.form=JQ [e.code,e.mods,e.button,e.act,e.col,e.row]):=by
      rw[Z6.out];unfold Ev.form;rw[if_neg (by simpa using k1),if_neg (by simpa using k2),if_pos (.inl (by simpa using k3))];rfl
    go_enter Tryz.func66,Tryz.ntmps66;go_wp2_with (go_at_call 101;refine(Qaw _ _ _ _ _ _ _ _ _ (by simp)).mono ?_;rintro e w' ⟨rfl,rfl⟩);go_ret;exact⟨Qi (by rw[HF.out]),((Below.refl _ _).alloc (Nat.le_refl _) _).alloc (by simp) _⟩
  · have HF:Hid (e.form=JQ [e.code,e.mods,e.button,e.act,e.col,e.row]):=by
      rw[Z6.out];unfold Ev.form;rw[if_neg (by simpa using k1),if_neg (by simpa using k2),if_pos (.inr (by simpa using k4))];rfl
    go_enter Tryz.func66,Tryz.ntmps66;go_wp2_with (go_at_call 101;refine(Qaw _ _ _ _ _ _ _ _ _ (by simp)).mono ?_;rintro e w' ⟨rfl,rfl⟩);go_ret;exact⟨Qi (by rw[HF.out]),((Below.refl _ _).alloc (Nat.le_refl _) _).alloc (by simp) _⟩
  · have HF:Hid (e.form=false):=by
      unfold Ev.form;rw[if_neg (by simpa using k1),if_neg (by simpa using k2),if_neg (by simp at k3 k4;omega)];rfl
    go_enter Tryz.func66,Tryz.ntmps66;go_wp2;go_ret;exact⟨Qi (by rw[HF.out]),(Below.refl _ _).alloc (Nat.le_refl _) _⟩
theorem Jj (e:Ev) (p:Option Addr) (c:Nat) (w:World):
    Calls Tryz.prog 67 #[evV e p c] w fun en w'=>en=.returned (.bool e.nums)∧Below w.heap.size w w':=by
  unfold evV;rcases kinds e.kind with⟨k1,k2,k3,k4⟩ | ⟨k1,k2,k3,k4⟩ | ⟨k1,k2,k3,k4⟩ | ⟨k1,k2,k3,k4⟩ | ⟨k1,k2,k3,k4⟩
  · have HF:Hid (e.nums=(Xi e.code&&inR e.mods 0 7)):=by
      unfold Ev.nums;rw[if_pos (by simpa using k1)];rfl
    cases hz:Xi e.code
    · go_enter Tryz.func67,Tryz.ntmps67;go_wp2_with (go_at_call 102;refine(Jo _ _).mono ?_;rintro e w1 ⟨rfl,hb1⟩);go_ret;exact⟨Qi (by rw[HF.out,hz];simp),Qa ((Below.refl _ _).alloc (Nat.le_refl _) _) hb1⟩
    · go_enter Tryz.func67,Tryz.ntmps67;go_wp2_with (first
        | (go_at_call 102;refine(Jo _ _).mono ?_;rintro e w1 ⟨rfl,hb1⟩;obtain⟨hc1,hf1⟩:=Qq hb1)
        | (go_at_call 63;refine(Qv _ _ _ _ _ _ (by simp)).mono ?_;rintro e w' ⟨rfl,rfl⟩))
      go_ret;exact⟨Qi (by rw[HF.out,hz];simp),(Qa ((Below.refl _ _).alloc (Nat.le_refl _) _) hb1).alloc (by have:=hb1.size;simp at this;omega) _⟩
  · have HF:Hid (e.nums=(inR e.button 0 2&&(inR e.act 1 3&&(inR e.mods 0 7&&(inR e.col 0 199&&inR e.row 0 199))))):=by
      unfold Ev.nums;rw[if_neg (by simpa using k1),if_pos (by simpa using k2)];rfl
    go_enter Tryz.func67,Tryz.ntmps67;go_wp2_with (go_at_call 63;refine(Qv _ _ _ _ _ _ (by simp)).mono ?_;rintro e w' ⟨rfl,rfl⟩);all_goals
      go_ret;refine⟨Qi (by rw[HF.out];simp[*]),?_⟩;repeat (first | exact Below.refl _ _ | (refine Below.alloc ?_ (by simp;try omega) _))
  all_goals
    have HF:Hid (e.nums=true):=by
      unfold Ev.nums;rw[if_neg (by simpa using k1),if_neg (by simpa using k2)];rfl
    go_enter Tryz.func67,Tryz.ntmps67;go_wp2;go_ret;exact⟨Qi (by rw[HF.out]),(Below.refl _ _).alloc (Nat.le_refl _) _⟩
theorem UJ (e:Ev) (p:Option Addr) (c:Nat) (w:World):
    Calls Tryz.prog 68 #[evV e p c] w fun en w'=>en=.returned (.bool e.fits)∧Below w.heap.size w w':=by
  unfold evV;rcases kinds e.kind with⟨k1,k2,k3,k4⟩ | ⟨k1,k2,k3,k4⟩ | ⟨k1,k2,k3,k4⟩ | ⟨k1,k2,k3,k4⟩ | ⟨k1,k2,k3,k4⟩
  case inr.inr.inl=>
    have HF:Hid (e.fits=inR e.data.length 1 32):=by
      unfold Ev.fits;rw[if_pos (by simpa using k3)];rfl
    go_enter Tryz.func68,Tryz.ntmps68;go_wp2_with (go_at_call 63;refine(Qv _ _ _ _ _ _ (by simp)).mono ?_;rintro e w' ⟨rfl,rfl⟩);go_ret;exact⟨Qi (by rw[HF.out]),((Below.refl _ _).alloc (Nat.le_refl _) _).alloc (by simp) _⟩
  case inr.inr.inr.inl=>
    have HF:Hid (e.fits=inR e.data.length 1 24):=by
      unfold Ev.fits;rw[if_neg (by simpa using k3),if_pos (by simpa using k4)];rfl
    go_enter Tryz.func68,Tryz.ntmps68;go_wp2_with (go_at_call 63;refine(Qv _ _ _ _ _ _ (by simp)).mono ?_;rintro e w' ⟨rfl,rfl⟩);go_ret;exact⟨Qi (by rw[HF.out]),((Below.refl _ _).alloc (Nat.le_refl _) _).alloc (by simp) _⟩
  all_goals
    have HF:Hid (e.fits=true):=by
      unfold Ev.fits;rw[if_neg (by simpa using k3),if_neg (by simpa using k4)];rfl
    go_enter Tryz.func68,Tryz.ntmps68;go_wp2;go_ret;exact⟨Qi (by rw[HF.out]),(Below.refl _ _).alloc (Nat.le_refl _) _⟩
theorem Qjh {e:Ev} (h:e.form=false):e.fault=1:=by unfold Ev.fault;rw[if_pos h]
theorem Qji {e:Ev} (h:e.form=true) (k:e.nums=false):e.fault=3:=by unfold Ev.fault;rw[if_neg (by simp[h]),if_pos k]
theorem Qjj {e:Ev} (h:e.form=true) (k:e.nums=true) (l:e.fits=false):e.fault=2:=by unfold Ev.fault;rw[if_neg (by simp[h]),if_neg (by simp[k]),if_pos l]
theorem Ug {e:Ev} (h:e.form=true) (k:e.nums=true) (l:e.fits=true):e.fault=0:=by unfold Ev.fault;rw[if_neg (by simp[h]),if_neg (by simp[k]),if_neg (by simp[l])]
theorem Vm (e:Ev) (p:Option Addr) (c:Nat) (w:World):
    Calls Tryz.prog 19 #[evV e p c] w fun en w'=>en=.returned (.int .i64 e.fault)∧Below w.heap.size w w':=by
  unfold evV
  cases h1:e.form
  · have HF:=Lib.hid (Qjh h1);go_enter Tryz.func19,Tryz.ntmps19;go_wp2_with (go_at_call 66;refine(Jt e p c _).mono ?_;rintro en w1 ⟨rfl,hb1⟩);go_ret;exact⟨Xg HF.out.symm,Qa ((Below.refl _ _).alloc (Nat.le_refl _) _) hb1⟩
  cases h2:e.nums
  · have HF:=Lib.hid (Qji h1 h2);go_enter Tryz.func19,Tryz.ntmps19;go_wp2_with (first
      | (go_at_call 66;refine(Jt e p c _).mono ?_;rintro en w1 ⟨rfl,hb1⟩;obtain⟨hc1,hf1⟩:=Qq hb1)
      | (go_at_call 67;refine(Jj e p c _).mono ?_;rintro en w2 ⟨rfl,hb2⟩))
    go_ret;exact⟨Xg HF.out.symm,Qa (Qa ((Below.refl _ _).alloc (Nat.le_refl _) _) hb1) hb2⟩
  cases h3:e.fits
  · have HF:=Lib.hid (Qjj h1 h2 h3);go_enter Tryz.func19,Tryz.ntmps19;go_wp2_with (first
      | (go_at_call 66;refine(Jt e p c _).mono ?_;rintro en w1 ⟨rfl,hb1⟩;obtain⟨hc1,hf1⟩:=Qq hb1)
      | (go_at_call 67;refine(Jj e p c _).mono ?_;rintro en w2 ⟨rfl,hb2⟩;have hc2:=Kb hb2 w.heap.size (by have:=hb1.size;simp at this;omega))
      | (go_at_call 68;refine(UJ e p c _).mono ?_;rintro en w3 ⟨rfl,hb3⟩))
    go_ret;exact⟨Xg HF.out.symm,Qa (Qa (Qa ((Below.refl _ _).alloc (Nat.le_refl _) _) hb1) hb2) hb3⟩
  · have HF:=Lib.hid (Ug h1 h2 h3);go_enter Tryz.func19,Tryz.ntmps19;go_wp2_with (first
      | (go_at_call 66;refine(Jt e p c _).mono ?_;rintro en w1 ⟨rfl,hb1⟩;obtain⟨hc1,hf1⟩:=Qq hb1)
      | (go_at_call 67;refine(Jj e p c _).mono ?_;rintro en w2 ⟨rfl,hb2⟩;have hc2:=Kb hb2 w.heap.size (by have:=hb1.size;simp at this;omega))
      | (go_at_call 68;refine(UJ e p c _).mono ?_;rintro en w3 ⟨rfl,hb3⟩))
    go_ret;exact⟨Xg HF.out.symm,Qa (Qa (Qa ((Below.refl _ _).alloc (Nat.le_refl _) _) hb1) hb2) hb3⟩
def QD (b:Nat):Int:=
  if b<128 then 240 else if b<194 then 241 else if b<224 then 2 else if b=224 then 19 else if b=237 then 35 else if b<240 then 3 else if b=240 then 52 else if b<244 then 4 else if b=244 then 68 else 241
structure Yo (w:World):Prop where
  first:∀i,i<256→w.cell? ⟨0,i,none⟩=some (.int .u8 (QD i))
  l0:w.cell? ⟨1,0,none⟩=some (.int .u8 128)
  h0:w.cell? ⟨1,1,none⟩=some (.int .u8 191)
  l1:w.cell? ⟨1,2,none⟩=some (.int .u8 160)
  h1:w.cell? ⟨1,3,none⟩=some (.int .u8 191)
  l2:w.cell? ⟨1,4,none⟩=some (.int .u8 128)
  h2:w.cell? ⟨1,5,none⟩=some (.int .u8 159)
  l3:w.cell? ⟨1,6,none⟩=some (.int .u8 144)
  h3:w.cell? ⟨1,7,none⟩=some (.int .u8 191)
  l4:w.cell? ⟨1,8,none⟩=some (.int .u8 128)
  h4:w.cell? ⟨1,9,none⟩=some (.int .u8 143)
theorem Yo.lt0 {w:World} (h:Yo w):0<w.heap.size:=World.block_lt_of_cell? _ _ (h.first 0 (by omega))
theorem Yo.lt1 {w:World} (h:Yo w):1<w.heap.size:=World.block_lt_of_cell? _ _ h.l0
theorem Yo.on {w w':World} (h:Yo w) (hb:Below w.heap.size w w'):Yo w':=by
  have k0:∀o,w'.cell? ⟨0,o,none⟩=w.cell? ⟨0,o,none⟩:=fun o=>hb.cell (p:=⟨0,o,none⟩) h.lt0;have k1:∀o,w'.cell? ⟨1,o,none⟩=w.cell? ⟨1,o,none⟩:=fun o=>hb.cell (p:=⟨1,o,none⟩) h.lt1;exact⟨fun i hi=>(k0 i).trans (h.first i hi),(k1 _).trans h.l0,(k1 _).trans h.h0,(k1 _).trans h.l1,(k1 _).trans h.h1,(k1 _).trans h.l2,(k1 _).trans h.h2,(k1 _).trans h.l3,(k1 _).trans h.h3,(k1 _).trans h.l4,(k1 _).trans h.h4⟩
theorem Qk (b:UInt8):b.toNat<256:=UInt8.toNat_lt b
def U1 (c:Bool) (u v:Value):Value:=if c=true then u else v
theorem ZN {c:Bool} {u v x:Value} (h:c=true) (k:x=u):Ending.returned x=.returned (U1 c u v):=by rw[k];unfold U1;rw[if_pos h]
theorem Ju {c:Bool} {u v x:Value} (h:c=false) (k:x=v):Ending.returned x=.returned (U1 c u v):=by rw[k];unfold U1;rw[if_neg (by simp[h])]
def mid (lo hi:Int) (b:UInt8):Bool:=decide (lo≤(b.toNat:Int))&&decide ((b.toNat:Int)≤hi)
theorem QlL (a b:UInt8) (r:List UInt8) (q:Option Addr) (cap:Nat) (w:World) (h:Bs w w.heap.size q (a::b::r)) (ht:Yo w) (hx:QD a.toNat=2):
    Calls Tryz.prog 214 #[.slice q (r.length+1+1) cap] w fun e w'=>e=.returned (U1 (mid 128 191 b) (.tuple #[.int .i32 ((a.toNat:Int) % 32 * 64+(b.toNat:Int) % 64),.int .i64 2]) (.tuple #[.int .i32 65533,.int .i64 1]))∧Below w.heap.size w w':=by
  obtain⟨bl,off,rfl,_,hc⟩:=h (by simp);have e0:=hc 0 (by simp);have e1:=hc 1 (by simp);simp at e0 e1;have t0:=ht.first a.toNat (Qk a);rw[hx] at t0;have lo:=ht.l0;have hi:=ht.h0;have z0:=ht.lt0;have z1:=ht.lt1;have ha:=Qk a;have g0:=Qk b;clear hc ht hx h;have i0:(0:Int)<(r.length:Int)+1+1:=(by omega);have i1:(1:Int)<(r.length:Int)+1+1:=(by omega);generalize hcnd:(mid 128 191 b)=cnd;unfold mid at hcnd;generalize a.toNat=x at *;generalize b.toNat=y0 at *;have HCnd:=Lib.hid hcnd;clear hcnd;go_enter Tryz.func214,Tryz.ntmps214;go_wp2;all_goals go_ret2
  all_goals refine⟨?_,(Below.refl _ _).alloc (Nat.le_refl _) _⟩
  all_goals first
    | exact Ju (by rw[←HCnd.out,Bool.eq_false_iff];simp;omega) rfl
    | exact ZN (by rw[←HCnd.out];simp;omega) rfl
theorem Qlj (a b c:UInt8) (r:List UInt8) (q:Option Addr) (cap:Nat) (w:World) (h:Bs w w.heap.size q (a::b::c::r)) (ht:Yo w) (hx:QD a.toNat=19):
    Calls Tryz.prog 214 #[.slice q (r.length+1+1+1) cap] w fun e w'=>e=.returned (U1 (mid 160 191 b&&mid 128 191 c) (.tuple #[.int .i32 ((a.toNat:Int) % 16 * 4096+(b.toNat:Int) % 64 * 64+(c.toNat:Int) % 64),.int .i64 3]) (.tuple #[.int .i32 65533,.int .i64 1]))∧Below w.heap.size w w':=by
  obtain⟨bl,off,rfl,_,hc⟩:=h (by simp);have e0:=hc 0 (by simp);have e1:=hc 1 (by simp);have e2:=hc 2 (by simp);simp at e0 e1 e2;have t0:=ht.first a.toNat (Qk a);rw[hx] at t0;have lo:=ht.l1;have hi:=ht.h1;have z0:=ht.lt0;have z1:=ht.lt1;have ha:=Qk a;have g0:=Qk b;have g1:=Qk c;clear hc ht hx h;have i0:(0:Int)<(r.length:Int)+1+1+1:=(by omega);have i1:(1:Int)<(r.length:Int)+1+1+1:=(by omega);have i2:(2:Int)<(r.length:Int)+1+1+1:=(by omega);generalize hcnd:(mid 160 191 b&&mid 128 191 c)=cnd;unfold mid at hcnd;generalize a.toNat=x at *;generalize b.toNat=y0 at *;generalize c.toNat=y1 at *;have HCnd:=Lib.hid hcnd;clear hcnd;go_enter Tryz.func214,Tryz.ntmps214;go_wp2;all_goals go_ret2
  all_goals refine⟨?_,(Below.refl _ _).alloc (Nat.le_refl _) _⟩
  all_goals first
    | exact Ju (by rw[←HCnd.out,Bool.eq_false_iff];simp;omega) rfl
    | exact ZN (by rw[←HCnd.out];simp;omega) rfl
theorem QlM (a b c:UInt8) (r:List UInt8) (q:Option Addr) (cap:Nat) (w:World) (h:Bs w w.heap.size q (a::b::c::r)) (ht:Yo w) (hx:QD a.toNat=3):
    Calls Tryz.prog 214 #[.slice q (r.length+1+1+1) cap] w fun e w'=>e=.returned (U1 (mid 128 191 b&&mid 128 191 c) (.tuple #[.int .i32 ((a.toNat:Int) % 16 * 4096+(b.toNat:Int) % 64 * 64+(c.toNat:Int) % 64),.int .i64 3]) (.tuple #[.int .i32 65533,.int .i64 1]))∧Below w.heap.size w w':=by
  obtain⟨bl,off,rfl,_,hc⟩:=h (by simp);have e0:=hc 0 (by simp);have e1:=hc 1 (by simp);have e2:=hc 2 (by simp);simp at e0 e1 e2;have t0:=ht.first a.toNat (Qk a);rw[hx] at t0;have lo:=ht.l0;have hi:=ht.h0;have z0:=ht.lt0;have z1:=ht.lt1;have ha:=Qk a;have g0:=Qk b;have g1:=Qk c;clear hc ht hx h;have i0:(0:Int)<(r.length:Int)+1+1+1:=(by omega);have i1:(1:Int)<(r.length:Int)+1+1+1:=(by omega);have i2:(2:Int)<(r.length:Int)+1+1+1:=(by omega);generalize hcnd:(mid 128 191 b&&mid 128 191 c)=cnd;unfold mid at hcnd;generalize a.toNat=x at *;generalize b.toNat=y0 at *;generalize c.toNat=y1 at *;have HCnd:=Lib.hid hcnd;clear hcnd;go_enter Tryz.func214,Tryz.ntmps214;go_wp2;all_goals go_ret2
  all_goals refine⟨?_,(Below.refl _ _).alloc (Nat.le_refl _) _⟩
  all_goals first
    | exact Ju (by rw[←HCnd.out,Bool.eq_false_iff];simp;omega) rfl
    | exact ZN (by rw[←HCnd.out];simp;omega) rfl
theorem Qlk (a b c:UInt8) (r:List UInt8) (q:Option Addr) (cap:Nat) (w:World) (h:Bs w w.heap.size q (a::b::c::r)) (ht:Yo w) (hx:QD a.toNat=35):
    Calls Tryz.prog 214 #[.slice q (r.length+1+1+1) cap] w fun e w'=>e=.returned (U1 (mid 128 159 b&&mid 128 191 c) (.tuple #[.int .i32 ((a.toNat:Int) % 16 * 4096+(b.toNat:Int) % 64 * 64+(c.toNat:Int) % 64),.int .i64 3]) (.tuple #[.int .i32 65533,.int .i64 1]))∧Below w.heap.size w w':=by
  obtain⟨bl,off,rfl,_,hc⟩:=h (by simp);have e0:=hc 0 (by simp);have e1:=hc 1 (by simp);have e2:=hc 2 (by simp);simp at e0 e1 e2;have t0:=ht.first a.toNat (Qk a);rw[hx] at t0;have lo:=ht.l2;have hi:=ht.h2;have z0:=ht.lt0;have z1:=ht.lt1;have ha:=Qk a;have g0:=Qk b;have g1:=Qk c;clear hc ht hx h;have i0:(0:Int)<(r.length:Int)+1+1+1:=(by omega);have i1:(1:Int)<(r.length:Int)+1+1+1:=(by omega);have i2:(2:Int)<(r.length:Int)+1+1+1:=(by omega);generalize hcnd:(mid 128 159 b&&mid 128 191 c)=cnd;unfold mid at hcnd;generalize a.toNat=x at *;generalize b.toNat=y0 at *;generalize c.toNat=y1 at *;have HCnd:=Lib.hid hcnd;clear hcnd;go_enter Tryz.func214,Tryz.ntmps214;go_wp2;all_goals go_ret2
  all_goals refine⟨?_,(Below.refl _ _).alloc (Nat.le_refl _) _⟩
  all_goals first
    | exact Ju (by rw[←HCnd.out,Bool.eq_false_iff];simp;omega) rfl
    | exact ZN (by rw[←HCnd.out];simp;omega) rfl
theorem Qll (a b c d:UInt8) (r:List UInt8) (q:Option Addr) (cap:Nat) (w:World) (h:Bs w w.heap.size q (a::b::c::d::r)) (ht:Yo w) (hx:QD a.toNat=52):
    Calls Tryz.prog 214 #[.slice q (r.length+1+1+1+1) cap] w fun e w'=>e=.returned (U1 (mid 144 191 b&&mid 128 191 c&&mid 128 191 d) (.tuple #[.int .i32 ((a.toNat:Int) % 8 * 262144+(b.toNat:Int) % 64 * 4096+(c.toNat:Int) % 64 * 64+(d.toNat:Int) % 64),.int .i64 4]) (.tuple #[.int .i32 65533,.int .i64 1]))∧Below w.heap.size w w':=by
  obtain⟨bl,off,rfl,_,hc⟩:=h (by simp);have e0:=hc 0 (by simp);have e1:=hc 1 (by simp);have e2:=hc 2 (by simp);have e3:=hc 3 (by simp);simp at e0 e1 e2 e3;have t0:=ht.first a.toNat (Qk a);rw[hx] at t0;have lo:=ht.l3;have hi:=ht.h3;have z0:=ht.lt0;have z1:=ht.lt1;have ha:=Qk a;have g0:=Qk b;have g1:=Qk c;have g2:=Qk d;clear hc ht hx h;have i0:(0:Int)<(r.length:Int)+1+1+1+1:=(by omega);have i1:(1:Int)<(r.length:Int)+1+1+1+1:=(by omega);have i2:(2:Int)<(r.length:Int)+1+1+1+1:=(by omega);have i3:(3:Int)<(r.length:Int)+1+1+1+1:=(by omega);generalize hcnd:(mid 144 191 b&&mid 128 191 c&&mid 128 191 d)=cnd;unfold mid at hcnd;generalize a.toNat=x at *;generalize b.toNat=y0 at *;generalize c.toNat=y1 at *;generalize d.toNat=y2 at *;have HCnd:=Lib.hid hcnd;clear hcnd;go_enter Tryz.func214,Tryz.ntmps214;go_wp2;all_goals go_ret2
  all_goals refine⟨?_,(Below.refl _ _).alloc (Nat.le_refl _) _⟩
  all_goals first
    | exact Ju (by rw[←HCnd.out,Bool.eq_false_iff];simp;omega) rfl
    | exact ZN (by rw[←HCnd.out];simp;omega) rfl
theorem QlN (a b c d:UInt8) (r:List UInt8) (q:Option Addr) (cap:Nat) (w:World) (h:Bs w w.heap.size q (a::b::c::d::r)) (ht:Yo w) (hx:QD a.toNat=4):
    Calls Tryz.prog 214 #[.slice q (r.length+1+1+1+1) cap] w fun e w'=>e=.returned (U1 (mid 128 191 b&&mid 128 191 c&&mid 128 191 d) (.tuple #[.int .i32 ((a.toNat:Int) % 8 * 262144+(b.toNat:Int) % 64 * 4096+(c.toNat:Int) % 64 * 64+(d.toNat:Int) % 64),.int .i64 4]) (.tuple #[.int .i32 65533,.int .i64 1]))∧Below w.heap.size w w':=by
  obtain⟨bl,off,rfl,_,hc⟩:=h (by simp);have e0:=hc 0 (by simp);have e1:=hc 1 (by simp);have e2:=hc 2 (by simp);have e3:=hc 3 (by simp);simp at e0 e1 e2 e3;have t0:=ht.first a.toNat (Qk a);rw[hx] at t0;have lo:=ht.l0;have hi:=ht.h0;have z0:=ht.lt0;have z1:=ht.lt1;have ha:=Qk a;have g0:=Qk b;have g1:=Qk c;have g2:=Qk d;clear hc ht hx h;have i0:(0:Int)<(r.length:Int)+1+1+1+1:=(by omega);have i1:(1:Int)<(r.length:Int)+1+1+1+1:=(by omega);have i2:(2:Int)<(r.length:Int)+1+1+1+1:=(by omega);have i3:(3:Int)<(r.length:Int)+1+1+1+1:=(by omega);generalize hcnd:(mid 128 191 b&&mid 128 191 c&&mid 128 191 d)=cnd;unfold mid at hcnd;generalize a.toNat=x at *;generalize b.toNat=y0 at *;generalize c.toNat=y1 at *;generalize d.toNat=y2 at *;have HCnd:=Lib.hid hcnd;clear hcnd;go_enter Tryz.func214,Tryz.ntmps214;go_wp2;all_goals go_ret2
  all_goals refine⟨?_,(Below.refl _ _).alloc (Nat.le_refl _) _⟩
  all_goals first
    | exact Ju (by rw[←HCnd.out,Bool.eq_false_iff];simp;omega) rfl
    | exact ZN (by rw[←HCnd.out];simp;omega) rfl
theorem Qlm (a b c d:UInt8) (r:List UInt8) (q:Option Addr) (cap:Nat) (w:World) (h:Bs w w.heap.size q (a::b::c::d::r)) (ht:Yo w) (hx:QD a.toNat=68):
    Calls Tryz.prog 214 #[.slice q (r.length+1+1+1+1) cap] w fun e w'=>e=.returned (U1 (mid 128 143 b&&mid 128 191 c&&mid 128 191 d) (.tuple #[.int .i32 ((a.toNat:Int) % 8 * 262144+(b.toNat:Int) % 64 * 4096+(c.toNat:Int) % 64 * 64+(d.toNat:Int) % 64),.int .i64 4]) (.tuple #[.int .i32 65533,.int .i64 1]))∧Below w.heap.size w w':=by
  obtain⟨bl,off,rfl,_,hc⟩:=h (by simp);have e0:=hc 0 (by simp);have e1:=hc 1 (by simp);have e2:=hc 2 (by simp);have e3:=hc 3 (by simp);simp at e0 e1 e2 e3;have t0:=ht.first a.toNat (Qk a);rw[hx] at t0;have lo:=ht.l4;have hi:=ht.h4;have z0:=ht.lt0;have z1:=ht.lt1;have ha:=Qk a;have g0:=Qk b;have g1:=Qk c;have g2:=Qk d;clear hc ht hx h;have i0:(0:Int)<(r.length:Int)+1+1+1+1:=(by omega);have i1:(1:Int)<(r.length:Int)+1+1+1+1:=(by omega);have i2:(2:Int)<(r.length:Int)+1+1+1+1:=(by omega);have i3:(3:Int)<(r.length:Int)+1+1+1+1:=(by omega);generalize hcnd:(mid 128 143 b&&mid 128 191 c&&mid 128 191 d)=cnd;unfold mid at hcnd;generalize a.toNat=x at *;generalize b.toNat=y0 at *;generalize c.toNat=y1 at *;generalize d.toNat=y2 at *;have HCnd:=Lib.hid hcnd;clear hcnd;go_enter Tryz.func214,Tryz.ntmps214;go_wp2;all_goals go_ret2
  all_goals refine⟨?_,(Below.refl _ _).alloc (Nat.le_refl _) _⟩
  all_goals first
    | exact Ju (by rw[←HCnd.out,Bool.eq_false_iff];simp;omega) rfl
    | exact ZN (by rw[←HCnd.out];simp;omega) rfl
theorem QfQ (a:UInt8) (r:List UInt8) (q:Option Addr) (cap:Nat) (w:World) (h:Bs w w.heap.size q (a::r)) (ht:Yo w) (hx:QD a.toNat=2) (hs:r.length+1<2):
    Calls Tryz.prog 214 #[.slice q (r.length+1) cap] w fun e w'=>e=.returned (.tuple #[.int .i32 65533,.int .i64 1])∧Below w.heap.size w w':=by
  obtain⟨bl,off,rfl,_,hc⟩:=h (by simp);have e0:=hc 0 (by simp);simp at e0;have t0:=ht.first a.toNat (Qk a);rw[hx] at t0;have lo:=ht.l0;have hi:=ht.h0;have z0:=ht.lt0;have z1:=ht.lt1;have ha:=Qk a;clear hc ht hx h;have i0:(0:Int)<(r.length:Int)+1:=(by omega);have i1:(r.length:Int)+1<2:=(by omega);generalize a.toNat=x at *;go_enter Tryz.func214,Tryz.ntmps214;go_wp2
  go_ret2
  exact⟨rfl,(Below.refl _ _).alloc (Nat.le_refl _) _⟩
theorem UK (a:UInt8) (r:List UInt8) (q:Option Addr) (cap:Nat) (w:World) (h:Bs w w.heap.size q (a::r)) (ht:Yo w) (hx:QD a.toNat=19) (hs:r.length+1<3):
    Calls Tryz.prog 214 #[.slice q (r.length+1) cap] w fun e w'=>e=.returned (.tuple #[.int .i32 65533,.int .i64 1])∧Below w.heap.size w w':=by
  obtain⟨bl,off,rfl,_,hc⟩:=h (by simp);have e0:=hc 0 (by simp);simp at e0;have t0:=ht.first a.toNat (Qk a);rw[hx] at t0;have lo:=ht.l1;have hi:=ht.h1;have z0:=ht.lt0;have z1:=ht.lt1;have ha:=Qk a;clear hc ht hx h;have i0:(0:Int)<(r.length:Int)+1:=(by omega);have i1:(r.length:Int)+1<3:=(by omega);generalize a.toNat=x at *;go_enter Tryz.func214,Tryz.ntmps214;go_wp2
  go_ret2
  exact⟨rfl,(Below.refl _ _).alloc (Nat.le_refl _) _⟩
theorem Qay (a:UInt8) (r:List UInt8) (q:Option Addr) (cap:Nat) (w:World) (h:Bs w w.heap.size q (a::r)) (ht:Yo w) (hx:QD a.toNat=3) (hs:r.length+1<3):
    Calls Tryz.prog 214 #[.slice q (r.length+1) cap] w fun e w'=>e=.returned (.tuple #[.int .i32 65533,.int .i64 1])∧Below w.heap.size w w':=by
  obtain⟨bl,off,rfl,_,hc⟩:=h (by simp);have e0:=hc 0 (by simp);simp at e0;have t0:=ht.first a.toNat (Qk a);rw[hx] at t0;have lo:=ht.l0;have hi:=ht.h0;have z0:=ht.lt0;have z1:=ht.lt1;have ha:=Qk a;clear hc ht hx h;have i0:(0:Int)<(r.length:Int)+1:=(by omega);have i1:(r.length:Int)+1<3:=(by omega);generalize a.toNat=x at *;go_enter Tryz.func214,Tryz.ntmps214;go_wp2
  go_ret2
  exact⟨rfl,(Below.refl _ _).alloc (Nat.le_refl _) _⟩
theorem UL (a:UInt8) (r:List UInt8) (q:Option Addr) (cap:Nat) (w:World) (h:Bs w w.heap.size q (a::r)) (ht:Yo w) (hx:QD a.toNat=35) (hs:r.length+1<3):
    Calls Tryz.prog 214 #[.slice q (r.length+1) cap] w fun e w'=>e=.returned (.tuple #[.int .i32 65533,.int .i64 1])∧Below w.heap.size w w':=by
  obtain⟨bl,off,rfl,_,hc⟩:=h (by simp);have e0:=hc 0 (by simp);simp at e0;have t0:=ht.first a.toNat (Qk a);rw[hx] at t0;have lo:=ht.l2;have hi:=ht.h2;have z0:=ht.lt0;have z1:=ht.lt1;have ha:=Qk a;clear hc ht hx h;have i0:(0:Int)<(r.length:Int)+1:=(by omega);have i1:(r.length:Int)+1<3:=(by omega);generalize a.toNat=x at *;go_enter Tryz.func214,Tryz.ntmps214;go_wp2
  go_ret2
  exact⟨rfl,(Below.refl _ _).alloc (Nat.le_refl _) _⟩
theorem JR (a:UInt8) (r:List UInt8) (q:Option Addr) (cap:Nat) (w:World) (h:Bs w w.heap.size q (a::r)) (ht:Yo w) (hx:QD a.toNat=52) (hs:r.length+1<4):
    Calls Tryz.prog 214 #[.slice q (r.length+1) cap] w fun e w'=>e=.returned (.tuple #[.int .i32 65533,.int .i64 1])∧Below w.heap.size w w':=by
  obtain⟨bl,off,rfl,_,hc⟩:=h (by simp);have e0:=hc 0 (by simp);simp at e0;have t0:=ht.first a.toNat (Qk a);rw[hx] at t0;have lo:=ht.l3;have hi:=ht.h3;have z0:=ht.lt0;have z1:=ht.lt1;have ha:=Qk a;clear hc ht hx h;have i0:(0:Int)<(r.length:Int)+1:=(by omega);have i1:(r.length:Int)+1<4:=(by omega);generalize a.toNat=x at *;go_enter Tryz.func214,Tryz.ntmps214;go_wp2
  go_ret2
  exact⟨rfl,(Below.refl _ _).alloc (Nat.le_refl _) _⟩
theorem KM (a:UInt8) (r:List UInt8) (q:Option Addr) (cap:Nat) (w:World) (h:Bs w w.heap.size q (a::r)) (ht:Yo w) (hx:QD a.toNat=4) (hs:r.length+1<4):
    Calls Tryz.prog 214 #[.slice q (r.length+1) cap] w fun e w'=>e=.returned (.tuple #[.int .i32 65533,.int .i64 1])∧Below w.heap.size w w':=by
  obtain⟨bl,off,rfl,_,hc⟩:=h (by simp);have e0:=hc 0 (by simp);simp at e0;have t0:=ht.first a.toNat (Qk a);rw[hx] at t0;have lo:=ht.l0;have hi:=ht.h0;have z0:=ht.lt0;have z1:=ht.lt1;have ha:=Qk a;clear hc ht hx h;have i0:(0:Int)<(r.length:Int)+1:=(by omega);have i1:(r.length:Int)+1<4:=(by omega);generalize a.toNat=x at *;go_enter Tryz.func214,Tryz.ntmps214;go_wp2
  go_ret2
  exact⟨rfl,(Below.refl _ _).alloc (Nat.le_refl _) _⟩
theorem JS (a:UInt8) (r:List UInt8) (q:Option Addr) (cap:Nat) (w:World) (h:Bs w w.heap.size q (a::r)) (ht:Yo w) (hx:QD a.toNat=68) (hs:r.length+1<4):
    Calls Tryz.prog 214 #[.slice q (r.length+1) cap] w fun e w'=>e=.returned (.tuple #[.int .i32 65533,.int .i64 1])∧Below w.heap.size w w':=by
  obtain⟨bl,off,rfl,_,hc⟩:=h (by simp);have e0:=hc 0 (by simp);simp at e0;have t0:=ht.first a.toNat (Qk a);rw[hx] at t0;have lo:=ht.l4;have hi:=ht.h4;have z0:=ht.lt0;have z1:=ht.lt1;have ha:=Qk a;clear hc ht hx h;have i0:(0:Int)<(r.length:Int)+1:=(by omega);have i1:(r.length:Int)+1<4:=(by omega);generalize a.toNat=x at *;go_enter Tryz.func214,Tryz.ntmps214;go_wp2
  go_ret2
  exact⟨rfl,(Below.refl _ _).alloc (Nat.le_refl _) _⟩
def ZZ (left:Int) (n:Nat):Int:=if left - n<0 then -1 else left - n
theorem Qaz (p:Option Addr) (n c:Nat) (left:Int) (w:World) (hn:n≤9223372036854775807) (h0:0≤left) (h1:left≤1048576):
    Calls Tryz.prog 83 #[.slice p n c,.int .i64 left] w fun e w'=>e=.returned (.int .i64 (ZZ left n))∧w=w':=by
  by_cases h:left - (n:Int)<0
  · go_enter Tryz.func83,Tryz.ntmps83;go_wp2;go_ret;exact⟨Xg (by unfold ZZ;rw[if_pos h]),rfl⟩
  · go_enter Tryz.func83,Tryz.ntmps83;go_wp2;go_ret;exact⟨Xg (by unfold ZZ;rw[if_neg (by omega)]),rfl⟩
theorem Qho {left:Int} {n:Nat} (h:ZZ left n<0):ZZ left n= -1:=by
  unfold ZZ at h ⊢;split at h <;> simp_all
theorem Qjk {left:Int} {n:Nat} (h:0≤ZZ left n):ZZ left n≤left∧(n:Int)≤left:=by
  unfold ZZ at h ⊢;split at h <;> simp_all <;> omega
theorem QaA (e:Ev) (p:Option Addr) (c:Nat) (left:Int) (w:World) (hn:e.data.length≤9223372036854775807) (h0:0≤left) (h1:left≤1048576):
    Calls Tryz.prog 44 #[evV e p c,.int .i64 left] w fun en w'=>en=.returned (.int .i64 (ZZ left e.data.length))∧Below w.heap.size w w':=by
  unfold evV;by_cases h:ZZ left e.data.length<0
  · have HN:=Lib.hid (Qho h);go_enter Tryz.func44,Tryz.ntmps44;go_wp2_with (go_at_call 83;refine(Qaz _ _ _ _ _ hn h0 h1).mono ?_;rintro en w1 ⟨rfl,rfl⟩);go_ret;exact⟨Xg HN.out.symm,(Below.refl _ _).alloc (Nat.le_refl _) _⟩
  · go_enter Tryz.func44,Tryz.ntmps44;go_wp2_with (go_at_call 83;refine(Qaz _ _ _ _ _ hn h0 h1).mono ?_;rintro en w1 ⟨rfl,rfl⟩);go_ret;exact⟨rfl,(Below.refl _ _).alloc (Nat.le_refl _) _⟩
def Bsx (w:World) (lo hi:Nat) (p:Option Addr) (l:List UInt8):Prop:=
  l≠[]→∃b off,p=some ⟨b,off,none⟩∧lo≤b∧b<hi∧∀i,i<l.length→w.cell? ⟨b,off+i,none⟩=some (.int .u8 ((l.getD i 0).toNat:Int))
theorem Bsx.bs {w:World} {lo hi:Nat} {p:Option Addr} {l:List UInt8} (h:Bsx w lo hi p l):Bs w hi p l:=fun hl=>by
  obtain⟨b,off,e,_,h2,h3⟩:=h hl;exact⟨b,off,e,h2,h3⟩
theorem Bsx.keep {w w':World} {lo lo' hi hi':Nat} {p:Option Addr} {l:List UInt8} (h:Bsx w lo hi p l) (hlo:lo'≤lo) (hhi:hi≤hi') (hk:∀a:Addr,lo≤a.block→a.block<hi→w'.cell? a=w.cell? a):Bsx w' lo' hi' p l:=fun hl=>by
  obtain⟨b,off,e,h1,h2,h3⟩:=h hl;exact⟨b,off,e,by omega,by omega,fun i hi=>(hk ⟨b,off+i,none⟩ h1 h2).trans (h3 i hi)⟩
theorem Qev (e:Ev) (p q:Option Addr) (c d:Nat) (w:World) (h:Bs w w.heap.size p e.data) (k:Bs w w.heap.size q e.data) (hl:e.data.length≤1048576):
    Calls Tryz.prog 47 #[evV e p c,evV e q d] w fun en w'=>en=.returned (.bool true)∧Below w.heap.size w w':=by
  unfold evV;go_enter Tryz.func47,Tryz.ntmps47;go_wp2_with fail;refine(Qet _ _ _ _ _ _ ((h.alloc _).alloc _) ((k.alloc _).alloc _) hl).mono ?_;rintro en w1 ⟨rfl,hb⟩;go_wp2;go_ret;exact⟨rfl,Qa (((Below.refl _ _).alloc (Nat.le_refl _) _).alloc (by simp) _) hb⟩
def Qkr:Prop:=∀(e:Ev) (p:Option Addr) (c:Nat) (b off:Nat) (w:World) (_:Qax w b off e p c),
    Calls Tryz.prog 81 #[.pointer (some ⟨b,off,none⟩)] w fun en w'=>en=.returned (.bool e.form)∧w=w'
theorem Z0 (YF:Qkr) (e:Ev) (p:Option Addr) (c:Nat) (w:World):
    Calls Tryz.prog 32 #[evV e p c] w fun en w'=>en=.returned (.int .i64 e.fault)∧Below w.heap.size w w':=by
  have HE:=Qax.new w e p c 40;unfold evC at HE;unfold evV
  cases h1:e.form
  · have HF:=Lib.hid (Qjh h1);go_enter Tryz.func32,Tryz.ntmps32;go_wp2_with (go_at_call 81;refine(YF e p c _ _ _ HE).mono ?_;rintro en w1 ⟨rfl,rfl⟩);go_ret;exact⟨Xg HF.out.symm,(Below.refl _ _).alloc (Nat.le_refl _) _⟩
  have HN:Hid (∀x,e.nums=x→e.fits=true→e.fault=if x=false then 3 else 0):=fun x hx hf=>by
    cases x
    · exact Qji h1 hx
    · exact Ug h1 hx hf
  have HD:Hid (∀x,e.fits=x→e.nums=true→e.fault=if x=false then 2 else 0):=fun x hx hn=>by
    cases x
    · exact Qjj h1 hn hx
    · exact Ug h1 hn hx
  rcases kinds e.kind with⟨k1,k2,k3,k4⟩ | ⟨k1,k2,k3,k4⟩ | ⟨k1,k2,k3,k4⟩ | ⟨k1,k2,k3,k4⟩ | ⟨k1,k2,k3,k4⟩
  · have HF:Hid (e.fits=true):=(by unfold Ev.fits;rw[if_neg (by simpa using k3),if_neg (by simpa using k4)];rfl);have HU:Hid (e.nums=(Xi e.code&&inR e.mods 0 7)):=by unfold Ev.nums;rw[if_pos (by simpa using k1)];rfl
    cases h2:Xi e.code
    · go_enter Tryz.func32,Tryz.ntmps32;go_wp2_with (first
        | (go_at_call 81;refine(YF e p c _ _ _ HE).mono ?_;rintro en w1 ⟨rfl,rfl⟩)
        | (go_at_call 82;refine(Qeu _ _).mono ?_;rintro en w1 ⟨rfl,rfl⟩))
      go_ret;exact⟨Xg (by rw[HN.out _ HU.out HF.out,h2];rfl),(Below.refl _ _).alloc (Nat.le_refl _) _⟩
    · cases h3:inR e.mods 0 7
      all_goals
        go_enter Tryz.func32,Tryz.ntmps32;go_wp2_with (first
          | (go_at_call 81;refine(YF e p c _ _ _ HE).mono ?_;rintro en w1 ⟨rfl,rfl⟩)
          | (go_at_call 82;refine(Qeu _ _).mono ?_;rintro en w1 ⟨rfl,rfl⟩)
          | (go_at_call 64;refine(QZ _ _ _ _).mono ?_;rintro en w1 ⟨rfl,rfl⟩))
        go_ret;exact⟨Xg (by rw[HN.out _ HU.out HF.out,h2,h3];rfl),(Below.refl _ _).alloc (Nat.le_refl _) _⟩
  · have HF:Hid (e.fits=true):=(by unfold Ev.fits;rw[if_neg (by simpa using k3),if_neg (by simpa using k4)];rfl);have HU:Hid (e.nums=(inR e.button 0 2&&(inR e.act 1 3&&(inR e.mods 0 7&&(inR e.col 0 199&&inR e.row 0 199))))):=by
      unfold Ev.nums;rw[if_neg (by simpa using k1),if_pos (by simpa using k2)];rfl
    cases h6:inR e.row 0 199
    all_goals
      go_enter Tryz.func32,Tryz.ntmps32;go_wp2_with (first
        | (go_at_call 81;refine(YF e p c _ _ _ HE).mono ?_;rintro en w1 ⟨rfl,rfl⟩)
        | (go_at_call 64;refine(QZ _ _ _ _).mono ?_;rintro en w1 ⟨rfl,rfl⟩))
      all_goals
        go_ret;exact⟨Xg (by rw[HN.out _ HU.out HF.out];simp[*]),(Below.refl _ _).alloc (Nat.le_refl _) _⟩
  · have HF:Hid (e.nums=true):=(by unfold Ev.nums;rw[if_neg (by simpa using k1),if_neg (by simpa using k2)];rfl);have HU:Hid (e.fits=inR e.data.length 1 32):=by unfold Ev.fits;rw[if_pos (by simpa using k3)];rfl
    cases h2:inR e.data.length 1 32
    all_goals
      go_enter Tryz.func32,Tryz.ntmps32;go_wp2_with (first
        | (go_at_call 81;refine(YF e p c _ _ _ HE).mono ?_;rintro en w1 ⟨rfl,rfl⟩)
        | (go_at_call 64;refine(QZ _ _ _ _).mono ?_;rintro en w1 ⟨rfl,rfl⟩))
      go_ret;exact⟨Xg (by rw[HD.out _ HU.out HF.out,h2];rfl),(Below.refl _ _).alloc (Nat.le_refl _) _⟩
  · have HF:Hid (e.nums=true):=(by unfold Ev.nums;rw[if_neg (by simpa using k1),if_neg (by simpa using k2)];rfl);have HU:Hid (e.fits=inR e.data.length 1 24):=by unfold Ev.fits;rw[if_neg (by simpa using k3),if_pos (by simpa using k4)];rfl
    cases h2:inR e.data.length 1 24
    all_goals
      go_enter Tryz.func32,Tryz.ntmps32;go_wp2_with (first
        | (go_at_call 81;refine(YF e p c _ _ _ HE).mono ?_;rintro en w1 ⟨rfl,rfl⟩)
        | (go_at_call 64;refine(QZ _ _ _ _).mono ?_;rintro en w1 ⟨rfl,rfl⟩))
      go_ret;exact⟨Xg (by rw[HD.out _ HU.out HF.out,h2];rfl),(Below.refl _ _).alloc (Nat.le_refl _) _⟩
  · exfalso;unfold Ev.form at h1;rw[if_neg (by simpa using k1),if_neg (by simpa using k2),if_neg (by simp at k3 k4;omega)] at h1
    cases h1
theorem Qjl:∀x:Fin 256,bits .or .i32 (bits .andNot .i32 ((x.val:Nat):Int) (-1)) (bits .and .i32 65533 (-1))=65533:=by decide
theorem Qln (a:UInt8) (r:List UInt8) (q:Option Addr) (cap:Nat) (w:World) (h:Bs w w.heap.size q (a::r)) (ht:Yo w) (hx:QD a.toNat=241):
    Calls Tryz.prog 214 #[.slice q (r.length+1) cap] w fun e w'=>e=.returned (.tuple #[.int .i32 65533,.int .i64 1])∧Below w.heap.size w w':=by
  obtain⟨bl,off,rfl,_,hc⟩:=h (by simp);have e0:=hc 0 (by simp);simp at e0;have t0:=ht.first a.toNat (Qk a);rw[hx] at t0;have lo:=ht.l0;have hi:=ht.h0;have z0:=ht.lt0;have z1:=ht.lt1;have ha:=Qk a;clear hc ht hx h;have HD:=Lib.hid (Qjl ⟨a.toNat,ha⟩);have i0:(0:Int)<(r.length:Int)+1:=(by omega);go_enter Tryz.func214,Tryz.ntmps214;go_wp2
  go_ret2
  refine⟨?_,Below.refl _ _⟩;show Ending.returned (.tuple #[.int .i32 (bits .or .i32 (bits .andNot .i32 (a.toNat:Int) (wrap32 517543559168 / 2147483648)) (bits .and .i32 65533 (wrap32 517543559168 / 2147483648))),.int .i64 1])=_;rw[show(wrap32 517543559168 / 2147483648:Int)= -1 from by kernel_rfl];have hd:=HD.out;rw[hd]
theorem Qew (a:UInt8) (r:List UInt8) (q:Option Addr) (cap:Nat) (w:World) (h:Bs w w.heap.size q (a::r)) (ht:Yo w) (hx:QD a.toNat=240):
    Calls Tryz.prog 200 #[.slice q (r.length+1) cap] w fun e w'=>e=.returned (.bool true)∧Below w.heap.size w w':=by
  obtain⟨bl,off,rfl,_,hc⟩:=h (by simp);have e0:=hc 0 (by simp);simp at e0;have t0:=ht.first a.toNat (Qk a);rw[hx] at t0;have lo:=ht.l0;have hi:=ht.h0;have z0:=ht.lt0;have z1:=ht.lt1;have ha:=Qk a;clear hc ht hx h;have i0:(0:Int)<(r.length:Int)+1:=(by omega);have i1:(0:Int)≤(r.length:Int)+1:=(by omega);have i2:((r.length:Int)+1==0)=false:=(by simp;omega);generalize a.toNat=x at *;go_enter Tryz.func200,Tryz.ntmps200;go_wp2;go_ret;exact⟨rfl,Below.refl _ _⟩
theorem Qex (a:UInt8) (r:List UInt8) (q:Option Addr) (cap:Nat) (w:World) (h:Bs w w.heap.size q (a::r)) (ht:Yo w) (hx:QD a.toNat=241) (hs:1≤r.length+1):
    Calls Tryz.prog 200 #[.slice q (r.length+1) cap] w fun e w'=>e=.returned (.bool true)∧Below w.heap.size w w':=by
  obtain⟨bl,off,rfl,_,hc⟩:=h (by simp);have e0:=hc 0 (by simp);simp at e0;have t0:=ht.first a.toNat (Qk a);rw[hx] at t0;have lo:=ht.l0;have hi:=ht.h0;have z0:=ht.lt0;have z1:=ht.lt1;have ha:=Qk a;clear hc ht hx h;have i0:(0:Int)<(r.length:Int)+1:=(by omega);have i1:(1:Int)≤(r.length:Int)+1:=(by omega);have i2:((r.length:Int)+1==0)=false:=(by simp;omega);generalize a.toNat=x at *;go_enter Tryz.func200,Tryz.ntmps200;go_wp2;go_ret;exact⟨rfl,Below.refl _ _⟩
theorem Qhp (a:UInt8) (r:List UInt8) (q:Option Addr) (cap:Nat) (w:World) (h:Bs w w.heap.size q (a::r)) (ht:Yo w) (hx:QD a.toNat=2) (hs:2≤r.length+1):
    Calls Tryz.prog 200 #[.slice q (r.length+1) cap] w fun e w'=>e=.returned (.bool true)∧Below w.heap.size w w':=by
  obtain⟨bl,off,rfl,_,hc⟩:=h (by simp);have e0:=hc 0 (by simp);simp at e0;have t0:=ht.first a.toNat (Qk a);rw[hx] at t0;have lo:=ht.l0;have hi:=ht.h0;have z0:=ht.lt0;have z1:=ht.lt1;have ha:=Qk a;clear hc ht hx h;have i0:(0:Int)<(r.length:Int)+1:=(by omega);have i1:(2:Int)≤(r.length:Int)+1:=(by omega);have i2:((r.length:Int)+1==0)=false:=(by simp;omega);generalize a.toNat=x at *;go_enter Tryz.func200,Tryz.ntmps200;go_wp2;go_ret;exact⟨rfl,Below.refl _ _⟩
theorem QfR (a:UInt8) (r:List UInt8) (q:Option Addr) (cap:Nat) (w:World) (h:Bs w w.heap.size q (a::r)) (ht:Yo w) (hx:QD a.toNat=19) (hs:3≤r.length+1):
    Calls Tryz.prog 200 #[.slice q (r.length+1) cap] w fun e w'=>e=.returned (.bool true)∧Below w.heap.size w w':=by
  obtain⟨bl,off,rfl,_,hc⟩:=h (by simp);have e0:=hc 0 (by simp);simp at e0;have t0:=ht.first a.toNat (Qk a);rw[hx] at t0;have lo:=ht.l1;have hi:=ht.h1;have z0:=ht.lt0;have z1:=ht.lt1;have ha:=Qk a;clear hc ht hx h;have i0:(0:Int)<(r.length:Int)+1:=(by omega);have i1:(3:Int)≤(r.length:Int)+1:=(by omega);have i2:((r.length:Int)+1==0)=false:=(by simp;omega);generalize a.toNat=x at *;go_enter Tryz.func200,Tryz.ntmps200;go_wp2;go_ret;exact⟨rfl,Below.refl _ _⟩
theorem Qhq (a:UInt8) (r:List UInt8) (q:Option Addr) (cap:Nat) (w:World) (h:Bs w w.heap.size q (a::r)) (ht:Yo w) (hx:QD a.toNat=3) (hs:3≤r.length+1):
    Calls Tryz.prog 200 #[.slice q (r.length+1) cap] w fun e w'=>e=.returned (.bool true)∧Below w.heap.size w w':=by
  obtain⟨bl,off,rfl,_,hc⟩:=h (by simp);have e0:=hc 0 (by simp);simp at e0;have t0:=ht.first a.toNat (Qk a);rw[hx] at t0;have lo:=ht.l0;have hi:=ht.h0;have z0:=ht.lt0;have z1:=ht.lt1;have ha:=Qk a;clear hc ht hx h;have i0:(0:Int)<(r.length:Int)+1:=(by omega);have i1:(3:Int)≤(r.length:Int)+1:=(by omega);have i2:((r.length:Int)+1==0)=false:=(by simp;omega);generalize a.toNat=x at *;go_enter Tryz.func200,Tryz.ntmps200;go_wp2;go_ret;exact⟨rfl,Below.refl _ _⟩
theorem QfS (a:UInt8) (r:List UInt8) (q:Option Addr) (cap:Nat) (w:World) (h:Bs w w.heap.size q (a::r)) (ht:Yo w) (hx:QD a.toNat=35) (hs:3≤r.length+1):
    Calls Tryz.prog 200 #[.slice q (r.length+1) cap] w fun e w'=>e=.returned (.bool true)∧Below w.heap.size w w':=by
  obtain⟨bl,off,rfl,_,hc⟩:=h (by simp);have e0:=hc 0 (by simp);simp at e0;have t0:=ht.first a.toNat (Qk a);rw[hx] at t0;have lo:=ht.l2;have hi:=ht.h2;have z0:=ht.lt0;have z1:=ht.lt1;have ha:=Qk a;clear hc ht hx h;have i0:(0:Int)<(r.length:Int)+1:=(by omega);have i1:(3:Int)≤(r.length:Int)+1:=(by omega);have i2:((r.length:Int)+1==0)=false:=(by simp;omega);generalize a.toNat=x at *;go_enter Tryz.func200,Tryz.ntmps200;go_wp2;go_ret;exact⟨rfl,Below.refl _ _⟩
theorem QfT (a:UInt8) (r:List UInt8) (q:Option Addr) (cap:Nat) (w:World) (h:Bs w w.heap.size q (a::r)) (ht:Yo w) (hx:QD a.toNat=52) (hs:4≤r.length+1):
    Calls Tryz.prog 200 #[.slice q (r.length+1) cap] w fun e w'=>e=.returned (.bool true)∧Below w.heap.size w w':=by
  obtain⟨bl,off,rfl,_,hc⟩:=h (by simp);have e0:=hc 0 (by simp);simp at e0;have t0:=ht.first a.toNat (Qk a);rw[hx] at t0;have lo:=ht.l3;have hi:=ht.h3;have z0:=ht.lt0;have z1:=ht.lt1;have ha:=Qk a;clear hc ht hx h;have i0:(0:Int)<(r.length:Int)+1:=(by omega);have i1:(4:Int)≤(r.length:Int)+1:=(by omega);have i2:((r.length:Int)+1==0)=false:=(by simp;omega);generalize a.toNat=x at *;go_enter Tryz.func200,Tryz.ntmps200;go_wp2;go_ret;exact⟨rfl,Below.refl _ _⟩
theorem Qhr (a:UInt8) (r:List UInt8) (q:Option Addr) (cap:Nat) (w:World) (h:Bs w w.heap.size q (a::r)) (ht:Yo w) (hx:QD a.toNat=4) (hs:4≤r.length+1):
    Calls Tryz.prog 200 #[.slice q (r.length+1) cap] w fun e w'=>e=.returned (.bool true)∧Below w.heap.size w w':=by
  obtain⟨bl,off,rfl,_,hc⟩:=h (by simp);have e0:=hc 0 (by simp);simp at e0;have t0:=ht.first a.toNat (Qk a);rw[hx] at t0;have lo:=ht.l0;have hi:=ht.h0;have z0:=ht.lt0;have z1:=ht.lt1;have ha:=Qk a;clear hc ht hx h;have i0:(0:Int)<(r.length:Int)+1:=(by omega);have i1:(4:Int)≤(r.length:Int)+1:=(by omega);have i2:((r.length:Int)+1==0)=false:=(by simp;omega);generalize a.toNat=x at *;go_enter Tryz.func200,Tryz.ntmps200;go_wp2;go_ret;exact⟨rfl,Below.refl _ _⟩
theorem QfU (a:UInt8) (r:List UInt8) (q:Option Addr) (cap:Nat) (w:World) (h:Bs w w.heap.size q (a::r)) (ht:Yo w) (hx:QD a.toNat=68) (hs:4≤r.length+1):
    Calls Tryz.prog 200 #[.slice q (r.length+1) cap] w fun e w'=>e=.returned (.bool true)∧Below w.heap.size w w':=by
  obtain⟨bl,off,rfl,_,hc⟩:=h (by simp);have e0:=hc 0 (by simp);simp at e0;have t0:=ht.first a.toNat (Qk a);rw[hx] at t0;have lo:=ht.l4;have hi:=ht.h4;have z0:=ht.lt0;have z1:=ht.lt1;have ha:=Qk a;clear hc ht hx h;have i0:(0:Int)<(r.length:Int)+1:=(by omega);have i1:(4:Int)≤(r.length:Int)+1:=(by omega);have i2:((r.length:Int)+1==0)=false:=(by simp;omega);generalize a.toNat=x at *;go_enter Tryz.func200,Tryz.ntmps200;go_wp2;go_ret;exact⟨rfl,Below.refl _ _⟩
theorem Qdr (a:UInt8) (q:Option Addr) (cap:Nat) (w:World) (h:Bs w w.heap.size q [a]) (ht:Yo w) (hx:QD a.toNat=2):
    Calls Tryz.prog 200 #[.slice q 1 cap] w fun e w'=>e=.returned (.bool false)∧Below w.heap.size w w':=by
  obtain⟨bl,off,rfl,_,hc⟩:=h (by simp);have e0:=hc 0 (by simp);simp at e0;have t0:=ht.first a.toNat (Qk a);rw[hx] at t0;have lo:=ht.l0;have hi:=ht.h0;have z0:=ht.lt0;have z1:=ht.lt1;have ha:=Qk a;clear hc ht hx h;generalize a.toNat=x at *;go_enter Tryz.func200,Tryz.ntmps200;go_wp2
  go_quiet (fail)
  go_wp2;go_ret;exact⟨Qi (by rfl),Qc ((Below.refl _ _).alloc (Nat.le_refl _) _) _⟩
theorem Qcc (a:UInt8) (q:Option Addr) (cap:Nat) (w:World) (h:Bs w w.heap.size q [a]) (ht:Yo w) (hx:QD a.toNat=19):
    Calls Tryz.prog 200 #[.slice q 1 cap] w fun e w'=>e=.returned (.bool false)∧Below w.heap.size w w':=by
  obtain⟨bl,off,rfl,_,hc⟩:=h (by simp);have e0:=hc 0 (by simp);simp at e0;have t0:=ht.first a.toNat (Qk a);rw[hx] at t0;have lo:=ht.l1;have hi:=ht.h1;have z0:=ht.lt0;have z1:=ht.lt1;have ha:=Qk a;clear hc ht hx h;generalize a.toNat=x at *;go_enter Tryz.func200,Tryz.ntmps200;go_wp2
  go_quiet (fail)
  go_wp2;go_ret;exact⟨Qi (by rfl),Qc ((Below.refl _ _).alloc (Nat.le_refl _) _) _⟩
theorem Qcd (a b:UInt8) (q:Option Addr) (cap:Nat) (w:World) (h:Bs w w.heap.size q [a,b]) (ht:Yo w) (hx:QD a.toNat=19):
    Calls Tryz.prog 200 #[.slice q 2 cap] w fun e w'=>e=.returned (.bool (!mid 160 191 b))∧Below w.heap.size w w':=by
  obtain⟨bl,off,rfl,_,hc⟩:=h (by simp);have e0:=hc 0 (by simp);have e1:=hc 1 (by simp);simp at e0 e1;have t0:=ht.first a.toNat (Qk a);rw[hx] at t0;have lo:=ht.l1;have hi:=ht.h1;have z0:=ht.lt0;have z1:=ht.lt1;have ha:=Qk a;have g0:=Qk b;clear hc ht hx h;unfold mid;generalize a.toNat=x at *;generalize b.toNat=y0 at *;by_cases k1:(y0:Int)<160
  · go_enter Tryz.func200,Tryz.ntmps200;go_wp2
    go_quiet (fail)
    go_wp2;go_ret;exact⟨Qi (by simp;omega),Qc ((Below.refl _ _).alloc (Nat.le_refl _) _) _⟩
  have k1':decide ((y0:Int)<160)=false:=(by simpa using k1);by_cases k2:191<(y0:Int)
  · go_enter Tryz.func200,Tryz.ntmps200;go_wp2
    go_quiet (fail)
    go_wp2;go_ret;exact⟨Qi (by simp;omega),Qc ((Below.refl _ _).alloc (Nat.le_refl _) _) _⟩
  have k2':decide (191<(y0:Int))=false:=(by simpa using k2);go_enter Tryz.func200,Tryz.ntmps200;go_wp2
  go_quiet (fail)
  go_wp2;go_ret;exact⟨Qi (by simp;omega),Qc ((Below.refl _ _).alloc (Nat.le_refl _) _) _⟩
theorem Qds (a:UInt8) (q:Option Addr) (cap:Nat) (w:World) (h:Bs w w.heap.size q [a]) (ht:Yo w) (hx:QD a.toNat=3):
    Calls Tryz.prog 200 #[.slice q 1 cap] w fun e w'=>e=.returned (.bool false)∧Below w.heap.size w w':=by
  obtain⟨bl,off,rfl,_,hc⟩:=h (by simp);have e0:=hc 0 (by simp);simp at e0;have t0:=ht.first a.toNat (Qk a);rw[hx] at t0;have lo:=ht.l0;have hi:=ht.h0;have z0:=ht.lt0;have z1:=ht.lt1;have ha:=Qk a;clear hc ht hx h;generalize a.toNat=x at *;go_enter Tryz.func200,Tryz.ntmps200;go_wp2
  go_quiet (fail)
  go_wp2;go_ret;exact⟨Qi (by rfl),Qc ((Below.refl _ _).alloc (Nat.le_refl _) _) _⟩
theorem Qdt (a b:UInt8) (q:Option Addr) (cap:Nat) (w:World) (h:Bs w w.heap.size q [a,b]) (ht:Yo w) (hx:QD a.toNat=3):
    Calls Tryz.prog 200 #[.slice q 2 cap] w fun e w'=>e=.returned (.bool (!mid 128 191 b))∧Below w.heap.size w w':=by
  obtain⟨bl,off,rfl,_,hc⟩:=h (by simp);have e0:=hc 0 (by simp);have e1:=hc 1 (by simp);simp at e0 e1;have t0:=ht.first a.toNat (Qk a);rw[hx] at t0;have lo:=ht.l0;have hi:=ht.h0;have z0:=ht.lt0;have z1:=ht.lt1;have ha:=Qk a;have g0:=Qk b;clear hc ht hx h;unfold mid;generalize a.toNat=x at *;generalize b.toNat=y0 at *;by_cases k1:(y0:Int)<128
  · go_enter Tryz.func200,Tryz.ntmps200;go_wp2
    go_quiet (fail)
    go_wp2;go_ret;exact⟨Qi (by simp;omega),Qc ((Below.refl _ _).alloc (Nat.le_refl _) _) _⟩
  have k1':decide ((y0:Int)<128)=false:=(by simpa using k1);by_cases k2:191<(y0:Int)
  · go_enter Tryz.func200,Tryz.ntmps200;go_wp2
    go_quiet (fail)
    go_wp2;go_ret;exact⟨Qi (by simp;omega),Qc ((Below.refl _ _).alloc (Nat.le_refl _) _) _⟩
  have k2':decide (191<(y0:Int))=false:=(by simpa using k2);go_enter Tryz.func200,Tryz.ntmps200;go_wp2
  go_quiet (fail)
  go_wp2;go_ret;exact⟨Qi (by simp;omega),Qc ((Below.refl _ _).alloc (Nat.le_refl _) _) _⟩
theorem Qce (a:UInt8) (q:Option Addr) (cap:Nat) (w:World) (h:Bs w w.heap.size q [a]) (ht:Yo w) (hx:QD a.toNat=35):
    Calls Tryz.prog 200 #[.slice q 1 cap] w fun e w'=>e=.returned (.bool false)∧Below w.heap.size w w':=by
  obtain⟨bl,off,rfl,_,hc⟩:=h (by simp);have e0:=hc 0 (by simp);simp at e0;have t0:=ht.first a.toNat (Qk a);rw[hx] at t0;have lo:=ht.l2;have hi:=ht.h2;have z0:=ht.lt0;have z1:=ht.lt1;have ha:=Qk a;clear hc ht hx h;generalize a.toNat=x at *;go_enter Tryz.func200,Tryz.ntmps200;go_wp2
  go_quiet (fail)
  go_wp2;go_ret;exact⟨Qi (by rfl),Qc ((Below.refl _ _).alloc (Nat.le_refl _) _) _⟩
theorem Qcf (a b:UInt8) (q:Option Addr) (cap:Nat) (w:World) (h:Bs w w.heap.size q [a,b]) (ht:Yo w) (hx:QD a.toNat=35):
    Calls Tryz.prog 200 #[.slice q 2 cap] w fun e w'=>e=.returned (.bool (!mid 128 159 b))∧Below w.heap.size w w':=by
  obtain⟨bl,off,rfl,_,hc⟩:=h (by simp);have e0:=hc 0 (by simp);have e1:=hc 1 (by simp);simp at e0 e1;have t0:=ht.first a.toNat (Qk a);rw[hx] at t0;have lo:=ht.l2;have hi:=ht.h2;have z0:=ht.lt0;have z1:=ht.lt1;have ha:=Qk a;have g0:=Qk b;clear hc ht hx h;unfold mid;generalize a.toNat=x at *;generalize b.toNat=y0 at *;by_cases k1:(y0:Int)<128
  · go_enter Tryz.func200,Tryz.ntmps200;go_wp2
    go_quiet (fail)
    go_wp2;go_ret;exact⟨Qi (by simp;omega),Qc ((Below.refl _ _).alloc (Nat.le_refl _) _) _⟩
  have k1':decide ((y0:Int)<128)=false:=(by simpa using k1);by_cases k2:159<(y0:Int)
  · go_enter Tryz.func200,Tryz.ntmps200;go_wp2
    go_quiet (fail)
    go_wp2;go_ret;exact⟨Qi (by simp;omega),Qc ((Below.refl _ _).alloc (Nat.le_refl _) _) _⟩
  have k2':decide (159<(y0:Int))=false:=(by simpa using k2);go_enter Tryz.func200,Tryz.ntmps200;go_wp2
  go_quiet (fail)
  go_wp2;go_ret;exact⟨Qi (by simp;omega),Qc ((Below.refl _ _).alloc (Nat.le_refl _) _) _⟩
theorem Qcg (a:UInt8) (q:Option Addr) (cap:Nat) (w:World) (h:Bs w w.heap.size q [a]) (ht:Yo w) (hx:QD a.toNat=52):
    Calls Tryz.prog 200 #[.slice q 1 cap] w fun e w'=>e=.returned (.bool false)∧Below w.heap.size w w':=by
  obtain⟨bl,off,rfl,_,hc⟩:=h (by simp);have e0:=hc 0 (by simp);simp at e0;have t0:=ht.first a.toNat (Qk a);rw[hx] at t0;have lo:=ht.l3;have hi:=ht.h3;have z0:=ht.lt0;have z1:=ht.lt1;have ha:=Qk a;clear hc ht hx h;generalize a.toNat=x at *;go_enter Tryz.func200,Tryz.ntmps200;go_wp2
  go_quiet (fail)
  go_wp2;go_ret;exact⟨Qi (by rfl),Qc ((Below.refl _ _).alloc (Nat.le_refl _) _) _⟩
theorem Qch (a b:UInt8) (q:Option Addr) (cap:Nat) (w:World) (h:Bs w w.heap.size q [a,b]) (ht:Yo w) (hx:QD a.toNat=52):
    Calls Tryz.prog 200 #[.slice q 2 cap] w fun e w'=>e=.returned (.bool (!mid 144 191 b))∧Below w.heap.size w w':=by
  obtain⟨bl,off,rfl,_,hc⟩:=h (by simp);have e0:=hc 0 (by simp);have e1:=hc 1 (by simp);simp at e0 e1;have t0:=ht.first a.toNat (Qk a);rw[hx] at t0;have lo:=ht.l3;have hi:=ht.h3;have z0:=ht.lt0;have z1:=ht.lt1;have ha:=Qk a;have g0:=Qk b;clear hc ht hx h;unfold mid;generalize a.toNat=x at *;generalize b.toNat=y0 at *;by_cases k1:(y0:Int)<144
  · go_enter Tryz.func200,Tryz.ntmps200;go_wp2
    go_quiet (fail)
    go_wp2;go_ret;exact⟨Qi (by simp;omega),Qc ((Below.refl _ _).alloc (Nat.le_refl _) _) _⟩
  have k1':decide ((y0:Int)<144)=false:=(by simpa using k1);by_cases k2:191<(y0:Int)
  · go_enter Tryz.func200,Tryz.ntmps200;go_wp2
    go_quiet (fail)
    go_wp2;go_ret;exact⟨Qi (by simp;omega),Qc ((Below.refl _ _).alloc (Nat.le_refl _) _) _⟩
  have k2':decide (191<(y0:Int))=false:=(by simpa using k2);go_enter Tryz.func200,Tryz.ntmps200;go_wp2
  go_quiet (fail)
  go_wp2;go_ret;exact⟨Qi (by simp;omega),Qc ((Below.refl _ _).alloc (Nat.le_refl _) _) _⟩
theorem Qci (a b c:UInt8) (q:Option Addr) (cap:Nat) (w:World) (h:Bs w w.heap.size q [a,b,c]) (ht:Yo w) (hx:QD a.toNat=52):
    Calls Tryz.prog 200 #[.slice q 3 cap] w fun e w'=>e=.returned (.bool (!(mid 144 191 b&&mid 128 191 c)))∧Below w.heap.size w w':=by
  obtain⟨bl,off,rfl,_,hc⟩:=h (by simp);have e0:=hc 0 (by simp);have e1:=hc 1 (by simp);have e2:=hc 2 (by simp);simp at e0 e1 e2;have t0:=ht.first a.toNat (Qk a);rw[hx] at t0;have lo:=ht.l3;have hi:=ht.h3;have z0:=ht.lt0;have z1:=ht.lt1;have ha:=Qk a;have g0:=Qk b;have g1:=Qk c;clear hc ht hx h;unfold mid;generalize a.toNat=x at *;generalize b.toNat=y0 at *;generalize c.toNat=y1 at *;by_cases k1:(y0:Int)<144
  · go_enter Tryz.func200,Tryz.ntmps200;go_wp2
    go_quiet (fail)
    go_wp2;go_ret;exact⟨Qi (by simp;omega),Qc ((Below.refl _ _).alloc (Nat.le_refl _) _) _⟩
  have k1':decide ((y0:Int)<144)=false:=(by simpa using k1);by_cases k2:191<(y0:Int)
  · go_enter Tryz.func200,Tryz.ntmps200;go_wp2
    go_quiet (fail)
    go_wp2;go_ret;exact⟨Qi (by simp;omega),Qc ((Below.refl _ _).alloc (Nat.le_refl _) _) _⟩
  have k2':decide (191<(y0:Int))=false:=(by simpa using k2);by_cases k3:(y1:Int)<128
  · go_enter Tryz.func200,Tryz.ntmps200;go_wp2
    go_quiet (fail)
    go_wp2;go_ret;exact⟨Qi (by simp;omega),Qc ((Below.refl _ _).alloc (Nat.le_refl _) _) _⟩
  have k3':decide ((y1:Int)<128)=false:=(by simpa using k3);by_cases k4:191<(y1:Int)
  · go_enter Tryz.func200,Tryz.ntmps200;go_wp2
    go_quiet (fail)
    go_wp2;go_ret;exact⟨Qi (by simp;omega),Qc ((Below.refl _ _).alloc (Nat.le_refl _) _) _⟩
  have k4':decide (191<(y1:Int))=false:=(by simpa using k4);go_enter Tryz.func200,Tryz.ntmps200;go_wp2
  go_quiet (fail)
  go_wp2;go_ret;exact⟨Qi (by simp;omega),Qc ((Below.refl _ _).alloc (Nat.le_refl _) _) _⟩
theorem Qdu (a:UInt8) (q:Option Addr) (cap:Nat) (w:World) (h:Bs w w.heap.size q [a]) (ht:Yo w) (hx:QD a.toNat=4):
    Calls Tryz.prog 200 #[.slice q 1 cap] w fun e w'=>e=.returned (.bool false)∧Below w.heap.size w w':=by
  obtain⟨bl,off,rfl,_,hc⟩:=h (by simp);have e0:=hc 0 (by simp);simp at e0;have t0:=ht.first a.toNat (Qk a);rw[hx] at t0;have lo:=ht.l0;have hi:=ht.h0;have z0:=ht.lt0;have z1:=ht.lt1;have ha:=Qk a;clear hc ht hx h;generalize a.toNat=x at *;go_enter Tryz.func200,Tryz.ntmps200;go_wp2
  go_quiet (fail)
  go_wp2;go_ret;exact⟨Qi (by rfl),Qc ((Below.refl _ _).alloc (Nat.le_refl _) _) _⟩
theorem Qdv (a b:UInt8) (q:Option Addr) (cap:Nat) (w:World) (h:Bs w w.heap.size q [a,b]) (ht:Yo w) (hx:QD a.toNat=4):
    Calls Tryz.prog 200 #[.slice q 2 cap] w fun e w'=>e=.returned (.bool (!mid 128 191 b))∧Below w.heap.size w w':=by
  obtain⟨bl,off,rfl,_,hc⟩:=h (by simp);have e0:=hc 0 (by simp);have e1:=hc 1 (by simp);simp at e0 e1;have t0:=ht.first a.toNat (Qk a);rw[hx] at t0;have lo:=ht.l0;have hi:=ht.h0;have z0:=ht.lt0;have z1:=ht.lt1;have ha:=Qk a;have g0:=Qk b;clear hc ht hx h;unfold mid;generalize a.toNat=x at *;generalize b.toNat=y0 at *;by_cases k1:(y0:Int)<128
  · go_enter Tryz.func200,Tryz.ntmps200;go_wp2
    go_quiet (fail)
    go_wp2;go_ret;exact⟨Qi (by simp;omega),Qc ((Below.refl _ _).alloc (Nat.le_refl _) _) _⟩
  have k1':decide ((y0:Int)<128)=false:=(by simpa using k1);by_cases k2:191<(y0:Int)
  · go_enter Tryz.func200,Tryz.ntmps200;go_wp2
    go_quiet (fail)
    go_wp2;go_ret;exact⟨Qi (by simp;omega),Qc ((Below.refl _ _).alloc (Nat.le_refl _) _) _⟩
  have k2':decide (191<(y0:Int))=false:=(by simpa using k2);go_enter Tryz.func200,Tryz.ntmps200;go_wp2
  go_quiet (fail)
  go_wp2;go_ret;exact⟨Qi (by simp;omega),Qc ((Below.refl _ _).alloc (Nat.le_refl _) _) _⟩
theorem Qdw (a b c:UInt8) (q:Option Addr) (cap:Nat) (w:World) (h:Bs w w.heap.size q [a,b,c]) (ht:Yo w) (hx:QD a.toNat=4):
    Calls Tryz.prog 200 #[.slice q 3 cap] w fun e w'=>e=.returned (.bool (!(mid 128 191 b&&mid 128 191 c)))∧Below w.heap.size w w':=by
  obtain⟨bl,off,rfl,_,hc⟩:=h (by simp);have e0:=hc 0 (by simp);have e1:=hc 1 (by simp);have e2:=hc 2 (by simp);simp at e0 e1 e2;have t0:=ht.first a.toNat (Qk a);rw[hx] at t0;have lo:=ht.l0;have hi:=ht.h0;have z0:=ht.lt0;have z1:=ht.lt1;have ha:=Qk a;have g0:=Qk b;have g1:=Qk c;clear hc ht hx h;unfold mid;generalize a.toNat=x at *;generalize b.toNat=y0 at *;generalize c.toNat=y1 at *;by_cases k1:(y0:Int)<128
  · go_enter Tryz.func200,Tryz.ntmps200;go_wp2
    go_quiet (fail)
    go_wp2;go_ret;exact⟨Qi (by simp;omega),Qc ((Below.refl _ _).alloc (Nat.le_refl _) _) _⟩
  have k1':decide ((y0:Int)<128)=false:=(by simpa using k1);by_cases k2:191<(y0:Int)
  · go_enter Tryz.func200,Tryz.ntmps200;go_wp2
    go_quiet (fail)
    go_wp2;go_ret;exact⟨Qi (by simp;omega),Qc ((Below.refl _ _).alloc (Nat.le_refl _) _) _⟩
  have k2':decide (191<(y0:Int))=false:=(by simpa using k2);by_cases k3:(y1:Int)<128
  · go_enter Tryz.func200,Tryz.ntmps200;go_wp2
    go_quiet (fail)
    go_wp2;go_ret;exact⟨Qi (by simp;omega),Qc ((Below.refl _ _).alloc (Nat.le_refl _) _) _⟩
  have k3':decide ((y1:Int)<128)=false:=(by simpa using k3);by_cases k4:191<(y1:Int)
  · go_enter Tryz.func200,Tryz.ntmps200;go_wp2
    go_quiet (fail)
    go_wp2;go_ret;exact⟨Qi (by simp;omega),Qc ((Below.refl _ _).alloc (Nat.le_refl _) _) _⟩
  have k4':decide (191<(y1:Int))=false:=(by simpa using k4);go_enter Tryz.func200,Tryz.ntmps200;go_wp2
  go_quiet (fail)
  go_wp2;go_ret;exact⟨Qi (by simp;omega),Qc ((Below.refl _ _).alloc (Nat.le_refl _) _) _⟩
theorem Qcj (a:UInt8) (q:Option Addr) (cap:Nat) (w:World) (h:Bs w w.heap.size q [a]) (ht:Yo w) (hx:QD a.toNat=68):
    Calls Tryz.prog 200 #[.slice q 1 cap] w fun e w'=>e=.returned (.bool false)∧Below w.heap.size w w':=by
  obtain⟨bl,off,rfl,_,hc⟩:=h (by simp);have e0:=hc 0 (by simp);simp at e0;have t0:=ht.first a.toNat (Qk a);rw[hx] at t0;have lo:=ht.l4;have hi:=ht.h4;have z0:=ht.lt0;have z1:=ht.lt1;have ha:=Qk a;clear hc ht hx h;generalize a.toNat=x at *;go_enter Tryz.func200,Tryz.ntmps200;go_wp2
  go_quiet (fail)
  go_wp2;go_ret;exact⟨Qi (by rfl),Qc ((Below.refl _ _).alloc (Nat.le_refl _) _) _⟩
theorem Qck (a b:UInt8) (q:Option Addr) (cap:Nat) (w:World) (h:Bs w w.heap.size q [a,b]) (ht:Yo w) (hx:QD a.toNat=68):
    Calls Tryz.prog 200 #[.slice q 2 cap] w fun e w'=>e=.returned (.bool (!mid 128 143 b))∧Below w.heap.size w w':=by
  obtain⟨bl,off,rfl,_,hc⟩:=h (by simp);have e0:=hc 0 (by simp);have e1:=hc 1 (by simp);simp at e0 e1;have t0:=ht.first a.toNat (Qk a);rw[hx] at t0;have lo:=ht.l4;have hi:=ht.h4;have z0:=ht.lt0;have z1:=ht.lt1;have ha:=Qk a;have g0:=Qk b;clear hc ht hx h;unfold mid;generalize a.toNat=x at *;generalize b.toNat=y0 at *;by_cases k1:(y0:Int)<128
  · go_enter Tryz.func200,Tryz.ntmps200;go_wp2
    go_quiet (fail)
    go_wp2;go_ret;exact⟨Qi (by simp;omega),Qc ((Below.refl _ _).alloc (Nat.le_refl _) _) _⟩
  have k1':decide ((y0:Int)<128)=false:=(by simpa using k1);by_cases k2:143<(y0:Int)
  · go_enter Tryz.func200,Tryz.ntmps200;go_wp2
    go_quiet (fail)
    go_wp2;go_ret;exact⟨Qi (by simp;omega),Qc ((Below.refl _ _).alloc (Nat.le_refl _) _) _⟩
  have k2':decide (143<(y0:Int))=false:=(by simpa using k2);go_enter Tryz.func200,Tryz.ntmps200;go_wp2
  go_quiet (fail)
  go_wp2;go_ret;exact⟨Qi (by simp;omega),Qc ((Below.refl _ _).alloc (Nat.le_refl _) _) _⟩
theorem Qcl (a b c:UInt8) (q:Option Addr) (cap:Nat) (w:World) (h:Bs w w.heap.size q [a,b,c]) (ht:Yo w) (hx:QD a.toNat=68):
    Calls Tryz.prog 200 #[.slice q 3 cap] w fun e w'=>e=.returned (.bool (!(mid 128 143 b&&mid 128 191 c)))∧Below w.heap.size w w':=by
  obtain⟨bl,off,rfl,_,hc⟩:=h (by simp);have e0:=hc 0 (by simp);have e1:=hc 1 (by simp);have e2:=hc 2 (by simp);simp at e0 e1 e2;have t0:=ht.first a.toNat (Qk a);rw[hx] at t0;have lo:=ht.l4;have hi:=ht.h4;have z0:=ht.lt0;have z1:=ht.lt1;have ha:=Qk a;have g0:=Qk b;have g1:=Qk c;clear hc ht hx h;unfold mid;generalize a.toNat=x at *;generalize b.toNat=y0 at *;generalize c.toNat=y1 at *;by_cases k1:(y0:Int)<128
  · go_enter Tryz.func200,Tryz.ntmps200;go_wp2
    go_quiet (fail)
    go_wp2;go_ret;exact⟨Qi (by simp;omega),Qc ((Below.refl _ _).alloc (Nat.le_refl _) _) _⟩
  have k1':decide ((y0:Int)<128)=false:=(by simpa using k1);by_cases k2:143<(y0:Int)
  · go_enter Tryz.func200,Tryz.ntmps200;go_wp2
    go_quiet (fail)
    go_wp2;go_ret;exact⟨Qi (by simp;omega),Qc ((Below.refl _ _).alloc (Nat.le_refl _) _) _⟩
  have k2':decide (143<(y0:Int))=false:=(by simpa using k2);by_cases k3:(y1:Int)<128
  · go_enter Tryz.func200,Tryz.ntmps200;go_wp2
    go_quiet (fail)
    go_wp2;go_ret;exact⟨Qi (by simp;omega),Qc ((Below.refl _ _).alloc (Nat.le_refl _) _) _⟩
  have k3':decide ((y1:Int)<128)=false:=(by simpa using k3);by_cases k4:191<(y1:Int)
  · go_enter Tryz.func200,Tryz.ntmps200;go_wp2
    go_quiet (fail)
    go_wp2;go_ret;exact⟨Qi (by simp;omega),Qc ((Below.refl _ _).alloc (Nat.le_refl _) _) _⟩
  have k4':decide (191<(y1:Int))=false:=(by simpa using k4);go_enter Tryz.func200,Tryz.ntmps200;go_wp2
  go_quiet (fail)
  go_wp2;go_ret;exact⟨Qi (by simp;omega),Qc ((Below.refl _ _).alloc (Nat.le_refl _) _) _⟩
end Go.Proofs.YtbfickdgjgbfhaaGreatDoor
