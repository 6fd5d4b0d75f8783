/- Pastes: tokenWithin of the program, FirstPaste of the model. -/
import Derived.Test.YtbfickdgjgbfhaaGreatDoorQCut0ToRaw
import Derived.WalkLawsBesides
import Derived.Defers
import Derived.Recover
import Derived.Laws.Pointers
set_option maxRecDepth 100000
set_option maxHeartbeats 4000000
namespace Go.Proofs.YtbfickdgjgbfhaaGreatDoor
open Go.RowKit
theorem QkC (l:List UInt8):pre Qa4 (l.drop (unt l))=decide (unt l+6≤l.length):=by
  by_cases h:unt l+6≤l.length
  · have h1:=QeT l (by omega);rw[Qg8 _ (by simp;omega)] at h1;simp only[h,decide_true];exact h1
  · rw[QdV (by simp[Qa4];omega)];simp[h]
theorem Qa7:Q2 []=Qf 4:=rfl
theorem Yy {l:List UInt8} (h0:l≠[]) (h:32≤unt l):Q2 l=Q7 (l.take 32):=by unfold Q2;rw[if_neg h0,if_pos h]
theorem YX {l:List UInt8} (h0:l≠[]) (h:¬32≤unt l) (h6:l.length<unt l+6):Q2 l=Qf 6:=by unfold Q2;rw[if_neg h0,if_neg h,if_pos h6]
theorem Yz {l:List UInt8} (h0:l≠[]) (h:¬32≤unt l) (h6:¬l.length<unt l+6) (hp:0<unt l):Q2 l=Q7 (l.take (unt l)):=by unfold Q2;rw[if_neg h0,if_neg h,if_neg h6,if_pos hp]
theorem YJ {l:List UInt8} (h0:l≠[]) (h:¬32≤unt l) (h6:¬l.length<unt l+6) (hp:¬0<unt l):Q2 l=⟨0,Xy,6,false,true⟩:=by unfold Q2;rw[if_neg h0,if_neg h,if_neg h6,if_neg hp]
theorem QeV (p:Option Addr) (c k:Nat) (l:List UInt8) (w:World) (h:Bs w w.heap.size p l) (hk:k≤l.length) (hc:l.length≤c) (hl:l.length≤1048576):
    Calls Tryz.prog 129 #[.slice p k c] w (QM w (Q7 (l.take (min 32 k)))):=by
  have:=UP p c (l.take k) w (h.head k) (by simp;omega) (by simp;omega);rw[show(l.take k).length=k by simp;omega,List.take_take] at this;exact this
theorem Vz (p:Option Addr) (c:Nat) (l:List UInt8) (w:World) (h:Bs w w.heap.size p l) (hc:l.length≤c) (hl:l.length≤1048576):
    Calls Tryz.prog 99 #[.slice p l.length c] w (QM w (Q2 l)):=by
  by_cases h0:l=[]
  · subst h0;rw[Qa7];go_enter Tryz.func99,Tryz.ntmps99;go_wp2_with fail;refine(Q8 _ _).mono ?_;rintro e w1 ⟨rfl,hb⟩;unfold tkV Qf Xy;obtain⟨hcc,hf⟩:=Qq hb;have HE:Hid (Qm w (Qf 4) (.returned (tkV (Qf 4) (.slice none 0 0))) (sets w1 w.heap.size 0 (tkL (Qf 4) (.slice none 0 0)))):=Qu (tkL (Qf 4) (.slice none 0 0)) hb;clear hb;go_wp2_with fail;refine bodyPost_ret (v:=tkV (Qf 4) (.slice none 0 0)) ?_ rfl (HE.out.new rfl);simp[results,Tryz.results99,tkV,Qf,Xy,go_sem,hcc]
  have hpos:0<l.length:=List.length_pos_iff.2 h0;have hne:¬((l.length:Int)=0):=(by omega);have hkl:=Vy l;have HT:=Lib.hid (fun o=>Qge p c l (w.alloc o) (h.alloc o) hc hl);have HP0:=fun(o:Obj) (w1:World) (hb:Below (w.alloc o).heap.size (w.alloc o) w1)=>QeV p c (unt l) l w1 ((h.alloc o).on hb) hkl hc hl;by_cases h32:32≤unt l
  · rw[Yy h0 h32];rw[show min 32 (unt l)=32 by omega] at HP0;have HP:=Lib.hid HP0;clear HP0 h h0;generalize unt l=k at *;generalize l.take 32=d at *;go_enter Tryz.func99,Tryz.ntmps99;go_wp2_with fail;refine(HT.out _).mono ?_;rintro e w1 ⟨rfl,hb1⟩;have HB1:=Lib.hid hb1;have HQ:=Lib.hid (HP.out _ _ hb1);obtain⟨hc1,hf1⟩:=Qq hb1;clear hb1 HP;go_wp2_with fail;refine(HQ.out).mono ?_;rintro e w2 ⟨v,rfl,ho,hb2⟩;have hb:=HB1.out.trans (hb2.mono HB1.out.size);obtain⟨hcc,hf⟩:=Qq hb;obtain⟨pp,cc,hv⟩:=ho.slice;subst hv;have HE:Hid (QM w (Q7 d) (.returned (tkV (Q7 d) (.slice pp d.length cc))) (sets w2 w.heap.size 0 (tkL (Q7 d) (.slice pp d.length cc)))):=Xs (tkL (Q7 d) (.slice pp d.length cc)) (ho.lower HB1.out.size) hb;unfold tkV Q7 pTk QX;dsimp only;clear hb2 ho hb hc1 hf1;go_wp2_with fail;refine bodyPost_ret (v:=tkV (Q7 d) (.slice pp d.length cc)) ?_ rfl HE.out;simp[results,Tryz.results99,tkV,Q7,pTk,QX,go_sem,hcc]
  by_cases h6:l.length<unt l+6
  · rw[YX h0 h32 h6];have HP:=Lib.hid HP0;clear HP0 h h0;generalize unt l=k at *;have g1:decide ((6:Int)≤(l.length:Int) - (k:Int))=false:=(by simp;omega);have g2:decide ((32:Int)≤(k:Int))=false:=(by simp;omega);by_cases hk0:0<k;all_goals
      go_enter Tryz.func99,Tryz.ntmps99;go_wp2_with fail;refine(HT.out _).mono ?_;rintro e w1 ⟨rfl,hb1⟩;have HB1:=Lib.hid hb1;have HQ:=Lib.hid (HP.out _ _ hb1);obtain⟨hc1,hf1⟩:=Qq hb1;clear hb1 HP;go_wp2_with fail;refine(Q8 _ _).mono ?_;rintro e w2 ⟨rfl,hb2⟩;have hb:=HB1.out.trans (hb2.mono HB1.out.size);unfold tkV Qf Xy;obtain⟨hcc,hf⟩:=Qq hb;have HE:Hid (Qm w (Qf 6) (.returned (tkV (Qf 6) (.slice none 0 0))) (sets w2 w.heap.size 0 (tkL (Qf 6) (.slice none 0 0)))):=Qu (tkL (Qf 6) (.slice none 0 0)) hb;clear hb hb2 hc1 hf1;go_wp2_with fail;refine bodyPost_ret (v:=tkV (Qf 6) (.slice none 0 0)) ?_ rfl (HE.out.new rfl);simp[results,Tryz.results99,tkV,Qf,Xy,go_sem,hcc]
  by_cases hk0:0<unt l
  · rw[Yz h0 h32 h6 hk0];rw[show min 32 (unt l)=unt l by omega] at HP0;have HP:=Lib.hid HP0;clear HP0 h h0;generalize unt l=k at *;generalize l.take k=d at *;have g1:(6:Int)≤(l.length:Int) - (k:Int):=(by omega);have g2:decide ((32:Int)≤(k:Int))=false:=(by simp;omega);have g3:(0:Int)<(k:Int):=(by omega);go_enter Tryz.func99,Tryz.ntmps99;go_wp2_with fail;refine(HT.out _).mono ?_;rintro e w1 ⟨rfl,hb1⟩;have HB1:=Lib.hid hb1;have HQ:=Lib.hid (HP.out _ _ hb1);obtain⟨hc1,hf1⟩:=Qq hb1;clear hb1 HP;go_wp2_with fail;refine(HQ.out).mono ?_;rintro e w2 ⟨v,rfl,ho,hb2⟩;have hb:=HB1.out.trans (hb2.mono HB1.out.size);obtain⟨hcc,hf⟩:=Qq hb;obtain⟨pp,cc,hv⟩:=ho.slice;subst hv;have HE:Hid (QM w (Q7 d) (.returned (tkV (Q7 d) (.slice pp d.length cc))) (sets w2 w.heap.size 0 (tkL (Q7 d) (.slice pp d.length cc)))):=Xs (tkL (Q7 d) (.slice pp d.length cc)) (ho.lower HB1.out.size) hb;unfold tkV Q7 pTk QX;dsimp only;clear hb2 ho hb hc1 hf1;go_wp2_with fail;refine bodyPost_ret (v:=tkV (Q7 d) (.slice pp d.length cc)) ?_ rfl HE.out;simp[results,Tryz.results99,tkV,Q7,pTk,QX,go_sem,hcc]
  · rw[YJ h0 h32 h6 hk0];have HP:=Lib.hid HP0;clear HP0 h h0;generalize unt l=k at *;have g1:(6:Int)≤(l.length:Int) - (k:Int):=(by omega);have g2:decide ((32:Int)≤(k:Int))=false:=(by simp;omega);go_enter Tryz.func99,Tryz.ntmps99;go_wp2_with fail;refine(HT.out _).mono ?_;rintro e w1 ⟨rfl,hb1⟩;have HB1:=Lib.hid hb1;have HQ:=Lib.hid (HP.out _ _ hb1);obtain⟨hc1,hf1⟩:=Qq hb1;clear hb1 HP;have HE:Hid (Qm w ⟨0,Xy,6,false,true⟩ (.returned (tkV ⟨0,Xy,6,false,true⟩ (.slice none 0 0))) (sets w1 w.heap.size 0 (tkL ⟨0,Xy,6,false,true⟩ (.slice none 0 0)))):=Qu (tkL ⟨0,Xy,6,false,true⟩ (.slice none 0 0)) HB1.out;go_wp2_with fail;refine bodyPost_ret (v:=tkV ⟨0,Xy,6,false,true⟩ (.slice none 0 0)) ?_ rfl (HE.out.new rfl);simp[results,Tryz.results99,tkV,Xy,go_sem,hc1]
def Qa8:List PanicEntry:=[{v:=.iface 9 (.string ⟨#[116,104,101,32,116,111,107,101,110,32,105,115,32,105,110,99,111,109,112,108,101,116,101]⟩),recovered:=false }]
def JX (w:World) (e:Ending) (w':World):Prop:=e=.panicked Qa8∧Below w.heap.size w w'
theorem KF (p:Option Addr) (c k:Nat) (l:List UInt8) (w:World) (h:Bs w w.heap.size p l) (hk:k≤l.length) (h0:0<k) (hl:l.length≤1048576):
    Calls Tryz.prog 103 #[.slice p k c] w (QG w (QX (l.take k)) k true false):=by
  have e:(l.take k).length=k:=(by simp;omega);have:=KE p c (l.take k) w (h.head k) (by simp;omega) (by intro e';rw[e'] at e;simp at e;omega);rw[e] at this;exact this
theorem U2 (p:Option Addr) (c:Nat) (l:List UInt8) (w:World) (h:Bs w w.heap.size p l) (hc:l.length≤c) (hl:l.length≤1048576) (h32:32≤unt l):
    Calls Tryz.prog 124 #[.slice p l.length c] w (QG w (QX (l.take 32)) 32 true false):=by
  have hkl:=Vy l;have HT:=Lib.hid (fun o=>YW p c l (w.alloc o) (h.alloc o) hc hl);have HP:=Lib.hid (fun(o:Obj) (w1:World) (hb:Below (w.alloc o).heap.size (w.alloc o) w1)=>KF p c 32 l w1 ((h.alloc o).on hb) (by omega) (by omega) hl);clear h;generalize unt l=k at *;generalize hd:l.take 32=d at *;have h3:d.length=32:=(by rw[←hd];simp;omega);clear hd;go_enter Tryz.func124,Tryz.ntmps124;go_wp2_with fail;refine(HT.out _).mono ?_;rintro e w1 ⟨rfl,hb1⟩;have HB1:=Lib.hid hb1;have HQ:=Lib.hid (HP.out _ _ hb1);obtain⟨hc1,hf1⟩:=Qq hb1;clear hb1 HP;go_wp2_with fail;refine(HQ.out).mono ?_;rintro e w2 ⟨v,rfl,ho,hb2⟩;have hb:=HB1.out.trans (hb2.mono HB1.out.size);obtain⟨hcc,hf⟩:=Qq hb;obtain⟨pp,cc,hv⟩:=ho.slice;subst hv;have HE:Hid (QG w (QX d) 32 true false (.returned (Xx (QX d) (.slice pp d.length cc) 32 true false)) (sets w2 w.heap.size 0 (Zr (QX d) (.slice pp d.length cc) 32 true false))):=Xw (Zr (QX d) (.slice pp d.length cc) 32 true false) (ho.lower HB1.out.size) hb;clear hb2 ho hb hc1 hf1 h3;unfold Xx QX;dsimp only;go_wp2_with fail;refine bodyPost_ret (v:=Xx (QX d) (.slice pp d.length cc) 32 true false) ?_ rfl HE.out;simp[results,Tryz.results124,Xx,QX,go_sem,hcc]
theorem Qa9 (p:Option Addr) (c:Nat) (l:List UInt8) (hc:l.length≤c) (hl:l.length≤1048576) (q:Bool) (hq:decide (unt l+6≤l.length)=q):
    (¬c=unt l→∀w1,Bs w1 w1.heap.size p l→Calls Tryz.prog 157 #[.slice (p.map (·.add (unt l))) (l.length - unt l) (c - unt l),.slice (some ⟨w1.heap.size,0,none⟩) 6 6] (w1.alloc (.cells QeU 5 (6,7))) fun e w'=>e=.returned (.bool q)∧w1.alloc (.cells QeU 5 (6,7))=w')∧
    (c=unt l→∀w1,Bs w1 w1.heap.size p l→Calls Tryz.prog 157 #[.slice p 0 0,.slice (some ⟨w1.heap.size,0,none⟩) 6 6] (w1.alloc (.cells QeU 5 (6,7))) fun e w'=>e=.returned (.bool q)∧w1.alloc (.cells QeU 5 (6,7))=w'):=by
  have hkl:=Vy l;have HH:=fun(w1:World) (hb:Bs w1 w1.heap.size p l)=>Jy (if c=unt l then p else p.map (·.add (unt l))) (some ⟨w1.heap.size,0,none⟩) (c - unt l) 6 (l.drop (unt l)) Qa4 (w1.alloc (.cells QeU 5 (6,7))) ((hb.alloc _).tail (unt l) c hc) (Qla w1) (by simp;omega) (by simp;omega) (by simp[Qa4]);rw[QkC,hq,show Qa4.length=6 from rfl,List.length_drop] at HH;constructor
  · intro hck;rw[if_neg hck] at HH;exact HH
  · intro hck;rw[if_pos hck,show c - unt l=0 by omega,show l.length - unt l=0 by omega] at HH;exact HH
theorem U3 (p:Option Addr) (c:Nat) (l:List UInt8) (w:World) (h:Bs w w.heap.size p l) (hc:l.length≤c) (hl:l.length≤1048576) (h32:¬32≤unt l) (h6:l.length<unt l+6):
    Calls Tryz.prog 124 #[.slice p l.length c] w (JX w):=by
  have hkl:=Vy l;have HT:=Lib.hid (fun o=>YW p c l (w.alloc o) (h.alloc o) hc hl);have HK:=Lib.hid (fun(o:Obj) (w1:World) (hb:Below (w.alloc o).heap.size (w.alloc o) w1)=>(h.alloc o).on hb);obtain⟨H1,H2⟩:=Qa9 p c l hc hl false (by simp;omega);clear h;unfold QeU at H1 H2;have hcv:=fun W=>Qap W;unfold QeU at hcv;have g2:decide ((32:Int)≤(unt l:Int))=false:=(by simp;omega);by_cases hck:c=unt l
  · have HH:=Lib.hid (H2 hck);clear H1 H2;generalize unt l=k at *;subst hck;go_enter Tryz.func124,Tryz.ntmps124;go_wp2_with fail;refine(HT.out _).mono ?_;rintro e w1 ⟨rfl,hb1⟩;have HB1:=Lib.hid hb1;have HQ:=Lib.hid (HH.out _ (HK.out _ _ hb1));obtain⟨hc1,hf1⟩:=Qq hb1;clear hb1 HH;go_wp2_with fail;refine HQ.out.mono ?_;rintro e w2 ⟨rfl,rfl⟩;go_wp2_with fail;exact⟨rfl,rfl,Qa (Qa (Qb _ _) HB1.out) (Qb _ _)⟩
  · have HH:=Lib.hid (H1 hck);clear H1 H2;generalize unt l=k at *;go_enter Tryz.func124,Tryz.ntmps124;go_wp2_with fail;refine(HT.out _).mono ?_;rintro e w1 ⟨rfl,hb1⟩;have HB1:=Lib.hid hb1;have HQ:=Lib.hid (HH.out _ (HK.out _ _ hb1));obtain⟨hc1,hf1⟩:=Qq hb1;clear hb1 HH;go_wp2_with fail;refine HQ.out.mono ?_;rintro e w2 ⟨rfl,rfl⟩;go_wp2_with fail;exact⟨rfl,rfl,Qa (Qa (Qb _ _) HB1.out) (Qb _ _)⟩
theorem U4 (p:Option Addr) (c:Nat) (l:List UInt8) (w:World) (h:Bs w w.heap.size p l) (hc:l.length≤c) (hl:l.length≤1048576) (h32:¬32≤unt l) (h6:¬l.length<unt l+6) (h0:0<unt l):
    Calls Tryz.prog 124 #[.slice p l.length c] w (QG w (QX (l.take (unt l))) (unt l) true false):=by
  have hkl:=Vy l;have HT:=Lib.hid (fun o=>YW p c l (w.alloc o) (h.alloc o) hc hl);have HK:=Lib.hid (fun(o:Obj) (w1:World) (hb:Below (w.alloc o).heap.size (w.alloc o) w1)=>(h.alloc o).on hb);obtain⟨H1,H2⟩:=Qa9 p c l hc hl true (by simp;omega);have HP:=Lib.hid (fun(o:Obj) (w1:World) (o2:Obj) (hb:Below (w.alloc o).heap.size (w.alloc o) w1)=>KF p c (unt l) l (w1.alloc o2) (((h.alloc o).on hb).alloc o2) hkl h0 hl);clear h;unfold QeU at H1 H2;have hcv:=fun W=>Qap W;unfold QeU at hcv;have g2:decide ((32:Int)≤(unt l:Int))=false:=(by simp;omega);have g3:(0:Int)<(unt l:Int):=(by omega);by_cases hck:c=unt l
  · exact absurd hck (by omega)
  · have HH:=Lib.hid (H1 hck);clear H1 H2;generalize unt l=k at *;generalize l.take k=d at *;go_enter Tryz.func124,Tryz.ntmps124;go_wp2_with fail;refine(HT.out _).mono ?_;rintro e w1 ⟨rfl,hb1⟩;have HB1:=Lib.hid hb1;have HQ:=Lib.hid (HH.out _ (HK.out _ _ hb1));obtain⟨hc1,hf1⟩:=Qq hb1;have HR:=Lib.hid (fun o2=>HP.out _ _ o2 hb1);clear hb1 HH;go_wp2_with fail;refine HQ.out.mono ?_;rintro e w2 ⟨rfl,rfl⟩;clear HP;go_wp2_with fail;refine(HR.out _).mono ?_;rintro e w2 ⟨v,rfl,ho,hb2⟩;have hb:=(HB1.out.trans ((Qb w1 _).mono HB1.out.size)).trans (hb2.mono (Nat.le_trans HB1.out.size (by simp)));obtain⟨hcc,hf⟩:=Qq hb;obtain⟨pp,cc,hv⟩:=ho.slice;subst hv;have HE:Hid (QG w (QX d) k true false (.returned (Xx (QX d) (.slice pp d.length cc) k true false)) (sets w2 w.heap.size 0 (Zr (QX d) (.slice pp d.length cc) k true false))):=Xw (Zr (QX d) (.slice pp d.length cc) k true false) (ho.lower (Nat.le_trans HB1.out.size (by simp))) hb;clear hb2 ho hb hc1 hf1;unfold Xx QX;dsimp only;go_wp2_with fail;refine bodyPost_ret (v:=Xx (QX d) (.slice pp d.length cc) k true false) ?_ rfl HE.out;simp[results,Tryz.results124,Xx,QX,go_sem,hcc]
theorem Qba (p:Option Addr) (c:Nat) (l:List UInt8) (w:World) (h:Bs w w.heap.size p l) (hc:l.length≤c) (hl:l.length≤1048576) (h32:¬32≤unt l) (h6:¬l.length<unt l+6) (h0:¬0<unt l):
    Calls Tryz.prog 124 #[.slice p l.length c] w (QG w Xy 6 false true):=by
  have hkl:=Vy l;have HT:=Lib.hid (fun o=>YW p c l (w.alloc o) (h.alloc o) hc hl);have HK:=Lib.hid (fun(o:Obj) (w1:World) (hb:Below (w.alloc o).heap.size (w.alloc o) w1)=>(h.alloc o).on hb);obtain⟨H1,H2⟩:=Qa9 p c l hc hl true (by simp;omega);clear h;unfold QeU at H1 H2;have hcv:=fun W=>Qap W;unfold QeU at hcv;have g2:decide ((32:Int)≤(unt l:Int))=false:=(by simp;omega);have g3:¬((0:Int)<(unt l:Int)):=(by omega);by_cases hck:c=unt l
  · exact absurd hck (by omega)
  · have HH:=Lib.hid (H1 hck);clear H1 H2;generalize unt l=k at *;go_enter Tryz.func124,Tryz.ntmps124;go_wp2_with fail;refine(HT.out _).mono ?_;rintro e w1 ⟨rfl,hb1⟩;have HB1:=Lib.hid hb1;have HQ:=Lib.hid (HH.out _ (HK.out _ _ hb1));obtain⟨hc1,hf1⟩:=Qq hb1;clear hb1 HH;go_wp2_with fail;refine HQ.out.mono ?_;rintro e w2 ⟨rfl,rfl⟩;have hb:=HB1.out.trans ((Qb w1 (.cells #[.int .u8 27,.int .u8 91,.int .u8 50,.int .u8 48,.int .u8 49,.int .u8 126] 5 (6,7))).mono HB1.out.size);clear HQ hc1 hf1;generalize w1.alloc (.cells #[.int .u8 27,.int .u8 91,.int .u8 50,.int .u8 48,.int .u8 49,.int .u8 126] 5 (6,7))=w2 at *;have HE:Hid (QG w Xy 6 false true (.returned (Xx Xy (.slice none 0 0) 6 false true)) (sets w2 w.heap.size 0 (Zr Xy (.slice none 0 0) 6 false true))):=Xw (Zr Xy (.slice none 0 0) 6 false true) (QT _ _) hb;obtain⟨hcc,hf⟩:=Qq hb;clear hb;go_wp2_with fail;refine bodyPost_ret (v:=Xx Xy (.slice none 0 0) 6 false true) ?_ rfl HE.out;simp[results,Tryz.results124,Xx,Xy,go_sem,hcc]
theorem QeW (b:Nat) (u:TypeId) (pv:Value) (older:List PanicEntry) (w:World) (h:AtL w b (tkL (Qf 0) (.slice none 0 0))) (hz:∀o,w.frozen? ⟨b,o,none⟩=false):
    CallsD Tryz.prog 123 #[.pointer (some ⟨b,0,none⟩)] (.panicking ({v:=.iface u pv,recovered:=false }::older)) w fun e u' w'=>
      e=.returned (.tuple #[])∧u'=.panicking ({v:=.iface u pv,recovered:=true }::older)∧w'=sets w b 0 (tkL (Qf 6) (.slice none 0 0)):=by
  have h0:=h.get 0 rfl;have h1:=h.get 1 rfl;have h2:=h.get 2 rfl;have h3:=h.get 3 rfl;have h4:=h.get 4 rfl;have h5:=h.get 5 rfl;have h6:=h.get 6 rfl;have h7:=h.get 7 rfl;have h8:=h.get 8 rfl;have h9:=h.get 9 rfl;have h10:=h.get 10 rfl;have h11:=h.get 11 rfl;clear h;refine callsD_of_wpS Tryz.func123 rfl fun c₀ cs hu=>?_;apply wpS_seq;apply wpS_region;simp[wpOpsS,go_sem,recoverD,hu,Tryz.ntmps123,Exit.thenS];refine wpS_cond (t:=true) (by simp[Act.eval,Array.replicate]) ?_;simp only[if_true];apply wpS_region;simp[wpOpsS,go_sem,h0,h1,h2,h3,h4,h5,h6,h7,h8,h9,h10,h11,hz,bodyPostS,results,Tryz.results123];rfl
theorem QhB (p:Addr) (w:World):
    CallsD Tryz.prog 123 #[.pointer (some p)] .returning w fun e u' w'=>e=.returned (.tuple #[])∧u'=.returning∧w'=w:=by
  refine callsD_of_wpS Tryz.func123 rfl fun c₀ cs hu=>?_;apply wpS_seq;apply wpS_region;simp[wpOpsS,go_sem,recoverD,hu,Tryz.ntmps123,Exit.thenS];refine wpS_cond (t:=false) (by simp[Act.eval,Array.replicate]) ?_;simp only[Bool.false_eq_true,if_false];refine wpS_of_wp (wp_skip ?_)
  cases c₀
  simp_all [bodyPostS,results,Tryz.results123]
theorem KT (p:Option Addr) (c:Nat) (l:List UInt8) (w:World) (h:Bs w w.heap.size p l) (hc:l.length≤c) (hl:l.length≤1048576) (h0:l≠[]) (h32:¬32≤unt l) (h6:l.length<unt l+6):
    Calls Tryz.prog 95 #[.slice p l.length c] w (Qm w (Qf 6)):=by
  have hmf:∀(fn:Fn) (first cap:Array Value) (w:World),(Instr.makeFunc fn first cap).run Tryz.prog w=.ok (.func fn first cap) w:=fun _ _ _ _=>rfl;have hpos:0<l.length:=List.length_pos_iff.2 h0;have hne:¬((l.length:Int)=0):=(by omega);have HW:=Lib.hid (fun o=>U3 p c l (w.alloc o) (h.alloc o) hc hl h32 h6);clear h h32 h6 h0
  go_enter_defers Tryz.func95,Tryz.ntmps95
  go_wp2_with fail;refine(HW.out _).mono ?_;rintro e w1 ⟨rfl,hb⟩;unfold Qa8;go_wp2_with fail;have HE:Hid (Qm w (Qf 6) (.returned (tkV (Qf 6) (.slice none 0 0))) (sets w1 w.heap.size 0 (tkL (Qf 6) (.slice none 0 0)))):=Qu (tkL (Qf 6) (.slice none 0 0)) hb;have HA:Hid (AtL w1 w.heap.size (tkL (Qf 0) (.slice none 0 0))):=(AtL.new w (tkL (Qf 0) (.slice none 0 0)) 90).on hb;have HZ:Hid (∀o,w1.frozen? ⟨w.heap.size,o,none⟩=false):=fun o=>(hb.frozen (p:=⟨w.heap.size,o,none⟩) (by simp)).trans (by simp);obtain⟨hcc,hf⟩:=Qq hb;clear hb;refine leaves_cons (f:=123) (args:=#[.pointer (some ⟨w.heap.size,0,none⟩)]) (by simp) (by simp[go_sem]) ?_;refine(QeW w.heap.size 9 _ [] w1 HA.out HZ.out).mono ?_;rintro e u' w'' ⟨rfl,rfl,rfl⟩;simp[Leaves,settle,results,Tryz.results95,go_sem,sets,tkL,Qf,Xy,hcc];exact HE.out
theorem YN (p:Option Addr) (c:Nat) (l:List UInt8) (w:World) (ev:Ev) (s:Int) (pa no:Bool) (hpos:0<l.length) (hl:l.length≤1048576) (HW:Hid (∀o,Calls Tryz.prog 124 #[.slice p l.length c] (w.alloc o) (QG (w.alloc o) ev s pa no))):
    Calls Tryz.prog 95 #[.slice p l.length c] w (QM w ⟨0,ev,s,pa,no⟩):=by
  have hmf:∀(fn:Fn) (first cap:Array Value) (w:World),(Instr.makeFunc fn first cap).run Tryz.prog w=.ok (.func fn first cap) w:=fun _ _ _ _=>rfl;have hne:¬((l.length:Int)=0):=by omega
  go_enter_defers Tryz.func95,Tryz.ntmps95
  go_wp2_with fail;refine(HW.out _).mono ?_;rintro e w1 ⟨v,rfl,ho,hb⟩;obtain⟨hcc,hf⟩:=Qq hb;obtain⟨pp,cc,hv⟩:=ho.slice;subst hv;unfold Xx;go_wp2_with fail;have HE:Hid (QM w ⟨0,ev,s,pa,no⟩ (.returned (tkV ⟨0,ev,s,pa,no⟩ (.slice pp ev.data.length cc))) (sets w1 w.heap.size 0 (tkL ⟨0,ev,s,pa,no⟩ (.slice pp ev.data.length cc)))):=Xs (tkL ⟨0,ev,s,pa,no⟩ (.slice pp ev.data.length cc)) ho hb;clear hb ho;refine leaves_cons (f:=123) (args:=#[.pointer (some ⟨w.heap.size,0,none⟩)]) (by simp) (by simp[go_sem]) ?_;refine(QhB ⟨w.heap.size,0,none⟩ _).mono ?_;rintro e u' w'' ⟨rfl,rfl,rfl⟩;simp[Leaves,settle,results,Tryz.results95,go_sem,hcc];exact HE.out
theorem KU (p:Option Addr) (c:Nat) (w:World):
    Calls Tryz.prog 95 #[.slice p 0 c] w (Qm w (Qf 4)):=by
  have hmf:∀(fn:Fn) (first cap:Array Value) (w:World),(Instr.makeFunc fn first cap).run Tryz.prog w=.ok (.func fn first cap) w:=fun _ _ _ _=>rfl
  go_enter_defers Tryz.func95,Tryz.ntmps95
  go_wp2;have HE:Hid (Qm w (Qf 4) (.returned (tkV (Qf 4) (.slice none 0 0))) (w.alloc (.cells (tkL (Qf 4) (.slice none 0 0)).toArray 90))):=⟨rfl,Qb _ _⟩;simp[bodyPostD,Leaves,results,Tryz.results95,go_sem];exact HE.out
theorem VA (p:Option Addr) (c:Nat) (l:List UInt8) (w:World) (h:Bs w w.heap.size p l) (hc:l.length≤c) (hl:l.length≤1048576):
    Calls Tryz.prog 95 #[.slice p l.length c] w (QM w (Q2 l)):=by
  by_cases h0:l=[]
  · subst h0;exact(KU p c w).mono fun _ _ hp=>hp.new rfl
  have hpos:0<l.length:=List.length_pos_iff.2 h0;have hkl:=Vy l;by_cases h32:32≤unt l
  · rw[Yy h0 h32];have e:Q7 (l.take 32)=⟨0,QX (l.take 32),32,true,false⟩:=by
      unfold Q7 pTk;rw[show(l.take 32).length=32 by simp;omega];rfl
    rw[e];exact YN p c l w _ _ _ _ hpos hl (Lib.hid fun o=>U2 p c l (w.alloc o) (h.alloc o) hc hl h32)
  by_cases h6:l.length<unt l+6
  · rw[YX h0 h32 h6];exact(KT p c l w h hc hl h0 h32 h6).mono fun _ _ hp=>hp.new rfl
  by_cases hk0:0<unt l
  · rw[Yz h0 h32 h6 hk0];have e:Q7 (l.take (unt l))=⟨0,QX (l.take (unt l)),unt l,true,false⟩:=by
      unfold Q7 pTk;rw[show(l.take (unt l)).length=unt l by simp;omega]
    rw[e];exact YN p c l w _ _ _ _ hpos hl (Lib.hid fun o=>U4 p c l (w.alloc o) (h.alloc o) hc hl h32 h6 hk0)
  · rw[YJ h0 h32 h6 hk0];exact YN p c l w _ _ _ _ hpos hl (Lib.hid fun o=>Qba p c l (w.alloc o) (h.alloc o) hc hl h32 h6 hk0)
end Go.Proofs.YtbfickdgjgbfhaaGreatDoor
