/- KeyOfParts of the model, and that it is the program's. -/
import Derived.Test.YtbfickdgjgbfhaaGreatDoorQSpecKey2
set_option maxRecDepth 100000
set_option maxHeartbeats 4000000
namespace Go.Proofs.YtbfickdgjgbfhaaGreatDoor
open Go.RowKit
theorem Qgh (b c:Nat) (p:Option Addr) (r:Pt) (w:World) (hA:AtL w b (ptL r (.slice p r.nums.length c))) (h:Is w w.heap.size p r.nums) (hl:r.nums.length≤4):
    Calls Tryz.prog 204 #[.pointer (some ⟨b,0,none⟩)] w fun e w'=>e=.returned (.int .i64 (Zw r.nums r.fin))∧Below w.heap.size w w':=by
  obtain⟨code,priv,nums,fin,size⟩:=r;unfold ptL at hA;dsimp only at *
  match nums,h,hl,hA with
  | [],_,_,hA=>exact QjE b c p code size fin priv w hA
  | [x],h,_,hA=>
    obtain⟨g,off,rfl,_,hc⟩:=h.cons;have hc0:=hc 0 (by simp);by_cases h1:fin=126
    · rw[show Zw [x] fin=XH x from if_pos h1];exact Kg b c g off 1 x _ code size fin priv w hA (.inl rfl) hc0 (.inl ⟨h1,rfl⟩)
    by_cases h2:fin=117
    · rw[show Zw [x] fin=Zu x from(if_neg h1).trans (if_pos h2)];exact Kg b c g off 1 x _ code size fin priv w hA (.inl rfl) hc0 (.inr ⟨h2,rfl⟩)
    · rw[show Zw [x] fin=0 from(if_neg h1).trans (if_neg h2)];have:=QeX b c g off 1 x code size fin priv w hA (.inl rfl) hc0 h1 h2;rw[if_neg (by omega)] at this;exact this
  | [x,m],h,_,hA=>
    obtain⟨g,off,rfl,_,hc⟩:=h.cons;have hc0:=hc 0 (by simp);by_cases h1:fin=126
    · rw[show Zw [x,m] fin=XH x from if_pos h1];exact Kg b c g off 2 x _ code size fin priv w hA (.inr rfl) hc0 (.inl ⟨h1,rfl⟩)
    by_cases h2:fin=117
    · rw[show Zw [x,m] fin=Zu x from(if_neg h1).trans (if_pos h2)];exact Kg b c g off 2 x _ code size fin priv w hA (.inr rfl) hc0 (.inr ⟨h2,rfl⟩)
    · rw[show Zw [x,m] fin=(if x=1 then QJ fin else 0) from(if_neg h1).trans (if_neg h2)];have:=QeX b c g off 2 x code size fin priv w hA (.inr rfl) hc0 h1 h2;simp only[true_and] at this;exact this
  | [_,_,_],_,_,hA=>exact UR b c 3 p code size fin priv w hA (.inl rfl)
  | [_,_,_,_],_,_,hA=>exact UR b c 4 p code size fin priv w hA (.inr rfl)
  | _::_::_::_::_::_,_,hl,_=>exact absurd hl (by simp)
def VC (r:Pt):Tk:=if r.priv=true∨Uo r.nums<0∨Zw r.nums r.fin=0 then Qf 5 else Qo (Zw r.nums r.fin) (Uo r.nums) r.size
theorem U6 (r:Pt) (p:Option Addr) (c:Nat) (w:World) (h:Is w w.heap.size p r.nums) (hl:r.nums.length≤4) (hN:∀x∈r.nums,0≤x∧x≤9999999):
    Calls Tryz.prog 186 #[ptV r (.slice p r.nums.length c)] w (Qm w (VC r)):=by
  have HN:=Lib.hid (fun(t1 t2:TypeId)=>Qgh w.heap.size c p r ((w.alloc (.cells (ptL r (.slice p r.nums.length c)).toArray t1)).alloc (.cells (tkL (Qf 0) (.slice none 0 0)).toArray t2)) ((AtL.new w _ t1).on (Qb _ _)) ((h.alloc _).alloc _) hl);have HM:=Lib.hid (fun(t1 t2:TypeId) w1 (hb:Below ((w.alloc (.cells (ptL r (.slice p r.nums.length c)).toArray t1)).alloc (.cells (tkL (Qf 0) (.slice none 0 0)).toArray t2)).heap.size ((w.alloc (.cells (ptL r (.slice p r.nums.length c)).toArray t1)).alloc (.cells (tkL (Qf 0) (.slice none 0 0)).toArray t2)) w1)=>QhF w.heap.size c p r w1 (((AtL.new w _ t1).on (Qb _ _)).on hb) (((h.alloc _).alloc _).on hb) hl hN);clear h hN;unfold VC;unfold ptL tkL Qf Xy at HN HM;obtain⟨code,priv,nums,fin,size⟩:=r;dsimp only at *;clear hl;unfold ptV;dsimp only;generalize Zw nums fin=k at *;generalize Uo nums=m at *;by_cases h1:priv=true
  · rw[if_pos (.inl h1)];subst h1;go_enter Tryz.func186,Tryz.ntmps186;go_wp2_with fail;refine(HN.out _ _).mono ?_;rintro e w1 ⟨rfl,hb⟩;have HB:=Lib.hid hb;have HD:=Lib.hid (HM.out _ _ _ hb);obtain⟨hcc,hf⟩:=Qq hb;clear hb HM;go_wp2_with fail;refine HD.out.mono ?_;rintro e w2 ⟨rfl,hb2⟩;have HB2:=Lib.hid (HB.out.trans (hb2.mono HB.out.size));clear hcc hf hb2;obtain⟨hcc,hf⟩:=Qq HB2.out;go_wp2_with fail;refine(Q8 _ _).mono ?_;rintro e w3 ⟨rfl,hb3⟩;have hb:=HB2.out.trans (hb3.mono HB2.out.size);clear hcc hf;obtain⟨hcc,hf⟩:=Qq hb;have HE:Hid (Qm w (Qf 5) (.returned (tkV (Qf 5) (.slice none 0 0))) (sets w3 (w.heap.size+1) 0 (tkL (Qf 5) (.slice none 0 0)))):=Qx (tkL (Qf 5) (.slice none 0 0)) hb;clear hb hb3;unfold tkV Qf Xy;go_wp2_with fail;refine bodyPost_ret (v:=tkV (Qf 5) (.slice none 0 0)) ?_ rfl HE.out;simp[results,Tryz.results186,tkV,Qf,Xy,go_sem,hcc]
  have h1':priv=false:=(by simpa using h1);subst h1';by_cases h2:m<0
  · rw[if_pos (.inr (.inl h2))];go_enter Tryz.func186,Tryz.ntmps186;go_wp2_with fail;refine(HN.out _ _).mono ?_;rintro e w1 ⟨rfl,hb⟩;have HB:=Lib.hid hb;have HD:=Lib.hid (HM.out _ _ _ hb);obtain⟨hcc,hf⟩:=Qq hb;clear hb HM;go_wp2_with fail;refine HD.out.mono ?_;rintro e w2 ⟨rfl,hb2⟩;have HB2:=Lib.hid (HB.out.trans (hb2.mono HB.out.size));clear hcc hf hb2;obtain⟨hcc,hf⟩:=Qq HB2.out;go_wp2_with fail;refine(Q8 _ _).mono ?_;rintro e w3 ⟨rfl,hb3⟩;have hb:=HB2.out.trans (hb3.mono HB2.out.size);clear hcc hf;obtain⟨hcc,hf⟩:=Qq hb;have HE:Hid (Qm w (Qf 5) (.returned (tkV (Qf 5) (.slice none 0 0))) (sets w3 (w.heap.size+1) 0 (tkL (Qf 5) (.slice none 0 0)))):=Qx (tkL (Qf 5) (.slice none 0 0)) hb;clear hb hb3;unfold tkV Qf Xy;go_wp2_with fail;refine bodyPost_ret (v:=tkV (Qf 5) (.slice none 0 0)) ?_ rfl HE.out;simp[results,Tryz.results186,tkV,Qf,Xy,go_sem,hcc]
  by_cases h3:k=0
  · rw[if_pos (.inr (.inr h3))];subst h3;go_enter Tryz.func186,Tryz.ntmps186;go_wp2_with fail;refine(HN.out _ _).mono ?_;rintro e w1 ⟨rfl,hb⟩;have HB:=Lib.hid hb;have HD:=Lib.hid (HM.out _ _ _ hb);obtain⟨hcc,hf⟩:=Qq hb;clear hb HM;go_wp2_with fail;refine HD.out.mono ?_;rintro e w2 ⟨rfl,hb2⟩;have HB2:=Lib.hid (HB.out.trans (hb2.mono HB.out.size));clear hcc hf hb2;obtain⟨hcc,hf⟩:=Qq HB2.out;go_wp2_with fail;refine(Q8 _ _).mono ?_;rintro e w3 ⟨rfl,hb3⟩;have hb:=HB2.out.trans (hb3.mono HB2.out.size);clear hcc hf;obtain⟨hcc,hf⟩:=Qq hb;have HE:Hid (Qm w (Qf 5) (.returned (tkV (Qf 5) (.slice none 0 0))) (sets w3 (w.heap.size+1) 0 (tkL (Qf 5) (.slice none 0 0)))):=Qx (tkL (Qf 5) (.slice none 0 0)) hb;clear hb hb3;unfold tkV Qf Xy;go_wp2_with fail;refine bodyPost_ret (v:=tkV (Qf 5) (.slice none 0 0)) ?_ rfl HE.out;simp[results,Tryz.results186,tkV,Qf,Xy,go_sem,hcc]
  · rw[if_neg (by simp[h2,h3])];have h3':(k==0)=false:=(by simp[h3]);go_enter Tryz.func186,Tryz.ntmps186;go_wp2_with fail;refine(HN.out _ _).mono ?_;rintro e w1 ⟨rfl,hb⟩;have HB:=Lib.hid hb;have HD:=Lib.hid (HM.out _ _ _ hb);obtain⟨hcc,hf⟩:=Qq hb;clear hb HM;go_wp2_with fail;refine HD.out.mono ?_;rintro e w2 ⟨rfl,hb2⟩;have HB2:=Lib.hid (HB.out.trans (hb2.mono HB.out.size));clear hcc hf hb2;obtain⟨hcc,hf⟩:=Qq HB2.out;go_wp2_with fail;refine(XR _ _ _ _).mono ?_;rintro e w3 ⟨rfl,hb3⟩;have hb:=HB2.out.trans (hb3.mono HB2.out.size);clear hcc hf;obtain⟨hcc,hf⟩:=Qq hb;have HE:Hid (Qm w (Qo k m size) (.returned (tkV (Qo k m size) (.slice none 0 0))) (sets w3 (w.heap.size+1) 0 (tkL (Qo k m size) (.slice none 0 0)))):=Qx (tkL (Qo k m size) (.slice none 0 0)) hb;clear hb hb3;unfold tkV Qo QL;go_wp2_with fail;refine bodyPost_ret (v:=tkV (Qo k m size) (.slice none 0 0)) ?_ rfl HE.out;simp[results,Tryz.results186,tkV,Qo,QL,go_sem,hcc]
theorem Kh (x:Int):(Zm x).2=true↔Zu x≠0:=by
  unfold Zm Zu;by_cases h:x=13∨x=9∨x=127∨x=27
  · rw[if_pos h];rcases h with rfl | rfl | rfl | rfl <;> simp
  · rw[if_neg h,if_neg (by omega),if_neg (by omega),if_neg (by omega),if_neg (by omega)];constructor
    · intro hp;rw[if_pos hp];simp at hp;omega
    · intro hp;by_cases hq:(Yq x&&decide (32≤x))=true
      · exact hq
      · rw[if_neg hq] at hp;exact absurd rfl hp
theorem Qc4 (x:Int) (h:(Zm x).2=true):(Zm x).1=Zu x:=by
  unfold Zm Zu at *;by_cases hx:x=13∨x=9∨x=127∨x=27
  · rw[if_pos hx]
  · rw[if_neg hx] at h ⊢;rw[if_neg (by omega),if_neg (by omega),if_neg (by omega),if_neg (by omega),if_pos h]
theorem QkD (r:Pt) (hr:r.code=0∨(r.nums=[]∧r.fin=0)):VC r=Zv r:=by
  obtain⟨code,priv,nums,fin,size⟩:=r;dsimp only at hr;rcases hr with rfl | ⟨rfl,rfl⟩
  · unfold VC Zv;dsimp only;by_cases hp:priv=true
    · rw[if_pos (.inl hp),if_neg (by simp[hp])]
    have hp':priv=false:=(by simpa using hp);by_cases hf:fin=126∨fin=117
    · match nums with
      | []=>rw[if_pos (.inr (.inr (by rcases hf with rfl | rfl <;> rfl))),if_neg (by rw[QdW hf];simp)]
      | [x]=>
        rcases hf with rfl | rfl
        · rw[QdX];by_cases ht:XH x=0
          · rw[if_pos (.inr (.inr ht)),if_neg (by simp[ht])]
          · rw[if_neg (by simp[hp,Uo,Zw,ht]),if_pos (by simp[hp',Ze,ht])];rfl
        · rw[QdY];by_cases ht:Zu x=0
          · rw[if_pos (.inr (.inr ht)),if_neg (fun hh=>(Kh x).1 hh.2.2.2 ht)]
          · have hq:=(Kh x).2 ht;rw[if_neg (by simp[hp,Uo,Zw,ht]),if_pos ⟨rfl,hp',rfl,hq⟩,Qc4 x hq];rfl
      | [x,m]=>
        by_cases hm:1≤m∧m≤8
        · have e1:Uo [x,m]=m - 1:=if_pos hm;have e2:Ze [x,m]=(m - 1,true):=if_pos hm;rw[e1,e2];rcases hf with rfl | rfl
          · rw[QdX];by_cases ht:XH x=0
            · rw[if_pos (.inr (.inr ht)),if_neg (by simp[ht])]
            · rw[if_neg (by simp[hp,Zw,ht];omega),if_pos (by simp[hp',ht])];rfl
          · rw[QdY];by_cases ht:Zu x=0
            · rw[if_pos (.inr (.inr ht)),if_neg (fun hh=>(Kh x).1 hh.2.2.2 ht)]
            · have hq:=(Kh x).2 ht;rw[if_neg (by simp[hp,Zw,ht];omega),if_pos ⟨rfl,hp',rfl,hq⟩,Qc4 x hq];rfl
        · have e1:Uo [x,m]= -1:=if_neg hm;have e2:Ze [x,m]=(0,false):=if_neg hm;rw[e1,e2,if_pos (.inr (.inl (by omega))),if_neg (by simp)]
      | _::_::_::_=>rw[if_pos (.inr (.inl (by simp[Uo]))),if_neg (by simp[Ze])]
    · rw[Qaq _ hf];have h1:¬fin=126:=fun e=>hf (.inl e);have h2:¬fin=117:=fun e=>hf (.inr e)
      match nums with
      | []=>
        by_cases ht:QJ fin=0
        · rw[if_pos (.inr (.inr ht)),if_neg (by simp[ht])]
        · rw[if_neg (by simp[hp,Uo,Zw,ht]),if_pos (by simp[hp',Ze,ht,ZP])];rfl
      | [x]=>rw[if_pos (.inr (.inr ((if_neg h1).trans (if_neg h2)))),if_neg (by simp[ZP])]
      | [x,m]=>
        have e3:Zw [x,m] fin=(if x=1 then QJ fin else 0):=(if_neg h1).trans (if_neg h2);rw[e3];by_cases hm:1≤m∧m≤8
        · have e1:Uo [x,m]=m - 1:=if_pos hm;have e2:Ze [x,m]=(m - 1,true):=if_pos hm;rw[e1,e2];by_cases hx:x=1
          · rw[if_pos hx];by_cases ht:QJ fin=0
            · rw[if_pos (.inr (.inr ht)),if_neg (by simp[ht])]
            · rw[if_neg (by simp[hp,ht];omega),if_pos (by simp[hp',ht,ZP,hx])]
          · rw[if_neg hx,if_pos (.inr (.inr rfl)),if_neg (by simp[ZP,hx])]
        · have e1:Uo [x,m]= -1:=if_neg hm;have e2:Ze [x,m]=(0,false):=if_neg hm;rw[e1,e2,if_pos (.inr (.inl (by omega))),if_neg (by simp)]
      | _::_::_::_=>rw[if_pos (.inr (.inl (by simp[Uo]))),if_neg (by simp[Ze])]
  · unfold VC Zv;rw[if_pos (.inr (.inr rfl)),if_neg (by rw[Qaq _ (show ¬((0:Int)=126∨(0:Int)=117) by omega)];simp[show QJ 0=0 from rfl])]
theorem Xd (r:Pt) (p:Option Addr) (c:Nat) (w:World) (h:Is w w.heap.size p r.nums) (hl:r.nums.length≤4) (hN:∀x∈r.nums,0≤x∧x≤9999999) (hr:r.code=0∨(r.nums=[]∧r.fin=0)):
    Calls Tryz.prog 186 #[ptV r (.slice p r.nums.length c)] w (Qm w (Zv r)):=by
  rw[←QkD r hr];exact U6 r p c w h hl hN
end Go.Proofs.YtbfickdgjgbfhaaGreatDoor
