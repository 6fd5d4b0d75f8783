/- KeyOfParts of the program. -/
import Derived.Test.YtbfickdgjgbfhaaGreatDoorQKeyParts2
set_option maxRecDepth 100000
set_option maxHeartbeats 4000000
namespace Go.Proofs.YtbfickdgjgbfhaaGreatDoor
open Go.RowKit
def Zv (r:Pt):Tk:=
  if r.code=0∧r.priv=false∧(Ze r.nums).2=true∧(YZ r.nums r.fin).2=true then Qo (YZ r.nums r.fin).1 (Ze r.nums).1 r.size else Qf 5
theorem VB (r:Pt):(Zv r).ev.data=[]:=by unfold Zv;split <;> rfl
theorem QjD {l:List Int} (h:(Ze l).2=true):l.length≤2:=by
  match l with
  | []=>simp
  | [_]=>simp
  | [_,_]=>simp
  | _::_::_::_=>simp[Ze] at h
theorem Qx {w w1:World} {o0 o:Obj} {t:Tk} (vs:List Value) (hb:Below ((w.alloc o0).alloc o).heap.size ((w.alloc o0).alloc o) w1):
    Qm w t (.returned (tkV t (.slice none 0 0))) (sets w1 (w.heap.size+1) 0 vs):=
  ⟨rfl,QK (by omega) vs 0 _ _ (Qa (Qb w o0) (Qa (Qb _ o) hb))⟩
theorem Y0 (r:Pt) (p:Option Addr) (c:Nat) (w:World) (h:Is w w.heap.size p r.nums) (hl:r.nums.length≤4) (hb:(r.code==0)=false∨((r.code==0)=true∧r.priv=true)∨((r.code==0)=true∧r.priv=false∧(Ze r.nums).2=false)):
    Calls Tryz.prog 198 #[ptV r (.slice p r.nums.length c)] w (Qm w (Qf 5)):=by
  have HM:=Lib.hid (fun(o1 o2:Obj)=>Jq p c r.nums ((w.alloc o1).alloc o2) ((h.alloc o1).alloc o2) hl);obtain⟨code,priv,nums,fin,size⟩:=r;dsimp only at *;clear h hl;generalize Ze nums=M at *;obtain⟨m,d⟩:=M;unfold ptV;dsimp only at HM hb ⊢;have hx:(code != 0)=!(code==0):=rfl;rcases hb with h1 | ⟨h1,h2⟩ | ⟨h1,h2,h3⟩
  · rw[h1] at hx;go_enter Tryz.func198,Tryz.ntmps198;go_wp2_with fail;refine(HM.out _ _).mono ?_;rintro e w1 ⟨rfl,hb⟩;obtain⟨hcc,hf⟩:=Qq hb;have HE:Hid (Qm w (Qf 5) (.returned (tkV (Qf 5) (.slice none 0 0))) (sets w1 (w.heap.size+1) 0 (tkL (Qf 5) (.slice none 0 0)))):=Qx (tkL (Qf 5) (.slice none 0 0)) hb;clear hb;go_wp2_with fail;refine bodyPost_ret (v:=tkV (Qf 5) (.slice none 0 0)) ?_ rfl HE.out;simp[results,Tryz.results198,tkV,Qf,Xy,go_sem,hcc]
  · rw[h1] at hx;subst h2;go_enter Tryz.func198,Tryz.ntmps198;go_wp2_with fail;refine(HM.out _ _).mono ?_;rintro e w1 ⟨rfl,hb⟩;obtain⟨hcc,hf⟩:=Qq hb;have HE:Hid (Qm w (Qf 5) (.returned (tkV (Qf 5) (.slice none 0 0))) (sets w1 (w.heap.size+1) 0 (tkL (Qf 5) (.slice none 0 0)))):=Qx (tkL (Qf 5) (.slice none 0 0)) hb;clear hb;go_wp2_with fail;refine bodyPost_ret (v:=tkV (Qf 5) (.slice none 0 0)) ?_ rfl HE.out;simp[results,Tryz.results198,tkV,Qf,Xy,go_sem,hcc]
  · rw[h1] at hx;subst h2;subst h3;go_enter Tryz.func198,Tryz.ntmps198;go_wp2_with fail;refine(HM.out _ _).mono ?_;rintro e w1 ⟨rfl,hb⟩;obtain⟨hcc,hf⟩:=Qq hb;have HE:Hid (Qm w (Qf 5) (.returned (tkV (Qf 5) (.slice none 0 0))) (sets w1 (w.heap.size+1) 0 (tkL (Qf 5) (.slice none 0 0)))):=Qx (tkL (Qf 5) (.slice none 0 0)) hb;clear hb;go_wp2_with fail;refine bodyPost_ret (v:=tkV (Qf 5) (.slice none 0 0)) ?_ rfl HE.out;simp[results,Tryz.results198,tkV,Qf,Xy,go_sem,hcc]
theorem KV (r:Pt) (p:Option Addr) (c:Nat) (w:World) (h:Is w w.heap.size p r.nums) (hl:r.nums.length≤4) (h1:r.code=0) (h2:r.priv=false) (h3:(Ze r.nums).2=true):
    Calls Tryz.prog 198 #[ptV r (.slice p r.nums.length c)] w (Qm w (if (YZ r.nums r.fin).2=true then Qo (YZ r.nums r.fin).1 (Ze r.nums).1 r.size else Qf 5)):=by
  have hl2:=QjD h3;have HM:=Lib.hid (fun(o1 o2:Obj)=>Jq p c r.nums ((w.alloc o1).alloc o2) ((h.alloc o1).alloc o2) hl);have HC:=Lib.hid (fun(o1 o2:Obj) (w1:World) (hb:Below ((w.alloc o1).alloc o2).heap.size ((w.alloc o1).alloc o2) w1)=>Qbc p c r.nums r.fin w1 (((h.alloc o1).alloc o2).on hb) hl2);obtain⟨code,priv,nums,fin,size⟩:=r;dsimp only at *;clear h hl hl2;generalize Ze nums=M at *;generalize YZ nums fin=K at *;obtain⟨m,d⟩:=M;obtain⟨k,f⟩:=K;unfold ptV;dsimp only at HM HC h3 ⊢;subst h1;subst h2;subst h3
  cases f
  · rw[if_neg (by simp)];go_enter Tryz.func198,Tryz.ntmps198;go_wp2_with fail;refine(HM.out _ _).mono ?_;rintro e w1 ⟨rfl,hb⟩;obtain⟨hcc,hf⟩:=Qq hb;have HB:=Lib.hid hb;have HD:=Lib.hid (HC.out _ _ _ hb);clear hb HC;go_wp2_with fail;refine HD.out.mono ?_;rintro e w2 ⟨rfl,hb2⟩;have hb:=HB.out.trans (hb2.mono HB.out.size);clear hcc hf;obtain⟨hcc,hf⟩:=Qq hb;have HE:Hid (Qm w (Qf 5) (.returned (tkV (Qf 5) (.slice none 0 0))) (sets w2 (w.heap.size+1) 0 (tkL (Qf 5) (.slice none 0 0)))):=Qx (tkL (Qf 5) (.slice none 0 0)) hb;clear hb hb2;go_wp2_with fail;refine bodyPost_ret (v:=tkV (Qf 5) (.slice none 0 0)) ?_ rfl HE.out;simp[results,Tryz.results198,tkV,Qf,Xy,go_sem,hcc]
  · rw[if_pos rfl];go_enter Tryz.func198,Tryz.ntmps198;go_wp2_with fail;refine(HM.out _ _).mono ?_;rintro e w1 ⟨rfl,hb⟩;obtain⟨hcc,hf⟩:=Qq hb;have HB:=Lib.hid hb;have HD:=Lib.hid (HC.out _ _ _ hb);clear hb HC;go_wp2_with fail;refine HD.out.mono ?_;rintro e w2 ⟨rfl,hb2⟩;have HB2:=Lib.hid (HB.out.trans (hb2.mono HB.out.size));clear hcc hf;obtain⟨hcc,hf⟩:=Qq HB2.out;clear hb2;go_wp2_with fail;refine(XQ _ _ _ _).mono ?_;rintro e w3 ⟨rfl,hb3⟩;have hb:=HB2.out.trans (hb3.mono HB2.out.size);clear hcc hf;obtain⟨hcc,hf⟩:=Qq hb;have HE:Hid (Qm w (Qo k m size) (.returned (tkV (Qo k m size) (.slice none 0 0))) (sets w3 (w.heap.size+1) 0 (tkL (Qo k m size) (.slice none 0 0)))):=Qx (tkL (Qo k m size) (.slice none 0 0)) hb;clear hb hb3;unfold tkV Qo QL;go_wp2_with fail;refine bodyPost_ret (v:=tkV (Qo k m size) (.slice none 0 0)) ?_ rfl HE.out;simp[results,Tryz.results198,tkV,Qo,QL,go_sem,hcc]
theorem XS (r:Pt) (p:Option Addr) (c:Nat) (w:World) (h:Is w w.heap.size p r.nums) (hl:r.nums.length≤4):
    Calls Tryz.prog 198 #[ptV r (.slice p r.nums.length c)] w (Qm w (Zv r)):=by
  by_cases h1:r.code=0
  · by_cases h2:r.priv=false
    · by_cases h3:(Ze r.nums).2=true
      · have:=KV r p c w h hl h1 h2 h3;unfold Zv;by_cases h4:(YZ r.nums r.fin).2=true
        · rw[if_pos ⟨h1,h2,h3,h4⟩];rw[if_pos h4] at this;exact this
        · rw[if_neg (fun hh=>h4 hh.2.2.2)];rw[if_neg h4] at this;exact this
      · have e:Zv r=Qf 5:=(by unfold Zv;rw[if_neg (fun hh=>h3 hh.2.2.1)]);rw[e];exact Y0 r p c w h hl (.inr (.inr ⟨by simp[h1],h2,by simpa using h3⟩))
    · have e:Zv r=Qf 5:=(by unfold Zv;rw[if_neg (fun hh=>h2 hh.2.1)]);rw[e];exact Y0 r p c w h hl (.inr (.inl ⟨by simp[h1],by simpa using h2⟩))
  · have e:Zv r=Qf 5:=(by unfold Zv;rw[if_neg (fun hh=>h1 hh.1)]);rw[e];exact Y0 r p c w h hl (.inl (by simpa using h1))
end Go.Proofs.YtbfickdgjgbfhaaGreatDoor
