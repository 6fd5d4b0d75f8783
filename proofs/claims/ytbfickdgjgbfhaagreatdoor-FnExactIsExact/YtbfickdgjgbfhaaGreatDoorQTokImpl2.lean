/- The program's tokens: pointToken. -/
import Derived.Test.YtbfickdgjgbfhaaGreatDoorQTokPureToTokImpl
import Derived.Test.YtbfickdgjgbfhaaGreatDoorQFirstPureToFirstBack
set_option linter.unusedVariables false
set_option maxRecDepth 100000
set_option maxHeartbeats 4000000
namespace Go.Proofs.YtbfickdgjgbfhaaGreatDoor
open Go.RowKit
theorem Qbr (p:Option Addr) (n c:Nat) (zp zs:Int) (w:World)
    (HF:Hid (∀o,Calls Tryz.prog 183 #[.slice p n c] (w.alloc o) fun e w'=>e=.returned (prV (6,zp,zs))∧Below (w.alloc o).heap.size (w.alloc o) w')):
    Calls Tryz.prog 159 #[.slice p n c] w (JX w):=by
  unfold prV at HF;go_enter Tryz.func159,Tryz.ntmps159;go_wp2_with fail;refine(HF.out _).mono ?_;rintro e w1 ⟨rfl,hb⟩;have HB:=Lib.hid hb;clear hb;go_wp2_with fail;exact⟨rfl,rfl,Qa (Qa (Qb _ _) HB.out) (Qb _ _)⟩
theorem Qcx (p:Option Addr) (n c:Nat) (zp zs:Int) (w:World) (h160:¬zp<160)
    (HF:Hid (∀o,Calls Tryz.prog 183 #[.slice p n c] (w.alloc o) fun e w'=>e=.returned (prV (0,zp,zs))∧Below (w.alloc o).heap.size (w.alloc o) w')):
    Calls Tryz.prog 159 #[.slice p n c] w (QG w (QL zp 0) zs false false):=by
  unfold prV at HF;have f1:=Qao;go_enter Tryz.func159,Tryz.ntmps159;go_wp2_with fail;refine(HF.out _).mono ?_;rintro e w1 ⟨rfl,hb⟩;have HB:=Lib.hid hb;have l0:=Xa hb;have n0:¬w.heap.size=w1.heap.size:=(by omega);clear hb;go_wp2_with fail;refine(YR _ _ _ _).mono ?_;rintro e w2 ⟨rfl,hb2⟩;have hb3:=QA HB.out hb2;obtain⟨hcc,hf⟩:=Qq hb3;have HE:Hid (QG w (QL zp 0) zs false false (.returned (Xx (QL zp 0) (.slice none 0 0) zs false false)) (sets w2 w.heap.size 0 (Zr (QL zp 0) (.slice none 0 0) zs false false))):=Xw (Zr (QL zp 0) (.slice none 0 0) zs false false) (QT _ _) hb3;clear hb2 hb3;unfold Xx QL;dsimp only;go_wp2_with fail;refine bodyPost_ret (v:=Xx (QL zp 0) (.slice none 0 0) zs false false) ?_ rfl HE.out;simp[results,Tryz.results159,Xx,QL,go_sem,hcc]
theorem Qcy (p:Option Addr) (n c:Nat) (zc zp zs:Int) (d:List UInt8) (w:World) (hn:1≤n) (hnc:n≤c) (h6:(zc==6)=false) (h0:(zc==0)=false∨((zc==0)=true∧zp<160))
    (HF:Hid (∀o,Calls Tryz.prog 183 #[.slice p n c] (w.alloc o) fun e w'=>e=.returned (prV (zc,zp,zs))∧Below (w.alloc o).heap.size (w.alloc o) w'))
    (HR:Hid (∀w',Below w.heap.size w w'→Calls Tryz.prog 139 #[.slice p 1 c] w' (QG w' (QS d) 1 false false))):
    Calls Tryz.prog 159 #[.slice p n c] w (QG w (QS d) 1 false false):=by
  unfold prV at HF;have e0:(zc != 0)=!(zc==0):=rfl;rcases h0 with h0 | ⟨h0,h1⟩;all_goals
    rw[h0] at e0;go_enter Tryz.func159,Tryz.ntmps159;go_wp2_with fail;refine(HF.out _).mono ?_;rintro e w1 ⟨rfl,hb⟩;have HB:=Lib.hid hb;have HR2:=Lib.hid (fun A=>HR.out _ (Qa (Qa (Qb _ _) hb) (Qb _ A)));have l0:=Xa hb;have n0:¬w.heap.size=w1.heap.size:=(by omega);clear hb HR;go_wp2_with fail;refine(HR2.out _).mono ?_;rintro e w2 ⟨v,rfl,ho,hb2⟩;obtain⟨pp,cc,hv⟩:=ho.slice;subst hv;have hb3:=QA HB.out hb2;obtain⟨hcc,hf⟩:=Qq hb3;have HE:Hid (QG w (QS d) 1 false false (.returned (Xx (QS d) (.slice pp d.length cc) 1 false false)) (sets w2 w.heap.size 0 (Zr (QS d) (.slice pp d.length cc) 1 false false))):=Xw (Zr (QS d) (.slice pp d.length cc) 1 false false) (ho.lower (Jn HB.out _)) hb3;clear ho hb2 hb3;unfold Xx QS;dsimp only;go_wp2_with fail;refine bodyPost_ret (v:=Xx (QS d) (.slice pp d.length cc) 1 false false) ?_ rfl HE.out;simp[results,Tryz.results159,Xx,QS,go_sem,hcc]
theorem Qcz (p:Option Addr) (c:Nat) (l:List UInt8) (w:World) (h:Bs w w.heap.size p l) (ht:Yo w) (hc:l.length≤c) (hl:l.length≤1048576) (hne:l≠[]):
    Calls Tryz.prog 159 #[.slice p l.length c] w (VI w (K0 l)):=by
  have hpos:0<l.length:=List.length_pos_iff.2 hne;have HF:=fun o=>VH p c l (w.alloc o) (h.alloc o) (ht.on (Qb _ o)) hl;unfold K0;generalize YI l=z at *;obtain⟨zc,zp,zs⟩:=z;dsimp only at *;by_cases h6:zc=6
  · rw[if_pos h6];subst h6;exact(Qbr p l.length c zp zs w (Lib.hid HF)).mono fun _ _ k=>.inr ⟨rfl,k⟩
  · rw[if_neg h6];by_cases h0:zc≠0∨zp<160
    · rw[if_pos h0];have e:(l.take 1).length=1:=(by simp;omega);refine(Qcy p l.length c zc zp zs (l.take 1) w (by omega) hc (by simpa using h6) ?_ (Lib.hid HF) (Lib.hid fun w' hb'=>Zl p c 1 l w' (h.on hb') (by omega) (by omega) hl)).mono fun _ _ k=>.inl ⟨rfl,?_⟩
      · by_cases hz:zc=0
        · exact .inr ⟨by simpa using hz,h0.resolve_left (fun hh=>hh hz)⟩
        · exact .inl (by simpa using hz)
      · unfold Zd rTk;rw[e];exact k
    · rw[if_neg h0];have hz:zc=0:=(by omega);subst hz;exact(Qcx p l.length c zp zs w (by omega) (Lib.hid HF)).mono fun _ _ k=>.inl ⟨rfl,k⟩
end Go.Proofs.YtbfickdgjgbfhaaGreatDoor
