/- The program's tokens: sequenceToken, escapeToken, tokenOutside. -/
import Derived.Test.YtbfickdgjgbfhaaGreatDoorQTokImpl4
import Derived.Test.YtbfickdgjgbfhaaGreatDoorQTokImpl2
set_option linter.unusedVariables false
set_option maxRecDepth 100000
set_option maxHeartbeats 4000000
namespace Go.Proofs.YtbfickdgjgbfhaaGreatDoor
open Go.RowKit
theorem Qhd (r:Pt):(Zv r).code=0∨Zv r=Qf 5:=by
  unfold Zv;split
  · exact .inl rfl
  · exact .inr rfl
theorem Qdc (r:Pt):(Xk r).code=0∨Xk r=Qf 5:=by
  unfold Xk;split
  · split
    · unfold Zx;split
      · exact .inl rfl
      · exact .inr rfl
    · exact .inr rfl
  · exact .inr rfl
theorem Uw (p:Option Addr) (c:Nat) (l:List UInt8) (w:World) (h:Bs w w.heap.size p l) (hc:l.length≤c) (hl:l.length≤1048576) (h2:2≤l.length):
    Calls Tryz.prog 180 #[.slice p l.length c] w (VI w (Zz l)):=by
  obtain⟨k,hk⟩:∃k,(l.take 24).length=k:=⟨_,rfl⟩;have hk1:k≤24:=(by rw[←hk];simp;omega);have hk2:k≤l.length:=(by rw[←hk];simp;omega);have hk3:2≤k:=(by rw[←hk];simp;omega);have hk4:k=l.length∨k=24:=(by rw[←hk];simp;omega);have hdl:((l.take 24).drop 2).length=k - 2:=(by simp[hk]);have HW:Bs w w.heap.size (if c=2 then p else p.map (·.add 2)) ((l.take 24).drop 2):=(h.head 24).tail 2 c (by omega);have HPA:=fun o=>QaF (if c=2 then p else p.map (·.add 2)) (c - 2) ((l.take 24).drop 2) (w.alloc o) (HW.alloc o) (by omega) (by omega);rw[hdl] at HPA;have HB:Hid (∀w,Calls Tryz.prog 104 #[.slice p l.length c,.int .i64 24] w fun e w'=>e=.returned (.slice p k c)∧w=w'):=by
    intro w;rcases hk4 with rfl | rfl
    · exact Zt p l.length c 24 w hk1 hc (by omega)
    · exact ZQ p l.length c 24 w hk2 hc (by omega)
  unfold Zz;have hkinds:=Us ((l.take 24).drop 2);have hform:=QjM ((l.take 24).drop 2);have hnums:=Qbm ((l.take 24).drop 2);have hsm:=QcU ((l.take 24).drop 2);rw[hdl] at hkinds;generalize Qco ((l.take 24).drop 2)=r at *;rcases hkinds with rfl | ⟨h6,s,hs,hs1,hs2⟩
  · rw[if_pos rfl];by_cases h24:l.length<24
    · rw[if_pos h24];have hkl:k=l.length:=(by omega);subst hkl;refine(VJ p (if c=2 then p else p.map (·.add 2)) l.length c (c - 2) w h2 h24 hc ?_ (Lib.hid HPA)).mono fun _ _ q=>.inr ⟨rfl,q⟩;by_cases hc2:c=2
      · exact .inl ⟨hc2,if_pos hc2,by omega⟩
      · exact .inr ⟨hc2,if_neg hc2,rfl⟩
    · rw[if_neg h24];have hkl:k=24:=(by omega);subst hkl;rw[if_neg (show ¬c=2 by omega)] at HPA;refine(VK p l.length c (l.take 24) w (by omega) hc (Lib.hid HPA) (Lib.hid fun w' hb'=>Zl p c 24 l w' (h.on hb') (by omega) (by omega) hl)).mono fun _ _ q=>.inl ⟨rfl,?_⟩;unfold Zd rTk;rw[hk];exact q
  · rw[if_neg h6];have hc2:¬c=2:=(by omega);rw[if_neg hc2] at HPA;have h6':(r.code==6)=false:=(by simpa using h6);have hsz:(XY r).size=(s:Int)+2:=(by unfold XY;rw[hs]);unfold QhK
    cases hst:YB (XY r)
    · simp only[Bool.false_eq_true,if_false];by_cases hk0:(Zv (XY r)).code=0
      · rw[if_pos hk0];exact(Uu p l.length c k s r w (by omega) (by omega) h6' hs (by omega) hsm hnums HB (Lib.hid HPA) hst _ rfl hk0 (VB _)).mono fun _ _ q=>.inl ⟨hk0,q⟩
      · rw[if_neg hk0];have hky:=(Qhd (XY r)).resolve_left hk0;by_cases hm0:(Xk (XY r)).code=0
        · rw[if_pos hm0];exact(K4 p l.length c k s r w (by omega) (by omega) h6' hs (by omega) hsm hnums HB (Lib.hid HPA) hst hky _ rfl hm0 (Qbe _)).mono fun _ _ q=>.inl ⟨hm0,q⟩
        · rw[if_neg hm0];have hms:=(Qdc (XY r)).resolve_left hm0;have e1:(XY r).size.toNat=s+2:=(by rw[hsz];omega);have e2:((l.take 24).take (s+2))=l.take (s+2):=(by rw[List.take_take];congr 1;omega);have e3:(l.take (s+2)).length=s+2:=(by simp;omega);rw[e1,e2];refine(Uv p l.length c k s r w (by omega) (by omega) h6' hs (by omega) (by omega) (l.take (s+2)) hsm hnums HB (Lib.hid HPA) hst hky hms (Lib.hid fun w' hb'=>?_)).mono fun _ _ q=>.inl ⟨rfl,?_⟩
          · exact Zl p c (s+2) l w' (h.on hb') (by omega) (by omega) hl
          · unfold Zd rTk;rw[e3];exact q
    · rw[if_pos rfl];refine(K3 p l.length c k s r w (by omega) (by omega) h6' hs (by omega) hsm hnums HB (Lib.hid HPA) hst).mono fun _ _ q=>.inl ⟨rfl,?_⟩;unfold JA;rw[hsz];exact q
theorem U8 (p:Option Addr) (n c:Nat) (w:World) (hn:n≤1):
    Calls Tryz.prog 158 #[.slice p n c] w (JX w):=by
  have HN:=Lib.hid (fun w=>JY p n c 1 w hn (by omega));go_enter Tryz.func158,Tryz.ntmps158;go_wp2_with fail;refine(HN.out _).mono ?_;rintro e w1 ⟨rfl,hb⟩;go_wp2_with fail;exact⟨rfl,rfl,Qa (Qb _ _) hb⟩
theorem Ux (b off n c:Nat) (x:Int) (w:World) (hi:1<n) (hn:n≤1048576) (hb:b<w.heap.size) (hc:w.cell? ⟨b,off+1,none⟩=some (.int .u8 x)) (h1:¬x=91) (h2:¬x=79) (h3:inR x 32 126=true):
    Calls Tryz.prog 158 #[.slice (some ⟨b,off,none⟩) n c] w (QG w (QL x 2) 2 false false):=by
  have HN:=Lib.hid (fun(w:World) hc=>XT b off n c 1 x w hi hn hc);have HP:=Lib.hid (fun w=>XX x w);rw[h3] at HP;have hw:IntKind.i64.wrap x=x:=by
    simp only[inR,Bool.and_eq_true,decide_eq_true_eq] at h3;exact IntWalk.i64_in _ ⟨by omega,by omega⟩
  have e1:(x==91)=false:=(by simpa using h1);have e2:(x==79)=false:=(by simpa using h2);clear h1 h2 h3;go_enter Tryz.func158,Tryz.ntmps158;go_wp2_with fail;refine(HN.out _ ?_).mono ?_
  · simp[go_sem,hc,hb]
  rintro e w1 ⟨rfl,rfl⟩;go_wp2_with fail;refine(HP.out _).mono ?_;rintro e w1 ⟨rfl,rfl⟩;go_wp2_with fail;refine(YR _ _ _ _).mono ?_;rintro e w2 ⟨rfl,hb2⟩;obtain⟨hcc,hf⟩:=Qq hb2;have HE:Hid (QG w (QL x 2) 2 false false (.returned (Xx (QL x 2) (.slice none 0 0) 2 false false)) (sets w2 w.heap.size 0 (Zr (QL x 2) (.slice none 0 0) 2 false false))):=Xw (Zr (QL x 2) (.slice none 0 0) 2 false false) (QT _ _) hb2;clear hb2;unfold Xx QL;dsimp only;go_wp2_with fail;refine bodyPost_ret (v:=Xx (QL x 2) (.slice none 0 0) 2 false false) ?_ rfl HE.out;simp[results,Tryz.results158,Xx,QL,go_sem,hcc]
theorem Qbs (b off n c:Nat) (x:Int) (w:World) (hi:1<n) (hn:n≤1048576) (hb:b<w.heap.size) (hc:w.cell? ⟨b,off+1,none⟩=some (.int .u8 x)) (h1:¬x=91) (h2:¬x=79) (h3:inR x 32 126=false):
    Calls Tryz.prog 158 #[.slice (some ⟨b,off,none⟩) n c] w (QG w (QL 2000004 0) 1 false false):=by
  have HN:=Lib.hid (fun(w:World) hc=>XT b off n c 1 x w hi hn hc);have HP:=Lib.hid (fun w=>XX x w);rw[h3] at HP;have e1:(x==91)=false:=(by simpa using h1);have e2:(x==79)=false:=(by simpa using h2);clear h1 h2 h3;go_enter Tryz.func158,Tryz.ntmps158;go_wp2_with fail;refine(HN.out _ ?_).mono ?_
  · simp[go_sem,hc,hb]
  rintro e w1 ⟨rfl,rfl⟩;go_wp2_with fail;refine(HP.out _).mono ?_;rintro e w1 ⟨rfl,rfl⟩;go_wp2_with fail;refine(YR _ _ _ _).mono ?_;rintro e w2 ⟨rfl,hb2⟩;obtain⟨hcc,hf⟩:=Qq hb2;have HE:Hid (QG w (QL 2000004 0) 1 false false (.returned (Xx (QL 2000004 0) (.slice none 0 0) 1 false false)) (sets w2 w.heap.size 0 (Zr (QL 2000004 0) (.slice none 0 0) 1 false false))):=Xw (Zr (QL 2000004 0) (.slice none 0 0) 1 false false) (QT _ _) hb2;clear hb2;unfold Xx QL;dsimp only;go_wp2_with fail;refine bodyPost_ret (v:=Xx (QL 2000004 0) (.slice none 0 0) 1 false false) ?_ rfl HE.out;simp[results,Tryz.results158,Xx,QL,go_sem,hcc]
end Go.Proofs.YtbfickdgjgbfhaaGreatDoor
