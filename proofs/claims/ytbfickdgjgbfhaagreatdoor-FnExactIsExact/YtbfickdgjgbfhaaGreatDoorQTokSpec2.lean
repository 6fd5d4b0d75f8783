/- The model's tokens: l3Escaped. -/
import Derived.Test.YtbfickdgjgbfhaaGreatDoorQTokSpecHToTokSpecA
import Derived.Test.YtbfickdgjgbfhaaGreatDoorQFirstSpecToFirstSpec3
set_option linter.unusedVariables false
set_option maxRecDepth 100000
set_option maxHeartbeats 4000000
namespace Go.Proofs.YtbfickdgjgbfhaaGreatDoor
open Go.RowKit
theorem Qd6 (b off n c:Nat) (t:Tk) (w:World) (hi:1<n) (hn:n≤1048576) (hb:b<w.heap.size) (hc:w.cell? ⟨b,off+1,none⟩=some (.int .u8 91))
    (HG:Hid (∀w',Below w.heap.size w w'→Calls Tryz.prog 161 #[.slice (some ⟨b,off,none⟩) n c] w' (QM w' t))):
    Calls Tryz.prog 130 #[.slice (some ⟨b,off,none⟩) n c] w (QM w t):=by
  go_enter Tryz.func130,Tryz.ntmps130;go_wp2_with fail;refine(HG.out _ (Qb _ _)).mono ?_;rintro e w9 ⟨v,rfl,ho,hb9⟩;obtain⟨px,cx,hv⟩:=ho.slice;subst hv;have HE:Hid (QM w t (.returned (tkV t (.slice px t.ev.data.length cx))) (sets w9 w.heap.size 0 (tkL t (.slice px t.ev.data.length cx)))):=Xs (tkL t (.slice px t.ev.data.length cx)) ho hb9;obtain⟨hcc,hf⟩:=Qq hb9;clear ho hb9;unfold tkV;go_wp2_with fail;refine bodyPost_ret (v:=tkV t (.slice px t.ev.data.length cx)) ?_ rfl HE.out;simp[results,Tryz.results130,tkV,go_sem,hcc]
theorem Qe5 (b off n c:Nat) (w:World) (hi:n=2) (hb:b<w.heap.size) (hc:w.cell? ⟨b,off+1,none⟩=some (.int .u8 79)):
    Calls Tryz.prog 130 #[.slice (some ⟨b,off,none⟩) n c] w (Qm w (Qf 6)):=by
  subst hi;go_enter Tryz.func130,Tryz.ntmps130;go_wp2_with fail;refine(Q8 _ _).mono ?_;rintro e w9 ⟨rfl,hb9⟩;have HE:Hid (Qm w (Qf 6) (.returned (tkV (Qf 6) (.slice none 0 0))) (sets w9 w.heap.size 0 (tkL (Qf 6) (.slice none 0 0)))):=Qu (tkL (Qf 6) (.slice none 0 0)) hb9;obtain⟨hcc,hf⟩:=Qq hb9;clear hb9;unfold tkV Qf Xy;go_wp2_with fail;refine bodyPost_ret (v:=tkV (Qf 6) (.slice none 0 0)) ?_ rfl HE.out;simp[results,Tryz.results130,tkV,Qf,Xy,go_sem,hcc]
theorem Qd7 (b off n c:Nat) (x k:Int) (w:World) (hi:2<n) (hn:n≤1048576) (hb:b<w.heap.size) (hc:w.cell? ⟨b,off+1,none⟩=some (.int .u8 79)) (hc2:w.cell? ⟨b,off+2,none⟩=some (.int .u8 x)) (hk:QJ x=k) (h0:(k==0)=false):
    Calls Tryz.prog 130 #[.slice (some ⟨b,off,none⟩) n c] w (Qm w (Qo k 0 3)):=by
  have HL:=Lib.hid (fun w=>Q3 x w);rw[hk] at HL;have h3:¬(n:Int)<3:=(by omega);have e0:(k != 0)=true:=(by rw[bne,h0];rfl);clear hk;go_enter Tryz.func130,Tryz.ntmps130;go_wp2_with fail;refine(HL.out _).mono ?_;rintro e w1 ⟨rfl,rfl⟩;go_wp2_with fail;refine(HL.out _).mono ?_;rintro e w1 ⟨rfl,rfl⟩;go_wp2_with fail;refine(XR _ _ _ _).mono ?_;rintro e w9 ⟨rfl,hb9⟩;have HE:Hid (Qm w (Qo k 0 3) (.returned (tkV (Qo k 0 3) (.slice none 0 0))) (sets w9 w.heap.size 0 (tkL (Qo k 0 3) (.slice none 0 0)))):=Qu (tkL (Qo k 0 3) (.slice none 0 0)) hb9;obtain⟨hcc,hf⟩:=Qq hb9;clear hb9;unfold tkV Qo QL;go_wp2_with fail;refine bodyPost_ret (v:=tkV (Qo k 0 3) (.slice none 0 0)) ?_ rfl HE.out;simp[results,Tryz.results130,tkV,Qo,QL,go_sem,hcc]
theorem QcB (b off n c:Nat) (x:Int) (t:Tk) (w:World) (hi:2<n) (hn:n≤1048576) (hnc:n≤c) (hb:b<w.heap.size) (hc:w.cell? ⟨b,off+1,none⟩=some (.int .u8 79)) (hc2:w.cell? ⟨b,off+2,none⟩=some (.int .u8 x)) (hk:QJ x=0)
    (HG:Hid (∀w',Below w.heap.size w w'→Calls Tryz.prog 132 #[.slice (some ⟨b,off,none⟩) 3 c] w' (QM w' t))):
    Calls Tryz.prog 130 #[.slice (some ⟨b,off,none⟩) n c] w (QM w t):=by
  have HL:=Lib.hid (fun w=>Q3 x w);rw[hk] at HL;have h3:¬(n:Int)<3:=(by omega);clear hk;go_enter Tryz.func130,Tryz.ntmps130;go_wp2_with fail;refine(HL.out _).mono ?_;rintro e w1 ⟨rfl,rfl⟩;go_wp2_with fail;refine(HG.out _ (Qb _ _)).mono ?_;rintro e w9 ⟨v,rfl,ho,hb9⟩;obtain⟨px,cx,hv⟩:=ho.slice;subst hv;have HE:Hid (QM w t (.returned (tkV t (.slice px t.ev.data.length cx))) (sets w9 w.heap.size 0 (tkL t (.slice px t.ev.data.length cx)))):=Xs (tkL t (.slice px t.ev.data.length cx)) ho hb9;obtain⟨hcc,hf⟩:=Qq hb9;clear ho hb9;unfold tkV;go_wp2_with fail;refine bodyPost_ret (v:=tkV t (.slice px t.ev.data.length cx)) ?_ rfl HE.out;simp[results,Tryz.results130,tkV,go_sem,hcc]
theorem QbH (b off n c:Nat) (x:Int) (w:World) (hi:1<n) (hn:n≤1048576) (hb:b<w.heap.size) (hc:w.cell? ⟨b,off+1,none⟩=some (.int .u8 x)) (h1:(x==91)=false) (h2:(x==79)=false) (h3:32≤x) (h4:x<127):
    Calls Tryz.prog 130 #[.slice (some ⟨b,off,none⟩) n c] w (Qm w (Qo x 2 2)):=by
  have hw:IntKind.i64.wrap x=x:=IntWalk.i64_in _ ⟨by omega,by omega⟩;go_enter Tryz.func130,Tryz.ntmps130;go_wp2_with fail;refine(XR _ _ _ _).mono ?_;rintro e w9 ⟨rfl,hb9⟩;have HE:Hid (Qm w (Qo x 2 2) (.returned (tkV (Qo x 2 2) (.slice none 0 0))) (sets w9 w.heap.size 0 (tkL (Qo x 2 2) (.slice none 0 0)))):=Qu (tkL (Qo x 2 2) (.slice none 0 0)) hb9;obtain⟨hcc,hf⟩:=Qq hb9;clear hb9;unfold tkV Qo QL;go_wp2_with fail;refine bodyPost_ret (v:=tkV (Qo x 2 2) (.slice none 0 0)) ?_ rfl HE.out;simp[results,Tryz.results130,tkV,Qo,QL,go_sem,hcc]
theorem Qd8 (b off n c:Nat) (x:Int) (w:World) (hi:1<n) (hn:n≤1048576) (hb:b<w.heap.size) (hc:w.cell? ⟨b,off+1,none⟩=some (.int .u8 x)) (h1:(x==91)=false) (h2:(x==79)=false) (h3:x<32∨(32≤x∧127≤x)):
    Calls Tryz.prog 130 #[.slice (some ⟨b,off,none⟩) n c] w (Qm w (Qo 2000004 0 1)):=by
  rcases h3 with h3 | ⟨h3,h4⟩;all_goals
    go_enter Tryz.func130,Tryz.ntmps130;go_wp2_with fail;refine(XR _ _ _ _).mono ?_;rintro e w9 ⟨rfl,hb9⟩;have HE:Hid (Qm w (Qo 2000004 0 1) (.returned (tkV (Qo 2000004 0 1) (.slice none 0 0))) (sets w9 w.heap.size 0 (tkL (Qo 2000004 0 1) (.slice none 0 0)))):=Qu (tkL (Qo 2000004 0 1) (.slice none 0 0)) hb9;obtain⟨hcc,hf⟩:=Qq hb9;clear hb9;unfold tkV Qo QL;go_wp2_with fail;refine bodyPost_ret (v:=tkV (Qo 2000004 0 1) (.slice none 0 0)) ?_ rfl HE.out;simp[results,Tryz.results130,tkV,Qo,QL,go_sem,hcc]
end Go.Proofs.YtbfickdgjgbfhaaGreatDoor
