/- The contract of the model's PartsBytes. -/
import Derived.Test.YtbfickdgjgbfhaaGreatDoorQShelfAIToL2Bytes
import Derived.Test.YtbfickdgjgbfhaaGreatDoorQPutToBytesRes
import Derived.Test.YtbfickdgjgbfhaaGreatDoorQPiecesInToPartsSpec
set_option maxRecDepth 100000
set_option maxHeartbeats 4000000
namespace Go.Proofs.YtbfickdgjgbfhaaGreatDoor
open Go.RowKit
def YQ (nums:List Int) (fin:UInt8):Int:=if Qam fin=false then 3 else if Ys nums=false then 3 else if 4<nums.length then 2 else 0
def Jp (priv:Bool) (nums:List Int) (fin:UInt8):List UInt8:=if Qam fin=false then [] else if Ys nums=false then [] else if 4<nums.length then [] else pb priv nums fin
theorem QcZ (l:List Int) (k:Nat) (h:k<l.length):Ys (l.take (k+1))=(Ys (l.take k)&&inR (l.getD k 0) 0 9999999):=by
  unfold Ys;rw[List.take_succ_eq_append_getElem h,List.all_append,List.getD_eq_getElem?_getD,List.getElem?_eq_getElem h];simp
theorem Qg6 (l:List Int) (k:Nat) (h:k<l.length) (hz:inR (l.getD k 0) 0 9999999=false):Ys l=false:=by
  rw[List.getD_eq_getElem?_getD,List.getElem?_eq_getElem h] at hz;simp only[Ys,List.all_eq_false];exact⟨_,List.getElem_mem h,by simpa using hz⟩
end Go.Proofs.YtbfickdgjgbfhaaGreatDoor
namespace Go.Proofs.YtbfickdgjgbfhaaGreatDoor
open Go.RowKit Go.Shelf
theorem ZB (B n:Nat) (i:Int) (h0:0≤i) (h1:i≤9999999) (sv:Value) (xs:List Value) (w:World) (hown:w.ownsRow B 5 1 sv n xs) (hBw:B≤w.heap.size) (hlim:n+21≤140737488355328)
    (htab:Lib.TabBelow Tryz.prog B w "internal/strconv.uint64pow10" .u64 Lib.pow10Tab):
    Calls Tryz.prog 191 #[sv,.int .i64 i,.int .i64 10] w fun e w'=>∃v',e=.returned v'∧w'.ownsRow B 5 1 v' (n+(Lib.decDigits i.toNat).length) (xs++(Lib.decDigits i.toNat).map (fun x:UInt8=>Value.int .u8 (x.toNat:Int)))∧Below B w w':=by
  have h:=Any.strconv_AppendInt_10 Tryz.laysAI B n i (by omega) (by omega) sv xs w hown hBw hlim htab;have e:Lib.itoa i=Lib.decDigits i.toNat:=(by unfold Lib.itoa;rw[if_neg (by omega)]);rw[e] at h;exact h.mono fun _ _ ⟨v',h1,h2,h3,_⟩=>⟨v',h1,h2,h3⟩
def Qkz (B:Nat) (W0:World) (priv:Bool) (nums:List Int) (v i:Value) (wr:World):Prop:=
  ∃k:Nat,k≤nums.length∧i=.int .i64 k∧Own wr (B+1) v (mark priv++jn (nums.take k))∧Below (B+1) W0 wr
theorem QeP {w wr w2:World} {B:Nat} {v v':Value} {l:List UInt8} {x:UInt8} {n:Nat} {o:Obj} {u:Int} (hu:u=(x.toNat:Int)) (ho:Own wr B v l) (hb:Below B w wr) (hn:n=l.length+1)
    (h:w2.ownsRow B 5 1 v' n (l.map (fun x:UInt8=>Value.int .u8 (x.toNat:Int))++[.int .u8 u])) (hg:(wr.alloc o).grownBy w2 v.ownBlock) (hB:B≤wr.heap.size:=by omega):Own w2 B v' (l++[x])∧Below B w w2:=by
  subst hu;subst hn;refine⟨by simpa [Own] using h,(hb.alloc hB o).grown hg (by simp;omega) fun j ej=>(ho.lt j ej).1⟩
theorem QkA {w wr w2:World} {B:Nat} {v':Value} {l q:List UInt8} (hb:Below B w wr)
    (h:w2.ownsRow B 5 1 v' (l.length+q.length) (l.map (fun x:UInt8=>Value.int .u8 (x.toNat:Int))++q.map (fun x:UInt8=>Value.int .u8 (x.toNat:Int)))) (hg:Below B wr w2):Own w2 B v' (l++q)∧Below B w w2:=
  ⟨by rw[Own,List.map_append,List.length_append];exact h,hb.trans hg⟩
def QlU (B:Nat) (W0:World) (nums:List Int) (i:Value) (wr:World):Prop:=
  ∃k:Nat,k≤nums.length∧i=.int .i64 k∧Ys (nums.take k)=true∧Below (B+1) W0 wr
theorem QdU {w w1:World} {o:Obj} {code:Int} {v u1 u2:Value} {l:List UInt8} (ho:Own w1 (w.heap.size+1) v l) (hb:Below (w.heap.size+1) (w.alloc o) w1):
    XP w code l (.returned (brV code v)) ((w1.setCell ⟨w.heap.size,0,none⟩ u1).setCell ⟨w.heap.size,1,none⟩ u2):=Qjz (o:=o) (by rw[World.size_alloc];exact ho) (by rw[World.size_alloc];exact hb)
theorem Z9 (v a b:Int) (w:World) (t:TypeId):
    Calls Tryz.prog 63 #[.int .i64 v,.slice (some ⟨w.heap.size,0,none⟩) 2 2] (w.alloc (.cells #[.int .i64 a,.int .i64 b] t)) fun e w'=>e=.returned (.bool (inR v a b))∧w.alloc (.cells #[.int .i64 a,.int .i64 b] t)=w':=Qv v a b w t _ rfl
theorem Kq (p:Option Addr) (c:Nat) (nums:List Int) (fin:UInt8) (w:World) (h:Is w w.heap.size p nums) (hl:nums.length≤1048576) (hT:Lib.TabIs Tryz.prog w "internal/strconv.uint64pow10" .u64 Lib.pow10Tab):
    Calls Tryz.prog 173 #[.bool false,.slice p nums.length c,.int .u8 (fin.toNat:Int)] w (XP w (YQ nums fin) (Jp false nums fin)):=by
  obtain⟨i0,hi,hz0,hz1,hz2⟩:=info_parts Tryz.info_u8;have H:=Lib.hid h;have HTI:=Lib.hid (Lib.tabBelow_of_tabIs hT);clear h hT
  cases hfn:Qam fin with
  | false=>
    have HP:Hid (YQ nums fin=3∧Jp false nums fin=[]):=(by simp[Hid,YQ,Jp,hfn]);go_enter Tryz.func173,Tryz.ntmps173;go_wp2_with (go_at_call 190;refine(Xu _ _).mono ?_;rintro e w' ⟨rfl,rfl⟩);rw[HP.out.1,HP.out.2];exact bodyPost_ret (v:=brV 3 (.slice none 0 0)) (by simp[results,Tryz.results173,brV,go_sem]) rfl ⟨_,rfl,QT _ _,Qb _ _⟩
  | true=>
  have HF:=Lib.hid hfn;go_enter Tryz.func173,Tryz.ntmps173;go_wp2_with (go_at_call 190;refine(Xu _ _).mono ?_;rintro e w' ⟨rfl,rfl⟩);clear hfn
  go_loopw [8,18] (fun _ i wr=>QlU w.heap.size (w.alloc (.cells #[.int .i64 0,.slice none 0 0] 100)) nums i wr) (fun _ i _=>nums.length - (intOf i).toNat)
  case atStart=>exact⟨0,by omega,rfl,rfl,Below.refl _ _⟩
  case round=>
    obtain⟨k,hk,rfl,ht,hb⟩:=hrel;have HT:=Lib.hid ht;have HB1:=Lib.hid hb;have hsz:w.heap.size<wr.heap.size:=(by have:=hb.size;simp at this;omega);have HCC:Hid (∀a:Addr,a.block<w.heap.size→wr.cell? a=w.cell? a):=fun a ha=>(HB1.out.cell (by omega)).trans (World.cell?_alloc_lt w _ a ha);have q0:wr.cell? ⟨w.heap.size,0,none⟩=some (.int .i64 0):=(HB1.out.cell (p:=⟨w.heap.size,0,none⟩) (by simp)).trans (by simp);have q1:wr.cell? ⟨w.heap.size,1,none⟩=some (.slice none 0 0):=(HB1.out.cell (p:=⟨w.heap.size,1,none⟩) (by simp)).trans (by simp);have f0:wr.frozen? ⟨w.heap.size,0,none⟩=false:=(HB1.out.frozen (p:=⟨w.heap.size,0,none⟩) (by simp)).trans (by simp);have f1:wr.frozen? ⟨w.heap.size,1,none⟩=false:=(HB1.out.frozen (p:=⟨w.heap.size,1,none⟩) (by simp)).trans (by simp);clear ht hb;by_cases hlt:k<nums.length
    · obtain⟨b,off,rfl,hbb,hc⟩:=H.out (by intro e;simp[e] at hlt);have hc0:=(HCC.out ⟨b,off+k,none⟩ hbb).trans (hc k hlt);have HN:=Lib.hid (QcZ nums k hlt);have HX:=Lib.hid (Qg6 nums k hlt);clear hc;generalize nums.getD k 0=x at *
      cases hx:inR x 0 9999999 with
      | true=>
        have HK:=Lib.hid hx;go_wp2_with (go_at_call 63;refine(Z9 _ _ _ _ _).mono ?_;rintro e w' ⟨rfl,rfl⟩);exact⟨⟨k+1,by omega,by go_num,by rw[HN.out,HT.out,HK.out];rfl,HB1.out.alloc (by omega) _⟩,by simp[intOf];omega⟩
      | false=>
        have HK:=Lib.hid hx;go_wp2_with (go_at_call 63;refine(Z9 _ _ _ _ _).mono ?_;rintro e w' ⟨rfl,rfl⟩);have hz:=HX.out HK.out;have hp:YQ nums fin=3∧Jp false nums fin=[]:=(by simp[YQ,Jp,hz]);rw[hp.1,hp.2];exact bodyPost_ret (v:=brV 3 (.slice none 0 0)) (by simp[results,Tryz.results173,brV,go_sem,q0,q1,hsz]) rfl ⟨_,rfl,QT _ _,((((Qb w _).trans (HB1.out.mono (by omega))).setCell (p:=⟨w.heap.size,0,none⟩) (Nat.le_refl _) _).setCell (p:=⟨w.heap.size,1,none⟩) (Nat.le_refl _) _).alloc (by simp;omega) _⟩
    · have hz:Ys nums=true:=(by have:=HT.out;rwa [List.take_of_length_le (by omega)] at this);have HZ:=Lib.hid hz;clear hz HT;by_cases h4:(4:Int)<(nums.length:Int)
      · have HP:Hid (YQ nums fin=2∧Jp false nums fin=[]):=by
          have h4':4<nums.length:=(by omega);simp[Hid,YQ,Jp,HF.out,HZ.out,h4']
        go_wp2_with fail;rw[HP.out.1,HP.out.2];exact bodyPost_ret (v:=brV 2 (.slice none 0 0)) (by simp[results,Tryz.results173,brV,go_sem,q0,q1]) rfl (QdU (QT _ _) HB1.out)
      have HP:Hid (YQ nums fin=0∧Jp false nums fin=pb false nums fin):=by
        have h4':¬4<nums.length:=(by omega);simp[Hid,YQ,Jp,HF.out,HZ.out,h4']
      have HTB:Hid (Lib.TabBelow Tryz.prog (w.heap.size+1) wr "internal/strconv.uint64pow10" .u64 Lib.pow10Tab):=fun w' hb=>HTI.out w' (((Qb w _).trans (HB1.out.mono (by omega))).trans (hb.mono (by omega)));have HQ:=Lib.hid (And.intro q0 (And.intro q1 (And.intro f0 f1)));obtain⟨W0,hW0⟩:∃W0,W0=wr:=⟨_,rfl⟩;subst hW0;clear q0 q1 f0 f1 hsz;have HW0:=HCC;go_wp2_with fail
      go_loopw [9,10,11,38] (fun v _ _ i wr=>Qkz w.heap.size W0 false nums v i wr) (fun _ _ _ i _=>nums.length - (intOf i).toNat)
      case atStart=>exact⟨0,by omega,rfl,QT _ _,Below.refl _ _⟩
      case round=>
        obtain⟨k,hk,rfl,ho,hb⟩:=hrel;have hjl:=QcY (nums.take k) (Kd HZ.out k);have hLl:(mark false++jn (nums.take k)).length≤50:=(by simp[mark] at hjl ⊢;omega);have HJT:=Lib.hid (fun h=>QdO nums k h);have HNX:Hid (∀(L:List UInt8) v' w',k<nums.length→L=mark false++jn (nums.take (k+1))→Own w' (w.heap.size+1) v' L→Below (w.heap.size+1) W0 w'→Qkz w.heap.size W0 false nums v' (.int .i64 ((k:Int)+1)) w'):=fun L v' w' h1 h2 h3 h4=>⟨k+1,by omega,by go_num,by rw[←h2];exact h3,h4⟩;generalize hL:mark false++jn (nums.take k)=L at *;have HL:=Lib.hid hL;have HO:=Lib.hid ho;have HB:=Lib.hid hb;have hszW:w.heap.size+1≤wr.heap.size:=(by have h1:=HB1.out.size;have h2:=HB.out.size;simp at h1;omega);clear hL ho hb hjl;by_cases hlt:k<nums.length
        · obtain⟨b,off,rfl,hbb,hc⟩:=H.out (by intro e;simp[e] at hlt);have hbb1:b<w.heap.size+1:=(by omega);obtain⟨n,hn,hn9⟩:∃n:Nat,nums.getD k 0=(n:Int)∧n≤9999999:=by
            have:=Qan HZ.out k hlt;exact⟨(nums.getD k 0).toNat,by omega,by omega⟩
          have HCK:Hid (W0.cell? ⟨b,off+k,none⟩=some (.int .i64 (n:Int))):=(by have:=hc k hlt;rw[hn] at this;exact(HW0.out ⟨b,off+k,none⟩ hbb).trans this);have hc0:wr.cell? ⟨b,off+k,none⟩=some (.int .i64 (n:Int)):=(HB.out.cell (p:=⟨b,off+k,none⟩) hbb1).trans HCK.out;have HN:=Lib.hid hn;have hdl:=Uh n (by omega);clear hc hn;by_cases hk0:k=0
          · subst hk0;rw[Nat.add_zero] at hc0;have HCUR:=Lib.hid (And.intro HO.out HB.out);go_wp2_with (go_at_call 191;refine(ZB _ _ (n:Int) (by omega) (by omega) _ _ _ HCUR.out.1 (by have:=HCUR.out.2.size;have h1:=HB1.out.size;simp at h1;omega) (by simp;omega) (HTB.out.on HCUR.out.2)).mono ?_;rintro e w3 ⟨v3,rfl,hown3,hgb3⟩);have hr:=QkA (q:=Lib.decDigits n) HCUR.out.2 hown3 hgb3;exact⟨HNX.out _ _ _ hlt (by rw[HJT.out hlt,←HL.out,HN.out];simp) hr.1 hr.2,by simp[intOf];omega⟩
          · have hkp:(0:Int)<(k:Int):=(by omega);go_wp2_with (first | (at_builtin;refine wpList_append_own _ rfl _ _ 22 rfl (w.heap.size+1) 5 i0 (.int .u8 0) 1 1 Tryz.underlying22 hi hz0 hz1 hz2 rfl (by decide) _ _ _ rfl (HO.out.alloc _) ⟨wr.heap.size,0,none⟩ 1 1 [.int .u8 59] rfl rfl (cell_one_new _ _ _) (by simp[Value.oneCell']) (by unfold maxLen;omega) (by omega) (by simp;omega) ?_;intro v1 wA hownA hgrowA _;have HCUR:=Lib.hid (QeP (x:=59) rfl HO.out HB.out rfl hownA hgrowA);have hcA:=(HCUR.out.2.cell (p:=⟨b,off+k,none⟩) hbb1).trans HCK.out) | (go_at_call 191;refine(ZB _ _ (n:Int) (by omega) (by omega) _ _ _ HCUR.out.1 (by have:=HCUR.out.2.size;have h1:=HB1.out.size;simp at h1;omega) (by simp;omega) (HTB.out.on HCUR.out.2)).mono ?_;rintro e w3 ⟨v3,rfl,hown3,hgb3⟩));have hr:=QkA (q:=Lib.decDigits n) HCUR.out.2 hown3 hgb3;exact⟨HNX.out _ _ _ hlt (by rw[HJT.out hlt,←HL.out,HN.out,if_neg hk0];simp) hr.1 hr.2,by simp[intOf];omega⟩
        · obtain rfl:k=nums.length:=(by omega);have HTT:=Lib.hid (show nums.take nums.length=nums from List.take_length);go_wp2_with (at_builtin;refine wpList_append_own _ rfl _ _ 22 rfl (w.heap.size+1) 5 i0 (.int .u8 0) 1 1 Tryz.underlying22 hi hz0 hz1 hz2 rfl (by decide) _ _ _ rfl (HO.out.alloc _) ⟨wr.heap.size,0,none⟩ 1 1 [.int .u8 (fin.toNat:Int)] rfl rfl (cell_one_new _ _ _) (by simp[Value.oneCell']) (by unfold maxLen;omega) (by omega) (by simp;omega) ?_;intro v1 wA hownA hgrowA _;have HCUR:=Lib.hid (QeP (x:=fin) rfl HO.out HB.out rfl hownA hgrowA);obtain⟨pp,cc,hv⟩:=HCUR.out.1.slice;rw[List.length_append,List.length_singleton] at hv;subst hv;have hq0:=(HCUR.out.2.cell (p:=⟨w.heap.size,0,none⟩) (by simp)).trans HQ.out.1;have hq1:=(HCUR.out.2.cell (p:=⟨w.heap.size,1,none⟩) (by simp)).trans HQ.out.2.1;have hf0:=(HCUR.out.2.frozen (p:=⟨w.heap.size,0,none⟩) (by simp)).trans HQ.out.2.2.1;have hf1:=(HCUR.out.2.frozen (p:=⟨w.heap.size,1,none⟩) (by simp)).trans HQ.out.2.2.2);rw[HP.out.1,HP.out.2];have hpb:pb false nums fin=L++[fin]:=(by rw[pb,←HL.out,HTT.out]);rw[hpb];exact bodyPost_ret (v:=brV 0 (.slice pp (L.length+1) cc)) (by simp[results,Tryz.results173,brV,go_sem,hq0,hq1]) rfl (QdU HCUR.out.1 (HB1.out.trans HCUR.out.2))
theorem KR (p:Option Addr) (c:Nat) (nums:List Int) (fin:UInt8) (w:World) (h:Is w w.heap.size p nums) (hl:nums.length≤1048576) (hT:Lib.TabIs Tryz.prog w "internal/strconv.uint64pow10" .u64 Lib.pow10Tab):
    Calls Tryz.prog 173 #[.bool true,.slice p nums.length c,.int .u8 (fin.toNat:Int)] w (XP w (YQ nums fin) (Jp true nums fin)):=by
  obtain⟨i0,hi,hz0,hz1,hz2⟩:=info_parts Tryz.info_u8;have H:=Lib.hid h;have HTI:=Lib.hid (Lib.tabBelow_of_tabIs hT);clear h hT
  cases hfn:Qam fin with
  | false=>
    have HP:Hid (YQ nums fin=3∧Jp true nums fin=[]):=(by simp[Hid,YQ,Jp,hfn]);go_enter Tryz.func173,Tryz.ntmps173;go_wp2_with (go_at_call 190;refine(Xu _ _).mono ?_;rintro e w' ⟨rfl,rfl⟩);rw[HP.out.1,HP.out.2];exact bodyPost_ret (v:=brV 3 (.slice none 0 0)) (by simp[results,Tryz.results173,brV,go_sem]) rfl ⟨_,rfl,QT _ _,Qb _ _⟩
  | true=>
  have HF:=Lib.hid hfn;go_enter Tryz.func173,Tryz.ntmps173;go_wp2_with (go_at_call 190;refine(Xu _ _).mono ?_;rintro e w' ⟨rfl,rfl⟩);clear hfn
  go_loopw [8,18] (fun _ i wr=>QlU w.heap.size (w.alloc (.cells #[.int .i64 0,.slice none 0 0] 100)) nums i wr) (fun _ i _=>nums.length - (intOf i).toNat)
  case atStart=>exact⟨0,by omega,rfl,rfl,Below.refl _ _⟩
  case round=>
    obtain⟨k,hk,rfl,ht,hb⟩:=hrel;have HT:=Lib.hid ht;have HB1:=Lib.hid hb;have hsz:w.heap.size<wr.heap.size:=(by have:=hb.size;simp at this;omega);have HCC:Hid (∀a:Addr,a.block<w.heap.size→wr.cell? a=w.cell? a):=fun a ha=>(HB1.out.cell (by omega)).trans (World.cell?_alloc_lt w _ a ha);have q0:wr.cell? ⟨w.heap.size,0,none⟩=some (.int .i64 0):=(HB1.out.cell (p:=⟨w.heap.size,0,none⟩) (by simp)).trans (by simp);have q1:wr.cell? ⟨w.heap.size,1,none⟩=some (.slice none 0 0):=(HB1.out.cell (p:=⟨w.heap.size,1,none⟩) (by simp)).trans (by simp);have f0:wr.frozen? ⟨w.heap.size,0,none⟩=false:=(HB1.out.frozen (p:=⟨w.heap.size,0,none⟩) (by simp)).trans (by simp);have f1:wr.frozen? ⟨w.heap.size,1,none⟩=false:=(HB1.out.frozen (p:=⟨w.heap.size,1,none⟩) (by simp)).trans (by simp);clear ht hb;by_cases hlt:k<nums.length
    · obtain⟨b,off,rfl,hbb,hc⟩:=H.out (by intro e;simp[e] at hlt);have hc0:=(HCC.out ⟨b,off+k,none⟩ hbb).trans (hc k hlt);have HN:=Lib.hid (QcZ nums k hlt);have HX:=Lib.hid (Qg6 nums k hlt);clear hc;generalize nums.getD k 0=x at *
      cases hx:inR x 0 9999999 with
      | true=>
        have HK:=Lib.hid hx;go_wp2_with (go_at_call 63;refine(Z9 _ _ _ _ _).mono ?_;rintro e w' ⟨rfl,rfl⟩);exact⟨⟨k+1,by omega,by go_num,by rw[HN.out,HT.out,HK.out];rfl,HB1.out.alloc (by omega) _⟩,by simp[intOf];omega⟩
      | false=>
        have HK:=Lib.hid hx;go_wp2_with (go_at_call 63;refine(Z9 _ _ _ _ _).mono ?_;rintro e w' ⟨rfl,rfl⟩);have hz:=HX.out HK.out;have hp:YQ nums fin=3∧Jp true nums fin=[]:=(by simp[YQ,Jp,hz]);rw[hp.1,hp.2];exact bodyPost_ret (v:=brV 3 (.slice none 0 0)) (by simp[results,Tryz.results173,brV,go_sem,q0,q1,hsz]) rfl ⟨_,rfl,QT _ _,((((Qb w _).trans (HB1.out.mono (by omega))).setCell (p:=⟨w.heap.size,0,none⟩) (Nat.le_refl _) _).setCell (p:=⟨w.heap.size,1,none⟩) (Nat.le_refl _) _).alloc (by simp;omega) _⟩
    · have hz:Ys nums=true:=(by have:=HT.out;rwa [List.take_of_length_le (by omega)] at this);have HZ:=Lib.hid hz;clear hz HT;by_cases h4:(4:Int)<(nums.length:Int)
      · have HP:Hid (YQ nums fin=2∧Jp true nums fin=[]):=by
          have h4':4<nums.length:=(by omega);simp[Hid,YQ,Jp,HF.out,HZ.out,h4']
        go_wp2_with fail;rw[HP.out.1,HP.out.2];exact bodyPost_ret (v:=brV 2 (.slice none 0 0)) (by simp[results,Tryz.results173,brV,go_sem,q0,q1]) rfl (QdU (QT _ _) HB1.out)
      have HP:Hid (YQ nums fin=0∧Jp true nums fin=pb true nums fin):=by
        have h4':¬4<nums.length:=(by omega);simp[Hid,YQ,Jp,HF.out,HZ.out,h4']
      have HTB:Hid (Lib.TabBelow Tryz.prog (w.heap.size+1) wr "internal/strconv.uint64pow10" .u64 Lib.pow10Tab):=fun w' hb=>HTI.out w' (((Qb w _).trans (HB1.out.mono (by omega))).trans (hb.mono (by omega)));have HQ:=Lib.hid (And.intro q0 (And.intro q1 (And.intro f0 f1)));obtain⟨W0,hW0⟩:∃W0,W0=wr:=⟨_,rfl⟩;subst hW0;clear q0 q1 f0 f1 hsz;have HW0:=HCC;have HO:=Lib.hid (QT W0 (w.heap.size+1));have HB:=Lib.hid (Below.refl (w.heap.size+1) W0);have hszB:w.heap.size+1≤W0.heap.size:=(by have:=HB1.out.size;simp at this;exact this);go_wp2_with (at_builtin;refine wpList_append_own _ rfl _ _ 22 rfl (w.heap.size+1) 5 i0 (.int .u8 0) 1 1 Tryz.underlying22 hi hz0 hz1 hz2 rfl (by decide) _ _ _ rfl (HO.out.alloc _) ⟨W0.heap.size,0,none⟩ 1 1 [.int .u8 60] rfl rfl (cell_one_new _ _ _) (by simp[Value.oneCell']) (by unfold maxLen;simp) (by simp) (by simp;omega) ?_;intro v1 wA hownA hgrowA _;have HCUR:=Lib.hid (QeP (x:=60) rfl HO.out HB.out rfl hownA hgrowA))
      go_loopw [9,10,11,38] (fun v _ _ i wr=>Qkz w.heap.size W0 true nums v i wr) (fun _ _ _ i _=>nums.length - (intOf i).toNat)
      case atStart=>exact⟨0,by omega,rfl,HCUR.out.1,HCUR.out.2⟩
      case round=>
        clear HO HB HCUR;obtain⟨k,hk,rfl,ho,hb⟩:=hrel;have hjl:=QcY (nums.take k) (Kd HZ.out k);have hLl:(mark true++jn (nums.take k)).length≤50:=(by simp[mark] at hjl ⊢;omega);have HJT:=Lib.hid (fun h=>QdO nums k h);have HNX:Hid (∀(L:List UInt8) v' w',k<nums.length→L=mark true++jn (nums.take (k+1))→Own w' (w.heap.size+1) v' L→Below (w.heap.size+1) W0 w'→Qkz w.heap.size W0 true nums v' (.int .i64 ((k:Int)+1)) w'):=fun L v' w' h1 h2 h3 h4=>⟨k+1,by omega,by go_num,by rw[←h2];exact h3,h4⟩;generalize hL:mark true++jn (nums.take k)=L at *;have HL:=Lib.hid hL;have HO:=Lib.hid ho;have HB:=Lib.hid hb;have hszW:w.heap.size+1≤wr.heap.size:=(by have h1:=HB1.out.size;have h2:=HB.out.size;simp at h1;omega);clear hL ho hb hjl;by_cases hlt:k<nums.length
        · obtain⟨b,off,rfl,hbb,hc⟩:=H.out (by intro e;simp[e] at hlt);have hbb1:b<w.heap.size+1:=(by omega);obtain⟨n,hn,hn9⟩:∃n:Nat,nums.getD k 0=(n:Int)∧n≤9999999:=by
            have:=Qan HZ.out k hlt;exact⟨(nums.getD k 0).toNat,by omega,by omega⟩
          have HCK:Hid (W0.cell? ⟨b,off+k,none⟩=some (.int .i64 (n:Int))):=(by have:=hc k hlt;rw[hn] at this;exact(HW0.out ⟨b,off+k,none⟩ hbb).trans this);have hc0:wr.cell? ⟨b,off+k,none⟩=some (.int .i64 (n:Int)):=(HB.out.cell (p:=⟨b,off+k,none⟩) hbb1).trans HCK.out;have HN:=Lib.hid hn;have hdl:=Uh n (by omega);clear hc hn;by_cases hk0:k=0
          · subst hk0;rw[Nat.add_zero] at hc0;have HCUR:=Lib.hid (And.intro HO.out HB.out);go_wp2_with (go_at_call 191;refine(ZB _ _ (n:Int) (by omega) (by omega) _ _ _ HCUR.out.1 (by have:=HCUR.out.2.size;have h1:=HB1.out.size;simp at h1;omega) (by simp;omega) (HTB.out.on HCUR.out.2)).mono ?_;rintro e w3 ⟨v3,rfl,hown3,hgb3⟩);have hr:=QkA (q:=Lib.decDigits n) HCUR.out.2 hown3 hgb3;exact⟨HNX.out _ _ _ hlt (by rw[HJT.out hlt,←HL.out,HN.out];simp) hr.1 hr.2,by simp[intOf];omega⟩
          · have hkp:(0:Int)<(k:Int):=(by omega);go_wp2_with (first | (at_builtin;refine wpList_append_own _ rfl _ _ 22 rfl (w.heap.size+1) 5 i0 (.int .u8 0) 1 1 Tryz.underlying22 hi hz0 hz1 hz2 rfl (by decide) _ _ _ rfl (HO.out.alloc _) ⟨wr.heap.size,0,none⟩ 1 1 [.int .u8 59] rfl rfl (cell_one_new _ _ _) (by simp[Value.oneCell']) (by unfold maxLen;omega) (by omega) (by simp;omega) ?_;intro v1 wA hownA hgrowA _;have HCUR:=Lib.hid (QeP (x:=59) rfl HO.out HB.out rfl hownA hgrowA);have hcA:=(HCUR.out.2.cell (p:=⟨b,off+k,none⟩) hbb1).trans HCK.out) | (go_at_call 191;refine(ZB _ _ (n:Int) (by omega) (by omega) _ _ _ HCUR.out.1 (by have:=HCUR.out.2.size;have h1:=HB1.out.size;simp at h1;omega) (by simp;omega) (HTB.out.on HCUR.out.2)).mono ?_;rintro e w3 ⟨v3,rfl,hown3,hgb3⟩));have hr:=QkA (q:=Lib.decDigits n) HCUR.out.2 hown3 hgb3;exact⟨HNX.out _ _ _ hlt (by rw[HJT.out hlt,←HL.out,HN.out,if_neg hk0];simp) hr.1 hr.2,by simp[intOf];omega⟩
        · obtain rfl:k=nums.length:=(by omega);have HTT:=Lib.hid (show nums.take nums.length=nums from List.take_length);go_wp2_with (at_builtin;refine wpList_append_own _ rfl _ _ 22 rfl (w.heap.size+1) 5 i0 (.int .u8 0) 1 1 Tryz.underlying22 hi hz0 hz1 hz2 rfl (by decide) _ _ _ rfl (HO.out.alloc _) ⟨wr.heap.size,0,none⟩ 1 1 [.int .u8 (fin.toNat:Int)] rfl rfl (cell_one_new _ _ _) (by simp[Value.oneCell']) (by unfold maxLen;omega) (by omega) (by simp;omega) ?_;intro v1 wA hownA hgrowA _;have HCUR:=Lib.hid (QeP (x:=fin) rfl HO.out HB.out rfl hownA hgrowA);obtain⟨pp,cc,hv⟩:=HCUR.out.1.slice;rw[List.length_append,List.length_singleton] at hv;subst hv;have hq0:=(HCUR.out.2.cell (p:=⟨w.heap.size,0,none⟩) (by simp)).trans HQ.out.1;have hq1:=(HCUR.out.2.cell (p:=⟨w.heap.size,1,none⟩) (by simp)).trans HQ.out.2.1;have hf0:=(HCUR.out.2.frozen (p:=⟨w.heap.size,0,none⟩) (by simp)).trans HQ.out.2.2.1;have hf1:=(HCUR.out.2.frozen (p:=⟨w.heap.size,1,none⟩) (by simp)).trans HQ.out.2.2.2);rw[HP.out.1,HP.out.2];have hpb:pb true nums fin=L++[fin]:=(by rw[pb,←HL.out,HTT.out]);rw[hpb];exact bodyPost_ret (v:=brV 0 (.slice pp (L.length+1) cc)) (by simp[results,Tryz.results173,brV,go_sem,hq0,hq1]) rfl (QdU HCUR.out.1 (HB1.out.trans HCUR.out.2))
end Go.Proofs.YtbfickdgjgbfhaaGreatDoor
