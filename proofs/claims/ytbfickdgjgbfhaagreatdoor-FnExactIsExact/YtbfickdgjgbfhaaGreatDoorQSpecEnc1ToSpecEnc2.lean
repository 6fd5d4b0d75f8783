/- The model's encoder: its leaves. -/
import Derived.Test.YtbfickdgjgbfhaaGreatDoorQEncImplToEncImpl4
import Derived.Test.YtbfickdgjgbfhaaGreatDoorQSpecKey
import Derived.Test.YtbfickdgjgbfhaaGreatDoorQFaultToFirstFull
import Derived.Test.YtbfickdgjgbfhaaGreatDoorQForm
import Derived.Test.YtbfickdgjgbfhaaGreatDoorQJoinsToPend
set_option linter.unusedVariables false
set_option linter.unusedSimpArgs false
set_option maxRecDepth 100000
set_option maxHeartbeats 2000000
namespace Go.Proofs.YtbfickdgjgbfhaaGreatDoor
open Go.RowKit
theorem AtL.eightS {w:World} {b:Nat} {v0 v1 v2 v3 v4 v5 v6 v7:Value} (h:AtL w b [v0,v1,v2,v3,v4,v5,v6,v7]):w.cell? ⟨b,0,none⟩=some v0∧w.cell? ⟨b,1,none⟩=some v1∧w.cell? ⟨b,2,none⟩=some v2∧w.cell? ⟨b,3,none⟩=some v3∧w.cell? ⟨b,4,none⟩=some v4∧w.cell? ⟨b,5,none⟩=some v5∧w.cell? ⟨b,6,none⟩=some v6∧w.cell? ⟨b,7,none⟩=some v7:=
  ⟨h.get 0 rfl,h.get 1 rfl,h.get 2 rfl,h.get 3 rfl,h.get 4 rfl,h.get 5 rfl,h.get 6 rfl,h.get 7 rfl⟩
def ZE (c:Int) (k:Nat):Prop:=(1≤k→c≠2000005)∧(2≤k→c≠2000006)∧(3≤k→c≠2000007)∧(4≤k→c≠2000008)∧(5≤k→c≠2000009)∧(6≤k→c≠2000010)
theorem YS (c:Int) (w:World):Calls Tryz.prog 174 #[.int .i64 c] w fun e w'=>e=.returned (.int .u8 (Xb c))∧w=w':=by
  go_enter Tryz.func174,Tryz.ntmps174;go_wp2_with fail
  go_loopw [4] (fun i wr=>∃k:Nat,k≤6∧i=.int .i64 k∧wr=w∧ZE c k) (fun i _=>6 - (intOf i).toNat)
  case atStart=>exact⟨0,by omega,rfl,rfl,by simp[ZE]⟩
  case round=>
    obtain⟨k,hk,rfl,rfl,hn⟩:=hrel;have hk6:k=0∨k=1∨k=2∨k=3∨k=4∨k=5∨k=6:=(by omega);rcases hk6 with rfl | rfl | rfl | rfl | rfl | rfl | rfl
    · have HN:=Lib.hid hn;clear hn;by_cases hc:(2000005:Int)=c
      · subst hc;go_wp2_with fail;refine(Q3 65 _).mono ?_;rintro e w1 ⟨rfl,rfl⟩;rw[show QJ 65=2000005 from rfl];go_wp2_with fail;go_ret;exact⟨rfl,rfl⟩
      · go_wp2_with fail;refine(Q3 65 _).mono ?_;rintro e w1 ⟨rfl,rfl⟩;rw[show QJ 65=2000005 from rfl];go_wp2_with fail;exact⟨⟨1,by omega,by go_num,(by first | rfl | trivial),by have:=HN.out;unfold ZE at this ⊢;omega⟩,by simp[intOf]⟩
    · have HN:=Lib.hid hn;clear hn;by_cases hc:(2000006:Int)=c
      · subst hc;go_wp2_with fail;refine(Q3 66 _).mono ?_;rintro e w1 ⟨rfl,rfl⟩;rw[show QJ 66=2000006 from rfl];go_wp2_with fail;go_ret;exact⟨rfl,rfl⟩
      · go_wp2_with fail;refine(Q3 66 _).mono ?_;rintro e w1 ⟨rfl,rfl⟩;rw[show QJ 66=2000006 from rfl];go_wp2_with fail;exact⟨⟨2,by omega,by go_num,(by first | rfl | trivial),by have:=HN.out;unfold ZE at this ⊢;omega⟩,by simp[intOf]⟩
    · have HN:=Lib.hid hn;clear hn;by_cases hc:(2000007:Int)=c
      · subst hc;go_wp2_with fail;refine(Q3 67 _).mono ?_;rintro e w1 ⟨rfl,rfl⟩;rw[show QJ 67=2000007 from rfl];go_wp2_with fail;go_ret;exact⟨rfl,rfl⟩
      · go_wp2_with fail;refine(Q3 67 _).mono ?_;rintro e w1 ⟨rfl,rfl⟩;rw[show QJ 67=2000007 from rfl];go_wp2_with fail;exact⟨⟨3,by omega,by go_num,(by first | rfl | trivial),by have:=HN.out;unfold ZE at this ⊢;omega⟩,by simp[intOf]⟩
    · have HN:=Lib.hid hn;clear hn;by_cases hc:(2000008:Int)=c
      · subst hc;go_wp2_with fail;refine(Q3 68 _).mono ?_;rintro e w1 ⟨rfl,rfl⟩;rw[show QJ 68=2000008 from rfl];go_wp2_with fail;go_ret;exact⟨rfl,rfl⟩
      · go_wp2_with fail;refine(Q3 68 _).mono ?_;rintro e w1 ⟨rfl,rfl⟩;rw[show QJ 68=2000008 from rfl];go_wp2_with fail;exact⟨⟨4,by omega,by go_num,(by first | rfl | trivial),by have:=HN.out;unfold ZE at this ⊢;omega⟩,by simp[intOf]⟩
    · have HN:=Lib.hid hn;clear hn;by_cases hc:(2000009:Int)=c
      · subst hc;go_wp2_with fail;refine(Q3 72 _).mono ?_;rintro e w1 ⟨rfl,rfl⟩;rw[show QJ 72=2000009 from rfl];go_wp2_with fail;go_ret;exact⟨rfl,rfl⟩
      · go_wp2_with fail;refine(Q3 72 _).mono ?_;rintro e w1 ⟨rfl,rfl⟩;rw[show QJ 72=2000009 from rfl];go_wp2_with fail;exact⟨⟨5,by omega,by go_num,(by first | rfl | trivial),by have:=HN.out;unfold ZE at this ⊢;omega⟩,by simp[intOf]⟩
    · have HN:=Lib.hid hn;clear hn;by_cases hc:(2000010:Int)=c
      · subst hc;go_wp2_with fail;refine(Q3 70 _).mono ?_;rintro e w1 ⟨rfl,rfl⟩;rw[show QJ 70=2000010 from rfl];go_wp2_with fail;go_ret;exact⟨rfl,rfl⟩
      · go_wp2_with fail;refine(Q3 70 _).mono ?_;rintro e w1 ⟨rfl,rfl⟩;rw[show QJ 70=2000010 from rfl];go_wp2_with fail;exact⟨⟨6,by omega,by go_num,(by first | rfl | trivial),by have:=HN.out;unfold ZE at this ⊢;omega⟩,by simp[intOf]⟩
    · have hz:Xb c=0:=by
        unfold ZE at hn;unfold Xb;rw[if_neg (by omega),if_neg (by omega),if_neg (by omega),if_neg (by omega),if_neg (by omega),if_neg (by omega)]
      have HZ:=Lib.hid hz;clear hn hz;go_wp2_with fail;go_ret;rw[HZ.out];exact⟨rfl,rfl⟩
def Va (c:Int) (k:Nat):Prop:=(1≤k→c≠2000011)∧(2≤k→c≠2000012)∧(3≤k→c≠2000013)∧(4≤k→c≠2000014)
theorem Xn (c:Int) (w:World):Calls Tryz.prog 194 #[.int .i64 c] w fun e w'=>e=.returned (.int .i64 (QR c))∧w=w':=by
  unfold QR;repeat' split
  all_goals
    go_enter Tryz.func194,Tryz.ntmps194;go_wp2;go_ret;exact⟨rfl,rfl⟩
theorem Qfk (md:Md) (b:Nat) (a:Int) (w:World) (h:AtL w b (mdL md)):Calls Tryz.prog 154 #[.pointer (some ⟨b,0,none⟩),.int .i64 a] w fun e w'=>e=.returned (.bool (KP md.mouse a))∧w=w':=by
  obtain⟨cu,co,mo,sg,pa⟩:=md;obtain⟨m0,m1,m2,m3,m4⟩:=AtL.five h;dsimp only at *;clear h;by_cases h1:mo=1
  · subst h1;go_enter Tryz.func154,Tryz.ntmps154;go_wp2;go_ret;exact⟨Qi (by simp[KP]),rfl⟩
  by_cases h2:mo=2
  · subst h2;go_enter Tryz.func154,Tryz.ntmps154;go_wp2;go_ret;exact⟨Qi (by simp[KP]),rfl⟩
  · have HC:Hid (KP mo a=(mo==3)):=(by simp[Hid,KP,h1,h2]);rw[HC.out];go_enter Tryz.func154,Tryz.ntmps154;go_wp2;go_ret;exact⟨Qi (by simp),rfl⟩
theorem Vb (md:Md) (e:Ev) (p:Option Addr) (c:Nat) (b g:Nat) (k:Int) (w:World) (h:AtL w b (mdL md)) (hE:AtL w g (evC e p c).toList):
    Calls Tryz.prog 114 #[.pointer (some ⟨b,0,none⟩),.pointer (some ⟨g,0,none⟩),.int .i64 k] w fun en w'=>en=.returned (.int .i64 (QdQ md e k))∧Below w.heap.size w w':=by
  have HM:=Lib.hid (fun W=>Vu md W);have HF:=Lib.hid (fun W=>Z0 YF e p c W);have HEE:=Lib.hid hE;obtain⟨m0,m1,m2,m3,m4⟩:=AtL.five h;clear h hE;unfold QdQ;by_cases hm:md.fault=0
  · rw[if_neg (by simp[hm])];rw[hm] at HM;by_cases hf:e.fault=0
    · rw[if_neg (by simp[hf])];rw[hf] at HF;by_cases hk:e.kind=k
      · rw[if_neg (by simp[hk])];obtain⟨cu,co,mo,sg,pa⟩:=md;obtain⟨kind,code,mods,button,act,col,row,data⟩:=e;unfold mdV evV evC at *;dsimp only at *;clear hm hf;subst hk;go_enter Tryz.func114,Tryz.ntmps114;go_wp2_with fail;refine(HM.out _).mono ?_;rintro en w1 ⟨rfl,hb⟩;have HB:=Lib.hid hb;have HE2:=Lib.hid (HEE.out.on hb);clear hb m0 m1 m2 m3 m4;obtain⟨z0,z1,z2,z3,z4,z5,z6,z7⟩:=AtL.eightS HE2.out;go_wp2_with fail;refine(HF.out _).mono ?_;rintro en w2 ⟨rfl,hb⟩;have HB2:=Lib.hid (Qa HB.out hb);have HE3:=Lib.hid (HE2.out.on hb);clear hb z0 z1 z2 z3 z4 z5 z6 z7;obtain⟨z0,z1,z2,z3,z4,z5,z6,z7⟩:=AtL.eightS HE3.out;go_wp2_with fail;go_ret;exact⟨rfl,HB2.out⟩
      · rw[if_pos hk];obtain⟨cu,co,mo,sg,pa⟩:=md;obtain⟨kind,code,mods,button,act,col,row,data⟩:=e;unfold mdV evV evC at *;dsimp only at *;clear hm hf;go_enter Tryz.func114,Tryz.ntmps114;go_wp2_with fail;refine(HM.out _).mono ?_;rintro en w1 ⟨rfl,hb⟩;have HB:=Lib.hid hb;have HE2:=Lib.hid (HEE.out.on hb);clear hb m0 m1 m2 m3 m4;obtain⟨z0,z1,z2,z3,z4,z5,z6,z7⟩:=AtL.eightS HE2.out;go_wp2_with fail;refine(HF.out _).mono ?_;rintro en w2 ⟨rfl,hb⟩;have HB2:=Lib.hid (Qa HB.out hb);have HE3:=Lib.hid (HE2.out.on hb);clear hb z0 z1 z2 z3 z4 z5 z6 z7;obtain⟨z0,z1,z2,z3,z4,z5,z6,z7⟩:=AtL.eightS HE3.out;go_wp2_with fail;go_ret;exact⟨rfl,HB2.out⟩
    · rw[if_pos hf];generalize e.fault=kf at *;obtain⟨cu,co,mo,sg,pa⟩:=md;obtain⟨kind,code,mods,button,act,col,row,data⟩:=e;unfold mdV evV evC at *;dsimp only at *;clear hm;go_enter Tryz.func114,Tryz.ntmps114;go_wp2_with fail;refine(HM.out _).mono ?_;rintro en w1 ⟨rfl,hb⟩;have HB:=Lib.hid hb;have HE2:=Lib.hid (HEE.out.on hb);clear hb m0 m1 m2 m3 m4;obtain⟨z0,z1,z2,z3,z4,z5,z6,z7⟩:=AtL.eightS HE2.out;go_wp2_with fail;refine(HF.out _).mono ?_;rintro en w2 ⟨rfl,hb⟩;have HB2:=Lib.hid (Qa HB.out hb);clear hb z0 z1 z2 z3 z4 z5 z6 z7;go_wp2_with fail;go_ret;exact⟨rfl,HB2.out⟩
  · rw[if_pos hm];generalize md.fault=km at *;obtain⟨cu,co,mo,sg,pa⟩:=md;unfold mdV evV evC at *;dsimp only at *;go_enter Tryz.func114,Tryz.ntmps114;go_wp2_with fail;refine(HM.out _).mono ?_;rintro en w1 ⟨rfl,hb⟩;have HB:=Lib.hid hb;clear hb m0 m1 m2 m3 m4;go_wp2_with fail;go_ret;exact⟨rfl,HB.out⟩
theorem Qhg (c:Int):Ye c≠[]:=by
  intro h;have h1:=Xv c;have h2:=Yi (p:=c);rw[h] at h2;simp only[List.length_nil] at h2;omega
theorem Qee (priv:Bool) (nums:List Int) (fin:UInt8) (hin:Ys nums=true) (h4:nums.length≤4):(pb priv nums fin).length≤40:=by
  have h1:=QcY nums hin;have h2:(mark priv).length≤1:=(by unfold mark;split <;> simp);unfold pb;simp only[List.length_append,List.length_cons,List.length_nil];omega
theorem Qfl (p:Option Addr) (c:Nat) (nums:List Int) (fin:UInt8) (w:World) (h:Is w w.heap.size p nums) (hin:Ys nums=true) (h4:nums.length≤4):
    Calls Tryz.prog 175 #[.slice p nums.length c,.int .u8 (fin.toNat:Int)] w (Ql w (Zq false nums fin)):=by
  obtain⟨i0,hi,hz0,hz1,hz2⟩:=info_parts Tryz.info_u8;have HI:=Lib.hid (And.intro hi (And.intro hz0 (And.intro hz1 hz2)));clear hi hz0 hz1 hz2;have HP:=Lib.hid (fun A=>Jw false p c nums fin (w.alloc A) (h.alloc A) hin h4);have HL:=Lib.hid (Qee false nums fin hin h4);have hne:pb false nums fin≠[]:=(by unfold pb;simp);have HO:=Lib.hid (Xz w [27,91] #[.int .u8 27,.int .u8 91] w.heap.size 2 rfl rfl rfl (by simp));clear h hin h4;unfold Zq;generalize pb false nums fin=l at *;go_enter Tryz.func175,Tryz.ntmps175;go_wp2_with fail;refine(HP.out _).mono ?_;rintro e w1 ⟨v,rfl,ho,hb⟩;obtain⟨g1,cap1,hv,hlc⟩:=Xp ho hne;subst hv;have HO1:=Lib.hid (HO.out.on hb);have HB1:=Lib.hid (Qa (Qb w _) hb);have HS1:=Lib.hid ho.bs.2;have hlen:=HL.out;clear ho hb HP HO;go_wp2_with (at_builtin;refine wpList_append_own _ rfl _ _ 22 rfl w.heap.size 5 i0 (.int .u8 0) 1 1 Tryz.underlying22 HI.out.1 HI.out.2.1 HI.out.2.2.1 HI.out.2.2.2 rfl (by decide) _ _ _ rfl HO1.out ⟨g1,0,none⟩ l.length cap1 (l.map (fun x:UInt8=>Value.int .u8 (x.toNat:Int))) rfl (by simp) (XG HS1.out) (Q6 _) (by unfold maxLen;simp;omega) (by simp;omega) HB1.out.size ?_;intro v4 wA hownA hgrowA _);have HA:=Lib.hid (ZD HO1.out HB1.out hownA hgrowA);clear hownA hgrowA;go_ret;exact⟨_,rfl,HA.out.1,HA.out.2⟩
theorem Xr (cs:Array Value) (nums:List Int) (n:Int) (k:Nat) (w:World) (t:TypeId) (g:Nat) (hg:g=w.heap.size) (hcs:cs=(nums.map (Value.int .i64)).toArray) (hk:k=nums.length) (hin:Ys nums=true) (h4:nums.length≤4) (h0:0≤n) (h1:n≤255):
    Calls Tryz.prog 175 #[.slice (some ⟨g,0,none⟩) k k,.int .u8 n] (w.alloc (.cells cs t)) (Ql (w.alloc (.cells cs t)) (Zq false nums (Qt n))):=by
  have:=Qfl (some ⟨g,0,none⟩) k nums (Qt n) _ (Qdi w nums cs hcs t g hg) hin h4;rw[QV h0 h1] at this;rw[←hk] at this;exact this
theorem Vc (c:Int) (w:World):Calls Tryz.prog 176 #[.int .i64 c] w fun e w'=>e=.returned (.int .i64 (X8 c))∧Below w.heap.size w w':=by
  have HA:=Lib.hid (AtL.new w [.int .i64 2,.int .i64 3,.int .i64 5,.int .i64 6] 2);go_enter Tryz.func176,Tryz.ntmps176;go_wp2_with fail
  go_loopw [7] (fun i wr=>∃k:Nat,k≤4∧i=.int .i64 k∧AtL wr w.heap.size [.int .i64 2,.int .i64 3,.int .i64 5,.int .i64 6]∧Below w.heap.size w wr∧Va c k) (fun i _=>4 - (intOf i).toNat)
  case atStart=>exact⟨0,by omega,rfl,HA.out,Qb _ _,by simp[Va]⟩
  case round=>
    clear HA;obtain⟨k,hk,rfl,ha,hb,hn⟩:=hrel;have HN:=Lib.hid hn;have HB:=Lib.hid hb;have HA:=Lib.hid ha;have a0:=ha.get 0 rfl;have a1:=ha.get 1 rfl;have a2:=ha.get 2 rfl;have a3:=ha.get 3 rfl;clear hn hb ha;have hk6:k=0∨k=1∨k=2∨k=3∨k=4:=(by omega);rcases hk6 with rfl | rfl | rfl | rfl | rfl
    · by_cases hc:(2000011:Int)=c
      · subst hc;go_wp2_with fail;refine(Yk 2 _).mono ?_;rintro e w1 ⟨rfl,hb1⟩;rw[show XH 2=2000011 from rfl];have HB1:=Lib.hid (HB.out.trans (hb1.mono HB.out.size));have HA1:=Lib.hid (HA.out.on hb1);clear hb1 a0 a1 a2 a3;go_wp2_with fail;go_ret;exact⟨rfl,HB1.out⟩
      · go_wp2_with fail;refine(Yk 2 _).mono ?_;rintro e w1 ⟨rfl,hb1⟩;rw[show XH 2=2000011 from rfl];have HB1:=Lib.hid (HB.out.trans (hb1.mono HB.out.size));have HA1:=Lib.hid (HA.out.on hb1);clear hb1 a0 a1 a2 a3;go_wp2_with fail;exact⟨⟨1,by omega,by go_num,HA1.out,HB1.out,by have:=HN.out;unfold Va at this ⊢;omega⟩,by simp[intOf]⟩
    · by_cases hc:(2000012:Int)=c
      · subst hc;go_wp2_with fail;refine(Yk 3 _).mono ?_;rintro e w1 ⟨rfl,hb1⟩;rw[show XH 3=2000012 from rfl];have HB1:=Lib.hid (HB.out.trans (hb1.mono HB.out.size));have HA1:=Lib.hid (HA.out.on hb1);clear hb1 a0 a1 a2 a3;go_wp2_with fail;go_ret;exact⟨rfl,HB1.out⟩
      · go_wp2_with fail;refine(Yk 3 _).mono ?_;rintro e w1 ⟨rfl,hb1⟩;rw[show XH 3=2000012 from rfl];have HB1:=Lib.hid (HB.out.trans (hb1.mono HB.out.size));have HA1:=Lib.hid (HA.out.on hb1);clear hb1 a0 a1 a2 a3;go_wp2_with fail;exact⟨⟨2,by omega,by go_num,HA1.out,HB1.out,by have:=HN.out;unfold Va at this ⊢;omega⟩,by simp[intOf]⟩
    · by_cases hc:(2000013:Int)=c
      · subst hc;go_wp2_with fail;refine(Yk 5 _).mono ?_;rintro e w1 ⟨rfl,hb1⟩;rw[show XH 5=2000013 from rfl];have HB1:=Lib.hid (HB.out.trans (hb1.mono HB.out.size));have HA1:=Lib.hid (HA.out.on hb1);clear hb1 a0 a1 a2 a3;go_wp2_with fail;go_ret;exact⟨rfl,HB1.out⟩
      · go_wp2_with fail;refine(Yk 5 _).mono ?_;rintro e w1 ⟨rfl,hb1⟩;rw[show XH 5=2000013 from rfl];have HB1:=Lib.hid (HB.out.trans (hb1.mono HB.out.size));have HA1:=Lib.hid (HA.out.on hb1);clear hb1 a0 a1 a2 a3;go_wp2_with fail;exact⟨⟨3,by omega,by go_num,HA1.out,HB1.out,by have:=HN.out;unfold Va at this ⊢;omega⟩,by simp[intOf]⟩
    · by_cases hc:(2000014:Int)=c
      · subst hc;go_wp2_with fail;refine(Yk 6 _).mono ?_;rintro e w1 ⟨rfl,hb1⟩;rw[show XH 6=2000014 from rfl];have HB1:=Lib.hid (HB.out.trans (hb1.mono HB.out.size));have HA1:=Lib.hid (HA.out.on hb1);clear hb1 a0 a1 a2 a3;go_wp2_with fail;go_ret;exact⟨rfl,HB1.out⟩
      · go_wp2_with fail;refine(Yk 6 _).mono ?_;rintro e w1 ⟨rfl,hb1⟩;rw[show XH 6=2000014 from rfl];have HB1:=Lib.hid (HB.out.trans (hb1.mono HB.out.size));have HA1:=Lib.hid (HA.out.on hb1);clear hb1 a0 a1 a2 a3;go_wp2_with fail;exact⟨⟨4,by omega,by go_num,HA1.out,HB1.out,by have:=HN.out;unfold Va at this ⊢;omega⟩,by simp[intOf]⟩
    · have hz:X8 c=0:=by
        have hn:=HN.out;unfold Va at hn;unfold X8;rw[if_neg (by omega),if_neg (by omega),if_neg (by omega),if_neg (by omega)]
      have HZ:=Lib.hid hz;clear hz;go_wp2_with fail;go_ret;rw[HZ.out];exact⟨rfl,HB.out⟩
theorem QbV (kind c m bu ac cl ro:Int) (ds:Value) (g:Nat) (w:World) (hE:AtL w g [.int .i64 kind,.int .i64 c,.int .i64 m,.int .i64 bu,.int .i64 ac,.int .i64 cl,.int .i64 ro,ds]) (hs:Qh c=true) (h0:0≤QR c) (h1:QR c≤255):
    Calls Tryz.prog 193 #[.pointer (some ⟨g,0,none⟩)] w fun en w'=>∃v,en=.returned (.tuple #[v,.bool true])∧Own w' w.heap.size v [Qt (QR c)]∧Below w.heap.size w w':=by
  obtain⟨z0,z1,z2,z3,z4,z5,z6,z7⟩:=AtL.eightS hE;clear hE z0 z3 z4 z5 z6 z7;have hw:IntKind.u8.wrap (QR c)=QR c:=IntWalk.u8_in _ ⟨by omega,by omega⟩;have HN:=Lib.hid (J8 w (Qt (QR c)) (QR c) (QV h0 (by omega)));have HQ:=Lib.hid (fun W=>Xn c W);generalize QR c=n at *;go_enter Tryz.func193,Tryz.ntmps193;go_wp2_with fail;refine(Qg c _).mono ?_;rintro e w1 ⟨rfl,rfl⟩;rw[hs];go_wp2_with fail;refine(HQ.out _).mono ?_;rintro e w2 ⟨rfl,rfl⟩;go_wp2_with fail
  go_ret2
  obtain⟨v,he,ho,hb2⟩:=HN.out;exact⟨_,rfl,by injection he with he;rw[←he] at ho;simpa using ho,hb2⟩
theorem Qj6 (kind c bu ac cl ro:Int) (ds:Value) (g:Nat) (w:World) (hE:AtL w g [.int .i64 kind,.int .i64 c,.int .i64 0,.int .i64 bu,.int .i64 ac,.int .i64 cl,.int .i64 ro,ds]) (hs:Qh c=false) (h0:0≤c) (h1:c≤1114111):
    Calls Tryz.prog 193 #[.pointer (some ⟨g,0,none⟩)] w fun en w'=>∃v,en=.returned (.tuple #[v,.bool true])∧Own w' w.heap.size v (Ye c)∧Below w.heap.size w w':=by
  obtain⟨z0,z1,z2,z3,z4,z5,z6,z7⟩:=AtL.eightS hE;clear hE z0 z3 z4 z5 z6 z7;have HP:=Lib.hid (fun W=>YV c W h0 h1);generalize Ye c=L at *;go_enter Tryz.func193,Tryz.ntmps193;go_wp2_with fail;refine(Qg c _).mono ?_;rintro e w1 ⟨rfl,rfl⟩;rw[hs];go_wp2_with fail;refine(HP.out _).mono ?_;rintro e w2 ⟨v,rfl,ho,hb⟩;have HE:=Lib.hid (And.intro ho hb);clear ho hb;go_wp2_with fail
  go_ret2
  exact⟨_,rfl,HE.out.1,HE.out.2⟩
theorem Qj7 (kind c bu ac cl ro:Int) (ds:Value) (g:Nat) (w:World) (hE:AtL w g [.int .i64 kind,.int .i64 c,.int .i64 2,.int .i64 bu,.int .i64 ac,.int .i64 cl,.int .i64 ro,ds]) (hs:Qh c=false) (h0:0≤c) (h1:c≤1114111):
    Calls Tryz.prog 193 #[.pointer (some ⟨g,0,none⟩)] w fun en w'=>∃v,en=.returned (.tuple #[v,.bool true])∧Own w' w.heap.size v (Ye c)∧Below w.heap.size w w':=by
  obtain⟨z0,z1,z2,z3,z4,z5,z6,z7⟩:=AtL.eightS hE;clear hE z0 z3 z4 z5 z6 z7;have HP:=Lib.hid (fun W=>YV c W h0 h1);generalize Ye c=L at *;go_enter Tryz.func193,Tryz.ntmps193;go_wp2_with fail;refine(Qg c _).mono ?_;rintro e w1 ⟨rfl,rfl⟩;rw[hs];go_wp2_with fail;refine(HP.out _).mono ?_;rintro e w2 ⟨v,rfl,ho,hb⟩;have HE:=Lib.hid (And.intro ho hb);clear ho hb;go_wp2_with fail
  go_ret2
  exact⟨_,rfl,HE.out.1,HE.out.2⟩
theorem Qiq (kind c bu ac cl ro:Int) (ds:Value) (g:Nat) (w:World) (hE:AtL w g [.int .i64 kind,.int .i64 c,.int .i64 4,.int .i64 bu,.int .i64 ac,.int .i64 cl,.int .i64 ro,ds]) (hs:Qh c=false) (hc:c=32):
    Calls Tryz.prog 193 #[.pointer (some ⟨g,0,none⟩)] w fun en w'=>∃v,en=.returned (.tuple #[v,.bool true])∧Own w' w.heap.size v [0]∧Below w.heap.size w w':=by
  obtain⟨z0,z1,z2,z3,z4,z5,z6,z7⟩:=AtL.eightS hE;clear hE z0 z3 z4 z5 z6 z7;subst hc;have HN:=Lib.hid (J8 w 0 0 rfl);go_enter Tryz.func193,Tryz.ntmps193;go_wp2_with fail;refine(Qg 32 _).mono ?_;rintro e w1 ⟨rfl,rfl⟩;rw[hs];go_wp2_with fail
  go_ret2
  obtain⟨v,he,ho,hb2⟩:=HN.out;exact⟨_,rfl,by injection he with he;rw[←he] at ho;simpa using ho,hb2⟩
theorem Qir (kind c bu ac cl ro:Int) (ds:Value) (g:Nat) (w:World) (hE:AtL w g [.int .i64 kind,.int .i64 c,.int .i64 4,.int .i64 bu,.int .i64 ac,.int .i64 cl,.int .i64 ro,ds]) (hs:Qh c=false) (h97:97≤c) (h122:c≤122) (h105:¬c=105) (h109:¬c=109):
    Calls Tryz.prog 193 #[.pointer (some ⟨g,0,none⟩)] w fun en w'=>∃v,en=.returned (.tuple #[v,.bool true])∧Own w' w.heap.size v [Qt (c - 96)]∧Below w.heap.size w w':=by
  obtain⟨z0,z1,z2,z3,z4,z5,z6,z7⟩:=AtL.eightS hE;clear hE z0 z3 z4 z5 z6 z7;have h32:¬c=32:=(by omega);have hi:inR c 97 122=true:=(by simp[inR,h97,h122]);have hw:IntKind.u8.wrap (c - 97+1)=c - 97+1:=IntWalk.u8_in _ ⟨by omega,by omega⟩;have HN:=Lib.hid (J8 w (Qt (c - 96)) (c - 97+1) (by rw[QV (by omega) (by omega)];omega));go_enter Tryz.func193,Tryz.ntmps193;go_wp2_with fail;refine(Qg c _).mono ?_;rintro e w1 ⟨rfl,rfl⟩;rw[hs];go_wp2_with (go_at_call 64;refine(QZ _ _ _ _).mono ?_;rintro e w' ⟨rfl,rfl⟩;rw[hi])
  go_ret2
  obtain⟨v,he,ho,hb2⟩:=HN.out;exact⟨_,rfl,by injection he with he;rw[←he] at ho;simpa using ho,hb2⟩
theorem Qis (kind c bu ac cl ro:Int) (ds:Value) (g:Nat) (w:World) (hE:AtL w g [.int .i64 kind,.int .i64 c,.int .i64 4,.int .i64 bu,.int .i64 ac,.int .i64 cl,.int .i64 ro,ds]) (hs:Qh c=false) (h32:¬c=32) (hn:inR c 97 122=false∨c=105∨c=109):
    Calls Tryz.prog 193 #[.pointer (some ⟨g,0,none⟩)] w fun en w'=>∃v,en=.returned (.tuple #[v,.bool false])∧Own w' w.heap.size v []∧Below w.heap.size w w':=by
  obtain⟨z0,z1,z2,z3,z4,z5,z6,z7⟩:=AtL.eightS hE;clear hE z0 z3 z4 z5 z6 z7;rcases hn with hi | rfl | rfl
  · go_enter Tryz.func193,Tryz.ntmps193;go_wp2_with fail;refine(Qg c _).mono ?_;rintro e w1 ⟨rfl,rfl⟩;rw[hs];go_wp2_with (go_at_call 64;refine(QZ _ _ _ _).mono ?_;rintro e w' ⟨rfl,rfl⟩;rw[hi])
    go_ret2
    exact⟨_,rfl,QT _ _,Below.refl _ _⟩
  · have hi:inR 105 97 122=true:=rfl;go_enter Tryz.func193,Tryz.ntmps193;go_wp2_with fail;refine(Qg 105 _).mono ?_;rintro e w1 ⟨rfl,rfl⟩;rw[hs];go_wp2_with (go_at_call 64;refine(QZ _ _ _ _).mono ?_;rintro e w' ⟨rfl,rfl⟩;rw[hi])
    go_ret2
    exact⟨_,rfl,QT _ _,Below.refl _ _⟩
  · have hi:inR 109 97 122=true:=rfl;go_enter Tryz.func193,Tryz.ntmps193;go_wp2_with fail;refine(Qg 109 _).mono ?_;rintro e w1 ⟨rfl,rfl⟩;rw[hs];go_wp2_with (go_at_call 64;refine(QZ _ _ _ _).mono ?_;rintro e w' ⟨rfl,rfl⟩;rw[hi])
    go_ret2
    exact⟨_,rfl,QT _ _,Below.refl _ _⟩
theorem Qit (kind c bu ac cl ro:Int) (ds:Value) (g:Nat) (w:World) (hE:AtL w g [.int .i64 kind,.int .i64 c,.int .i64 6,.int .i64 bu,.int .i64 ac,.int .i64 cl,.int .i64 ro,ds]) (hs:Qh c=false) (hc:c=32):
    Calls Tryz.prog 193 #[.pointer (some ⟨g,0,none⟩)] w fun en w'=>∃v,en=.returned (.tuple #[v,.bool true])∧Own w' w.heap.size v [0]∧Below w.heap.size w w':=by
  obtain⟨z0,z1,z2,z3,z4,z5,z6,z7⟩:=AtL.eightS hE;clear hE z0 z3 z4 z5 z6 z7;subst hc;have HN:=Lib.hid (J8 w 0 0 rfl);go_enter Tryz.func193,Tryz.ntmps193;go_wp2_with fail;refine(Qg 32 _).mono ?_;rintro e w1 ⟨rfl,rfl⟩;rw[hs];go_wp2_with fail
  go_ret2
  obtain⟨v,he,ho,hb2⟩:=HN.out;exact⟨_,rfl,by injection he with he;rw[←he] at ho;simpa using ho,hb2⟩
theorem Qiu (kind c bu ac cl ro:Int) (ds:Value) (g:Nat) (w:World) (hE:AtL w g [.int .i64 kind,.int .i64 c,.int .i64 6,.int .i64 bu,.int .i64 ac,.int .i64 cl,.int .i64 ro,ds]) (hs:Qh c=false) (h97:97≤c) (h122:c≤122) (h105:¬c=105) (h109:¬c=109):
    Calls Tryz.prog 193 #[.pointer (some ⟨g,0,none⟩)] w fun en w'=>∃v,en=.returned (.tuple #[v,.bool true])∧Own w' w.heap.size v [Qt (c - 96)]∧Below w.heap.size w w':=by
  obtain⟨z0,z1,z2,z3,z4,z5,z6,z7⟩:=AtL.eightS hE;clear hE z0 z3 z4 z5 z6 z7;have h32:¬c=32:=(by omega);have hi:inR c 97 122=true:=(by simp[inR,h97,h122]);have hw:IntKind.u8.wrap (c - 97+1)=c - 97+1:=IntWalk.u8_in _ ⟨by omega,by omega⟩;have HN:=Lib.hid (J8 w (Qt (c - 96)) (c - 97+1) (by rw[QV (by omega) (by omega)];omega));go_enter Tryz.func193,Tryz.ntmps193;go_wp2_with fail;refine(Qg c _).mono ?_;rintro e w1 ⟨rfl,rfl⟩;rw[hs];go_wp2_with (go_at_call 64;refine(QZ _ _ _ _).mono ?_;rintro e w' ⟨rfl,rfl⟩;rw[hi])
  go_ret2
  obtain⟨v,he,ho,hb2⟩:=HN.out;exact⟨_,rfl,by injection he with he;rw[←he] at ho;simpa using ho,hb2⟩
theorem Qiv (kind c bu ac cl ro:Int) (ds:Value) (g:Nat) (w:World) (hE:AtL w g [.int .i64 kind,.int .i64 c,.int .i64 6,.int .i64 bu,.int .i64 ac,.int .i64 cl,.int .i64 ro,ds]) (hs:Qh c=false) (h32:¬c=32) (hn:inR c 97 122=false∨c=105∨c=109):
    Calls Tryz.prog 193 #[.pointer (some ⟨g,0,none⟩)] w fun en w'=>∃v,en=.returned (.tuple #[v,.bool false])∧Own w' w.heap.size v []∧Below w.heap.size w w':=by
  obtain⟨z0,z1,z2,z3,z4,z5,z6,z7⟩:=AtL.eightS hE;clear hE z0 z3 z4 z5 z6 z7;rcases hn with hi | rfl | rfl
  · go_enter Tryz.func193,Tryz.ntmps193;go_wp2_with fail;refine(Qg c _).mono ?_;rintro e w1 ⟨rfl,rfl⟩;rw[hs];go_wp2_with (go_at_call 64;refine(QZ _ _ _ _).mono ?_;rintro e w' ⟨rfl,rfl⟩;rw[hi])
    go_ret2
    exact⟨_,rfl,QT _ _,Below.refl _ _⟩
  · have hi:inR 105 97 122=true:=rfl;go_enter Tryz.func193,Tryz.ntmps193;go_wp2_with fail;refine(Qg 105 _).mono ?_;rintro e w1 ⟨rfl,rfl⟩;rw[hs];go_wp2_with (go_at_call 64;refine(QZ _ _ _ _).mono ?_;rintro e w' ⟨rfl,rfl⟩;rw[hi])
    go_ret2
    exact⟨_,rfl,QT _ _,Below.refl _ _⟩
  · have hi:inR 109 97 122=true:=rfl;go_enter Tryz.func193,Tryz.ntmps193;go_wp2_with fail;refine(Qg 109 _).mono ?_;rintro e w1 ⟨rfl,rfl⟩;rw[hs];go_wp2_with (go_at_call 64;refine(QZ _ _ _ _).mono ?_;rintro e w' ⟨rfl,rfl⟩;rw[hi])
    go_ret2
    exact⟨_,rfl,QT _ _,Below.refl _ _⟩
theorem QgB (kind c m bu ac cl ro:Int) (ds:Value) (g:Nat) (w:World) (hE:AtL w g [.int .i64 kind,.int .i64 c,.int .i64 m,.int .i64 bu,.int .i64 ac,.int .i64 cl,.int .i64 ro,ds]) (hs:Qh c=false) (e0:¬m=0) (e2:¬m=2) (e4:¬m=4) (e6:¬m=6):
    Calls Tryz.prog 193 #[.pointer (some ⟨g,0,none⟩)] w fun en w'=>∃v,en=.returned (.tuple #[v,.bool false])∧Own w' w.heap.size v []∧Below w.heap.size w w':=by
  obtain⟨z0,z1,z2,z3,z4,z5,z6,z7⟩:=AtL.eightS hE;clear hE z0 z3 z4 z5 z6 z7;go_enter Tryz.func193,Tryz.ntmps193;go_wp2_with fail;refine(Qg c _).mono ?_;rintro e w1 ⟨rfl,rfl⟩;rw[hs];go_wp2_with fail
  go_ret2
  exact⟨_,rfl,QT _ _,Below.refl _ _⟩
theorem Qy (kind c m bu ac cl ro:Int) (ds:Value) (g:Nat) (w:World) (hE:AtL w g [.int .i64 kind,.int .i64 c,.int .i64 m,.int .i64 bu,.int .i64 ac,.int .i64 cl,.int .i64 ro,ds]) (h:QY c m):
    Calls Tryz.prog 193 #[.pointer (some ⟨g,0,none⟩)] w fun en w'=>∃v,en=.returned (.tuple #[v,.bool (!(Qd c m).isEmpty)])∧Own w' w.heap.size v (Qd c m)∧Below w.heap.size w w':=by
  cases hs:Qh c
  · obtain⟨hp,h32,h127⟩:=h.pt hs;have hr:=XK hp;by_cases e0:m=0
    · subst e0;have hc:Qd c 0=Ye c:=(by unfold Qd;rw[if_neg (by simp[hs]),if_pos (.inl rfl)]);rw[hc,show(!(Ye c).isEmpty)=true by simp[Qhg c]];exact Qj6 kind c bu ac cl ro ds g w hE hs hr.1 hr.2.1
    by_cases e2:m=2
    · subst e2;have hc:Qd c 2=Ye c:=(by unfold Qd;rw[if_neg (by simp[hs]),if_pos (.inr rfl)]);rw[hc,show(!(Ye c).isEmpty)=true by simp[Qhg c]];exact Qj7 kind c bu ac cl ro ds g w hE hs hr.1 hr.2.1
    by_cases h46:m=4∨m=6
    · have hc:Qd c m=Yt c:=(by unfold Qd;rw[if_neg (by simp[hs]),if_neg (by omega),if_pos h46]);rw[hc];by_cases c32:c=32
      · have h1:Yt c=[0]:=(by unfold Yt;rw[if_pos c32]);rw[h1];rcases h46 with rfl | rfl
        · exact Qiq kind c bu ac cl ro ds g w hE hs c32
        · exact Qit kind c bu ac cl ro ds g w hE hs c32
      by_cases cl':(97≤c∧c≤122)∧¬c=105∧¬c=109
      · have h1:Yt c=[Qt (c - 96)]:=(by unfold Yt;rw[if_neg c32,if_neg (by omega),if_pos cl'.1]);rw[h1];rcases h46 with rfl | rfl
        · exact Qir kind c bu ac cl ro ds g w hE hs cl'.1.1 cl'.1.2 cl'.2.1 cl'.2.2
        · exact Qiu kind c bu ac cl ro ds g w hE hs cl'.1.1 cl'.1.2 cl'.2.1 cl'.2.2
      · have h1:Yt c=[]:=by
          unfold Yt;rw[if_neg c32];split
          · rfl
          · rw[if_neg (by omega)]
        have hn:inR c 97 122=false∨c=105∨c=109:=by
          by_cases hx:97≤c∧c≤122
          · right;omega
          · left;simp[inR];omega
        rw[h1];rcases h46 with rfl | rfl
        · exact Qis kind c bu ac cl ro ds g w hE hs c32 hn
        · exact Qiv kind c bu ac cl ro ds g w hE hs c32 hn
    · have hc:Qd c m=[]:=(by unfold Qd;rw[if_neg (by simp[hs]),if_neg (by omega),if_neg h46]);rw[hc];exact QgB kind c m bu ac cl ro ds g w hE hs e0 e2 (by omega) (by omega)
  · obtain⟨g0,_,g2⟩:=h.code;have hc:Qd c m=[Qt (QR c)]:=(by unfold Qd;rw[if_pos hs]);rw[hc];exact QbV kind c m bu ac cl ro ds g w hE hs g0 (g2 hs)
end Go.Proofs.YtbfickdgjgbfhaaGreatDoor
