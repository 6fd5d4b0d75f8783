/- The numbers of the library functions that the shelf names LaysM.n176, at this dump; each body is the one that the contract was proved of. -/
import Derived.Shelf.Strconv.AppendIntPublic10
import Derived.Test.YtbfickdgjgbfhaaGreatDoorProg
import Derived.Test.YtbfickdgjgbfhaaGreatDoorQDigitsToPieces
import Derived.Test.YtbfickdgjgbfhaaGreatDoorQPiecesInToPartsSpec
import Derived.Test.YtbfickdgjgbfhaaGreatDoorQPutToBytesRes
import Derived.Lib.AppendStr
set_option maxRecDepth 100000
set_option maxHeartbeats 2000000
namespace Go.Proofs.YtbfickdgjgbfhaaGreatDoor
open Go.Shelf
def Tryz.laysAI_ren:Go.Shelf.Ren:=⟨fun | 176=>191 | 249=>208 | 288=>217 | 283=>224 | 284=>225 | 285=>226 | 286=>227 | 129=>231 | 317=>230 | 318=>232 | 319=>233 | 320=>234 | 337=>236 | 338=>237 | n=>n,fun | 37=>22 | 2=>2 | 3=>3 | 53=>206 | 4=>4 | 9=>9 | 171=>216 | 0=>0 | 173=>219 | 212=>225 | 51=>193 | 5=>5 | 20=>20 | 213=>226 | 46=>204 | 232=>232 | 233=>233 | n=>n,fun | 17=>2 | 18=>4 | 19=>5 | n=>n⟩
theorem Tryz.laysAI:Go.Proofs.LaysM.n176 Tryz.prog Tryz.laysAI_ren:={
  mixed:=by kernel_rfl
  f129:=Tryz.func231.trans (congrArg some (by kernel_rfl))
  f176:=Tryz.func191.trans (congrArg some (by kernel_rfl))
  f249:=Tryz.func208.trans (congrArg some (by kernel_rfl))
  f283:=Tryz.func224.trans (congrArg some (by kernel_rfl))
  f284:=Tryz.func225.trans (congrArg some (by kernel_rfl))
  f285:=Tryz.func226.trans (congrArg some (by kernel_rfl))
  f286:=Tryz.func227.trans (congrArg some (by kernel_rfl))
  f288:=Tryz.func217.trans (congrArg some (by kernel_rfl))
  f317:=Tryz.func230.trans (congrArg some (by kernel_rfl))
  f318:=Tryz.func232.trans (congrArg some (by kernel_rfl))
  f319:=Tryz.func233.trans (congrArg some (by kernel_rfl))
  f320:=Tryz.func234.trans (congrArg some (by kernel_rfl))
  f337:=Tryz.func236.trans (congrArg some (by kernel_rfl))
  f338:=Tryz.func237.trans (congrArg some (by kernel_rfl))
  t0:=Tryz.underlying0
  a0:=Tryz.isAgg0
  z0:=Tryz.sizeOf0
  v0:=Tryz.zeroValue0
  t2:=Tryz.underlying2
  a2:=Tryz.isAgg2
  z2:=Tryz.sizeOf2
  v2:=Tryz.zeroValue2
  t3:=Tryz.underlying3
  a3:=Tryz.isAgg3
  z3:=Tryz.sizeOf3
  v3:=Tryz.zeroValue3
  t4:=Tryz.underlying4
  a4:=Tryz.isAgg4
  z4:=Tryz.sizeOf4
  v4:=Tryz.zeroValue4
  t5:=Tryz.underlying5
  a5:=Tryz.isAgg5
  z5:=Tryz.sizeOf5
  v5:=Tryz.zeroValue5
  t9:=Tryz.underlying9
  a9:=Tryz.isAgg9
  z9:=Tryz.sizeOf9
  v9:=Tryz.zeroValue9
  t20:=Tryz.underlying20
  a20:=Tryz.isAgg20
  z20:=Tryz.sizeOf20
  v20:=Tryz.zeroValue20
  t37:=Tryz.underlying22
  a37:=Tryz.isAgg22
  z37:=Tryz.sizeOf22
  v37:=Tryz.zeroValue22
  t46:=Tryz.underlying204
  a46:=Tryz.isAgg204
  z46:=Tryz.sizeOf204
  v46:=Tryz.zeroValue204
  t51:=Tryz.underlying193
  a51:=Tryz.isAgg193
  z51:=Tryz.sizeOf193
  v51:=Tryz.zeroValue193
  t53:=Tryz.underlying206
  a53:=Tryz.isAgg206
  z53:=Tryz.sizeOf206
  v53:=Tryz.zeroValue206
  t171:=Tryz.underlying216
  a171:=Tryz.isAgg216
  z171:=Tryz.sizeOf216
  v171:=Tryz.zeroValue216
  t173:=Tryz.underlying219
  a173:=Tryz.isAgg219
  z173:=Tryz.sizeOf219
  v173:=Tryz.zeroValue219
  t212:=Tryz.underlying225
  a212:=Tryz.isAgg225
  z212:=Tryz.sizeOf225
  v212:=Tryz.zeroValue225
  t213:=Tryz.underlying226
  a213:=Tryz.isAgg226
  z213:=Tryz.sizeOf226
  t232:=Tryz.underlying232
  a232:=Tryz.isAgg232
  z232:=Tryz.sizeOf232
  v232:=Tryz.zeroValue232
  t233:=Tryz.underlying233
  a233:=Tryz.isAgg233
  z233:=Tryz.sizeOf233
  v233:=Tryz.zeroValue233
  g17:=by kernel_rfl
  g18:=by kernel_rfl
  g19:=by kernel_rfl
  i0:=by kernel_rfl
  i2:=by kernel_rfl
  i3:=by kernel_rfl
  i4:=by kernel_rfl
  i5:=by kernel_rfl
  i9:=by kernel_rfl
  i20:=by kernel_rfl
  i37:=by kernel_rfl
  i46:=by kernel_rfl
  i51:=by kernel_rfl
  i53:=by kernel_rfl
  i171:=by kernel_rfl
  i173:=by kernel_rfl
  i212:=by kernel_rfl
  i232:=by kernel_rfl
  i233:=by kernel_rfl
  m17:=by kernel_rfl
  m18:=by kernel_rfl
  m19:=by kernel_rfl }
end Go.Proofs.YtbfickdgjgbfhaaGreatDoor
namespace Go.Proofs.YtbfickdgjgbfhaaGreatDoor
open Go.RowKit
def jnR:List Int→List UInt8
  | []=>[]
  | n::r=>jnR r++((if r=[] then [] else [59])++Lib.decDigits n.toNat)
def jn (l:List Int):List UInt8:=jnR l.reverse
theorem Qlu (l:List Int) (n:Int):jn (l++[n])=jn l++((if l=[] then [] else [59])++Lib.decDigits n.toNat):=by
  simp[jn,jnR]
theorem QdO (l:List Int) (k:Nat) (h:k<l.length):jn (l.take (k+1))=jn (l.take k)++((if k=0 then [] else [59])++Lib.decDigits (l.getD k 0).toNat):=by
  rw[List.take_succ_eq_append_getElem h,Qlu,List.getD_eq_getElem?_getD,List.getElem?_eq_getElem h];have:(l.take k=[])↔k=0:=by
    rw[←List.length_eq_zero_iff,List.length_take];omega
  by_cases hk:k=0
  · simp[hk]
  · rw[if_neg hk,if_neg (fun e=>hk (this.1 e))];rfl
def mark (priv:Bool):List UInt8:=if priv=true then [60] else []
def pb (priv:Bool) (nums:List Int) (fin:UInt8):List UInt8:=(mark priv++jn nums)++[fin]
def Ys (l:List Int):Bool:=l.all fun n=>inR n 0 9999999
theorem Qhx {w wr w2:World} {v v':Value} {l q:List UInt8} {n:Nat} (ho:Own wr w.heap.size v l) (hb:Below w.heap.size w wr) (hn:n=l.length+q.length)
    (h:w2.ownsRow w.heap.size 5 1 v' n (l.map (fun x:UInt8=>Value.int .u8 (x.toNat:Int))++q.map (fun x:UInt8=>Value.int .u8 (x.toNat:Int)))) (hg:wr.grownBy w2 v.ownBlock):Own w2 w.heap.size v' (l++q)∧Below w.heap.size w w2:=by
  subst hn;refine⟨by rw[Own,List.map_append,List.length_append];exact h,hb.grown hg hb.size fun j ej=>(ho.lt j ej).1⟩
theorem QjA {w wr w2:World} {v v':Value} {l:List UInt8} {x:UInt8} {n:Nat} {o:Obj} {u:Int} (hu:u=(x.toNat:Int)) (ho:Own wr w.heap.size v l) (hb:Below w.heap.size w wr) (hn:n=l.length+1)
    (h:w2.ownsRow w.heap.size 5 1 v' n (l.map (fun x:UInt8=>Value.int .u8 (x.toNat:Int))++[.int .u8 u])) (hg:(wr.alloc o).grownBy w2 v.ownBlock):Own w2 w.heap.size v' (l++[x])∧Below w.heap.size w w2:=
  Qhx (wr:=wr.alloc o) (ho.on (Qb _ _)) (hb.alloc hb.size o) (by simpa using hn) (by subst hu;simpa using h) hg
theorem Vs {w w1 w2:World} (h:Below w.heap.size w w1) (k:Below w1.heap.size w1 w2):Below w.heap.size w w2:=h.trans (k.mono h.size)
theorem QdP (w:World) (o:Obj) (x:Value) (t:TypeId):∀j u,[x][j]? =some u→((w.alloc o).alloc (.cells #[x] t)).cell? ((⟨w.heap.size+1,0,none⟩:Addr).add j)=some u:=by
  have:=cell_one_new (w.alloc o) x t
  rwa [World.size_alloc] at this
def Qkw (w:World) (priv:Bool) (nums:List Int) (v i:Value) (wr:World):Prop:=
  ∃k:Nat,k≤nums.length∧i=.int .i64 k∧Own wr w.heap.size v (mark priv++jn (nums.take k))∧Below w.heap.size w wr
theorem QcY (l:List Int) (h:Ys l=true):(jn l).length≤9 * l.length:=by
  unfold jn;have:∀r:List Int,(∀x∈r,inR x 0 9999999=true)→(jnR r).length≤9 * r.length:=by
    intro r
    induction r with
    | nil=>intro _;simp[jnR]
    | cons n r ih=>
      intro hr;have h1:=ih (fun x hx=>hr x (List.mem_cons_of_mem _ hx));have h2:inR n 0 9999999=true:=hr n (by simp);have h3:=Uh n.toNat (by simp[inR] at h2;omega);simp only[jnR,List.length_append,List.length_cons];have h4:(if r=[] then ([]:List UInt8) else [59]).length≤1:=(by split <;> simp);omega
  have h1:=this l.reverse (fun x hx=>by simp only[Ys,List.all_eq_true] at h;exact h x (by simpa using hx));simpa using h1
theorem Qan {l:List Int} (h:Ys l=true) (k:Nat) (hk:k<l.length):0≤l.getD k 0∧l.getD k 0≤9999999:=by
  simp only[Ys,List.all_eq_true] at h;have:=h l[k] (List.getElem_mem hk);rw[List.getD_eq_getElem?_getD,List.getElem?_eq_getElem hk];simpa [inR] using this
theorem Kd {l:List Int} (h:Ys l=true) (k:Nat):Ys (l.take k)=true:=by
  simp only[Ys,List.all_eq_true] at h ⊢;exact fun x hx=>h x (List.mem_of_mem_take hx)
theorem Qg5 (w:World):Own (w.alloc (.cells #[] 5)) w.heap.size (.slice (some ⟨w.heap.size,0,none⟩) 0 0) []:=Xz w [] #[] w.heap.size 0 rfl rfl rfl (by simp)
theorem Jw (priv:Bool) (p:Option Addr) (c:Nat) (nums:List Int) (fin:UInt8) (w:World) (h:Is w w.heap.size p nums) (hin:Ys nums=true) (hl:nums.length≤4):
    Calls Tryz.prog 178 #[.bool priv,.slice p nums.length c,.int .u8 (fin.toNat:Int)] w (Ql w (pb priv nums fin)):=by
  obtain⟨i0,hi,hz0,hz1,hz2⟩:=info_parts Tryz.info_u8;have H:=Lib.hid h;have HIN:=Lib.hid hin;clear h hin
  cases priv with
  | false=>
    have HO:=Lib.hid (Qg5 w);go_enter Tryz.func178,Tryz.ntmps178;go_wp2_with fail
    go_loopw [7,8,16] (fun v _ i wr=>Qkw w false nums v i wr) (fun _ _ i _=>nums.length - (intOf i).toNat)
    case atStart=>exact⟨0,by omega,rfl,HO.out,Qb _ _⟩
    case round=>
      clear HO;obtain⟨k,hk,rfl,ho,hb⟩:=hrel;have hjl:=QcY (nums.take k) (Kd HIN.out k);have hLl:(mark false++jn (nums.take k)).length≤50:=(by simp[mark] at hjl ⊢;omega);have HJT:=Lib.hid (fun h=>QdO nums k h);have HNX:Hid (∀(L:List UInt8) v' w',k<nums.length→L=mark false++jn (nums.take (k+1))→Own w' w.heap.size v' L→Below w.heap.size w w'→Qkw w false nums v' (.int .i64 ((k:Int)+1)) w'):=fun L v' w' h1 h2 h3 h4=>⟨k+1,by omega,by go_num,by rw[←h2];exact h3,h4⟩;generalize hL:mark false++jn (nums.take k)=L at *;have HL:=Lib.hid hL;have HO:=Lib.hid ho;have HB:=Lib.hid hb;clear hL ho hb hjl;by_cases hlt:k<nums.length
      · obtain⟨b,off,rfl,hbb,hc⟩:=H.out (by intro e;simp[e] at hlt);obtain⟨n,hn,hn9⟩:∃n:Nat,nums.getD k 0=(n:Int)∧n≤9999999:=by
          have:=Qan HIN.out k hlt;exact⟨(nums.getD k 0).toNat,by omega,by omega⟩
        have hc0:wr.cell? ⟨b,off+k,none⟩=some (.int .i64 (n:Int)):=(by rw[HB.out.cell (p:=⟨b,off+k,none⟩) hbb,hc k hlt,hn]);have HCK:Hid (w.cell? ⟨b,off+k,none⟩=some (.int .i64 (n:Int))):=(by have:=hc k hlt;rw[hn] at this;exact this);have HN:=Lib.hid hn;have hdl:=Uh n (by omega);clear hc hn;by_cases hk0:k=0
        · subst hk0;rw[Nat.add_zero] at hc0;have HCUR:=Lib.hid (And.intro HO.out HB.out);go_wp2_with (first | (go_at_call 195;refine(Z1 n _ (by omega)).mono ?_;rintro e w1 ⟨rfl,hb1⟩;have HS1:=Lib.hid (HCUR.out.1.on hb1);have HB1:=Lib.hid (Vs HCUR.out.2 hb1)) | (at_builtin;refine Lib.wpList_append_own_string _ rfl _ _ 22 9 rfl w.heap.size 5 i0 Tryz.underlying22 Tryz.underlying9 hi hz0 hz1 hz2 _ _ _ rfl HS1.out _ rfl (by unfold maxLen;simp[ByteArray.size];omega) (by simp[ByteArray.size];omega) HB1.out.size ?_;intro v3 w3 hown3 hgrow3 _));have hr:=Qhx (q:=Lib.decDigits n) HS1.out HB1.out (by simp[ByteArray.size]) hown3 hgrow3;exact⟨HNX.out _ _ _ hlt (by rw[HJT.out hlt,←HL.out,HN.out];simp) hr.1 hr.2,by simp[intOf];omega⟩
        · have hkp:(0:Int)<(k:Int):=(by omega);go_wp2_with (first | (at_builtin;refine wpList_append_own _ rfl _ _ 22 rfl w.heap.size 5 i0 (.int .u8 0) 1 1 Tryz.underlying22 hi hz0 hz1 hz2 rfl (by decide) _ _ _ rfl (HO.out.alloc _) ⟨wr.heap.size,0,none⟩ 1 1 [.int .u8 59] rfl rfl (cell_one_new _ _ _) (by simp[Value.oneCell']) (by unfold maxLen;omega) (by omega) (by have:=HB.out.size;simp;omega) ?_;intro v1 wA hownA hgrowA _;have HCUR:=Lib.hid (QjA (x:=59) rfl HO.out HB.out rfl hownA hgrowA);have hcA:=(HCUR.out.2.cell (p:=⟨b,off+k,none⟩) hbb).trans HCK.out) | (go_at_call 195;refine(Z1 n _ (by omega)).mono ?_;rintro e w1 ⟨rfl,hb1⟩;have HS1:=Lib.hid (HCUR.out.1.on hb1);have HB1:=Lib.hid (Vs HCUR.out.2 hb1)) | (at_builtin;refine Lib.wpList_append_own_string _ rfl _ _ 22 9 rfl w.heap.size 5 i0 Tryz.underlying22 Tryz.underlying9 hi hz0 hz1 hz2 _ _ _ rfl HS1.out _ rfl (by unfold maxLen;simp[ByteArray.size];omega) (by simp[ByteArray.size];omega) HB1.out.size ?_;intro v3 w3 hown3 hgrow3 _));have hr:=Qhx (q:=Lib.decDigits n) HS1.out HB1.out (by simp[ByteArray.size]) hown3 hgrow3;exact⟨HNX.out _ _ _ hlt (by rw[HJT.out hlt,←HL.out,HN.out,if_neg hk0];simp) hr.1 hr.2,by simp[intOf];omega⟩
      · obtain rfl:k=nums.length:=(by omega);have HTT:=Lib.hid (show nums.take nums.length=nums from List.take_length);go_wp2_with (at_builtin;refine wpList_append_own _ rfl _ _ 22 rfl w.heap.size 5 i0 (.int .u8 0) 1 1 Tryz.underlying22 hi hz0 hz1 hz2 rfl (by decide) _ _ _ rfl (HO.out.alloc _) ⟨wr.heap.size,0,none⟩ 1 1 [.int .u8 (fin.toNat:Int)] rfl rfl (cell_one_new _ _ _) (by simp[Value.oneCell']) (by unfold maxLen;omega) (by omega) (by have:=HB.out.size;simp;omega) ?_;intro v1 wA hownA hgrowA _;have HCUR:=Lib.hid (QjA (x:=fin) rfl HO.out HB.out rfl hownA hgrowA));go_ret;exact⟨_,rfl,by rw[pb];have:=HCUR.out.1;rw[←HL.out,HTT.out] at this;exact this,HCUR.out.2⟩
  | true=>
    have HO:=Lib.hid (Qg5 w);have HB:=Lib.hid (Qb w (.cells #[] 5));go_enter Tryz.func178,Tryz.ntmps178;go_wp2_with (at_builtin;refine wpList_append_own _ rfl _ _ 22 rfl w.heap.size 5 i0 (.int .u8 0) 1 1 Tryz.underlying22 hi hz0 hz1 hz2 rfl (by decide) _ _ _ rfl (HO.out.alloc _) ⟨w.heap.size+1,0,none⟩ 1 1 [.int .u8 60] rfl rfl (QdP _ _ _ _) (by simp[Value.oneCell']) (by unfold maxLen;simp) (by simp) (by have:=HB.out.size;simp;omega) ?_;intro v1 wA hownA hgrowA _;have HCUR:=Lib.hid (QjA (x:=60) rfl HO.out HB.out rfl hownA hgrowA))
    go_loopw [7,8,16] (fun v _ i wr=>Qkw w true nums v i wr) (fun _ _ i _=>nums.length - (intOf i).toNat)
    case atStart=>exact⟨0,by omega,rfl,HCUR.out.1,HCUR.out.2⟩
    case round=>
      clear HO HB HCUR;obtain⟨k,hk,rfl,ho,hb⟩:=hrel;have hjl:=QcY (nums.take k) (Kd HIN.out k);have hLl:(mark true++jn (nums.take k)).length≤50:=(by simp[mark] at hjl ⊢;omega);have HJT:=Lib.hid (fun h=>QdO nums k h);have HNX:Hid (∀(L:List UInt8) v' w',k<nums.length→L=mark true++jn (nums.take (k+1))→Own w' w.heap.size v' L→Below w.heap.size w w'→Qkw w true nums v' (.int .i64 ((k:Int)+1)) w'):=fun L v' w' h1 h2 h3 h4=>⟨k+1,by omega,by go_num,by rw[←h2];exact h3,h4⟩;generalize hL:mark true++jn (nums.take k)=L at *;have HL:=Lib.hid hL;have HO:=Lib.hid ho;have HB:=Lib.hid hb;clear hL ho hb hjl;by_cases hlt:k<nums.length
      · obtain⟨b,off,rfl,hbb,hc⟩:=H.out (by intro e;simp[e] at hlt);obtain⟨n,hn,hn9⟩:∃n:Nat,nums.getD k 0=(n:Int)∧n≤9999999:=by
          have:=Qan HIN.out k hlt;exact⟨(nums.getD k 0).toNat,by omega,by omega⟩
        have hc0:wr.cell? ⟨b,off+k,none⟩=some (.int .i64 (n:Int)):=(by rw[HB.out.cell (p:=⟨b,off+k,none⟩) hbb,hc k hlt,hn]);have HCK:Hid (w.cell? ⟨b,off+k,none⟩=some (.int .i64 (n:Int))):=(by have:=hc k hlt;rw[hn] at this;exact this);have HN:=Lib.hid hn;have hdl:=Uh n (by omega);clear hc hn;by_cases hk0:k=0
        · subst hk0;rw[Nat.add_zero] at hc0;have HCUR:=Lib.hid (And.intro HO.out HB.out);go_wp2_with (first | (go_at_call 195;refine(Z1 n _ (by omega)).mono ?_;rintro e w1 ⟨rfl,hb1⟩;have HS1:=Lib.hid (HCUR.out.1.on hb1);have HB1:=Lib.hid (Vs HCUR.out.2 hb1)) | (at_builtin;refine Lib.wpList_append_own_string _ rfl _ _ 22 9 rfl w.heap.size 5 i0 Tryz.underlying22 Tryz.underlying9 hi hz0 hz1 hz2 _ _ _ rfl HS1.out _ rfl (by unfold maxLen;simp[ByteArray.size];omega) (by simp[ByteArray.size];omega) HB1.out.size ?_;intro v3 w3 hown3 hgrow3 _));have hr:=Qhx (q:=Lib.decDigits n) HS1.out HB1.out (by simp[ByteArray.size]) hown3 hgrow3;exact⟨HNX.out _ _ _ hlt (by rw[HJT.out hlt,←HL.out,HN.out];simp) hr.1 hr.2,by simp[intOf];omega⟩
        · have hkp:(0:Int)<(k:Int):=(by omega);go_wp2_with (first | (at_builtin;refine wpList_append_own _ rfl _ _ 22 rfl w.heap.size 5 i0 (.int .u8 0) 1 1 Tryz.underlying22 hi hz0 hz1 hz2 rfl (by decide) _ _ _ rfl (HO.out.alloc _) ⟨wr.heap.size,0,none⟩ 1 1 [.int .u8 59] rfl rfl (cell_one_new _ _ _) (by simp[Value.oneCell']) (by unfold maxLen;omega) (by omega) (by have:=HB.out.size;simp;omega) ?_;intro v1 wA hownA hgrowA _;have HCUR:=Lib.hid (QjA (x:=59) rfl HO.out HB.out rfl hownA hgrowA);have hcA:=(HCUR.out.2.cell (p:=⟨b,off+k,none⟩) hbb).trans HCK.out) | (go_at_call 195;refine(Z1 n _ (by omega)).mono ?_;rintro e w1 ⟨rfl,hb1⟩;have HS1:=Lib.hid (HCUR.out.1.on hb1);have HB1:=Lib.hid (Vs HCUR.out.2 hb1)) | (at_builtin;refine Lib.wpList_append_own_string _ rfl _ _ 22 9 rfl w.heap.size 5 i0 Tryz.underlying22 Tryz.underlying9 hi hz0 hz1 hz2 _ _ _ rfl HS1.out _ rfl (by unfold maxLen;simp[ByteArray.size];omega) (by simp[ByteArray.size];omega) HB1.out.size ?_;intro v3 w3 hown3 hgrow3 _));have hr:=Qhx (q:=Lib.decDigits n) HS1.out HB1.out (by simp[ByteArray.size]) hown3 hgrow3;exact⟨HNX.out _ _ _ hlt (by rw[HJT.out hlt,←HL.out,HN.out,if_neg hk0];simp) hr.1 hr.2,by simp[intOf];omega⟩
      · obtain rfl:k=nums.length:=(by omega);have HTT:=Lib.hid (show nums.take nums.length=nums from List.take_length);go_wp2_with (at_builtin;refine wpList_append_own _ rfl _ _ 22 rfl w.heap.size 5 i0 (.int .u8 0) 1 1 Tryz.underlying22 hi hz0 hz1 hz2 rfl (by decide) _ _ _ rfl (HO.out.alloc _) ⟨wr.heap.size,0,none⟩ 1 1 [.int .u8 (fin.toNat:Int)] rfl rfl (cell_one_new _ _ _) (by simp[Value.oneCell']) (by unfold maxLen;omega) (by omega) (by have:=HB.out.size;simp;omega) ?_;intro v1 wA hownA hgrowA _;have HCUR:=Lib.hid (QjA (x:=fin) rfl HO.out HB.out rfl hownA hgrowA));go_ret;exact⟨_,rfl,by rw[pb];have:=HCUR.out.1;rw[←HL.out,HTT.out] at this;exact this,HCUR.out.2⟩
end Go.Proofs.YtbfickdgjgbfhaaGreatDoor
