/- Slices of bytes cut, copied, and held against a beginning: bytes.HasPrefix, bytes.Clone, '[]byte(s)'. -/
import Derived.Test.YtbfickdgjgbfhaaGreatDoorQTokToTokRes
import Derived.Laws.IdiomStrings
import Derived.Lib.SliceRun
import Derived.Test.YtbfickdgjgbfhaaGreatDoorQDrawsToDraws7
import Derived.Test.YtbfickdgjgbfhaaGreatDoorQDigitsToPieces
import Derived.Lib.SlBytesConst
import Derived.Deep.QuietTactic
import Derived.BigQuiet
set_option linter.unusedVariables false
set_option maxRecDepth 100000
set_option maxHeartbeats 4000000
namespace Go.Proofs.YtbfickdgjgbfhaaGreatDoor
open Go.RowKit
theorem Bs.head {w:World} {B:Nat} {p:Option Addr} {l:List UInt8} (h:Bs w B p l) (j:Nat):Bs w B p (l.take j):=by
  intro hne;have hlen:0<(l.take j).length:=List.length_pos_iff.2 hne;simp at hlen;obtain⟨b,off,rfl,hb,hc⟩:=h (by intro e;simp[e] at hlen);refine⟨b,off,rfl,hb,fun i hi=>?_⟩;rw[List.length_take] at hi;rw[hc i (by omega)];simp[List.getD_eq_getElem?_getD,show i<j by omega]
theorem Bs.tail {w:World} {B:Nat} {p:Option Addr} {l:List UInt8} (h:Bs w B p l) (k c:Nat) (hc:l.length≤c):Bs w B (if c=k then p else p.map (·.add k)) (l.drop k):=by
  intro hne;have hlen:0<(l.drop k).length:=List.length_pos_iff.2 hne;simp at hlen;obtain⟨b,off,rfl,hb,hcell⟩:=h (by intro e;simp[e] at hlen);rw[if_neg (by omega)];refine⟨b,off+k,?_,hb,fun i hi=>?_⟩
  · simp only[Option.map_some,Addr.add];split
    · rename_i e;simp[e]
    · rfl
  · simp at hi;rw[Nat.add_assoc,hcell (k+i) (by omega)];simp[List.getD_eq_getElem?_getD,List.getElem?_drop]
def pre (b a:List UInt8):Bool:=a.take b.length==b
theorem QdV {b a:List UInt8} (h:a.length<b.length):pre b a=false:=by
  unfold pre;rw[List.take_of_length_le (by omega)];apply beq_eq_false_iff_ne.2;intro e;rw[e] at h;omega
theorem Jy (p q:Option Addr) (c d:Nat) (a b:List UInt8) (w:World) {B C:Nat} (h:Bs w B p a) (k:Bs w C q b) (hc:a.length≤c) (_:a.length≤1048576) (hb:b.length≤1048576):
    Calls Tryz.prog 157 #[.slice p a.length c,.slice q b.length d] w fun e w'=>e=.returned (.bool (pre b a))∧w=w':=by
  by_cases hl:b.length≤a.length
  · have e:(a.take b.length).length=b.length:=(by simp[hl]);have HE:=Lib.hid (fun c'=>Ky p q c' d (a.take b.length) b w (h.head _) k);rw[e] at HE;clear h k e;go_enter Tryz.func157,Tryz.ntmps157;go_wp2_with (go_at_call 98;refine(HE.out _).mono ?_;rintro e w' ⟨rfl,rfl⟩);go_ret;exact⟨Qi (by simp[pre]),rfl⟩
  · have HP:=Lib.hid (QdV (show a.length<b.length by omega));clear h k;go_enter Tryz.func157,Tryz.ntmps157;go_wp2;go_ret;exact⟨Qi (by rw[HP.out]),rfl⟩
theorem KD (p:Option Addr) (c:Nat) (l:List UInt8) (w:World) (h:Bs w w.heap.size p l) (hl:l.length≤1048576) (hne:l≠[]):
    Calls Tryz.prog 137 #[.slice p l.length c] w (Ql w l):=by
  obtain⟨b,off,rfl,hb,hcell⟩:=h hne;have q22:∀(w:World) (a:Option Addr) (n c:Nat),(binOp .eql 22 (.slice a n c) (.slice none 0 0)).run Tryz.prog w=.ok (.bool a.isNone) w:=fun w a n c=>Lib.run_eql_slice_nil w _ _ a n c 0 0 Tryz.underlying22;obtain⟨i0,hi,hz0,hz1,hz2⟩:=info_parts Tryz.info_u8;have HL:=Lib.hid hcell;have HB:=Lib.hid hb;clear hcell h hb;go_enter Tryz.func137,Tryz.ntmps137;go_wp2_with (at_builtin;refine wpList_append_own _ rfl _ _ 22 rfl w.heap.size 5 i0 (.int .u8 0) 1 1 Tryz.underlying22 hi hz0 hz1 hz2 rfl (by decide) _ _ _ rfl (World.ownsRow_made w #[] 0 (Nat.le_refl _) (Nat.zero_le _) rfl) ⟨b,off,none⟩ l.length c (l.map fun x:UInt8=>Value.int .u8 (x.toNat:Int)) rfl ?c0 ?c1 ?c2 ?c3 ?c4 ?c5 ?_)
  case c0=>simp
  case c1=>
    intro j u hj;have hjn:j<l.length:=by
      have:=(List.getElem?_eq_some_iff.1 hj).1;simpa using this
    simp[hjn] at hj;subst hj;refine Lib.cell?_alloc_some _ ?_;have e:(⟨b,off,none⟩:Addr).add j=⟨b,off+j,none⟩:=by
      simp only[Addr.add];split
      · simp
      · rfl
    rw[e,HL.out j hjn];simp[List.getD_eq_getElem?_getD,hjn]
  case c2=>intro u hu;obtain⟨x,_,rfl⟩:=List.mem_map.1 hu;rfl
  case c3=>unfold maxLen;omega
  case c4=>omega
  case c5=>simp
  intro v' w2 hown hgrow _;go_wp2;go_ret;refine⟨v',rfl,?_,(Qb w _).grown hgrow (by simp) (by intro k hk;simp[Value.ownBlock] at hk;omega)⟩;unfold Own;simpa using hown
theorem Bs.tail_lt {w:World} {B:Nat} {p:Option Addr} {l:List UInt8} (h:Bs w B p l) (k:Nat) (hk:k<l.length):Bs w B (p.map (·.add k)) (l.drop k):=by
  have:=h.tail k l.length (Nat.le_refl _)
  rwa [if_neg (by omega)] at this
def Qa4:List UInt8:=[27,91,50,48,49,126]
def JM (r:List UInt8):Bool:=pre Qa4 r || pre r Qa4
def unt:List UInt8→Nat
  | []=>0
  | x::r=>if JM (x::r)=true then 0 else unt r+1
theorem Vy:∀l:List UInt8,unt l≤l.length
  | []=>Nat.le_refl _
  | x::r=>by
    unfold unt;split
    · exact Nat.zero_le _
    · have:=Vy r;simp;omega
theorem QjC:∀(l:List UInt8) (j:Nat),j<l.length→(∀i,i<j→JM (l.drop i)=false)→JM (l.drop j)=true→unt l=j
  | [],j,h,_,_=>by simp at h
  | x::r,0,_,_,hs=>by unfold unt;rw[if_pos (by simpa using hs)]
  | x::r,j+1,h,hn,hs=>by
    have h0:=hn 0 (by omega);unfold unt;rw[if_neg (by simp at h0;simp[h0]),QjC r j (by simpa using h) (fun i hi=>by simpa using hn (i+1) (by omega)) (by simpa using hs)]
theorem Qgc:∀(l:List UInt8),(∀i,i<l.length→JM (l.drop i)=false)→unt l=l.length
  | [],_=>rfl
  | x::r,hn=>by
    have h0:=hn 0 (by simp);unfold unt;rw[if_neg (by simp at h0;simp[h0]),Qgc r (fun i hi=>by simpa using hn (i+1) (by simpa using hi))];simp
theorem QeT:∀(l:List UInt8),unt l<l.length→JM (l.drop (unt l))=true
  | [],h=>by simp at h
  | x::r,h=>by
    by_cases hs:JM (x::r)=true
    · rw[show unt (x::r)=0 by unfold unt;rw[if_pos hs]];simpa using hs
    · have e:unt (x::r)=unt r+1:=by
        rw[unt];rw[if_neg hs]
      rw[e] at h ⊢;simp at h;simpa using QeT r h
def QeU:Array Value:=#[.int .u8 27,.int .u8 91,.int .u8 50,.int .u8 48,.int .u8 49,.int .u8 126]
theorem Qla (w:World):Bs (w.alloc (.cells QeU 5 (6,7))) (w.heap.size+1) (some ⟨w.heap.size,0,none⟩) Qa4:=by
  intro _;refine⟨w.heap.size,0,rfl,by omega,fun i hi=>?_⟩;have h6:i<6:=hi;have:i=0∨i=1∨i=2∨i=3∨i=4∨i=5:=(by omega);rcases this with rfl | rfl | rfl | rfl | rfl | rfl <;> exact(cell_of_row _ w.heap.size _ _ _ _ (heap_alloc_new w _)).trans rfl
theorem Qap (w:World):(convert 22 22 (.slice (some ⟨w.heap.size,0,none⟩) 6 6)).run Tryz.prog (w.alloc (.cells QeU 5))=.ok (.slice (some ⟨w.heap.size,0,none⟩) 6 6) (w.alloc (.cells QeU 5 (6,7))):=
  Lib.run_convert_bytes_const (P:=Tryz.prog) w 22 5 QeU 6 6 Tryz.underlying22 Tryz.underlying5
theorem YW (p:Option Addr) (c:Nat) (l:List UInt8) (w:World) (h:Bs w w.heap.size p l) (hc:l.length≤c) (hl:l.length≤1048576):
    Calls Tryz.prog 156 #[.slice p l.length c] w fun e w'=>e=.returned (.int .i64 (unt l))∧Below w.heap.size w w':=by
  have hb1:Below w.heap.size w (w.alloc (.cells QeU 5 (6,7))):=Qb _ _;have hrun:=Qap w;have hbs:=Qla w;have HU:=Lib.hid (QjC l);have HV:=Lib.hid (Qgc l);have HP1:=Lib.hid (fun j (hj:j<l.length)=>Jy (p.map (·.add j)) (some ⟨w.heap.size,0,none⟩) (c - j) 6 (l.drop j) Qa4 _ ((h.on hb1).tail_lt j hj) hbs (by simp;omega) (by simp;omega) (by simp[Qa4]));have HP2:=Lib.hid (fun j (hj:j<l.length)=>Jy (some ⟨w.heap.size,0,none⟩) (p.map (·.add j)) 6 (c - j) Qa4 (l.drop j) _ hbs ((h.on hb1).tail_lt j hj) (by simp[Qa4]) (by simp[Qa4]) (by simp;omega));have HB:=Lib.hid hb1;clear h hbs hb1;rw[show Qa4.length=6 from rfl] at HP1 HP2;simp only[List.length_drop] at HP1 HP2;unfold QeU at hrun HP1 HP2 HB;generalize hw1:w.alloc (.cells #[.int .u8 27,.int .u8 91,.int .u8 50,.int .u8 48,.int .u8 49,.int .u8 126] 5 (6,7))=w1 at *;clear hw1;go_enter Tryz.func156,Tryz.ntmps156;go_wp2
  go_loop [4,5,10] (fun _ _ i=>∃j:Nat,j≤l.length∧i=.int .i64 j∧∀k,k<j→JM (l.drop k)=false) (fun _ _ i=>l.length - (intOf i).toNat)
  case atStart=>exact⟨0,by omega,rfl,fun k hk=>by omega⟩
  case round=>
    obtain⟨j,hj,rfl,hn⟩:=hrel;have HN:=Lib.hid hn;clear hn;by_cases hlt:j<l.length
    · cases h1:pre Qa4 (l.drop j)
      · cases h2:pre (l.drop j) Qa4
        · have HS:Hid (JM (l.drop j)=false):=(by unfold Hid JM;rw[h1,h2];rfl);go_wp2_with fail;refine(HP1.out j hlt).mono ?_;rintro e w' ⟨rfl,rfl⟩;rw[h1];go_wp2_with fail;refine(HP2.out j hlt).mono ?_;rintro e w' ⟨rfl,rfl⟩;rw[h2];go_wp2_with fail;refine⟨⟨j+1,by omega,by go_num,fun k hk=>?_⟩,by simp[intOf];omega⟩;rcases Nat.lt_or_eq_of_le (Nat.le_of_lt_succ hk) with hk | rfl
          · exact HN.out k hk
          · exact HS.out
        · have HS:Hid (JM (l.drop j)=true):=(by unfold Hid JM;rw[h1,h2];rfl);go_wp2_with fail;refine(HP1.out j hlt).mono ?_;rintro e w' ⟨rfl,rfl⟩;rw[h1];go_wp2_with fail;refine(HP2.out j hlt).mono ?_;rintro e w' ⟨rfl,rfl⟩;rw[h2];go_wp2_with fail;go_ret;exact⟨Xg (by rw[HU.out j hlt HN.out HS.out]),HB.out⟩
      · have HS:Hid (JM (l.drop j)=true):=(by unfold Hid JM;rw[h1];rfl);go_wp2_with fail;refine(HP1.out j hlt).mono ?_;rintro e w' ⟨rfl,rfl⟩;rw[h1];go_wp2_with fail;go_ret;exact⟨Xg (by rw[HU.out j hlt HN.out HS.out]),HB.out⟩
    · obtain rfl:j=l.length:=(by omega);go_wp2;go_ret;exact⟨Xg (by rw[HV.out HN.out]),HB.out⟩
theorem Bs.drewN {w:World} {B:Nat} {p:Option Addr} {l:List UInt8} (h:Bs w B p l) (n:Nat):Bs (w.drewN n) B p l:=h.keep (Nat.le_refl _) fun _ _=>rfl
theorem Qg8 (r:List UInt8) (h:6≤r.length):JM r=(r.take 6==[27,91,50,48,49,126]):=by
  unfold JM;have e:pre Qa4 r=(r.take 6==[27,91,50,48,49,126]):=rfl;rw[e]
  cases hq:(r.take 6==[27,91,50,48,49,126])
  · cases hp:pre r Qa4
    · rfl
    · exfalso;unfold pre at hp;rw[List.take_of_length_le (by simpa [Qa4] using h)] at hp;rw[←eq_of_beq hp] at hq;simp[Qa4] at hq
  · rfl
theorem Qgd (n:Nat) (h:n<6):(ByteArray.extract {data:=#[27,91,50,48,49,126] } 0 n).toList=Qa4.take n:=by
  have:n=0∨n=1∨n=2∨n=3∨n=4∨n=5:=(by omega);rcases this with rfl | rfl | rfl | rfl | rfl | rfl <;> first | decide+kernel | kernel_rfl | simp[Qa4]
theorem QkB (r:List UInt8) (h:r.length<6):JM r=(r==(ByteArray.extract {data:=#[27,91,50,48,49,126] } 0 r.length).toList):=by
  rw[Qgd _ h];unfold JM;rw[QdV (show r.length<Qa4.length from h),Bool.false_or];unfold pre;exact Bool.beq_comm
theorem Qge (p:Option Addr) (c:Nat) (l:List UInt8) (w:World) (h:Bs w w.heap.size p l) (hc:l.length≤c) (hl:l.length≤1048576):
    Calls Tryz.prog 128 #[.slice p l.length c] w fun e w'=>e=.returned (.int .i64 (unt l))∧Below w.heap.size w w':=by
  have HU:=Lib.hid (QjC l);have HV:=Lib.hid (Qgc l);have HC1:=Lib.hid (fun j (hj:j<l.length) n c'=>Yh (P:=Tryz.prog) Tryz.underlying22 Tryz.underlying5 Tryz.underlying9 (p.map (·.add j)) c' ((l.drop j).take 6) (w.drewN n) (((h.tail_lt j hj).head 6).drewN n));have HC2:=Lib.hid (fun j (hj:j<l.length) n c'=>Yh (P:=Tryz.prog) Tryz.underlying22 Tryz.underlying5 Tryz.underlying9 (p.map (·.add j)) c' (l.drop j) (w.drewN n) ((h.tail_lt j hj).drewN n));clear h;go_enter Tryz.func128,Tryz.ntmps128;go_wp2
  go_loopw [3,4,7] (fun _ _ i wr=>∃j n:Nat,j≤l.length∧i=.int .i64 j∧wr=w.drewN n∧∀k,k<j→JM (l.drop k)=false) (fun _ _ i _=>l.length - (intOf i).toNat)
  case atStart=>exact⟨0,0,by omega,rfl,rfl,fun k hk=>by omega⟩
  case round=>
    obtain⟨j,n,hj,rfl,rfl,hn⟩:=hrel;have HN:=Lib.hid hn;clear hn;by_cases hlt:j<l.length
    · by_cases h6:j+6≤l.length
      · have hcv:=HC1.out j hlt;rw[show((l.drop j).take 6).length=6 by simp;omega] at hcv;have g1:(6:Int)≤(l.length:Int) - (j:Int):=(by omega);have g2:decide ((l.length:Int) - (j:Int)<6)=false:=(by simp;omega);have hwr:IntKind.i64.wrap ((j:Int)+6)=(j:Int)+6:=IntWalk.i64_in _ ⟨by omega,by omega⟩;have b1:(j:Int)≤(j:Int)+6:=(by omega);have b2:(j:Int)+6≤(c:Int):=(by omega);have b3:((j:Int)+6).toNat - j=6:=(by omega);have b4:¬(c=j):=(by omega);have HX:=Lib.hid (Qg8 (l.drop j) (by simp;omega));generalize(l.drop j).take 6=X at hcv HX
        cases hq:(X==[27,91,50,48,49,126])
        · have HS:=Lib.hid (HX.out.trans hq);go_wp2_with fail
          go_quiet (fail)
          go_wp2;refine⟨⟨j+1,n+nq,by omega,by go_num,rfl,fun k hk=>?_⟩,by simp[intOf];omega⟩;rcases Nat.lt_or_eq_of_le (Nat.le_of_lt_succ hk) with hk | rfl
          · exact HN.out k hk
          · exact HS.out
        · have HS:=Lib.hid (HX.out.trans hq);go_wp2_with fail
          go_quiet (fail)
          go_wp2;go_ret;exact⟨Xg (by rw[HU.out j hlt HN.out HS.out]),Qc (Qc (Below.refl _ _) n) nq⟩
      · have hcv:=HC2.out j hlt;rw[List.length_drop] at hcv;have g1:decide ((6:Int)≤(l.length:Int) - (j:Int))=false:=(by simp;omega);have g2:(l.length:Int) - (j:Int)<6:=(by omega);have HX:=Lib.hid (QkB (l.drop j) (by simp;omega));rw[List.length_drop] at HX
        cases hq:(List.drop j l==(ByteArray.extract {data:=#[27,91,50,48,49,126] } 0 (l.length - j)).toList)
        · have HS:=Lib.hid (HX.out.trans hq);go_wp2_with fail
          go_quiet (fail)
          go_wp2;refine⟨⟨j+1,n+nq,by omega,by go_num,rfl,fun k hk=>?_⟩,by simp[intOf];omega⟩;rcases Nat.lt_or_eq_of_le (Nat.le_of_lt_succ hk) with hk | rfl
          · exact HN.out k hk
          · exact HS.out
        · have HS:=Lib.hid (HX.out.trans hq);go_wp2_with fail
          go_quiet (fail)
          go_wp2;go_ret;exact⟨Xg (by rw[HU.out j hlt HN.out HS.out]),Qc (Qc (Below.refl _ _) n) nq⟩
    · obtain rfl:j=l.length:=(by omega);go_wp2;go_ret;exact⟨Xg (by rw[HV.out HN.out]),Qc (Below.refl _ _) n⟩
def QX (d:List UInt8):Ev:=⟨3,0,0,0,0,0,0,d⟩
def pTk (d:List UInt8) (n:Int):Tk:=⟨0,QX d,n,true,false⟩
def Q7 (d:List UInt8):Tk:=pTk d d.length
def QG (w:World) (e:Ev) (s:Int) (pa no:Bool) (en:Ending) (w':World):Prop:=∃v,en=.returned (Xx e v s pa no)∧Own w' w.heap.size v e.data∧Below w.heap.size w w'
theorem Xw {w w1:World} {o:Obj} {e:Ev} {s:Int} {pa no:Bool} {v:Value} (vs:List Value) (ho:Own w1 (w.alloc o).heap.size v e.data) (hb:Below (w.alloc o).heap.size (w.alloc o) w1):
    QG w e s pa no (.returned (Xx e v s pa no)) (sets w1 w.heap.size 0 vs):=
  ⟨v,rfl,(Kf (by simp) vs 0 _ ho).lower (by simp),QK (Nat.le_refl _) vs 0 _ _ (Qa (Qb _ o) hb)⟩
def Zr (e:Ev) (v:Value) (s:Int) (pa no:Bool):List Value:=
  [.int .i64 e.kind,.int .i64 e.code,.int .i64 e.mods,.int .i64 e.button,.int .i64 e.act,.int .i64 e.col,.int .i64 e.row,v,.int .i64 s,.bool pa,.bool no]
theorem KE (p:Option Addr) (c:Nat) (l:List UInt8) (w:World) (h:Bs w w.heap.size p l) (hl:l.length≤1048576) (hne:l≠[]):
    Calls Tryz.prog 103 #[.slice p l.length c] w (QG w (QX l) l.length true false):=by
  have HC:=Lib.hid (fun o=>KD p c l (w.alloc o) (h.alloc o) hl hne);clear h;go_enter Tryz.func103,Tryz.ntmps103;go_wp2_with (go_at_call 137;refine(HC.out _).mono ?_;rintro e w1 ⟨v,rfl,ho,hb⟩;obtain⟨hc,hf⟩:=Qq hb;obtain⟨pp,cc,hv⟩:=ho.slice;subst hv);have HE:Hid (QG w (QX l) l.length true false (.returned (Xx (QX l) (.slice pp l.length cc) l.length true false)) (sets w1 w.heap.size 0 (Zr (QX l) (.slice pp l.length cc) l.length true false))):=Xw (Zr (QX l) (.slice pp l.length cc) l.length true false) ho hb;clear ho hb;refine bodyPost_ret (v:=Xx (QX l) (.slice pp l.length cc) l.length true false) ?_ rfl HE.out;simp[results,Tryz.results103,Xx,QX,go_sem,hc]
theorem UP (p:Option Addr) (c:Nat) (l:List UInt8) (w:World) (h:Bs w w.heap.size p l) (hc:l.length≤c) (hl:l.length≤1048576):
    Calls Tryz.prog 129 #[.slice p l.length c] w (QM w (Q7 (l.take 32))):=by
  have HC:=Lib.hid (fun o c'=>ZG p c' (l.take 32) (w.alloc o) ((h.alloc o).head 32) (by simp;omega));clear h;by_cases h32:l.length<32
  · have hm:X7 (l.length:Int) 32=l.length:=(by unfold X7;rw[if_pos (by omega)]);rw[List.take_of_length_le (by omega)] at HC ⊢;go_enter Tryz.func129,Tryz.ntmps129;go_wp2_with (first
      | (go_at_call 72;refine(Xt _ _ _).mono ?_;rintro e w' ⟨rfl,rfl⟩;rw[hm])
      | (go_at_call 97;refine(HC.out _ _).mono ?_;rintro e w1 ⟨v,rfl,ho,hb⟩;obtain⟨hcc,hf⟩:=Qq hb;obtain⟨pp,cc,hv⟩:=ho.slice;subst hv))
    have HE:Hid (QM w (Q7 l) (.returned (tkV (Q7 l) (.slice pp l.length cc))) (sets w1 w.heap.size 0 (tkL (Q7 l) (.slice pp l.length cc)))):=Xs (tkL (Q7 l) (.slice pp l.length cc)) ho hb;clear ho hb;refine bodyPost_ret (v:=tkV (Q7 l) (.slice pp l.length cc)) ?_ rfl HE.out;simp[results,Tryz.results129,tkV,Q7,pTk,QX,go_sem,hcc]
  · have hm:X7 (l.length:Int) 32=32:=(by unfold X7;rw[if_neg (by omega)]);have h3:(l.take 32).length=32:=(by simp;omega);rw[h3] at HC;generalize l.take 32=d at *;go_enter Tryz.func129,Tryz.ntmps129;go_wp2_with (first
      | (go_at_call 72;refine(Xt _ _ _).mono ?_;rintro e w' ⟨rfl,rfl⟩;rw[hm])
      | (go_at_call 97;refine(HC.out _ _).mono ?_;rintro e w1 ⟨v,rfl,ho,hb⟩;obtain⟨hcc,hf⟩:=Qq hb;obtain⟨pp,cc,hv⟩:=ho.slice;subst hv))
    rw[h3] at ho;have HE:Hid (QM w (pTk d 32) (.returned (tkV (pTk d 32) (.slice pp 32 cc))) (sets w1 w.heap.size 0 (tkL (pTk d 32) (.slice pp 32 cc)))):=Xs (tkL (pTk d 32) (.slice pp 32 cc)) ho hb;have HD:Q7 d=pTk d 32:=(by unfold Q7;rw[h3];rfl);rw[HD];clear ho hb HD;refine bodyPost_ret (v:=tkV (pTk d 32) (.slice pp 32 cc)) ?_ rfl HE.out;simp[results,Tryz.results129,tkV,pTk,QX,go_sem,hcc]
def Q2 (l:List UInt8):Tk:=
  if l=[] then Qf 4 else if 32≤unt l then Q7 (l.take 32) else if l.length<unt l+6 then Qf 6 else if 0<unt l then Q7 (l.take (unt l)) else ⟨0,Xy,6,false,true⟩
def QS (d:List UInt8):Ev:=⟨4,0,0,0,0,0,0,d⟩
def rTk (d:List UInt8) (n:Int):Tk:=⟨0,QS d,n,false,false⟩
def Zd (d:List UInt8):Tk:=rTk d d.length
theorem UQ (p:Option Addr) (c:Nat) (l:List UInt8) (w:World) (h:Bs w w.heap.size p l) (hl:l.length≤1048576) (hne:l≠[]):
    Calls Tryz.prog 139 #[.slice p l.length c] w (QG w (QS l) l.length false false):=by
  have HC:=Lib.hid (fun o=>KD p c l (w.alloc o) (h.alloc o) hl hne);clear h;go_enter Tryz.func139,Tryz.ntmps139;go_wp2_with (go_at_call 137;refine(HC.out _).mono ?_;rintro e w1 ⟨v,rfl,ho,hb⟩;obtain⟨hc,hf⟩:=Qq hb;obtain⟨pp,cc,hv⟩:=ho.slice;subst hv);have HE:Hid (QG w (QS l) l.length false false (.returned (Xx (QS l) (.slice pp l.length cc) l.length false false)) (sets w1 w.heap.size 0 (Zr (QS l) (.slice pp l.length cc) l.length false false))):=Xw (Zr (QS l) (.slice pp l.length cc) l.length false false) ho hb;clear ho hb;refine bodyPost_ret (v:=Xx (QS l) (.slice pp l.length cc) l.length false false) ?_ rfl HE.out;simp[results,Tryz.results139,Xx,QS,go_sem,hc]
theorem Zl (p:Option Addr) (c k:Nat) (l:List UInt8) (w:World) (h:Bs w w.heap.size p l) (hk:k≤l.length) (h0:0<k) (hl:l.length≤1048576):
    Calls Tryz.prog 139 #[.slice p k c] w (QG w (QS (l.take k)) k false false):=by
  have e:(l.take k).length=k:=(by simp;omega);have:=UQ p c (l.take k) w (h.head k) (by simp;omega) (by intro e';rw[e'] at e;simp at e;omega);rw[e] at this;exact this
theorem Qgf (d:List UInt8) (p:Option Addr) (c n:Nat) (s:Int) (w:World) (hn:n=d.length):Calls Tryz.prog 163 #[.agg #[.int .i64 4,.int .i64 0,.int .i64 0,.int .i64 0,.int .i64 0,.int .i64 0,.int .i64 0,.slice p n c],.int .i64 s] w fun en w'=>en=.returned (tkV (rTk d s) (.slice p n c))∧Below w.heap.size w w':=by
  subst hn;exact KS (QS d) p c s w
theorem Qlw (p:Option Addr) (c k n:Nat) (d:List UInt8) (w:World) (hd:d.length=k) (hkc:k≤c) (hk:k≤24) (hn:n≤1048576) (hm:X7 (n:Int) 24=k)
    (HC:Hid (∀o c',Calls Tryz.prog 97 #[.slice p k c'] (w.alloc o) (Ql (w.alloc o) d))):
    Calls Tryz.prog 132 #[.slice p n c] w (QM w (rTk d k)):=by
  go_enter Tryz.func132,Tryz.ntmps132;go_wp2_with (first
    | (go_at_call 72;refine(Xt _ _ _).mono ?_;rintro e w' ⟨rfl,rfl⟩;rw[hm])
    | (go_at_call 97;refine(HC.out _ _).mono ?_;rintro e w1 ⟨v,rfl,ho,hb⟩;obtain⟨pp,cc,hv⟩:=ho.slice;subst hv))
  rw[hd] at ho;refine(Qgf d pp cc k k w1 hd.symm).mono ?_;rintro e w2 ⟨rfl,hb2⟩;have hb3:=hb.trans (hb2.mono hb.size);have HE:Hid (QM w (rTk d k) (.returned (tkV (rTk d k) (.slice pp k cc))) (sets w2 w.heap.size 0 (tkL (rTk d k) (.slice pp k cc)))):=Xs (tkL (rTk d k) (.slice pp k cc)) (ho.on hb2) hb3;obtain⟨hcc,hf⟩:=Qq hb3;clear ho hb hb2 hb3;unfold tkV rTk QS;dsimp only;go_wp2_with fail;refine bodyPost_ret (v:=tkV (rTk d k) (.slice pp k cc)) ?_ rfl HE.out;simp[results,Tryz.results132,tkV,rTk,QS,go_sem,hcc]
theorem Qa5 (p:Option Addr) (c:Nat) (l:List UInt8) (w:World) (h:Bs w w.heap.size p l) (hc:l.length≤c) (hl:l.length≤1048576):
    Calls Tryz.prog 132 #[.slice p l.length c] w (QM w (Zd (l.take 24))):=by
  have e:Zd (l.take 24)=rTk (l.take 24) ((l.take 24).length:Nat):=rfl;rw[e];refine Qlw p c (l.take 24).length l.length (l.take 24) w rfl (by simp;omega) (by simp;omega) hl ?_ (Lib.hid fun o c'=>ZG p c' (l.take 24) (w.alloc o) ((h.alloc o).head 24) (by simp;omega));unfold X7;rw[List.length_take];by_cases h24:l.length<24
  · rw[if_pos (by omega)];omega
  · rw[if_neg (by omega)];omega
theorem Qa6 (p:Option Addr) (c k:Nat) (l:List UInt8) (w:World) (h:Bs w w.heap.size p l) (hk:k≤l.length) (hk2:k≤24) (hc:k≤c) (hl:l.length≤1048576):
    Calls Tryz.prog 132 #[.slice p k c] w (QM w (Zd (l.take k))):=by
  have e:(l.take k).length=k:=(by simp;omega);have:=Qa5 p c (l.take k) w (h.head k) (by omega) (by omega);rw[e,List.take_of_length_le (by omega)] at this;exact this
end Go.Proofs.YtbfickdgjgbfhaaGreatDoor
