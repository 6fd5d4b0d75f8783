/- The contract of the model's l1Digits: a number's decimal digits. -/
import Derived.Test.YtbfickdgjgbfhaaGreatDoorQBytesToCells
import Derived.Lib.ItoaNum
import Derived.Deep.RegionWith
import Derived.IntWalk
import Derived.Lib.MinMax
import Derived.Lib.BytesEntry
set_option maxRecDepth 1000000
set_option maxHeartbeats 2000000
namespace Go.Proofs.YtbfickdgjgbfhaaGreatDoor
open Go.RowKit
theorem Qjm {a b:ByteArray} (h:a=b):Ending.returned (.string a)=.returned (.string b):=by rw[h]
def dch (x:Nat):UInt8:=UInt8.ofNat x
theorem QaB (w:World) (b:Nat) (x:Nat) (hx:x<256) (hc:w.cell? ⟨b,0,none⟩=some (.int .u8 (x:Int))):
    (convert 22 9 (.slice (some ⟨b,0,none⟩) 1 1)).run Tryz.prog w=.ok (.string ⟨#[dch x]⟩) w:=
  Yh (P:=Tryz.prog) Tryz.underlying22 Tryz.underlying5 Tryz.underlying9 (some ⟨b,0,none⟩) 1 [dch x] w (B:=b+1)
    (fun _=>⟨b,0,rfl,by omega,fun i hi=>by
      obtain rfl:i=0:=(by simpa using hi);rw[hc];simp[dch];omega⟩)
theorem QlO {W w1:World} (hb:Below W.heap.size W w1):(∀b o,b<W.heap.size→w1.cell? ⟨b,o,none⟩=W.cell? ⟨b,o,none⟩)∧(∀b o,b<W.heap.size→w1.frozen? ⟨b,o,none⟩=W.frozen? ⟨b,o,none⟩):=
  ⟨fun b o h=>hb.cell (p:=⟨b,o,none⟩) h,fun b o h=>hb.frozen (p:=⟨b,o,none⟩) h⟩
theorem Qjn (n:Nat):2≤Lib.nDigits n→10 ^ (Lib.nDigits n - 1)≤n:=by
  induction n using Nat.strongRecOn with
  | _ n ih=>
    intro h;by_cases hs:n<10
    · rw[Lib.nDigits_small hs] at h;omega
    · rw[Lib.nDigits_big hs] at h ⊢;rw[Nat.add_sub_cancel];rcases Nat.lt_or_ge (Lib.nDigits (n / 10)) 2 with h1 | h1
      · have:=Lib.nDigits_pos (n / 10);have e:Lib.nDigits (n / 10)=1:=(by omega);rw[e];omega
      · have h3:=ih (n / 10) (by omega) h1;have e:Lib.nDigits (n / 10)=(Lib.nDigits (n / 10) - 1)+1:=(by omega);rw[e,Nat.pow_succ];omega
theorem Uh (n:Nat) (h:n<100000000):(Lib.decDigits n).length≤8:=by
  rw[Lib.decDigits_length];have hlt:=Lib.lt_pow_nDigits n;rcases Nat.lt_or_ge (Lib.nDigits n) 9 with h1 | h1
  · omega
  · exfalso;have:10 ^ (Lib.nDigits n - 1)≤n:=Qjn n (by omega);have h2:10 ^ 8≤10 ^ (Lib.nDigits n - 1):=Nat.pow_le_pow_right (by omega) (by omega);omega
theorem Jv {a b:World} (h:Below a.drew.heap.size a.drew b):Below a.heap.size a b:=⟨h.os,h.tape,h.output,h.size,h.block⟩
def QfV (w:World) (n:Nat) (e:Ending) (w':World):Prop:=e=.returned (.string ⟨(Lib.decDigits n).toArray⟩)∧Below w.heap.size w w'
theorem Qcm (n:Nat) (w:World) (h:n<10):Calls Tryz.prog 195 #[.int .i64 n] w (QfV w n):=by
  have HC:=Lib.hid (QaB (w.alloc (.cells #[.int .u8 ((48+n:Nat):Int)] 5)) w.heap.size (48+n) (by omega) (by simp));have HD:=Lib.hid (show Lib.decDigits n=[dch (48+n)] from Lib.decDigits_one h);have h1:(n:Int)<10:=(by omega);have hc:=HC.out;rw[show((48+n:Nat):Int)=48+(n:Int) by omega] at hc;go_enter Tryz.func195,Tryz.ntmps195;go_wp2_with fail;go_ret;exact⟨Qjm (by rw[HD.out]),Qb _ _⟩
theorem Z1 (n:Nat):∀w:World,n≤99999999→Calls Tryz.prog 195 #[.int .i64 n] w (QfV w n):=by
  induction n using Nat.strongRecOn with
  | _ n ih=>
    intro w hn;by_cases h:n<10
    · exact Qcm n w h
    have h1:¬(n:Int)<10:=(by omega);have IH:=Lib.hid (fun w=>ih (n / 10) (by omega) w (by omega));have HD:=Lib.hid (show Lib.decDigits n=Lib.decDigits (n / 10)++[dch (48+n % 10)] by rw[Lib.decDigits,dif_neg h];rfl);have hcv:∀(w:World) (b:Nat),w.cell? ⟨b,0,none⟩=some (.int .u8 (48+(n:Int) % 10))→(convert 22 9 (.slice (some ⟨b,0,none⟩) 1 1)).run Tryz.prog w=.ok (.string ⟨#[dch (48+n % 10)]⟩) w:=fun w b hc=>
      QaB w b (48+n % 10) (by omega) (by rw[hc];rfl)
    have IH2:Hid (∀w,Calls Tryz.prog 195 #[.int .i64 ((n:Int) / 10)] w (QfV w (n / 10))):=fun w=>by
      have:=IH.out w
      rwa [show((n / 10:Nat):Int)=(n:Int) / 10 by omega] at this
    clear ih IH;have hlen:(Lib.decDigits (n / 10)).length≤8:=Uh _ (by omega);have hadd:=run_string_add_lists (P:=Tryz.prog) (x:=Lib.decDigits (n / 10)) (y:=[dch (48+n % 10)]) (hx:=by omega) (hy:=by simp);have hw1:IntKind.i64.wrap ((n:Int) / 10)=(n:Int) / 10:=IntWalk.i64_in _ ⟨by omega,by omega⟩;have hw2:IntKind.i64.wrap (48+(n:Int) % 10)=48+(n:Int) % 10:=IntWalk.i64_in _ ⟨by omega,by omega⟩;have hw3:IntKind.u8.wrap (48+(n:Int) % 10)=48+(n:Int) % 10:=IntWalk.u8_in _ ⟨by omega,by omega⟩;have hw0:(n:Int).tmod 10=(n:Int) % 10:=Int.tmod_eq_emod_of_nonneg (by omega);go_enter Tryz.func195,Tryz.ntmps195;go_wp2_with fail
    go_region_with (go_at_call 195;refine(IH2.out _).mono ?_;rintro e w1 ⟨rfl,hb1⟩;obtain⟨hc1,hf1⟩:=QlO hb1)
    all_goals
      clear hw0 hw1 hw2 hw3 hadd hcv hc1 hf1;go_wp2_with fail;go_ret;refine⟨Qjm (by rw[HD.out]),?_⟩
    · exact(Jv hb1).alloc (Jv hb1).size _
    · exact(Qb w _).trans ((Jv hb1).mono (by simp))
    · exact(Qb w _).trans ((Jv hb1).mono (by simp))
def dgt (b:UInt8):Bool:=decide (48≤(b.toNat:Int))&&decide ((b.toNat:Int)≤57)
def Jk (v:Int) (b:UInt8):Int:=if v * 10+((b.toNat:Int) - 48)<9999999 then v * 10+((b.toNat:Int) - 48) else 9999999
def Ui (l:List UInt8):Int:=l.foldl Jk 0
def QaC (l:List UInt8):Bool:=l.all dgt
theorem QaD {b:UInt8} (h:dgt b=true):48≤(b.toNat:Int)∧(b.toNat:Int)≤57:=by
  simpa [dgt] using h
theorem Qdx {v:Int} {b:UInt8} (h:dgt b=true) (h0:0≤v) (h1:v≤9999999):0≤Jk v b∧Jk v b≤9999999:=by
  have:=QaD h;unfold Jk;split <;> omega
theorem Qjo (l:List UInt8) (b:UInt8):Ui (l++[b])=Jk (Ui l) b:=by simp[Ui]
theorem QfW (l:List UInt8) (h:QaC l=true):∀v:Int,0≤v→v≤9999999→0≤l.foldl Jk v∧l.foldl Jk v≤9999999:=by
  induction l with
  | nil=>intro v h0 h1;exact⟨h0,h1⟩
  | cons b l ih=>
    intro v h0 h1;simp only[QaC,List.all_cons,Bool.and_eq_true] at h;have:=Qdx h.1 h0 h1;exact ih h.2 _ this.1 this.2
theorem Uj {l:List UInt8} (h:QaC l=true):0≤Ui l∧Ui l≤9999999:=QfW l h 0 (by omega) (by omega)
theorem Qey (l:List UInt8) (k:Nat) (h:k<l.length):Ui (l.take (k+1))=Jk (Ui (l.take k)) (l.getD k 0):=by
  rw[List.take_succ_eq_append_getElem h,Qjo,List.getD_eq_getElem?_getD,List.getElem?_eq_getElem h];rfl
theorem Qez (l:List UInt8) (k:Nat) (h:k<l.length):QaC (l.take (k+1))=(QaC (l.take k)&&dgt (l.getD k 0)):=by
  unfold QaC;rw[List.take_succ_eq_append_getElem h,List.all_append,List.getD_eq_getElem?_getD,List.getElem?_eq_getElem h];simp
theorem Qlo (l:List UInt8) (k:Nat) (h:k<l.length) (hz:dgt (l.getD k 0)=false):QaC l=false:=by
  rw[List.getD_eq_getElem?_getD,List.getElem?_eq_getElem h] at hz;simp only[QaC,List.all_eq_false];exact⟨_,List.getElem_mem h,by simpa using hz⟩
theorem Qlp {l:List UInt8} (h:QaC l=true) (k:Nat) (hk:k<l.length):dgt (l.getD k 0)=true:=by
  rw[List.getD_eq_getElem?_getD,List.getElem?_eq_getElem hk];simp only[QaC,List.all_eq_true] at h;exact h _ (List.getElem_mem hk)
theorem Yw (b:UInt8) (w:World):
    Calls Tryz.prog 218 #[.int .u8 (b.toNat:Int)] w fun e w'=>e=.returned (.bool (dgt b))∧w=w':=by
  by_cases h1:48≤(b.toNat:Int)
  · go_enter Tryz.func218,Tryz.ntmps218;go_wp2;all_goals
      go_ret;exact⟨Qi (by simp[dgt, *]),rfl⟩
  · go_enter Tryz.func218,Tryz.ntmps218;go_wp2;go_ret;exact⟨Qi (by simp[dgt];omega),rfl⟩
theorem XV (b:UInt8) (w:World):
    Calls Tryz.prog 202 #[.int .u8 (b.toNat:Int)] w fun e w'=>e=.returned (.bool (dgt b))∧w=w':=by
  by_cases h1:48≤(b.toNat:Int)
  · go_enter Tryz.func202,Tryz.ntmps202;go_wp2;all_goals
      go_ret;exact⟨Qi (by simp[dgt, *]),rfl⟩
  · go_enter Tryz.func202,Tryz.ntmps202;go_wp2;go_ret;exact⟨Qi (by simp[dgt];omega),rfl⟩
def X7 (a b:Int):Int:=if a<b then a else b
theorem Xt (a b:Int) (w:World):
    Calls Tryz.prog 72 #[.int .i64 a,.int .i64 b] w fun e w'=>e=.returned (.int .i64 (X7 a b))∧w=w':=by
  by_cases h1:a<b
  · go_enter Tryz.func72,Tryz.ntmps72;go_wp2;go_ret;exact⟨Xg (by simp[X7,h1]),rfl⟩
  · go_enter Tryz.func72,Tryz.ntmps72;go_wp2;go_ret;exact⟨Xg (by unfold X7;rw[if_neg (by omega)]),rfl⟩
theorem Qcn (v:Int) (b:UInt8):Jk v b=X7 (v * 10+((b.toNat:Int) - 48)) 9999999:=rfl
theorem QeA (p:Option Addr) (c:Nat) (l:List UInt8) (w:World) {B:Nat} (h:Bs w B p l) (hd:QaC l=true) (hl:l.length≤1048576):
    Calls Tryz.prog 215 #[.slice p l.length c] w fun e w'=>e=.returned (.int .i64 (Ui l))∧w=w':=by
  have H:=Lib.hid h;have HD:=Lib.hid hd;clear h hd;go_enter Tryz.func215,Tryz.ntmps215;go_wp2
  go_loop [3,4,7] (fun v _ i=>∃k:Nat,k≤l.length∧i=.int .i64 k∧QaC (l.take k)=true∧v=.int .i64 (Ui (l.take k))) (fun _ _ i=>l.length - (intOf i).toNat)
  case atStart=>exact⟨0,by omega,rfl,rfl,rfl⟩
  case round=>
    obtain⟨k,hk,rfl,ht,rfl⟩:=hrel;obtain⟨hv0,hv1⟩:=Uj ht;have HT:=Lib.hid ht;clear ht;by_cases hlt:k<l.length
    · obtain⟨b,off,rfl,_,hc⟩:=H.out (by intro e;simp[e] at hlt);have hc0:=hc k hlt;have hdk:=Qlp HD.out k hlt;obtain⟨hb0,hb1⟩:=QaD hdk;have HS:=Lib.hid (Qey l k hlt);have HN:=Lib.hid (Qez l k hlt);have HK:=Lib.hid hdk;clear hc hdk;generalize l.getD k 0=x at *;generalize Ui (l.take k)=v at *;go_wp2_with (go_at_call 72;refine(Xt _ _ _).mono ?_;rintro e w' ⟨rfl,rfl⟩);refine⟨⟨k+1,by omega,by go_num,by rw[HN.out,HT.out,HK.out];rfl,?_⟩,by simp[intOf];omega⟩;rw[HS.out,Qcn];congr 2;omega
    · go_wp2;go_ret;exact⟨Xg (by rw[List.take_of_length_le (by omega)]),rfl⟩
def irV (code v:Int):Value:=.agg #[.int .i64 code,.int .i64 v]
def QfX (l:List UInt8):Int:=if QaC l=true then 0 else 5
def Z2 (l:List UInt8):Int:=if QaC l=true then Ui l else 0
theorem QeB (l:List UInt8):0≤Z2 l∧Z2 l≤9999999:=by
  unfold Z2;split
  · exact Uj (by assumption)
  · omega
def Ql8 (w:World) (code v:Int) (e:Ending) (w':World):Prop:=e=.returned (irV code v)∧Below w.heap.size w w'
theorem Zs (p:Option Addr) (c:Nat) (l:List UInt8) (w:World) (h:Bs w w.heap.size p l) (hl:l.length≤1048576):
    Calls Tryz.prog 220 #[.slice p l.length c] w (Ql8 w (QfX l) (Z2 l)):=by
  have H:=Lib.hid h;clear h;go_enter Tryz.func220,Tryz.ntmps220;go_wp2
  go_loop [3,5,8] (fun v _ i=>∃k:Nat,k≤l.length∧i=.int .i64 k∧QaC (l.take k)=true∧v=.int .i64 (Ui (l.take k))) (fun _ _ i=>l.length - (intOf i).toNat)
  case atStart=>exact⟨0,by omega,rfl,rfl,rfl⟩
  case round=>
    obtain⟨k,hk,rfl,ht,rfl⟩:=hrel;obtain⟨hv0,hv1⟩:=Uj ht;have HT:=Lib.hid ht;clear ht;by_cases hlt:k<l.length
    · obtain⟨b,off,rfl,hb,hc⟩:=H.out (by intro e;simp[e] at hlt);have hc0:=hc k hlt;have HS:=Lib.hid (Qey l k hlt);have HN:=Lib.hid (Qez l k hlt);have HX:=Lib.hid (Qlo l k hlt);clear hc;generalize l.getD k 0=x at *;generalize Ui (l.take k)=v at *
      cases hx:dgt x with
      | true=>
        obtain⟨hb0,hb1⟩:=QaD hx;have HK:=Lib.hid hx;go_wp2_with (go_at_call 218;refine(Yw _ _).mono ?_;rintro e w' ⟨rfl,rfl⟩);refine⟨⟨k+1,by omega,by go_num,by rw[HN.out,HT.out,HK.out];rfl,?_⟩,by simp[intOf];omega⟩;rw[HS.out,Jk];congr 1;split <;> omega
      | false=>
        have HK:=Lib.hid hx;go_wp2_with (go_at_call 218;refine(Yw _ _).mono ?_;rintro e w' ⟨rfl,rfl⟩);have hz:=HX.out HK.out;refine bodyPost_ret (v:=irV 5 0) (by simp[results,Tryz.results220,irV,go_sem]) rfl ⟨by simp[QfX,Z2,hz],(Below.refl _ _).alloc (Nat.le_refl _) _⟩
    · have hz:QaC l=true:=(by have:=HT.out;rwa [List.take_of_length_le (by omega)] at this);have HZ:=Lib.hid hz;clear hz;go_wp2;refine bodyPost_ret (v:=irV 0 (Ui l)) (by simp[results,Tryz.results220,irV,go_sem];rw[List.take_of_length_le (by omega)]) rfl ⟨by simp[QfX,Z2,HZ.out],(Below.refl _ _).alloc (Nat.le_refl _) _⟩
def sp:List UInt8→List (List UInt8)
  | []=>[[]]
  | c::r=>if c=59 then []::sp r else match sp r with
    | p::ps=>(c::p)::ps
    | []=>[[c]]
def Yx (l:List UInt8):List (List UInt8):=if l=[] then [] else sp l
theorem QfY:∀(l:List UInt8),(59:UInt8)∉l→sp l=[l]
  | [],_=>rfl
  | c::r,h=>by
    simp at h;rw[sp,if_neg (fun e=>h.1 e.symm),QfY r h.2]
theorem QfZ:∀(a b:List UInt8),(59:UInt8)∉a→sp (a++59::b)=a::sp b
  | [],b,_=>by simp[sp]
  | c::a,b,h=>by
    simp at h;rw[List.cons_append,sp,if_neg (fun e=>h.1 e.symm),QfZ a b h.2]
theorem QlP (l:List UInt8):sp l≠[]:=by
  cases l with
  | nil=>simp[sp]
  | cons c r=>
    rw[sp];split
    · simp
    · split <;> simp
theorem JT:∀(l:List UInt8),(Lib.indexByte l 59= -1∧(59:UInt8)∉l)∨∃a b,l=a++59::b∧(59:UInt8)∉a∧Lib.indexByte l 59=(a.length:Int)
  | []=>.inl ⟨rfl,by simp⟩
  | c::r=>by
    by_cases hc:c=59
    · subst hc;exact .inr ⟨[],r,rfl,by simp,by simp[Lib.indexByte]⟩
    · rcases JT r with⟨h1,h2⟩ | ⟨a,b,rfl,h2,h3⟩
      · refine .inl ⟨?_,?_⟩
        · simp[Lib.indexByte,hc,h1]
        · simp[h2];exact fun e=>hc e.symm
      · refine .inr ⟨c::a,b,rfl,?_,?_⟩
        · simp[h2];exact fun e=>hc e.symm
        · have:¬((a.length:Int)= -1):=(by omega);simp[Lib.indexByte,hc,h3,this]
theorem Bs.cut {w:World} {B:Nat} {p:Option Addr} {l:List UInt8} (h:Bs w B p l) (k j c:Nat) (hj:j≤l.length) (hc:l.length≤c):
    Bs w B (if c=k then p else p.map (·.add k)) ((l.take j).drop k):=by
  intro hne;have hlen:0<((l.take j).drop k).length:=List.length_pos_iff.2 hne;simp at hlen;obtain⟨b,off,rfl,hb,hcell⟩:=h (by intro e;simp[e] at hlen);rw[if_neg (by omega)];refine⟨b,off+k,?_,hb,fun i hi=>?_⟩
  · simp only[Option.map_some,Addr.add];split
    · rename_i e;simp[e]
    · rfl
  · simp at hi;rw[Nat.add_assoc,hcell (k+i) (by omega)];simp[List.getD_eq_getElem?_getD,List.getElem?_drop,show k+i<j by omega]
theorem Z3 (p:Option Addr):p.map (·.add 0)=p:=by cases p <;> simp[Addr.add]
theorem QeC (l:List UInt8):Lib.bytesOf (l.map fun x:UInt8=>(x.toNat:Int))=l:=by
  simp[Lib.bytesOf,List.map_map,Function.comp_def]
theorem Uk {P:Program} (w:World) (a:Addr) (c:Nat) (cv:Int):
    (Extern.BytealgIndexByte.indexByte #[.slice (some a) 0 c,.int .u8 cv]).run P w=.ok (.int .i64 (-1)) w:=by
  have hs:=Lib.run_indexByteString (P:=P) .empty cv w;exact hs
theorem Qf0 {P:Program} (w:World) {B:Nat} (p:Option Addr) (c:Nat) (l:List UInt8) (h:Bs w B p l):
    (Extern.BytealgIndexByte.indexByte #[.slice p l.length c,.int .u8 59]).run P w=.ok (.int .i64 (Lib.indexByte l 59)) w:=by
  by_cases hl:l=[]
  · subst hl
    cases p with
    | none=>exact Lib.run_indexByteNil w 0 c 59
    | some a=>exact Uk w a c 59
  · obtain⟨b,off,rfl,_,hc⟩:=h hl;have:=Lib.run_indexByteSlice (P:=P) w b off l.length c (l.map fun x:UInt8=>(x.toNat:Int)) (by simp) (fun i hi=>by rw[hc i hi];simp[hi]) 59;rw[QeC] at this;exact this
theorem Vn (p:Option Addr) (c:Nat) (l:List UInt8) (w:World) {B:Nat} (h:Bs w B p l):
    Calls Tryz.prog 238 #[.slice p l.length c,.int .u8 59] w fun e w'=>e=.returned (.int .i64 (Lib.indexByte l 59))∧w=w':=by
  have H:=Lib.hid h;clear h;go_enter Tryz.func238,Tryz.ntmps238;go_wp2;rw[run_callFunc_extern Tryz.func242 (by kernel_rfl) (by kernel_rfl) (by kernel_rfl) (e:=Extern.BytealgIndexByte.indexByte) (by kernel_rfl),Qf0 w p c l H.out];simp only[Result.andThen];rw[Oper.upon_value];go_wp2;go_ret;exact⟨rfl,rfl⟩
theorem Kz (p:Option Addr) (c b2:Nat) (l:List UInt8) (w:World) {B:Nat} (h:Bs w B p l) (h2:w.cell? ⟨b2,0,none⟩=some (.int .u8 59)):
    Calls Tryz.prog 235 #[.slice p l.length c,.slice (some ⟨b2,0,none⟩) 1 1] w fun e w'=>e=.returned (.int .i64 (Lib.indexByte l 59))∧w=w':=by
  have H:=Lib.hid h;clear h;go_enter Tryz.func235,Tryz.ntmps235;go_wp2_with (go_at_call 238;refine(Vn _ _ _ _ H.out).mono ?_;rintro e w' ⟨rfl,rfl⟩);go_ret;exact⟨rfl,rfl⟩
theorem KA (p:Option Addr) (c b2 n:Nat) (l:List UInt8) (w:World) {B:Nat} (hn:n=l.length) (h:Bs w B p l) (h2:w.cell? ⟨b2,0,none⟩=some (.int .u8 59)):
    Calls Tryz.prog 235 #[.slice p n c,.slice (some ⟨b2,0,none⟩) 1 1] w fun e w'=>e=.returned (.int .i64 (Lib.indexByte l 59))∧w=w':=by
  subst hn;exact Kz p c b2 l w h h2
def Qjp (w:World) (B:Nat) (p:Option Addr) (c:Nat) (l:List UInt8) (e:Ending) (w':World):Prop:=
  ((59:UInt8)∉l∧e=.returned (.tuple #[.slice p l.length c,.slice none 0 0,.bool false])∧∃n,w'=w.drewN n)∨
  ∃(a b:List UInt8) (p1 p2:Option Addr) (c2:Nat),l=a++59::b∧(59:UInt8)∉a∧e=.returned (.tuple #[.slice p1 a.length c,.slice p2 b.length c2,.bool true])∧
    Bs w B p1 a∧Bs w B p2 b∧b.length≤c2∧∃n,w'=w.drewN n
theorem Qks {w w':World} {B:Nat} {p:Option Addr} {c n:Nat} {a b:List UInt8} (h:Bs w B p (a++59::b)) (hc:(a++59::b).length≤c) (hn:(59:UInt8)∉a) {p1 p2:Option Addr} {n1 n2 c2:Nat}
    (e1:p1=if c=0 then p else p.map (·.add 0)) (e2:p2=if c=a.length+1 then p else p.map (·.add (a.length+1))) (en1:n1=a.length) (en2:n2=b.length) (ec2:c2=c - (a.length+1)) (hw:w'=w.drewN n):
    Qjp w B p c (a++59::b) (.returned (.tuple #[.slice p1 n1 c,.slice p2 n2 c2,.bool true])) w':=by
  subst en1;subst en2;refine .inr ⟨a,b,p1,p2,c2,rfl,hn,rfl,?_,?_,?_,n,hw⟩
  · have:=h.cut 0 a.length c (by simp) hc;rw[e1];simpa using this
  · have:=h.cut (a.length+1) (a.length+(b.length+1)) c (by simp) hc;rw[e2];rw[List.take_of_length_le (by simp)] at this;simpa using this
  · simp at hc;omega
theorem QeD (p:Option Addr) (c b2:Nat) (l:List UInt8) (w:World) {B:Nat} (h:Bs w B p l) (hc:l.length≤c) (hl:l.length≤1048576) (h2:w.cell? ⟨b2,0,none⟩=some (.int .u8 59)):
    Calls Tryz.prog 229 #[.slice p l.length c,.slice (some ⟨b2,0,none⟩) 1 1] w (Qjp w B p c l):=by
  have H:=Lib.hid h;have H2:=Lib.hid h2;clear h h2;rcases JT l with⟨hi,hn⟩ | ⟨a,b,rfl,hn,hi⟩
  · have HI:=Lib.hid hi;have HN:=Lib.hid hn;clear hi hn;go_enter Tryz.func229,Tryz.ntmps229;go_wp2_with (go_at_call 235;refine(Kz _ _ _ _ _ H.out H2.out).mono ?_;rw[HI.out];rintro e w' ⟨rfl,rfl⟩);exact bodyPost_ret (v:=.tuple #[.slice p l.length c,.slice none 0 0,.bool false]) (by simp[results,Tryz.results229,go_sem]) rfl (.inl ⟨HN.out,rfl,0,rfl⟩)
  · have HI:=Lib.hid hi;have HC:=Lib.hid (fun w' n p1 p2 n1 n2 c2=>Qks (w':=w') (n:=n) (p1:=p1) (p2:=p2) (n1:=n1) (n2:=n2) (c2:=c2) H.out hc hn);clear hi hn;have hal:a.length+1≤(a++59::b).length:=(by simp);have HL:=Lib.hid (show(a++59::b).length=a.length+(b.length+1) by simp);obtain⟨m,hm⟩:∃m,m=(a++59::b).length:=⟨_,rfl⟩;rw[←hm] at hal hl hc;rw[show(a++59::b).length=m from hm.symm];have HM:=Lib.hid hm;clear hm;by_cases hcc:c=a.length+1
    · have HCC:=Lib.hid hcc;subst hcc;go_enter Tryz.func229,Tryz.ntmps229;go_wp2_with (go_at_call 235;refine(KA _ _ _ _ _ _ HM.out H.out H2.out).mono ?_;rw[HI.out];rintro e w' ⟨rfl,rfl⟩)
      go_quiet (fail)
      go_wp2;refine bodyPost_ret (v:=.tuple #[_,_,.bool true]) (by simp[results,Tryz.results229,go_sem];exact⟨rfl,rfl⟩) rfl ?_;have hmm:=HM.out;rw[HL.out] at hmm;exact HC.out _ nq _ _ _ _ _ (by rw[if_neg (by omega),Z3]) (by rw[if_pos trivial]) rfl (by omega) (by omega) rfl
    · have hcd:¬(c=0):=(by omega);go_enter Tryz.func229,Tryz.ntmps229;go_wp2_with (go_at_call 235;refine(KA _ _ _ _ _ _ HM.out H.out H2.out).mono ?_;rw[HI.out];rintro e w' ⟨rfl,rfl⟩)
      go_quiet (fail)
      go_wp2;refine bodyPost_ret (v:=.tuple #[_,_,.bool true]) (by simp[results,Tryz.results229,go_sem];exact⟨rfl,rfl⟩) rfl ?_;have hmm:=HM.out;rw[HL.out] at hmm;exact HC.out _ nq _ _ _ _ _ (by rw[if_neg (by omega),Z3]) (by rw[if_neg (by omega)];simp[Addr.add]) rfl (by omega) (by omega) rfl
end Go.Proofs.YtbfickdgjgbfhaaGreatDoor
