/- MouseOfParts of the program. -/
import Derived.Test.YtbfickdgjgbfhaaGreatDoorQSpecKey3
set_option maxRecDepth 100000
set_option maxHeartbeats 4000000
namespace Go.Proofs.YtbfickdgjgbfhaaGreatDoor
open Go.RowKit
def Qar (n f:Int):Int×Bool:=
  if f=109∧0≤n∧n≤31 then (2,true) else if f=77∧0≤n∧n≤31 then (1,true) else if f=77∧32≤n∧n≤63 then (3,true) else (0,false)
def Xj (n a c r:Int):Ev:=⟨2,0,(n.tdiv 4).tmod 8,n.tmod 4,a,c - 1,r - 1,[]⟩
def QO (n a c r s:Int):Tk:=⟨0,Xj n a c r,s,false,false⟩
def Zx (n c r f s:Int):Tk:=if (Qar n f).2=true∧¬n.tmod 4=3∧inR c 1 200=true∧inR r 1 200=true then QO n (Qar n f).1 c r s else Qf 5
def Xk (r:Pt):Tk:=if r.code=0∧r.priv=true then (match r.nums with
  | [n,c,w]=>Zx n c w r.fin r.size
  | _=>Qf 5) else Qf 5
theorem Qbe (r:Pt):(Xk r).ev.data=[]:=by
  unfold Xk;split
  · split
    · unfold Zx;split <;> rfl
    · rfl
  · rfl
theorem Qbf (n f:Int) (w:World):Calls Tryz.prog 213 #[.int .i64 n,.int .u8 f] w fun e w'=>e=.returned (.tuple #[.int .i64 (Qar n f).1,.bool (Qar n f).2])∧Below w.heap.size w w':=by
  unfold Qar;by_cases h1:f=109
  · subst h1
    cases hi:inR n 0 31
    · rw[if_neg (by simp[inR] at hi;omega),if_neg (by omega),if_neg (by omega)];go_enter Tryz.func213,Tryz.ntmps213;go_wp2_with (go_at_call 63;refine(Qv _ _ _ _ _ _ (by simp)).mono ?_;rintro e w' ⟨rfl,rfl⟩;rw[hi])
      go_ret2
      exact⟨rfl,Qb _ _⟩
    · rw[if_pos (by simp[inR] at hi;omega)];go_enter Tryz.func213,Tryz.ntmps213;go_wp2_with (go_at_call 63;refine(Qv _ _ _ _ _ _ (by simp)).mono ?_;rintro e w' ⟨rfl,rfl⟩;rw[hi])
      go_ret2
      exact⟨rfl,Qb _ _⟩
  by_cases h2:f=77
  · subst h2;rw[if_neg (by omega)]
    cases hi:inR n 0 31
    · rw[if_neg (by simp[inR] at hi;omega)]
      cases hj:inR n 32 63
      · rw[if_neg (by simp[inR] at hj;omega)];go_enter Tryz.func213,Tryz.ntmps213;go_wp2_with (go_at_call 63;refine(Qv _ _ _ _ _ _ (by simp)).mono ?_;rintro e w' ⟨rfl,rfl⟩;first | rw[hi] | rw[hj])
        go_ret2
        exact⟨rfl,Qa (Qb _ _) (Qb _ _)⟩
      · rw[if_pos (by simp[inR] at hj;omega)];go_enter Tryz.func213,Tryz.ntmps213;go_wp2_with (go_at_call 63;refine(Qv _ _ _ _ _ _ (by simp)).mono ?_;rintro e w' ⟨rfl,rfl⟩;first | rw[hi] | rw[hj])
        go_ret2
        exact⟨rfl,Qa (Qb _ _) (Qb _ _)⟩
    · rw[if_pos (by simp[inR] at hi;omega)];go_enter Tryz.func213,Tryz.ntmps213;go_wp2_with (go_at_call 63;refine(Qv _ _ _ _ _ _ (by simp)).mono ?_;rintro e w' ⟨rfl,rfl⟩;rw[hi])
      go_ret2
      exact⟨rfl,Qb _ _⟩
  · rw[if_neg (by omega),if_neg (by omega),if_neg (by omega)];go_enter Tryz.func213,Tryz.ntmps213;go_wp2
    go_ret2
    exact⟨rfl,Below.refl _ _⟩
theorem Xl (p:Option Addr) (c n:Nat) (code size fin:Int) (priv:Bool) (w:World) (hn:n≤4) (hb:(code==0)=false∨((code==0)=true∧priv=false)∨((code==0)=true∧priv=true∧n≠3)):
    Calls Tryz.prog 199 #[.agg #[.int .i64 code,.bool priv,.slice p n c,.int .u8 fin,.int .i64 size]] w (Qm w (Qf 5)):=by
  have hx:(code != 0)=!(code==0):=rfl;have HE:∀(A:Obj),Hid (Qm w (Qf 5) (.returned (tkV (Qf 5) (.slice none 0 0))) ((w.alloc A).alloc (.cells (tkL (Qf 5) (.slice none 0 0)).toArray 90))):=fun A=>⟨rfl,Qa (Qb _ _) (Qb _ _)⟩;rcases hb with h1 | ⟨h1,h2⟩ | ⟨h1,h2,h3⟩
  · rw[h1] at hx;go_enter Tryz.func199,Tryz.ntmps199;go_wp2;refine bodyPost_ret (v:=tkV (Qf 5) (.slice none 0 0)) ?_ rfl (HE _).out;simp[results,Tryz.results199,tkV,Qf,Xy,go_sem]
  · rw[h1] at hx;subst h2;go_enter Tryz.func199,Tryz.ntmps199;go_wp2;refine bodyPost_ret (v:=tkV (Qf 5) (.slice none 0 0)) ?_ rfl (HE _).out;simp[results,Tryz.results199,tkV,Qf,Xy,go_sem]
  · rw[h1] at hx;subst h2;have:n=0∨n=1∨n=2∨n=4:=(by omega);rcases this with rfl | rfl | rfl | rfl;all_goals
      go_enter Tryz.func199,Tryz.ntmps199;go_wp2;refine bodyPost_ret (v:=tkV (Qf 5) (.slice none 0 0)) ?_ rfl (HE _).out;simp[results,Tryz.results199,tkV,Qf,Xy,go_sem]
theorem Y1 {W w1:World} {n:Nat} (h:Below (W.drewN n).heap.size (W.drewN n) w1):Below W.heap.size W w1:=Below.trans (B:=W.heap.size) (Qc (Below.refl _ _) n) h
theorem Yr (b off c:Nat) (n x y a:Int) (d:Bool) (size fin:Int) (w:World) (hb:b<w.heap.size) (hc0:w.cell? ⟨b,off,none⟩=some (.int .i64 n)) (hc1:w.cell? ⟨b,off+1,none⟩=some (.int .i64 x)) (hc2:w.cell? ⟨b,off+2,none⟩=some (.int .i64 y)) (HA:Hid (∀w,Calls Tryz.prog 213 #[.int .i64 n,.int .u8 fin] w fun e w'=>e=.returned (.tuple #[.int .i64 a,.bool d])∧Below w.heap.size w w')) (hd:d=false∨(d=true∧(n.tmod 4==3)=true)∨(d=true∧(n.tmod 4==3)=false∧inR x 1 200=false)∨(d=true∧(n.tmod 4==3)=false∧inR x 1 200=true∧inR y 1 200=false)):
    Calls Tryz.prog 199 #[.agg #[.int .i64 0,.bool true,.slice (some ⟨b,off,none⟩) 3 c,.int .u8 fin,.int .i64 size]] w (Qm w (Qf 5)):=by
  rcases hd with rfl | ⟨rfl,h1⟩ | ⟨rfl,h1,h2⟩ | ⟨rfl,h1,h2,h3⟩
  · go_enter Tryz.func199,Tryz.ntmps199;go_wp2_with fail
    go_quiet (fail)
    go_wp2_with fail;refine(HA.out _).mono ?_;rintro e w1 ⟨rfl,hb1⟩;replace hb1:=Y1 hb1;have HB1:=Lib.hid hb1;obtain⟨hcc,hf⟩:=Qq hb1;clear hb1;have HE:Hid (Qm w (Qf 5) (.returned (tkV (Qf 5) (.slice none 0 0))) (sets w1 (w.heap.size+1) 0 (tkL (Qf 5) (.slice none 0 0)))):=Qx (tkL (Qf 5) (.slice none 0 0)) HB1.out;go_wp2_with fail;refine bodyPost_ret (v:=tkV (Qf 5) (.slice none 0 0)) ?_ rfl HE.out;simp[results,Tryz.results199,tkV,Qf,Xy,go_sem,hcc]
  · go_enter Tryz.func199,Tryz.ntmps199;go_wp2_with fail
    go_quiet (fail)
    go_wp2_with fail;refine(HA.out _).mono ?_;rintro e w1 ⟨rfl,hb1⟩;replace hb1:=Y1 hb1;have HB1:=Lib.hid hb1;obtain⟨hcc,hf⟩:=Qq hb1;clear hb1;have HE:Hid (Qm w (Qf 5) (.returned (tkV (Qf 5) (.slice none 0 0))) (sets w1 (w.heap.size+1) 0 (tkL (Qf 5) (.slice none 0 0)))):=Qx (tkL (Qf 5) (.slice none 0 0)) HB1.out;go_wp2_with fail;refine bodyPost_ret (v:=tkV (Qf 5) (.slice none 0 0)) ?_ rfl HE.out;simp[results,Tryz.results199,tkV,Qf,Xy,go_sem,hcc]
  · go_enter Tryz.func199,Tryz.ntmps199;go_wp2_with fail
    go_quiet (fail)
    go_wp2_with fail;refine(HA.out _).mono ?_;rintro e w1 ⟨rfl,hb1⟩;replace hb1:=Y1 hb1;have HB1:=Lib.hid hb1;obtain⟨hcc,hf⟩:=Qq hb1;clear hb1;go_wp2_with fail;refine(Qv x 1 200 w1 _ _ (by simp)).mono ?_;rintro e w2 ⟨rfl,hw2⟩;rw[h2];have HB2:=Lib.hid (HB1.out.trans ((show Below w1.heap.size w1 w2 by rw[←hw2];exact Qb _ _).mono HB1.out.size));clear hcc hf hw2;obtain⟨hcc,hf⟩:=Qq HB2.out;have HE:Hid (Qm w (Qf 5) (.returned (tkV (Qf 5) (.slice none 0 0))) (sets w2 (w.heap.size+1) 0 (tkL (Qf 5) (.slice none 0 0)))):=Qx (tkL (Qf 5) (.slice none 0 0)) HB2.out;go_wp2_with fail;refine bodyPost_ret (v:=tkV (Qf 5) (.slice none 0 0)) ?_ rfl HE.out;simp[results,Tryz.results199,tkV,Qf,Xy,go_sem,hcc]
  · go_enter Tryz.func199,Tryz.ntmps199;go_wp2_with fail
    go_quiet (fail)
    go_wp2_with fail;refine(HA.out _).mono ?_;rintro e w1 ⟨rfl,hb1⟩;replace hb1:=Y1 hb1;have HB1:=Lib.hid hb1;obtain⟨hcc,hf⟩:=Qq hb1;clear hb1;go_wp2_with fail;refine(Qv x 1 200 w1 _ _ (by simp)).mono ?_;rintro e w2 ⟨rfl,hw2⟩;rw[h2];have HB2:=Lib.hid (HB1.out.trans ((show Below w1.heap.size w1 w2 by rw[←hw2];exact Qb _ _).mono HB1.out.size));clear hcc hf hw2;obtain⟨hcc,hf⟩:=Qq HB2.out;go_wp2_with fail;refine(Qv y 1 200 w2 _ _ (by simp)).mono ?_;rintro e w3 ⟨rfl,hw3⟩;rw[h3];have HB3:=Lib.hid (HB2.out.trans ((show Below w2.heap.size w2 w3 by rw[←hw3];exact Qb _ _).mono HB2.out.size));clear hcc hf hw3;obtain⟨hcc,hf⟩:=Qq HB3.out;have HE:Hid (Qm w (Qf 5) (.returned (tkV (Qf 5) (.slice none 0 0))) (sets w3 (w.heap.size+1) 0 (tkL (Qf 5) (.slice none 0 0)))):=Qx (tkL (Qf 5) (.slice none 0 0)) HB3.out;go_wp2_with fail;refine bodyPost_ret (v:=tkV (Qf 5) (.slice none 0 0)) ?_ rfl HE.out;simp[results,Tryz.results199,tkV,Qf,Xy,go_sem,hcc]
theorem VD (b off c:Nat) (n x y a:Int) (d:Bool) (size fin:Int) (w:World) (hb:b<w.heap.size) (hc0:w.cell? ⟨b,off,none⟩=some (.int .i64 n)) (hc1:w.cell? ⟨b,off+1,none⟩=some (.int .i64 x)) (hc2:w.cell? ⟨b,off+2,none⟩=some (.int .i64 y)) (HA:Hid (∀w,Calls Tryz.prog 213 #[.int .i64 n,.int .u8 fin] w fun e w'=>e=.returned (.tuple #[.int .i64 a,.bool d])∧Below w.heap.size w w')) (hd:d=true) (h1:(n.tmod 4==3)=false) (h2:inR x 1 200=true) (h3:inR y 1 200=true) (hn:0≤n) (hn2:n≤9999999):
    Calls Tryz.prog 199 #[.agg #[.int .i64 0,.bool true,.slice (some ⟨b,off,none⟩) 3 c,.int .u8 fin,.int .i64 size]] w (Qm w (QO n a x y size)):=by
  have hx:1≤x∧x≤200:=(by simpa [inR] using h2);have hy:1≤y∧y≤200:=(by simpa [inR] using h3);subst hd;have hwr:IntKind.i64.wrap (n.tdiv 4)=n.tdiv 4:=by
    rw[Int.tdiv_eq_ediv_of_nonneg hn];exact IntWalk.i64_in _ ⟨by omega,by omega⟩
  clear hn hn2;go_enter Tryz.func199,Tryz.ntmps199;go_wp2_with fail
  go_quiet (fail)
  go_wp2_with fail;refine(HA.out _).mono ?_;rintro e w1 ⟨rfl,hb1⟩;replace hb1:=Y1 hb1;have HB1:=Lib.hid hb1;obtain⟨hcc,hf⟩:=Qq hb1;clear hb1;go_wp2_with fail;refine(Qv x 1 200 w1 _ _ (by simp)).mono ?_;rintro e w2 ⟨rfl,hw2⟩;rw[h2];have HB2:=Lib.hid (HB1.out.trans ((show Below w1.heap.size w1 w2 by rw[←hw2];exact Qb _ _).mono HB1.out.size));clear hcc hf hw2;obtain⟨hcc,hf⟩:=Qq HB2.out;go_wp2_with fail;refine(Qv y 1 200 w2 _ _ (by simp)).mono ?_;rintro e w3 ⟨rfl,hw3⟩;rw[h3];have HB3:=Lib.hid (HB2.out.trans ((show Below w2.heap.size w2 w3 by rw[←hw3];exact Qb _ _).mono HB2.out.size));clear hcc hf hw3;obtain⟨hcc,hf⟩:=Qq HB3.out;have hs3:=HB3.out.size;simp only[World.size_alloc] at hs3;have l0:w.heap.size<w3.heap.size:=(by omega);have l1:w.heap.size+1<w3.heap.size:=(by omega);have n0:¬w.heap.size=w3.heap.size:=(by omega);have n1:¬w.heap.size+1=w3.heap.size:=(by omega);clear hs3;go_wp2_with fail;have HE:∀A:Obj,Hid (Qm w (QO n a x y size) (.returned (tkV (QO n a x y size) (.slice none 0 0))) ((sets w3 (w.heap.size+1) 0 (tkL (QO n a x y size) (.slice none 0 0))).alloc A)):=fun A=>⟨rfl,Qa (Qx (t:=QO n a x y size) (tkL (QO n a x y size) (.slice none 0 0)) HB3.out).2 (Qb _ A)⟩;refine bodyPost_ret (v:=tkV (QO n a x y size) (.slice none 0 0)) ?_ rfl (HE _).out;simp[results,Tryz.results199,tkV,QO,Xj,go_sem,hcc,l1]
theorem Zy (r:Pt) (p:Option Addr) (c:Nat) (w:World) (h:Is w w.heap.size p r.nums) (hl:r.nums.length≤4) (hN:∀x∈r.nums,0≤x∧x≤9999999):
    Calls Tryz.prog 199 #[ptV r (.slice p r.nums.length c)] w (Qm w (Xk r)):=by
  obtain⟨code,priv,nums,fin,size⟩:=r;dsimp only at *;unfold ptV Xk;dsimp only;by_cases h1:code=0
  · by_cases h2:priv=true
    · rw[if_pos ⟨h1,h2⟩];subst h1 h2
      match nums,h,hl,hN with
      | [],_,_,_=>exact Xl p c 0 0 size fin true w (by omega) (.inr (.inr ⟨rfl,rfl,by omega⟩))
      | [_],_,_,_=>exact Xl p c 1 0 size fin true w (by omega) (.inr (.inr ⟨rfl,rfl,by omega⟩))
      | [_,_],_,_,_=>exact Xl p c 2 0 size fin true w (by omega) (.inr (.inr ⟨rfl,rfl,by omega⟩))
      | [n,x,y],h,_,hN=>
        obtain⟨g,off,rfl,hg,hc⟩:=h.cons;have hc0:=hc 0 (by simp);have hc1:=hc 1 (by simp);have hc2:=hc 2 (by simp);have hn:=hN n (by simp);show Calls _ _ _ _ (Qm w (Zx n x y fin size));unfold Zx;have HA:Hid (∀w,Calls Tryz.prog 213 #[.int .i64 n,.int .u8 fin] w fun e w'=>e=.returned (.tuple #[.int .i64 (Qar n fin).1,.bool (Qar n fin).2])∧Below w.heap.size w w'):=Lib.hid (fun w=>Qbf n fin w);by_cases d1:(Qar n fin).2=true
        · by_cases d2:n.tmod 4=3
          · rw[if_neg (by simp[d2])];exact Yr g off c n x y _ _ size fin w hg hc0 hc1 hc2 HA (.inr (.inl ⟨d1,by simp[d2]⟩))
          · by_cases d3:inR x 1 200=true
            · by_cases d4:inR y 1 200=true
              · rw[if_pos ⟨d1,d2,d3,d4⟩];exact VD g off c n x y _ _ size fin w hg hc0 hc1 hc2 HA d1 (by simp[d2]) d3 d4 hn.1 hn.2
              · rw[if_neg (fun hh=>d4 hh.2.2.2)];exact Yr g off c n x y _ _ size fin w hg hc0 hc1 hc2 HA (.inr (.inr (.inr ⟨d1,by simp[d2],d3,by simpa using d4⟩)))
            · rw[if_neg (fun hh=>d3 hh.2.2.1)];exact Yr g off c n x y _ _ size fin w hg hc0 hc1 hc2 HA (.inr (.inr (.inl ⟨d1,by simp[d2],by simpa using d3⟩)))
        · rw[if_neg (fun hh=>d1 hh.1)];exact Yr g off c n x y _ _ size fin w hg hc0 hc1 hc2 HA (.inl (by simpa using d1))
      | [_,_,_,_],_,_,_=>exact Xl p c 4 0 size fin true w (by omega) (.inr (.inr ⟨rfl,rfl,by omega⟩))
      | _::_::_::_::_::_,_,hl,_=>exact absurd hl (by simp)
    · rw[if_neg (fun hh=>h2 hh.2)];exact Xl p c nums.length code size fin priv w hl (.inr (.inl ⟨by simp[h1],by simpa using h2⟩))
  · rw[if_neg (fun hh=>h1 hh.1)];exact Xl p c nums.length code size fin priv w hl (.inl (by simpa using h1))
end Go.Proofs.YtbfickdgjgbfhaaGreatDoor
