/- Facts on tokens as plain data: their events are events, their sizes lie within the data. -/
import Derived.Test.YtbfickdgjgbfhaaGreatDoorQFlush3ToFlush4
import Derived.Test.YtbfickdgjgbfhaaGreatDoorQFirstPureToFirstBack
set_option linter.unusedVariables false
namespace Go.Proofs.YtbfickdgjgbfhaaGreatDoor
open Go.RowKit
theorem JC {c m:Int} (hc:Xi c=true) (h0:0≤m) (h7:m≤7):(QL c m).fault=0:=by
  have hf:(QL c m).form=true:=rfl;have ht:(QL c m).fits=true:=rfl;have hn:(QL c m).nums=true:=by
    show(Xi c&&inR m 0 7)=true;rw[hc];simp[inR,h0,h7]
  exact Ug hf hn ht
theorem Qgt {d:List UInt8} (h0:1≤d.length) (h1:d.length≤24):(QS d).fault=0:=by
  have hf:(QS d).form=true:=rfl;have hn:(QS d).nums=true:=rfl;have ht:(QS d).fits=true:=by
    show inR (d.length:Int) 1 24=true;simp[inR];omega
  exact Ug hf hn ht
theorem VS {d:List UInt8} (h0:1≤d.length) (h1:d.length≤32):(QX d).fault=0:=by
  have hf:(QX d).form=true:=rfl;have hn:(QX d).nums=true:=rfl;have ht:(QX d).fits=true:=by
    show inR (d.length:Int) 1 32=true;simp[inR];omega
  exact Ug hf hn ht
theorem YC {c:Int} (h:2000001≤c∧c≤2000014):Xi c=true:=by
  unfold Xi Qh inR;simp[h]
theorem YG {c:Int} (hp:Yq c=true) (h:32≤c) (h7:¬c=127):Xi c=true:=by
  unfold Xi;simp[hp,h,h7]
theorem QbO {c:Int} (h0:0≤c) (h1:c≤255):Yq c=true:=by
  simp[Yq,inR];omega
theorem J3 (c:Int) (h:¬QJ c=0):2000001≤QJ c∧QJ c≤2000014:=by
  revert h;unfold QJ;repeat' split
  all_goals simp
theorem QcG (c:Int) (h:¬XH c=0):2000001≤XH c∧XH c≤2000014:=by
  revert h;unfold XH;repeat' split
  all_goals simp
theorem QhQ (n:Int) (h:(Zm n).2=true):Xi (Zm n).1=true:=by
  revert h;unfold Zm;by_cases hx:n=13∨n=9∨n=127∨n=27
  · rw[if_pos hx];intro _;rcases hx with rfl | rfl | rfl | rfl <;> rfl
  · rw[if_neg hx];intro h;simp only[Bool.and_eq_true,decide_eq_true_eq] at h;exact YG h.1 h.2 (by omega)
theorem QhR (l:List Int) (f:Int) (h:(YZ l f).2=true):Xi (YZ l f).1=true:=by
  revert h;unfold YZ;split
  · split
    · simp
    · split
      · intro h;exact YC (QcG _ (by simpa using h))
      · exact QhQ _
  · intro h;simp only[Bool.and_eq_true,bne_iff_ne] at h;exact YC (J3 _ h.1)
theorem Qgu (l:List Int) (h:(Ze l).2=true):0≤(Ze l).1∧(Ze l).1≤7:=by
  revert h;unfold Ze;split
  · simp
  · simp
  · split
    · intro _;dsimp only;omega
    · simp
  · simp
theorem QhS (r:Pt) (h:(Zv r).code=0):(Zv r).ev.fault=0∧(Zv r).ev.kind=1:=by
  revert h;unfold Zv;split
  · rename_i hh;intro _;have hm:=Qgu _ hh.2.2.1;exact⟨JC (QhR _ _ hh.2.2.2) hm.1 hm.2,rfl⟩
  · intro h;exact absurd h (by simp[Qf])
theorem QhT (n f:Int) (h:(Qar n f).2=true):1≤(Qar n f).1∧(Qar n f).1≤3:=by
  revert h;unfold Qar;repeat' split
  all_goals simp
theorem Qfb (n x y f s:Int) (hn:0≤n) (h:(Zx n x y f s).code=0):(Zx n x y f s).ev.fault=0∧(Zx n x y f s).ev.kind=2:=by
  revert h;unfold Zx;split
  · rename_i hh;intro _;have:=(Qbv n (Qar n f).1 x y hn (QhT n f hh.1)).2 hh.2;have e:(Xj n (Qar n f).1 x y).fault=0:=(by simpa using this);exact⟨e,rfl⟩
  · intro h;exact absurd h (by simp[Qf])
theorem Qfc (r:Pt) (hN:∀x∈r.nums,0≤x∧x≤9999999) (h:(Xk r).code=0):(Xk r).ev.fault=0∧(Xk r).ev.kind=2:=by
  obtain⟨code,priv,nums,fin,size⟩:=r;revert h;unfold Xk;dsimp only at *;split
  · split
    · intro h;exact Qfb _ _ _ _ _ (hN _ (by simp)).1 h
    · intro h;exact absurd h (by simp[Qf])
  · intro h;exact absurd h (by simp[Qf])
theorem QhU (b:Int) (h0:0≤b) (h:(Y9 b).code=0):(Y9 b).ev.fault=0∧(Y9 b).ev.kind=1:=by
  revert h;unfold Y9;repeat' split
  all_goals intro h
  · exact⟨rfl,rfl⟩
  · exact⟨rfl,rfl⟩
  · exact⟨rfl,rfl⟩
  · exact⟨rfl,rfl⟩
  · exact⟨rfl,rfl⟩
  · exact⟨JC (YG (by simp[Yq,inR];omega) (by omega) (by omega)) (by omega) (by omega),rfl⟩
  · exact⟨JC (YG (by simp[Yq,inR];omega) (by omega) (by omega)) (by omega) (by omega),rfl⟩
  · exact absurd h (by simp[Qf])
def J4 (t:Tk) (n:Nat):Prop:=(∃k:Nat,t.size=(k:Int)∧1≤k∧k≤n)∧(t.none=true∨t.ev.fault=0)
theorem ZJ {l:List UInt8} {k n:Nat} (h0:1≤k) (hk:k≤l.length) (h24:k≤24) (hn:k≤n):J4 (Zd (l.take k)) n:=by
  have e:(l.take k).length=k:=(by simp;omega);refine⟨⟨k,by show((l.take k).length:Int)=k;rw[e],h0,hn⟩,.inr (Qgt (by omega) (by omega))⟩
theorem ZK {c m:Int} {k n:Nat} (hc:Xi c=true) (h0:0≤m) (h7:m≤7) (hk:1≤k) (hn:k≤n):J4 (Qo c m k) n:=
  ⟨⟨k,rfl,hk,hn⟩,.inr (JC hc h0 h7)⟩
theorem QjY (r:Pt) (h:(Zv r).code=0):(Zv r).size=r.size:=by
  revert h;unfold Zv;split
  · intro _;rfl
  · intro h;exact absurd h (by simp[Qf])
theorem Qgv (r:Pt) (h:(Xk r).code=0):(Xk r).size=r.size:=by
  revert h;unfold Xk;split
  · split
    · unfold Zx;split
      · intro _;rfl
      · intro h;exact absurd h (by simp[Qf])
    · intro h;exact absurd h (by simp[Qf])
  · intro h;exact absurd h (by simp[Qf])
theorem Qgw (l:List UInt8) (h2:2≤l.length) (h:(Zz l).code=0):J4 (Zz l) l.length:=by
  revert h;unfold Zz;have hkinds:=Us ((l.take 24).drop 2);have hnums:=Qbm ((l.take 24).drop 2);have hdl:((l.take 24).drop 2).length≤l.length - 2∧((l.take 24).drop 2).length≤22:=(by simp;omega);generalize Qco ((l.take 24).drop 2)=r at *;split
  · split
    · intro h;exact absurd h (by simp[Qf])
    · intro _;have:=@ZJ l 24 l.length (by omega) (by omega) (by omega) (by omega);exact this
  · rename_i h6;intro _;rcases hkinds with hk | ⟨_,s,hs,hs1,hs2⟩
    · rw[hk] at h6;exact absurd rfl h6
    have hsz:(XY r).size=((s+2:Nat):Int):=(by unfold XY;rw[hs];simp);unfold QhK;split
    · exact⟨⟨s+2,hsz,by omega,by omega⟩,.inl rfl⟩
    split
    · rename_i hk;exact⟨⟨s+2,(QjY _ hk).trans hsz,by omega,by omega⟩,.inr (QhS _ hk).1⟩
    split
    · rename_i hm;exact⟨⟨s+2,(Qgv _ hm).trans hsz,by omega,by omega⟩,.inr (Qfc (XY r) hnums hm).1⟩
    · have e1:(XY r).size.toNat=s+2:=(by rw[hsz];exact Int.toNat_natCast _);have e2:((l.take 24).take (s+2))=l.take (s+2):=(by rw[List.take_take];congr 1;omega);rw[e1,e2];exact ZJ (by omega) (by omega) (by omega) (by omega)
theorem Qgx (l:List UInt8) (h:(Jc l).code=0):J4 (Jc l) l.length:=by
  revert h;unfold Jc;split
  · intro h;exact absurd h (by simp[Qf])
  split
  · intro _;exact ZJ (by omega) (by omega) (by omega) (by omega)
  · rename_i h3 hl;intro _;exact ZK (k:=3) (YC (J3 _ hl)) (by omega) (by omega) (by omega) (by omega)
theorem Qgy (l:List UInt8) (h:(Za l).code=0):J4 (Za l) l.length:=by
  revert h;unfold Za;split
  · intro h;exact absurd h (by simp[Qf])
  rename_i h2;split
  · exact Qgw l (by omega)
  split
  · exact Qgx l
  split
  · rename_i hp;simp only[inR,Bool.and_eq_true,decide_eq_true_eq] at hp;intro _;exact ZK (k:=2) (YG (QbO (by omega) (by omega)) (by omega) (by omega)) (by omega) (by omega) (by omega) (by omega)
  · intro _;exact ZK (k:=1) (YC (by omega)) (by omega) (by omega) (by omega) (by omega)
theorem Qgz (l:List UInt8) (h:(YI l).1=0) (hne:l≠[]):Yq (YI l).2.1=true∧1≤(YI l).2.2∧(YI l).2.2≤(l.length:Int):=by
  rw[Ur] at *
  match l,hne with
  | a::r,_=>
    obtain⟨h1,h2,h3,h4⟩:=QhJ a r (p:=(Q9 a r).2.1) (s:=(Q9 a r).2.2) (by rw[←show(Q9 a r).1=0 from h]);refine⟨h1,h3,?_⟩;show(Q9 a r).2.2≤(((a::r).length:Nat):Int);rw[List.length_cons];omega
theorem QhV (l:List UInt8) (hne:l≠[]) (h:(K0 l).code=0):J4 (K0 l) l.length:=by
  have hpos:0<l.length:=List.length_pos_iff.2 hne;revert h;unfold K0;split
  · intro h;exact absurd h (by simp[Qf])
  split
  · intro _;exact ZJ (by omega) (by omega) (by omega) (by omega)
  · rename_i h6 h0;intro _;obtain⟨h1,h3,h4⟩:=Qgz l (by omega) hne;generalize YI l=z at *;obtain⟨k,hk⟩:∃k:Nat,z.2.2=(k:Int):=⟨z.2.2.toNat,by omega⟩;rw[hk];exact ZK (YG h1 (by omega) (by omega)) (by omega) (by omega) (by omega) (by omega)
theorem QjZ (b:Int) (h:(Y9 b).code=0):(Y9 b).size=1:=by
  revert h;unfold Y9;repeat' split
  all_goals first | (intro _;rfl) | (intro h;exact absurd h (by simp[Qf]))
theorem VT (l:List UInt8) (h:(Q0 l).code=0):J4 (Q0 l) l.length:=by
  revert h;unfold Q0;split
  · intro h;exact absurd h (by simp[Qf])
  rename_i hne;have hpos:0<l.length:=List.length_pos_iff.2 hne;unfold Y4;split
  · exact Qgy l
  split
  · exact QhV l hne
  split
  · rename_i hk;intro _;exact⟨⟨1,QjZ _ hk,by omega,by omega⟩,.inr (QhU _ (by omega) hk).1⟩
  · intro _;exact ZJ (by omega) (by omega) (by omega) (by omega)
theorem ZC (l:List UInt8) (q:Bool) (hne:l≠[]):(Qs l q).code=0∧J4 (Qs l q) l.length:=by
  have hpos:0<l.length:=List.length_pos_iff.2 hne;unfold Qs;rw[if_neg hne];split
  · refine⟨rfl,⟨(l.take 32).length,rfl,by simp;omega,by simp;omega⟩,.inr (VS (by simp;omega) (by simp;omega))⟩
  split
  · refine⟨Uz l,?_⟩;rename_i h6;unfold ZX;split
    · exact ZK (k:=1) (YC (by omega)) (by omega) (by omega) (by omega) (by omega)
    split
    · rename_i h1 h2;have hx:((l.getD 1 0).toNat:Int)=91∨((l.getD 1 0).toNat:Int)=79:=by
        unfold Q0 Y4 Za at h6;rw[if_neg hne,if_pos h2.1,if_neg (by omega)] at h6;by_cases e1:((l.getD 1 0).toNat:Int)=91
        · exact .inl e1
        · rw[if_neg e1] at h6;by_cases e2:((l.getD 1 0).toNat:Int)=79
          · exact .inr e2
          · rw[if_neg e2] at h6;split at h6 <;> exact absurd h6 (by simp[Qo])
      exact ZK (k:=2) (YG (QbO (by omega) (by omega)) (by omega) (by omega)) (by omega) (by omega) (by omega) (by omega)
    · have e:l.take 24=l.take (l.take 24).length:=(by rw[List.length_take];rw[←List.take_take];simp);rw[e];exact ZJ (by simp;omega) (by simp;omega) (by simp;omega) (by simp;omega)
  · rename_i h6;have h0:(Q0 l).code=0:=by
      have:=Kj l;unfold Q0 at h6 ⊢;rw[if_neg hne] at h6 ⊢;omega
    exact⟨h0,VT l h0⟩
theorem JK (l:List UInt8) (h:(Q0 l).code=6):l.length<24:=by
  have hS:(Zz l).code=6→l.length<24:=by
    unfold Zz;split
    · split
      · intro _;assumption
      · intro h;exact absurd h (by simp[Zd,rTk])
    · intro h;rw[Ut] at h;omega
  have hP:(K0 l).code=6→l.length<24:=by
    unfold K0;split
    · rename_i h6;intro _;rw[Ur] at h6
      match l with
      | []=>simp
      | a::r=>
        have hle:=Qas a.toNat;revert h6;show(Q9 a r).1=6→_;unfold Q9;repeat' split
        all_goals (intro h6;first | (simp only[List.length_cons];omega) | (exact absurd h6 (by simp)))
    · split
      · intro h;exact absurd h (by simp[Zd,rTk])
      · intro h;exact absurd h (by simp[Qo])
  revert h;unfold Q0;split
  · intro h;exact absurd h (by simp[Qf])
  unfold Y4;split
  · unfold Za;split
    · intro _;omega
    split
    · exact hS
    split
    · unfold Jc;split
      · intro _;omega
      split
      · intro h;exact absurd h (by simp[Zd,rTk])
      · intro h;exact absurd h (by simp[Qo])
    split
    · intro h;exact absurd h (by simp[Qo])
    · intro h;exact absurd h (by simp[Qo])
  split
  · exact hP
  split
  · intro h;omega
  · intro h;exact absurd h (by simp[Zd,rTk])
theorem QbP (l:List UInt8) (h:(Q2 l).code=0):J4 (Q2 l) l.length:=by
  have hne:l≠[]:=by
    intro e;rw[e] at h;exact absurd h (by simp[Q2,Qf])
  have hle:=Vy l;have gp:∀k,1≤k→k≤32→k≤l.length→J4 (Q7 (l.take k)) l.length:=fun k h0 h1 h2=>by
    have e:(l.take k).length=k:=(by simp;omega);exact⟨⟨k,by show((l.take k).length:Int)=k;rw[e],h0,h2⟩,.inr (VS (by omega) (by omega))⟩
  by_cases h32:32≤unt l
  · rw[Yy hne h32];exact gp 32 (by omega) (by omega) (by omega)
  · by_cases h6:l.length<unt l+6
    · rw[YX hne h32 h6] at h;exact absurd h (by simp[Qf])
    · by_cases hp:0<unt l
      · rw[Yz hne h32 h6 hp];exact gp (unt l) (by omega) (by omega) hle
      · rw[YJ hne h32 h6 hp];exact⟨⟨6,rfl,by omega,by omega⟩,.inl rfl⟩
theorem QcH (l:List UInt8) (hne:l≠[]):(Q2 l).code=0∨(Q2 l).code=6:=by
  unfold Q2;rw[if_neg hne];split
  · exact .inl rfl
  split
  · exact .inr rfl
  split
  · exact .inl rfl
  · exact .inl rfl
end Go.Proofs.YtbfickdgjgbfhaaGreatDoor
