/- The model's tokens: l3Sequence, l3Escaped, FirstToken. -/
import Derived.Test.YtbfickdgjgbfhaaGreatDoorQTokSpecHToTokSpecA
import Derived.Test.YtbfickdgjgbfhaaGreatDoorQTokSpecB
import Derived.Test.YtbfickdgjgbfhaaGreatDoorQTokSpecD
import Derived.Test.YtbfickdgjgbfhaaGreatDoorQTokSpecE
import Derived.Test.YtbfickdgjgbfhaaGreatDoorQTokImpl6ToTokImpl8
import Derived.Test.YtbfickdgjgbfhaaGreatDoorQFirstSpecToFirstSpec3
set_option linter.unusedVariables false
namespace Go.Proofs.YtbfickdgjgbfhaaGreatDoor
open Go.RowKit
theorem QjU (r:Pt):Zv (XY r)=if (Zv r).code=0 then ⟨0,(Zv r).ev,r.size+2,(Zv r).paste,(Zv r).none⟩ else Qf 5:=by
  unfold Zv XY;dsimp only;split
  · exact(if_pos (show(Qo _ _ _).code=0 from rfl)).symm
  · rw[if_neg (by simp[Qf])]
theorem Qgk (r:Pt):Xk (XY r)=if (Xk r).code=0 then ⟨0,(Xk r).ev,r.size+2,(Xk r).paste,(Xk r).none⟩ else Qf 5:=by
  unfold Xk XY;dsimp only;split
  · split
    · unfold Zx;split
      · exact(if_pos (show(QO _ _ _ _ _).code=0 from rfl)).symm
      · rw[if_neg (by simp[Qf])]
    · rw[if_neg (by simp[Qf])]
  · rw[if_neg (by simp[Qf])]
theorem Qe3 (r:Pt):YB (XY r)=YB r:=rfl
theorem QjV (r:Pt) (h:r.priv=true):Zv r=Qf 5:=by
  unfold Zv;rw[if_neg (by simp[h])]
theorem QhP (r:Pt) (h:r.priv=false):Xk r=Qf 5:=by
  unfold Xk;rw[if_neg (by simp[h])]
theorem QjW (r:Pt) (h:¬r.code=0):Zv r=Qf 5:=by
  unfold Zv;rw[if_neg (fun hh=>h hh.1)]
theorem Qgl (r:Pt) (h:¬r.code=0):Xk r=Qf 5:=by
  unfold Xk;rw[if_neg (fun hh=>h hh.1)]
theorem Qe4 (r:Pt) (h:¬r.code=0):YB r=false:=by
  unfold YB;simp[h]
theorem QcA (p:Option Addr) (c:Nat) (l:List UInt8) (w:World) (h:Bs w w.heap.size p l) (hc:l.length≤c) (hl:l.length≤1048576) (h2:2≤l.length):
    Calls Tryz.prog 161 #[.slice p l.length c] w (QM w (Zz l)):=by
  obtain⟨k,hk⟩:∃k,(l.take 24).length=k:=⟨_,rfl⟩;have hk1:k≤24:=(by rw[←hk];simp;omega);have hk2:k≤l.length:=(by rw[←hk];simp;omega);have hk3:2≤k:=(by rw[←hk];simp;omega);have hk4:k=l.length∨k=24:=(by rw[←hk];simp;omega);have hdl:((l.take 24).drop 2).length=k - 2:=(by simp[hk]);have hm:X7 (l.length:Int) 24=k:=by
    have hk':=hk;rw[List.length_take] at hk';unfold X7;by_cases h24:l.length<24
    · rw[if_pos (by omega)];omega
    · rw[if_neg (by omega)];omega
  have HW:Bs w w.heap.size (if c=2 then p else p.map (·.add 2)) ((l.take 24).drop 2):=(h.head 24).tail 2 c (by omega);have HPA:=fun o=>QaG (if c=2 then p else p.map (·.add 2)) (c - 2) ((l.take 24).drop 2) (w.alloc o) (HW.alloc o) (by omega) (by omega);rw[hdl] at HPA;unfold Zz;have hkinds:=Us ((l.take 24).drop 2);have hnums:=Qbm ((l.take 24).drop 2);have hsm:=QcU ((l.take 24).drop 2);rw[hdl] at hkinds;generalize Qco ((l.take 24).drop 2)=r at *;rcases hkinds with rfl | ⟨h6,s,hs,hs1,hs2⟩
  · rw[if_pos rfl];by_cases h24:l.length<24
    · rw[if_pos h24];have hkl:k=l.length:=(by omega);subst hkl;refine(Qbx p (if c=2 then p else p.map (·.add 2)) l.length c (c - 2) w h2 h24 hc ?_ (Lib.hid HPA)).mono fun _ _ q=>q.new rfl;by_cases hc2:c=2
      · exact .inl ⟨hc2,if_pos hc2,by omega⟩
      · exact .inr ⟨hc2,if_neg hc2,rfl⟩
    · rw[if_neg h24];have hkl:k=24:=(by omega);subst hkl;rw[if_neg (show ¬c=2 by omega)] at HPA;have e:Zd (l.take 24)=rTk (l.take 24) 24:=(by unfold Zd;rw[hk];rfl);rw[e];exact Qby p l.length c (l.take 24) w (by omega) hc (Lib.hid HPA) (Lib.hid fun w' hb'=>e ▸ Qa5 p c l w' (h.on hb') hc hl)
  · rw[if_neg h6];have hc2:¬c=2:=(by omega);rw[if_neg hc2] at HPA;have hsz:(XY r).size=(s:Int)+2:=(by unfold XY;rw[hs]);have e1:(XY r).size.toNat=s+2:=(by rw[hsz];omega);have e2:((l.take 24).take (s+2))=l.take (s+2):=(by rw[List.take_take];congr 1;omega);have e3:(l.take (s+2)).length=s+2:=(by simp;omega);have e4:Zd (l.take (s+2))=rTk (l.take (s+2)) (s+2):=(by unfold Zd;rw[e3];rfl);have HR:Hid (∀w',Below w.heap.size w w'→Calls Tryz.prog 132 #[.slice p (s+2) c] w' (QM w' (rTk (l.take (s+2)) (s+2)))):=fun w' hb'=>e4 ▸ Qa6 p c (s+2) l w' (h.on hb') (by omega) (by omega) (by omega) hl;unfold QhK;rw[Qe3,QjU,Qgk,e1,e2,e4,hs,hsz];by_cases h0:r.code=0
    · cases hp:r.priv
      · have hmb:=QhP r hp;rw[hmb];rw[if_neg (show ¬(Qf 5).code=0 by simp[Qf]),if_neg (show ¬(Qf 5).code=0 by simp[Qf])]
        cases hst:YB r
        · simp only[Bool.false_eq_true,if_false];have hvar:(r.fin==126)=false∨((r.fin==126)=true∧¬(r.nums.length:Int)=1)∨((r.fin==126)=true∧∃x,r.nums=[x]∧(x==200)=false):=by
            cases hf:(r.fin==126)
            · exact .inl rfl
            · right;by_cases hn:r.nums.length=1
              · right;refine⟨rfl,?_⟩;obtain⟨x,hx⟩:=List.length_eq_one_iff.1 hn;refine⟨x,hx,?_⟩;unfold YB at hst;rw[hf,hp,hx,h0] at hst;simpa using hst
              · exact .inl ⟨rfl,by omega⟩
          rcases Qhd r with hk0 | hkb
          · rw[if_pos hk0,if_pos rfl];rcases hvar with hf | ⟨hf,hn⟩ | ⟨hf,x,hx,hx2⟩
            · exact QbA p l.length c k s r w (by omega) (by omega) hs (by omega) (by omega) hm hsm hnums (Lib.hid HPA) h0 hp hf _ hk0 (VB r) rfl
            · exact QbB p l.length c k s r w (by omega) (by omega) hs (by omega) (by omega) hm hsm hnums (Lib.hid HPA) h0 hp hf hn _ hk0 (VB r) rfl
            · exact QbC p l.length c k s r w (by omega) (by omega) hs (by omega) (by omega) hm hsm hnums (Lib.hid HPA) h0 x hp hf hx hx2 _ hk0 (VB r) rfl
          · rw[hkb,if_neg (show ¬(Qf 5).code=0 by simp[Qf]),if_neg (show ¬(Qf 5).code=0 by simp[Qf])];rcases hvar with hf | ⟨hf,hn⟩ | ⟨hf,x,hx,hx2⟩
            · exact QbE p l.length c k s r w (by omega) (by omega) hs (by omega) (by omega) hm hsm hnums (Lib.hid HPA) h0 hp hf hkb hmb _ HR
            · exact QbF p l.length c k s r w (by omega) (by omega) hs (by omega) (by omega) hm hsm hnums (Lib.hid HPA) h0 hp hf hn hkb hmb _ HR
            · exact QbG p l.length c k s r w (by omega) (by omega) hs (by omega) (by omega) hm hsm hnums (Lib.hid HPA) h0 x hp hf hx hx2 hkb hmb _ HR
        · rw[if_pos rfl];have hq:(r.fin==126)=true∧r.nums=[200]:=by
            unfold YB at hst;simp only[Bool.and_eq_true,beq_iff_eq] at hst;exact⟨by simp[hst.2.2.1],hst.2.2.2⟩
          exact Qac p l.length c k s r w (by omega) (by omega) hs (by omega) (by omega) hm hsm hnums (Lib.hid HPA) h0 200 hp hq.1 hq.2 rfl
      · have hkb:=QjV r hp;have hst:YB r=false:=(by unfold YB;rw[hp];simp);rw[hkb,hst,if_neg (show ¬(Qf 5).code=0 by simp[Qf]),if_neg (show ¬(Qf 5).code=0 by simp[Qf])];simp only[Bool.false_eq_true,if_false];rcases Qdc r with hm0 | hmb
        · rw[if_pos hm0,if_pos rfl];exact Qad p l.length c k s r w (by omega) (by omega) hs (by omega) (by omega) hm hsm hnums (Lib.hid HPA) h0 hp _ hm0 (Qbe r) hkb rfl
        · rw[hmb,if_neg (show ¬(Qf 5).code=0 by simp[Qf]),if_neg (show ¬(Qf 5).code=0 by simp[Qf])];exact QbD p l.length c k s r w (by omega) (by omega) hs (by omega) (by omega) hm hsm hnums (Lib.hid HPA) h0 hp hkb hmb _ HR
    · rw[Qe4 r h0,QjW r h0,Qgl r h0];simp only[Bool.false_eq_true,if_false];rw[if_neg (show ¬(Qf 5).code=0 by simp[Qf]),if_neg (show ¬(Qf 5).code=0 by simp[Qf])];exact Qbz p l.length c k s r w (by omega) (by omega) hs (by omega) (by omega) hm hsm hnums (Lib.hid HPA) (by simpa using h6) (by simpa using h0) _ HR
end Go.Proofs.YtbfickdgjgbfhaaGreatDoor
