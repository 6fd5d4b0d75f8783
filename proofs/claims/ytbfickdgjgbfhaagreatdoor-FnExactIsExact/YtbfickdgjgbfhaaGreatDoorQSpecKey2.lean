/- KeyOfParts of the model. -/
import Derived.Test.YtbfickdgjgbfhaaGreatDoorQKeyParts3
set_option maxRecDepth 100000
set_option maxHeartbeats 2000000
namespace Go.Proofs.YtbfickdgjgbfhaaGreatDoor
open Go.RowKit
def Uo:List Int→Int
  | []=>0
  | [_]=>0
  | [_,m]=>if 1≤m∧m≤8 then m - 1 else -1
  | _=>-1
def Zw (l:List Int) (f:Int):Int:=match l with
  | []=>QJ f
  | [x]=>if f=126 then XH x else if f=117 then Zu x else 0
  | [x,_]=>if f=126 then XH x else if f=117 then Zu x else if x=1 then QJ f else 0
  | _=>0
def ptL (r:Pt) (v:Value):List Value:=[.int .i64 r.code,.bool r.priv,v,.int .u8 r.fin,.int .i64 r.size]
theorem Qc3 (b c n:Nat) (p:Option Addr) (code size fin:Int) (priv:Bool) (w:World) (hA:AtL w b [.int .i64 code,.bool priv,.slice p n c,.int .u8 fin,.int .i64 size]) (hn:n=0∨n=1):
    Calls Tryz.prog 205 #[.pointer (some ⟨b,0,none⟩)] w fun e w'=>e=.returned (.int .i64 0)∧Below w.heap.size w w':=by
  obtain⟨c0,c1,c2,c3,c4⟩:=hA.five;clear hA;rcases hn with rfl | rfl;all_goals
    go_enter Tryz.func205,Tryz.ntmps205;go_wp2;go_ret;exact⟨rfl,Below.refl _ _⟩
theorem QhE (b c g off:Nat) (m:Int) (code size fin:Int) (priv:Bool) (w:World) (hA:AtL w b [.int .i64 code,.bool priv,.slice (some ⟨g,off,none⟩) 2 c,.int .u8 fin,.int .i64 size]) (hc:w.cell? ⟨g,off+1,none⟩=some (.int .i64 m)) (h0:0≤m) (h1:m≤9999999):
    Calls Tryz.prog 205 #[.pointer (some ⟨b,0,none⟩)] w fun e w'=>e=.returned (.int .i64 (if 1≤m∧m≤8 then m - 1 else -1))∧Below w.heap.size w w':=by
  obtain⟨c0,c1,c2,c3,c4⟩:=hA.five;clear hA;by_cases hm:1≤m∧m≤8
  · rw[if_pos hm];have hi:inR (m - 1) 0 7=true:=(by simp[inR];omega);go_enter Tryz.func205,Tryz.ntmps205;go_wp2_with (go_at_call 64;refine(QZ _ _ _ _).mono ?_;rintro e w' ⟨rfl,rfl⟩;rw[hi]);go_ret;exact⟨rfl,Below.refl _ _⟩
  · rw[if_neg hm];have hi:inR (m - 1) 0 7=false:=(by simp[inR];omega);go_enter Tryz.func205,Tryz.ntmps205;go_wp2_with (go_at_call 64;refine(QZ _ _ _ _).mono ?_;rintro e w' ⟨rfl,rfl⟩;rw[hi]);go_ret;exact⟨rfl,Below.refl _ _⟩
theorem Qbd (b c g off n:Nat) (m:Int) (code size fin:Int) (priv:Bool) (w:World) (hA:AtL w b [.int .i64 code,.bool priv,.slice (some ⟨g,off,none⟩) n c,.int .u8 fin,.int .i64 size]) (hn:n=3∨n=4) (hc:w.cell? ⟨g,off+(n - 1),none⟩=some (.int .i64 m)) (h0:0≤m) (h1:m≤9999999):
    Calls Tryz.prog 205 #[.pointer (some ⟨b,0,none⟩)] w fun e w'=>e=.returned (.int .i64 (-1))∧Below w.heap.size w w':=by
  obtain⟨c0,c1,c2,c3,c4⟩:=hA.five;clear hA;rcases hn with rfl | rfl;all_goals
    simp only[Nat.reduceSub] at hc;go_enter Tryz.func205,Tryz.ntmps205;go_wp2;go_ret;exact⟨rfl,Below.refl _ _⟩
theorem QhF (b c:Nat) (p:Option Addr) (r:Pt) (w:World) (hA:AtL w b (ptL r (.slice p r.nums.length c))) (h:Is w w.heap.size p r.nums) (hl:r.nums.length≤4) (hN:∀x∈r.nums,0≤x∧x≤9999999):
    Calls Tryz.prog 205 #[.pointer (some ⟨b,0,none⟩)] w fun e w'=>e=.returned (.int .i64 (Uo r.nums))∧Below w.heap.size w w':=by
  obtain⟨code,priv,nums,fin,size⟩:=r;unfold ptL at hA;dsimp only at *
  match nums,h,hl,hN,hA with
  | [],_,_,_,hA=>exact Qc3 b c 0 p code size fin priv w hA (.inl rfl)
  | [_],_,_,_,hA=>exact Qc3 b c 1 p code size fin priv w hA (.inr rfl)
  | [x,m],h,_,hN,hA=>
    obtain⟨g,off,rfl,_,hc⟩:=h.cons;have:=hN m (by simp);exact QhE b c g off m code size fin priv w hA (hc 1 (by simp)) this.1 this.2
  | [x,y,m],h,_,hN,hA=>
    obtain⟨g,off,rfl,_,hc⟩:=h.cons;have:=hN m (by simp);exact Qbd b c g off 3 m code size fin priv w hA (.inl rfl) (hc 2 (by simp)) this.1 this.2
  | [x,y,z,m],h,_,hN,hA=>
    obtain⟨g,off,rfl,_,hc⟩:=h.cons;have:=hN m (by simp);exact Qbd b c g off 4 m code size fin priv w hA (.inr rfl) (hc 3 (by simp)) this.1 this.2
  | _::_::_::_::_::_,_,hl,_,_=>exact absurd hl (by simp)
theorem QjE (b c:Nat) (p:Option Addr) (code size fin:Int) (priv:Bool) (w:World) (hA:AtL w b [.int .i64 code,.bool priv,.slice p 0 c,.int .u8 fin,.int .i64 size]):
    Calls Tryz.prog 204 #[.pointer (some ⟨b,0,none⟩)] w fun e w'=>e=.returned (.int .i64 (QJ fin))∧Below w.heap.size w w':=by
  obtain⟨c0,c1,c2,c3,c4⟩:=hA.five;have HL:=Lib.hid (Q3 fin);have hi:inR 0 1 2=false:=rfl;clear hA;generalize QJ fin=K at *;by_cases h1:fin=126
  · subst h1;go_enter Tryz.func204,Tryz.ntmps204;go_wp2_with (first | (go_at_call 64;refine(QZ _ _ _ _).mono ?_;rintro e w' ⟨rfl,rfl⟩;rw[hi]) | (go_at_call 162;refine(HL.out _).mono ?_;rintro e w' ⟨rfl,rfl⟩));go_ret;exact⟨rfl,Below.refl _ _⟩
  by_cases h2:fin=117
  · subst h2;go_enter Tryz.func204,Tryz.ntmps204;go_wp2_with (first | (go_at_call 64;refine(QZ _ _ _ _).mono ?_;rintro e w' ⟨rfl,rfl⟩;rw[hi]) | (go_at_call 162;refine(HL.out _).mono ?_;rintro e w' ⟨rfl,rfl⟩));go_ret;exact⟨rfl,Below.refl _ _⟩
  · go_enter Tryz.func204,Tryz.ntmps204;go_wp2_with (first | (go_at_call 64;refine(QZ _ _ _ _).mono ?_;rintro e w' ⟨rfl,rfl⟩;rw[hi]) | (go_at_call 162;refine(HL.out _).mono ?_;rintro e w' ⟨rfl,rfl⟩));go_ret;exact⟨rfl,Below.refl _ _⟩
theorem Kg (b c g off n:Nat) (x K:Int) (code size fin:Int) (priv:Bool) (w:World) (hA:AtL w b [.int .i64 code,.bool priv,.slice (some ⟨g,off,none⟩) n c,.int .u8 fin,.int .i64 size]) (hn:n=1∨n=2) (hc:w.cell? ⟨g,off,none⟩=some (.int .i64 x)) (hf:(fin=126∧K=XH x)∨(fin=117∧K=Zu x)):
    Calls Tryz.prog 204 #[.pointer (some ⟨b,0,none⟩)] w fun e w'=>e=.returned (.int .i64 K)∧Below w.heap.size w w':=by
  obtain⟨c0,c1,c2,c3,c4⟩:=hA.five;have HT:=Lib.hid (Yk x);have HD:=Lib.hid (Qgg x);have i1:inR 1 1 2=true:=rfl;have i2:inR 2 1 2=true:=rfl;clear hA;rcases hf with⟨rfl,rfl⟩ | ⟨rfl,rfl⟩;all_goals
    generalize XH x=K1 at *;generalize Zu x=K2 at *;rcases hn with rfl | rfl;all_goals
      go_enter Tryz.func204,Tryz.ntmps204;go_wp2_with (first | (go_at_call 64;refine(QZ _ _ _ _).mono ?_;rintro e w' ⟨rfl,rfl⟩;first | rw[i1] | rw[i2]) | (go_at_call 192;refine(HT.out _).mono ?_;rintro e w1 ⟨rfl,hb⟩) | (go_at_call 216;refine(HD.out _).mono ?_;rintro e w1 ⟨rfl,hb⟩));go_ret;exact⟨rfl,hb⟩
theorem QeX (b c g off n:Nat) (x:Int) (code size fin:Int) (priv:Bool) (w:World) (hA:AtL w b [.int .i64 code,.bool priv,.slice (some ⟨g,off,none⟩) n c,.int .u8 fin,.int .i64 size]) (hn:n=1∨n=2) (hc:w.cell? ⟨g,off,none⟩=some (.int .i64 x)) (h1:¬fin=126) (h2:¬fin=117):
    Calls Tryz.prog 204 #[.pointer (some ⟨b,0,none⟩)] w fun e w'=>e=.returned (.int .i64 (if n=2∧x=1 then QJ fin else 0))∧Below w.heap.size w w':=by
  obtain⟨c0,c1,c2,c3,c4⟩:=hA.five;have HL:=Lib.hid (Q3 fin);clear hA;generalize QJ fin=K at *;rcases hn with rfl | rfl
  · rw[if_neg (by omega)];go_enter Tryz.func204,Tryz.ntmps204;go_wp2;go_ret;exact⟨rfl,Below.refl _ _⟩
  by_cases hx:x=1
  · subst hx;rw[if_pos ⟨rfl,rfl⟩];go_enter Tryz.func204,Tryz.ntmps204;go_wp2_with (go_at_call 162;refine(HL.out _).mono ?_;rintro e w' ⟨rfl,rfl⟩);go_ret;exact⟨rfl,Below.refl _ _⟩
  · rw[if_neg (by omega)];go_enter Tryz.func204,Tryz.ntmps204;go_wp2;go_ret;exact⟨rfl,Below.refl _ _⟩
theorem UR (b c n:Nat) (p:Option Addr) (code size fin:Int) (priv:Bool) (w:World) (hA:AtL w b [.int .i64 code,.bool priv,.slice p n c,.int .u8 fin,.int .i64 size]) (hn:n=3∨n=4):
    Calls Tryz.prog 204 #[.pointer (some ⟨b,0,none⟩)] w fun e w'=>e=.returned (.int .i64 0)∧Below w.heap.size w w':=by
  obtain⟨c0,c1,c2,c3,c4⟩:=hA.five;have i1:inR 3 1 2=false:=rfl;have i2:inR 4 1 2=false:=rfl;clear hA;by_cases h1:fin=126
  · subst h1;rcases hn with rfl | rfl;all_goals
      go_enter Tryz.func204,Tryz.ntmps204;go_wp2_with (go_at_call 64;refine(QZ _ _ _ _).mono ?_;rintro e w' ⟨rfl,rfl⟩;first | rw[i1] | rw[i2]);go_ret;exact⟨rfl,Below.refl _ _⟩
  by_cases h2:fin=117
  · subst h2;rcases hn with rfl | rfl;all_goals
      go_enter Tryz.func204,Tryz.ntmps204;go_wp2_with (go_at_call 64;refine(QZ _ _ _ _).mono ?_;rintro e w' ⟨rfl,rfl⟩;first | rw[i1] | rw[i2]);go_ret;exact⟨rfl,Below.refl _ _⟩
  · rcases hn with rfl | rfl;all_goals
      go_enter Tryz.func204,Tryz.ntmps204;go_wp2;go_ret;exact⟨rfl,Below.refl _ _⟩
end Go.Proofs.YtbfickdgjgbfhaaGreatDoor
