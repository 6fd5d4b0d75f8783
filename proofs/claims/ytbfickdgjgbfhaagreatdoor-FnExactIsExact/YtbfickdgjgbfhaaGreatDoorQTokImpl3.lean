/- The program's tokens: firstBytes, startsPaste, sequenceToken. -/
import Derived.Test.YtbfickdgjgbfhaaGreatDoorQTokPureToTokImpl
set_option linter.unusedVariables false
set_option maxRecDepth 100000
set_option maxHeartbeats 2000000
namespace Go.Proofs.YtbfickdgjgbfhaaGreatDoor
open Go.RowKit
theorem Zt (p:Option Addr) (n c m:Nat) (w:World) (hn:n≤m) (hc:n≤c) (hm:m≤100):
    Calls Tryz.prog 104 #[.slice p n c,.int .i64 m] w fun e w'=>e=.returned (.slice p n c)∧w=w':=by
  have hx:min (n:Int) (m:Int)=n:=(by omega);go_enter Tryz.func104,Tryz.ntmps104;go_wp2;go_ret;exact⟨rfl,rfl⟩
theorem ZQ (p:Option Addr) (n c m:Nat) (w:World) (hn:m≤n) (hc:n≤c) (hm:m≤100):
    Calls Tryz.prog 104 #[.slice p n c,.int .i64 m] w fun e w'=>e=.returned (.slice p m c)∧w=w':=by
  have hx:min (n:Int) (m:Int)=m:=(by omega);go_enter Tryz.func104,Tryz.ntmps104;go_wp2;go_ret;exact⟨rfl,rfl⟩
theorem YM (p:Option Addr) (n c:Nat) (code size fin:Int) (priv:Bool) (w:World) (hn:n≤4) (hb:(code==0)=false∨((code==0)=true∧priv=true)∨((code==0)=true∧priv=false∧(fin==126)=false)∨((code==0)=true∧priv=false∧(fin==126)=true∧n≠1)):
    Calls Tryz.prog 197 #[.agg #[.int .i64 code,.bool priv,.slice p n c,.int .u8 fin,.int .i64 size]] w fun e w'=>e=.returned (.bool false)∧Below w.heap.size w w':=by
  rcases hb with h1 | ⟨h1,h2⟩ | ⟨h1,h2,h3⟩ | ⟨h1,h2,h3,h4⟩
  · clear hn;go_enter Tryz.func197,Tryz.ntmps197;go_wp2;go_ret;exact⟨rfl,Qb _ _⟩
  · subst h2;clear hn;go_enter Tryz.func197,Tryz.ntmps197;go_wp2;go_ret;exact⟨rfl,Qb _ _⟩
  · subst h2;clear hn;go_enter Tryz.func197,Tryz.ntmps197;go_wp2;go_ret;exact⟨rfl,Qb _ _⟩
  · subst h2;have:n=0∨n=2∨n=3∨n=4:=(by omega);rcases this with rfl | rfl | rfl | rfl;all_goals
      clear hn h4;go_enter Tryz.func197,Tryz.ntmps197;go_wp2;go_ret;exact⟨rfl,Qb _ _⟩
theorem Qbq (b off c:Nat) (code size fin x:Int) (w:World) (h1:(code==0)=true) (h3:(fin==126)=true) (hb:b<w.heap.size) (hc:w.cell? ⟨b,off,none⟩=some (.int .i64 x)):
    Calls Tryz.prog 197 #[.agg #[.int .i64 code,.bool false,.slice (some ⟨b,off,none⟩) 1 c,.int .u8 fin,.int .i64 size]] w fun e w'=>e=.returned (.bool (x==200))∧Below w.heap.size w w':=by
  go_enter Tryz.func197,Tryz.ntmps197;go_wp2;go_ret;exact⟨rfl,Qb _ _⟩
theorem Y5 (r:Pt) (p:Option Addr) (c:Nat) (w:World) (h:Is w w.heap.size p r.nums) (hl:r.nums.length≤4):
    Calls Tryz.prog 197 #[ptV r (.slice p r.nums.length c)] w fun e w'=>e=.returned (.bool (YB r))∧Below w.heap.size w w':=by
  obtain⟨code,priv,nums,fin,size⟩:=r;unfold ptV YB;dsimp only at *
  cases h1:(code==0)
  · exact YM p nums.length c code size fin priv w hl (.inl h1)
  cases priv
  · cases h3:(fin==126)
    · exact YM p nums.length c code size fin false w hl (.inr (.inr (.inl ⟨h1,rfl,h3⟩)))
    · match nums,h,hl with
      | [x],h,_=>
        obtain⟨g,off,rfl,hg,hc⟩:=h.cons;have e:((x::[])==[200])=(x==200):=(by rw[Bool.eq_iff_iff];simp);have:=Qbq g off c code size fin x w h1 h3 hg (hc 0 (by simp));simp only[Bool.true_and];rw[e];exact this
      | [],_,_=>exact YM p 0 c code size fin false w (by omega) (.inr (.inr (.inr ⟨h1,rfl,h3,by omega⟩)))
      | a::a'::r,_,hl=>
        have:=YM p (a::a'::r).length c code size fin false w hl (.inr (.inr (.inr ⟨h1,rfl,h3,by simp⟩)));have e:((a::a'::r)==[200])=false:=(by simp);simp only[Bool.true_and];rw[e];exact this
  · exact YM p nums.length c code size fin true w hl (.inr (.inl ⟨h1,rfl⟩))
end Go.Proofs.YtbfickdgjgbfhaaGreatDoor
