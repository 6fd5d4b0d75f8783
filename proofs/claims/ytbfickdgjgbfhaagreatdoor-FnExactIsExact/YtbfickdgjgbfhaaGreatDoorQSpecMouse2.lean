/- MouseOfParts of the model, and that it is the program's. -/
import Derived.Test.YtbfickdgjgbfhaaGreatDoorQSpecMouse
set_option maxRecDepth 100000
set_option maxHeartbeats 4000000
namespace Go.Proofs.YtbfickdgjgbfhaaGreatDoor
open Go.RowKit
theorem Qbu (n x y:Int) (rel:Bool) (w:World) (hn:0≤n∧n≤9999999) (hx:0≤x∧x≤9999999) (hy:0≤y∧y≤9999999):
    Calls Tryz.prog 206 #[.int .i64 n,.int .i64 x,.int .i64 y,.bool rel] w fun e w'=>e=.returned (.tuple #[.agg #[.int .i64 2,.int .i64 0,.int .i64 ((n.tdiv 4).tmod 8),.int .i64 (n.tmod 4),.int .i64 (Qje n rel),.int .i64 (x - 1),.int .i64 (y - 1),.slice none 0 0],.bool (Uy n x y rel)])∧Below w.heap.size w w':=by
  have hm:n.tmod 4=n % 4:=Int.tmod_eq_emod_of_nonneg hn.1;unfold Uy Qje
  cases rel
  · simp only[Bool.false_eq_true,if_false,Bool.false_and,Bool.not_false,Bool.true_and];by_cases hq:(n.tdiv 32).tmod 2=1
    · rw[if_pos hq];have hq':((n.tdiv 32).tmod 2==1)=true:=(by simp[hq]);by_cases h64:n<64
      · simp only[h64,decide_true,Bool.true_and];exact QjO n x y w hn hx hy h64 hq'
      · simp only[h64,decide_false,Bool.false_and];rw[hm];exact QjS n x y w hn hx hy h64 hq'
    · rw[if_neg hq];have hq':((n.tdiv 32).tmod 2==1)=false:=(by simp[hq]);by_cases h64:n<64
      · simp only[h64,decide_true,Bool.true_and];exact QjN n x y w hn hx hy h64 hq'
      · simp only[h64,decide_false,Bool.false_and];rw[hm];exact QjR n x y w hn hx hy h64 hq'
  · simp only[if_true,Bool.true_and];by_cases h64:n<64
    · simp only[h64,decide_true,Bool.true_and];by_cases h32:32≤n
      · simp only[h32,decide_true,Bool.not_true,Bool.false_and];rw[hm];exact QjQ n x y w hn hx hy h64 h32
      · simp only[h32,decide_false,Bool.not_false,Bool.true_and];exact QjP n x y w hn hx hy h64 (by omega)
    · simp only[h64,decide_false,Bool.false_and];rw[hm];exact QjT n x y w hn hx hy h64
theorem VL (n a x y s:Int) (w:World):Calls Tryz.prog 163 #[.agg #[.int .i64 2,.int .i64 0,.int .i64 ((n.tdiv 4).tmod 8),.int .i64 (n.tmod 4),.int .i64 a,.int .i64 (x - 1),.int .i64 (y - 1),.slice none 0 0],.int .i64 s] w (Qm w (QO n a x y s)):=
  KS (Xj n a x y) none 0 s w
theorem Xm (p:Option Addr) (c n:Nat) (code size fin:Int) (priv:Bool) (w:World) (hn:n≤4) (hb:priv=false∨(priv=true∧(fin==77)=false∧(fin==109)=false)∨(priv=true∧(fin=77∨fin=109)∧n≠3)):
    Calls Tryz.prog 187 #[.agg #[.int .i64 code,.bool priv,.slice p n c,.int .u8 fin,.int .i64 size]] w (Qm w (Qf 5)):=by
  have e77:(fin != 77)=!(fin==77):=rfl;have e109:(fin != 109)=!(fin==109):=rfl;have hx:n=0∨n=1∨n=2∨n=3∨n=4:=(by omega);rcases hb with rfl | ⟨rfl,h1,h2⟩ | ⟨rfl,h1,h2⟩
  · clear hx e77 e109 hn;go_enter Tryz.func187,Tryz.ntmps187;go_wp2_with fail;refine(Q8 _ _).mono ?_;rintro e w1 ⟨rfl,hb⟩;obtain⟨hcc,hf⟩:=Qq hb;have HE:Hid (Qm w (Qf 5) (.returned (tkV (Qf 5) (.slice none 0 0))) (sets w1 (w.heap.size+1) 0 (tkL (Qf 5) (.slice none 0 0)))):=Qx (tkL (Qf 5) (.slice none 0 0)) hb;clear hb;unfold tkV Qf Xy;go_wp2_with fail;refine bodyPost_ret (v:=tkV (Qf 5) (.slice none 0 0)) ?_ rfl HE.out;simp[results,Tryz.results187,tkV,Qf,Xy,go_sem,hcc]
  · clear hx hn;rw[h1] at e77;rw[h2] at e109;go_enter Tryz.func187,Tryz.ntmps187;go_wp2_with fail;refine(Q8 _ _).mono ?_;rintro e w1 ⟨rfl,hb⟩;obtain⟨hcc,hf⟩:=Qq hb;have HE:Hid (Qm w (Qf 5) (.returned (tkV (Qf 5) (.slice none 0 0))) (sets w1 (w.heap.size+1) 0 (tkL (Qf 5) (.slice none 0 0)))):=Qx (tkL (Qf 5) (.slice none 0 0)) hb;clear hb;unfold tkV Qf Xy;go_wp2_with fail;refine bodyPost_ret (v:=tkV (Qf 5) (.slice none 0 0)) ?_ rfl HE.out;simp[results,Tryz.results187,tkV,Qf,Xy,go_sem,hcc]
  · rcases hx with rfl | rfl | rfl | rfl | rfl
    · rcases h1 with rfl | rfl;all_goals
        clear h2 hn e77 e109;go_enter Tryz.func187,Tryz.ntmps187;go_wp2_with fail;refine(Q8 _ _).mono ?_;rintro e w1 ⟨rfl,hb⟩;obtain⟨hcc,hf⟩:=Qq hb;have HE:Hid (Qm w (Qf 5) (.returned (tkV (Qf 5) (.slice none 0 0))) (sets w1 (w.heap.size+1) 0 (tkL (Qf 5) (.slice none 0 0)))):=Qx (tkL (Qf 5) (.slice none 0 0)) hb;clear hb;unfold tkV Qf Xy;go_wp2_with fail;refine bodyPost_ret (v:=tkV (Qf 5) (.slice none 0 0)) ?_ rfl HE.out;simp[results,Tryz.results187,tkV,Qf,Xy,go_sem,hcc]
    · rcases h1 with rfl | rfl;all_goals
        clear h2 hn e77 e109;go_enter Tryz.func187,Tryz.ntmps187;go_wp2_with fail;refine(Q8 _ _).mono ?_;rintro e w1 ⟨rfl,hb⟩;obtain⟨hcc,hf⟩:=Qq hb;have HE:Hid (Qm w (Qf 5) (.returned (tkV (Qf 5) (.slice none 0 0))) (sets w1 (w.heap.size+1) 0 (tkL (Qf 5) (.slice none 0 0)))):=Qx (tkL (Qf 5) (.slice none 0 0)) hb;clear hb;unfold tkV Qf Xy;go_wp2_with fail;refine bodyPost_ret (v:=tkV (Qf 5) (.slice none 0 0)) ?_ rfl HE.out;simp[results,Tryz.results187,tkV,Qf,Xy,go_sem,hcc]
    · rcases h1 with rfl | rfl;all_goals
        clear h2 hn e77 e109;go_enter Tryz.func187,Tryz.ntmps187;go_wp2_with fail;refine(Q8 _ _).mono ?_;rintro e w1 ⟨rfl,hb⟩;obtain⟨hcc,hf⟩:=Qq hb;have HE:Hid (Qm w (Qf 5) (.returned (tkV (Qf 5) (.slice none 0 0))) (sets w1 (w.heap.size+1) 0 (tkL (Qf 5) (.slice none 0 0)))):=Qx (tkL (Qf 5) (.slice none 0 0)) hb;clear hb;unfold tkV Qf Xy;go_wp2_with fail;refine bodyPost_ret (v:=tkV (Qf 5) (.slice none 0 0)) ?_ rfl HE.out;simp[results,Tryz.results187,tkV,Qf,Xy,go_sem,hcc]
    · exact absurd rfl h2
    · rcases h1 with rfl | rfl;all_goals
        clear h2 hn e77 e109;go_enter Tryz.func187,Tryz.ntmps187;go_wp2_with fail;refine(Q8 _ _).mono ?_;rintro e w1 ⟨rfl,hb⟩;obtain⟨hcc,hf⟩:=Qq hb;have HE:Hid (Qm w (Qf 5) (.returned (tkV (Qf 5) (.slice none 0 0))) (sets w1 (w.heap.size+1) 0 (tkL (Qf 5) (.slice none 0 0)))):=Qx (tkL (Qf 5) (.slice none 0 0)) hb;clear hb;unfold tkV Qf Xy;go_wp2_with fail;refine bodyPost_ret (v:=tkV (Qf 5) (.slice none 0 0)) ?_ rfl HE.out;simp[results,Tryz.results187,tkV,Qf,Xy,go_sem,hcc]
end Go.Proofs.YtbfickdgjgbfhaaGreatDoor
