/- The key of parts, by the model: l3Letter, l3Tilde, l3Coded, l3Mods, l3Named, KeyOfParts. -/
import Derived.Test.YtbfickdgjgbfhaaGreatDoorQKeyParts
import Derived.Test.YtbfickdgjgbfhaaGreatDoorQBytesToCells
set_option maxRecDepth 100000
set_option maxHeartbeats 2000000
namespace Go.Proofs.YtbfickdgjgbfhaaGreatDoor
open Go.RowKit
theorem Q3 (c:Int) (w:World):Calls Tryz.prog 162 #[.int .u8 c] w fun e w'=>e=.returned (.int .i64 (QJ c))∧w=w':=by
  unfold QJ;repeat' split
  all_goals
    go_enter Tryz.func162,Tryz.ntmps162;go_wp2;go_ret;exact⟨rfl,rfl⟩
theorem QhC (n:Int) (w:World) (hn:inR n 1 6=false):Calls Tryz.prog 192 #[.int .i64 n] w fun e w'=>e=.returned (.int .i64 0)∧Below w.heap.size w w':=by
  go_enter Tryz.func192,Tryz.ntmps192;go_wp2_with (go_at_call 64;refine(QZ _ _ _ _).mono ?_;rintro e w' ⟨rfl,rfl⟩;rw[hn]);go_ret;exact⟨rfl,Qb _ _⟩
theorem Yk (n:Int) (w:World):Calls Tryz.prog 192 #[.int .i64 n] w fun e w'=>e=.returned (.int .i64 (XH n))∧Below w.heap.size w w':=by
  by_cases h:1≤n∧n≤6
  · have:n=1∨n=2∨n=3∨n=4∨n=5∨n=6:=(by omega);rcases this with rfl | rfl | rfl | rfl | rfl | rfl;all_goals
      go_enter Tryz.func192,Tryz.ntmps192;go_wp2_with (go_at_call 64;refine(QZ _ _ _ _).mono ?_;rintro e w' ⟨rfl,rfl⟩);go_ret;exact⟨rfl,Qb _ _⟩
  · have e:XH n=0:=by
      unfold XH;repeat (rw[if_neg (by omega)])
    rw[e];exact QhC n w (by simp[inR];omega)
theorem Jz (n k:Int) (w:World) (hn:n=13∨n=9∨n=127∨n=27) (hk:Y9 n=Qo k 0 1):
    Calls Tryz.prog 216 #[.int .i64 n] w fun e w'=>e=.returned (.int .i64 k)∧Below w.heap.size w w':=by
  have HK:=Lib.hid (fun W=>Zc n W (by omega));rw[hk] at HK;clear hk;have f1:=Vw;have f2:=QeS;have f3:=Qc1;rcases hn with rfl | rfl | rfl | rfl;all_goals
    go_enter Tryz.func216,Tryz.ntmps216;go_wp2_with (go_at_call 131;refine(HK.out _).mono ?_;rintro e w1 ⟨rfl,hb⟩;unfold tkV Qo QL);go_ret;exact⟨rfl,hb⟩
theorem QhD (n:Int) (w:World) (hn:¬(n=13∨n=9∨n=127∨n=27)):
    Calls Tryz.prog 216 #[.int .i64 n] w fun e w'=>e=.returned (.int .i64 (if (Yq n&&decide (32≤n))=true then n else 0))∧Below w.heap.size w w':=by
  have h1:¬n=13:=fun e=>hn (.inl e);have h2:¬n=9:=fun e=>hn (.inr (.inl e));have h3:¬n=127:=fun e=>hn (.inr (.inr (.inl e)));have h4:¬n=27:=fun e=>hn (.inr (.inr (.inr e)));clear hn
  cases hp:Yq n
  · go_enter Tryz.func216,Tryz.ntmps216;go_wp2_with (go_at_call 118;refine(Yv _ _).mono ?_;rintro e w1 ⟨rfl,rfl⟩;rw[hp]);go_ret;exact⟨rfl,Below.refl _ _⟩
  · by_cases h32:32≤n
    · rw[if_pos (by simp[h32])];go_enter Tryz.func216,Tryz.ntmps216;go_wp2_with (go_at_call 118;refine(Yv _ _).mono ?_;rintro e w1 ⟨rfl,rfl⟩;rw[hp]);go_ret;exact⟨rfl,Below.refl _ _⟩
    · rw[if_neg (by simp;omega)];go_enter Tryz.func216,Tryz.ntmps216;go_wp2_with (go_at_call 118;refine(Yv _ _).mono ?_;rintro e w1 ⟨rfl,rfl⟩;rw[hp]);go_ret;exact⟨rfl,Below.refl _ _⟩
theorem Qgg (n:Int) (w:World):
    Calls Tryz.prog 216 #[.int .i64 n] w fun e w'=>e=.returned (.int .i64 (Zu n))∧Below w.heap.size w w':=by
  by_cases hn:n=13∨n=9∨n=127∨n=27
  · rcases hn with rfl | rfl | rfl | rfl
    · exact Jz 13 2000001 w (by omega) rfl
    · exact Jz 9 2000002 w (by omega) rfl
    · exact Jz 127 2000003 w (by omega) rfl
    · exact Jz 27 2000004 w (by omega) rfl
  · have e:Zu n=if (Yq n&&decide (32≤n))=true then n else 0:=by
      unfold Zu;rw[if_neg (fun e=>hn (.inl e)),if_neg (fun e=>hn (.inr (.inl e))),if_neg (fun e=>hn (.inr (.inr (.inl e)))),if_neg (fun e=>hn (.inr (.inr (.inr e))))]
    rw[e];exact QhD n w hn
end Go.Proofs.YtbfickdgjgbfhaaGreatDoor
