/- The contract of the model's l1Form: what an event has not is zero. One walk a kind. -/
import Derived.Test.YtbfickdgjgbfhaaGreatDoorQEvents
import Derived.BigGuardPart
import Derived.Deep.DeepCutAuto
set_option maxRecDepth 100000
set_option maxHeartbeats 8000000
namespace Go.Proofs.YtbfickdgjgbfhaaGreatDoor
open Go.RowKit
theorem QkM (e:Ev) (p:Option Addr) (c:Nat) (b off:Nat) (w:World) (h:Qax w b off e p c) (hk:(e.kind==1)=true):
    Calls Tryz.prog 81 #[.pointer (some ⟨b,off,none⟩)] w fun en w'=>en=.returned (.bool e.form)∧w=w':=by
  obtain⟨c0,c1,c2,c3,c4,c5,c6,c7⟩:=h;have k2:(e.kind==2)=false:=(by simp at hk ⊢;omega);have k3:(e.kind==3)=false:=(by simp at hk ⊢;omega);have k4:(e.kind==4)=false:=(by simp at hk ⊢;omega);have hl:=Ka e.data;have HF:Hid (e.form=((e.button==0&&(e.act==0&&(e.col==0&&e.row==0)))&&e.data.isEmpty)):=by
    unfold Ev.form;rw[if_pos (by simpa using hk)];rfl
  go_enter Tryz.func81,Tryz.ntmps81;go_upto_region 4 with(fail);simp only[List.append_eq,List.cons_append,List.nil_append];go_wp2;all_goals
    go_ret;exact⟨Qi (by rw[HF.out];simp[*]),rfl⟩
theorem QkN (e:Ev) (p:Option Addr) (c:Nat) (b off:Nat) (w:World) (h:Qax w b off e p c) (hk:(e.kind==2)=true):
    Calls Tryz.prog 81 #[.pointer (some ⟨b,off,none⟩)] w fun en w'=>en=.returned (.bool e.form)∧w=w':=by
  obtain⟨c0,c1,c2,c3,c4,c5,c6,c7⟩:=h;have k1:(e.kind==1)=false:=(by simp at hk ⊢;omega);have k3:(e.kind==3)=false:=(by simp at hk ⊢;omega);have k4:(e.kind==4)=false:=(by simp at hk ⊢;omega);have hl:=Ka e.data;have HF:Hid (e.form=(e.code==0&&e.data.isEmpty)):=by
    unfold Ev.form;rw[if_neg (by simpa using k1),if_pos (by simpa using hk)];rfl
  go_enter Tryz.func81,Tryz.ntmps81;go_upto_region 4 with(fail);simp only[List.append_eq,List.cons_append,List.nil_append];go_wp2;all_goals
    go_ret;exact⟨Qi (by rw[HF.out];simp[*]),rfl⟩
theorem QkO (e:Ev) (p:Option Addr) (c:Nat) (b off:Nat) (w:World) (h:Qax w b off e p c) (hk:(e.kind==3)=true):
    Calls Tryz.prog 81 #[.pointer (some ⟨b,off,none⟩)] w fun en w'=>en=.returned (.bool e.form)∧w=w':=by
  obtain⟨c0,c1,c2,c3,c4,c5,c6,c7⟩:=h;have k1:(e.kind==1)=false:=(by simp at hk ⊢;omega);have k2:(e.kind==2)=false:=(by simp at hk ⊢;omega);have k4:(e.kind==4)=false:=(by simp at hk ⊢;omega);have hl:=Ka e.data;have HF:Hid (e.form=(e.code==0&&(e.mods==0&&(e.button==0&&(e.act==0&&(e.col==0&&e.row==0)))))):=by
    unfold Ev.form;rw[if_neg (by simpa using k1),if_neg (by simpa using k2),if_pos (.inl (by simpa using hk))];rfl
  go_enter Tryz.func81,Tryz.ntmps81;go_upto_region 4 with(fail);simp only[List.append_eq,List.cons_append,List.nil_append];go_wp2;all_goals
    go_ret;exact⟨Qi (by rw[HF.out];simp[*]),rfl⟩
theorem QkP (e:Ev) (p:Option Addr) (c:Nat) (b off:Nat) (w:World) (h:Qax w b off e p c) (hk:(e.kind==4)=true):
    Calls Tryz.prog 81 #[.pointer (some ⟨b,off,none⟩)] w fun en w'=>en=.returned (.bool e.form)∧w=w':=by
  obtain⟨c0,c1,c2,c3,c4,c5,c6,c7⟩:=h;have k1:(e.kind==1)=false:=(by simp at hk ⊢;omega);have k2:(e.kind==2)=false:=(by simp at hk ⊢;omega);have k3:(e.kind==3)=false:=(by simp at hk ⊢;omega);have hl:=Ka e.data;have HF:Hid (e.form=(e.code==0&&(e.mods==0&&(e.button==0&&(e.act==0&&(e.col==0&&e.row==0)))))):=by
    unfold Ev.form;rw[if_neg (by simpa using k1),if_neg (by simpa using k2),if_pos (.inr (by simpa using hk))];rfl
  go_enter Tryz.func81,Tryz.ntmps81;go_upto_region 4 with(fail);simp only[List.append_eq,List.cons_append,List.nil_append];go_wp2;all_goals
    go_ret;exact⟨Qi (by rw[HF.out];simp[*]),rfl⟩
theorem QkQ (e:Ev) (p:Option Addr) (c:Nat) (b off:Nat) (w:World) (h:Qax w b off e p c) (k1:(e.kind==1)=false) (k2:(e.kind==2)=false) (k3:(e.kind==3)=false) (k4:(e.kind==4)=false):
    Calls Tryz.prog 81 #[.pointer (some ⟨b,off,none⟩)] w fun en w'=>en=.returned (.bool e.form)∧w=w':=by
  obtain⟨c0,c1,c2,c3,c4,c5,c6,c7⟩:=h;have hl:=Ka e.data;have HF:Hid (e.form=false):=by
    unfold Ev.form;rw[if_neg (by simpa using k1),if_neg (by simpa using k2),if_neg (by simp at k3 k4;omega)];rfl
  go_enter Tryz.func81,Tryz.ntmps81;go_upto_region 4 with(fail);simp only[List.append_eq,List.cons_append,List.nil_append];go_wp2;all_goals
    go_ret;exact⟨Qi (by rw[HF.out]),rfl⟩
theorem YF (e:Ev) (p:Option Addr) (c:Nat) (b off:Nat) (w:World) (h:Qax w b off e p c):
    Calls Tryz.prog 81 #[.pointer (some ⟨b,off,none⟩)] w fun en w'=>en=.returned (.bool e.form)∧w=w':=by
  cases k1:(e.kind==1)
  · cases k2:(e.kind==2)
    · cases k3:(e.kind==3)
      · cases k4:(e.kind==4)
        · exact QkQ e p c b off w h k1 k2 k3 k4
        · exact QkP e p c b off w h k4
      · exact QkO e p c b off w h k3
    · exact QkN e p c b off w h k2
  · exact QkM e p c b off w h k1
end Go.Proofs.YtbfickdgjgbfhaaGreatDoor
