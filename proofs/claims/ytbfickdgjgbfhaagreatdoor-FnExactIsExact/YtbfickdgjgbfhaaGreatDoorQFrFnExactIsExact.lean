/- For every value of Modes and every event, and with the tables of packages strconv, bits and utf8 as the text lays them, the law FnExactIsExact returns true and leaves its arguments as they were: IsExact answers as its model does. The tables are tied to the program's text by the card. -/
import Derived.Test.YtbfickdgjgbfhaaGreatDoorCards
import Derived.Test.YtbfickdgjgbfhaaGreatDoorTie
import Derived.Test.YtbfickdgjgbfhaaGreatDoorQLaidToOpenMd
import Derived.Test.YtbfickdgjgbfhaaGreatDoorQExPureToLawIsExact
import Derived.WalkKit
import Derived.ProofKit
import Derived.OpenShut
import Derived.Below
import Derived.ShutString
import Derived.ChangeOld
import Derived.Carry
import Derived.Deep.DeepHandedRow
set_option linter.unusedVariables false
set_option maxRecDepth 100000
namespace Go.Proofs.YtbfickdgjgbfhaaGreatDoor.PFnExactIsExact
open Go.ChangeShapes Go.WideShapes Go.ChangeAt Go.RowKit
open Go.ChangeMaps (open_string shut_string)
theorem own:ownKnob Tryz.prog.godebug=none:=by kernel_rfl
theorem Qkp:laidOutB Tryz.prog=true:=by kernel_rfl
theorem Kp (H:Type) (enc:TypeId×Value→H) (W:World) (base:Nat) (args:Array Value) (ds gs:List (DataW H)) (before:List MemPlace)
    (hval:∀(j:Nat) t v,Tryz.f7.params[j]? =some t→args[j]? =some v→Value.okWide Tryz.prog W .any base t v)
    (hW:DataW.Whole enc Tryz.prog Tryz.f7.params.toList Rows.fnExactIsExactSpec.vars false W args.toList ds gs before) (hL:laidMetH Tryz.prog Rows.fnExactIsExactRow.laid W):
    Calls Tryz.prog 7 args W fun e W'=>∃v,e=.returned v∧Rows.fnExactIsExactSpec.post enc Tryz.prog Tryz.f7 false true false false W args v W':=by
  have hL':laidMet Tryz.prog Rows.fnExactIsExactRow.laid W:=hL;have hT:=And.intro (QeN (Lib.laidMet.reads hL' (.tail _ (.tail _ (.head _))))) (QdR (Lib.laidMet.reads hL' (.tail _ (.tail _ (.tail _ (.tail _ (.head _)))))) (Lib.laidMet.reads hL' (.tail _ (.tail _ (.tail _ (.head _))))));have hW':=hW;obtain⟨p,q,hA0,hV,rfl,hfz,hnd⟩:=hW;have hA:DataW.TrodAll enc Tryz.prog W 0 (fun _=>true) true Tryz.f7.params.toList args.toList ds p:=hA0;rw[Tryz.params7] at hA hval;obtain⟨v0,vs0,d0,ds0,p0,q0,hargs,rfl,rfl,h0,r0⟩:=trodAll_cons hA;obtain⟨v1,vs1,d1,ds1,p1,q1,rfl,rfl,rfl,h1,r1⟩:=trodAll_cons r0;obtain⟨rfl,rfl,rfl⟩:=trodAll_nil r1;obtain rfl:args=#[v0,v1]:=(by cases args;simp_all);obtain⟨rfl,rfl⟩:=trodVars_none hV;have k0:=h0;have lt0:∀x∈p0,x.block<W.heap.size:=(by obtain⟨m,hm⟩:=k0;exact DataW.trod_lt m _ _ _ hm);obtain⟨m0,rfl⟩:=QdT (hval 0 64 v0 rfl rfl) h0;have k1:=h1;have lt1:∀x∈p1,x.block<W.heap.size:=(by obtain⟨m,hm⟩:=k1;exact DataW.trod_lt m _ _ _ hm);obtain⟨e1,pp1,c1,rfl,b1,n1⟩:=QdS (hval 1 65 v1 rfl rfl) h1;clear hA0;refine(QcS m0 e1 pp1 c1 W b1 n1 hT.1 hT.2).mono fun e W' ⟨he,bel⟩=>?_;subst he;exact⟨_,rfl,_,_,_,[],_,[],hW',trodAll_mk1 (shut_bool Tryz.underlying4 _),(trodAll_cons_mk (Below.trod Qkp (by kernel_rfl) (of_decide_eq_true (by kernel_rfl)) k0 bel lt0) (trodAll_cons_mk (Below.trod Qkp (by kernel_rfl) (of_decide_eq_true (by kernel_rfl)) k1 bel lt1) trodAll_mk0)),rfl,bel.frame _,fun h=>by cases h⟩
theorem Qk4 (os:Os):laidMet Tryz.prog Rows.fnExactIsExactRow.laid ((KQ os).forCall (fun _ _=>0) ⟨#[],#[.agg #[.bool false,.bool false,.int .i64 0,.bool false,.bool false],.agg #[.int .i64 0,.int .i64 0,.int .i64 0,.int .i64 0,.int .i64 0,.int .i64 0,.int .i64 0,.slice none 0 0]],[]⟩).memory:=
  laidMet_of_run' 8 (by kernel_rfl) (by kernel_rfl)
theorem reads (os:Os) {H:Type} (enc:TypeId×Value→H):∃places,DataW.whole enc Tryz.prog ((KQ os).forCall (fun _ _=>0) ⟨#[],#[.agg #[.bool false,.bool false,.int .i64 0,.bool false,.bool false],.agg #[.int .i64 0,.int .i64 0,.int .i64 0,.int .i64 0,.int .i64 0,.int .i64 0,.int .i64 0,.slice none 0 0]],[]⟩).memory Tryz.f7.params.toList Rows.fnExactIsExactSpec.vars false (#[.agg #[.bool false,.bool false,.int .i64 0,.bool false,.bool false],.agg #[.int .i64 0,.int .i64 0,.int .i64 0,.int .i64 0,.int .i64 0,.int .i64 0,.int .i64 0,.slice none 0 0]]:Array Value).toList 8=some ([.agg [.lit (.bool false),.lit (.bool false),.lit (.int .i64 0),.lit (.bool false),.lit (.bool false)],.agg [.lit (.int .i64 0),.lit (.int .i64 0),.lit (.int .i64 0),.lit (.int .i64 0),.lit (.int .i64 0),.lit (.int .i64 0),.lit (.int .i64 0),.nil]],[],places):=
  ⟨[],by kernel_rfl⟩
theorem Ql5 (os:Os) (started:os.Started) (H:Type) (enc:TypeId×Value→H) (F:Stop.Interp):
    ReturnsInHanded {} Tryz.checked os 7 .any ((OpenSpec.ofChange Rows.fnExactIsExactSpec).preRow enc Tryz.prog Tryz.f7 Rows.fnExactIsExactRow.domain false Rows.fnExactIsExactRow.laid) (((OpenSpec.ofChange Rows.fnExactIsExactSpec).at F).post enc Tryz.prog Tryz.f7 false true false false):=by
  obtain⟨places,hx⟩:=reads os enc;refine returnsInHanded_of_row (C:=Tryz.checked) (s:=OpenSpec.ofChange Rows.fnExactIsExactSpec) own started (by kernel_rfl) Tryz.func7
    (witness_row_at (enc:=enc) (C:=Tryz.checked) false (KQ os) #[.agg #[.bool false,.bool false,.int .i64 0,.bool false,.bool false],.agg #[.int .i64 0,.int .i64 0,.int .i64 0,.int .i64 0,.int .i64 0,.int .i64 0,.int .i64 0,.slice none 0 0]] rfl (by kernel_rfl) (by kernel_rfl) (by kernel_rfl)
      (OpenSpec.preRow_of_cond 8 hx (by kernel_rfl) (fun k hk=>by cases hk) (by kernel_rfl) (Qk4 os))) ?_
  intro W base args ds gs before hval hW _ _ _ hL _ _;exact Kp H enc W base args ds gs before hval hW hL
theorem Qmy:Rows.FnExactIsExactSaid:=
  OpenClaim.holds_of_cond 7 Tryz.f7 rfl rfl rfl rfl rfl rfl rfl ⟨rfl,rfl,rfl,rfl,rfl⟩ rfl rfl rfl rfl rfl (by kernel_rfl) Tryz.func7 (by kernel_rfl)
    (of_decide_eq_true (by kernel_rfl)) (by unfold Func.isWrapper;first | (rw[if_pos (by decide+kernel)];kernel_rfl) | (rw[if_neg (by decide+kernel)];exact⟨rfl,rfl⟩))
    (fun os started H enc _ F=>by rw[OpenClaim.pre_eq_preRow];exact Ql5 os started H enc F)
theorem plain (f:FuncId) (fn:Func) (hf:Tryz.pinned.checked.prog.funcNamed "loop.example/g00804/laws.FnExactIsExact"=some f) (hfn:Tryz.pinned.checked.prog.funcs[f]? =some fn):
    true=Tryz.pinned.checked.prog.looks []∧∀(j:Nat) t,fn.params[j]? =some t→Tryz.pinned.checked.prog.wantsStandIn t=false:=by
  obtain rfl:f=7:=Option.some.inj ((show Tryz.prog.funcNamed "loop.example/g00804/laws.FnExactIsExact"=some 7 by kernel_rfl).symm.trans hf) |>.symm;obtain rfl:fn=Tryz.f7:=(Option.some.inj (Tryz.func7.symm.trans hfn)).symm;refine⟨by kernel_rfl,fun j t ht=>?_⟩;rw[Tryz.params7] at ht;have hm:=Array.mem_of_getElem? ht;have hm2:t=64∨t=65:=(by simpa using hm);rcases hm2 with rfl | rfl
  · exact(show Tryz.prog.wantsStandIn 64=false by kernel_rfl)
  · exact(show Tryz.prog.wantsStandIn 65=false by kernel_rfl)
theorem card:Rows.FnExactIsExactCardSaid:=
  Claim7.holds_tied_plain_at .later [] _ _ _ _ Qmy (fun _ h=>by cases h) (by kernel_rfl) (fun _ h=>by cases h) fnExactIsExact_row_tie rfl ⟨rfl,rfl⟩ (by kernel_rfl) rfl plain (by kernel_rfl)
end Go.Proofs.YtbfickdgjgbfhaaGreatDoor.PFnExactIsExact
namespace Go.Proofs.YtbfickdgjgbfhaaGreatDoor
theorem fnExactIsExact_holds:Rows.FnExactIsExactCardSaid:=PFnExactIsExact.card
end Go.Proofs.YtbfickdgjgbfhaaGreatDoor
