/- The law on Format holds for every int, int and int: the program's answer is the model's, i -/
import Derived.Test.YtpplnhkpcpieoaaGreatDoorCards
import Derived.Test.YtpplnhkpcpieoaaGreatDoorTie
import Derived.Test.YtpplnhkpcpieoaaGreatDoorZx50
import Derived.Test.YtpplnhkpcpieoaaGreatDoorZx51
namespace Go.Proofs.YtpplnhkpcpieoaaGreatDoor
open Go.Proofs.Tryz
set_option linter.all false
set_option maxRecDepth 100000
set_option maxHeartbeats 16000000
section
namespace fnExactFormat
open Go.ChangeShapes Go.WideShapes Go.ChangeAt Go.RowKit
theorem Nj(os:Os)(args:Array Value):laidMetH prog Rows.fnExactFormatRow.laid ((laidWorldF os).forCall (fun _ _=>0) ⟨#[],args,[]⟩).memory:=
 laidMetH_of_parts (laidMet_of_run' (l:=[("loop.example/s02533/impl.fsinfoLetters",Rows.laid_loop_example_s02533_impl_fsinfoLetters)]) 8 (by kernel_rfl) (by kernel_rfl)) (by kernel_rfl)
theorem Cu{W:World}(h:laidMetH prog Rows.fnExactFormatRow.laid W):eM W∧lE W:=by
 have h':laidMet prog [("loop.example/s02533/impl.fsinfoLetters",Rows.laid_loop_example_s02533_impl_fsinfoLetters)] W∧handlesMet prog [("errors.errorType",Rows.laid_errors_errorType)] W:=h;exact ⟨Dg (List.mem_singleton.2 rfl) h'.2,Ni h'.1⟩
theorem lifted(os:Os)(started:os.Started)(H:Type)(enc:TypeId×Value→H):
 ReturnsInHanded {} Tryz.checked os 3 .any (fun w args=>(Rows.fnExactFormatSpec.pre enc prog f3 [] false w args∧laidMetH prog Rows.fnExactFormatRow.laid w)∧sizedMet enc prog f3 (OpenSpec.ofChange Rows.fnExactFormatSpec) false w args)
  (Rows.fnExactFormatSpec.post enc prog f3 false true false false):=by
 refine returnsInHanded_of_change_and (C:=Tryz.checked) (X:=fun w _=>laidMetH prog Rows.fnExactFormatRow.laid w) (fun _ _ _ hh h=>h.of_heap hh) own started (by kernel_rfl) func3
  (ChangeSpec.witness_at (enc:=enc) (C:=Tryz.checked) (os:=os) (X:=fun w _=>laidMetH prog Rows.fnExactFormatRow.laid w) false (laidWorldF os) #[.int .i64 0,.int .i64 0,.int .i64 0] 8 rfl (by kernel_rfl) (by kernel_rfl) (by kernel_rfl) (by kernel_rfl) (by kernel_rfl) (Nj os _)) ?_
 intro W base args ds gs before hval0 hW hcnd _ hL _;have hval:∀(j:Nat) t v,f3.params[j]?=some t→args[j]?=some v→Value.okWide prog W .any base t v:=hval0;have hW':=hW;obtain⟨p,q,Uq,hV,rfl,hfz,hnd⟩:=hW;have hA:DataW.TrodAll enc prog W 0 (fun _=>true) true f3.params.toList args.toList ds p:=Uq;rw[params3] at hA hval;obtain⟨v0,vs0,d0,ds0,p0,q0,hargs,rfl,rfl,h0,r0⟩:=trodAll_cons hA;obtain⟨v1,vs1,d1,ds1,p1,q1,hargs1,rfl,rfl,h1,r1⟩:=trodAll_cons r0;obtain⟨v2,vs2,d2,aq,p2,q2,hargs2,rfl,rfl,h2,r2⟩:=trodAll_cons r1;obtain⟨rfl,rfl,rfl⟩:=trodAll_nil r2;obtain rfl:args=#[v0,v1,v2]:=by cases args;simp_all
 have kV:=hV;obtain⟨gv,tv,csv,fv,dv,pv,rfl,_⟩:=trodVars_one hV;obtain⟨a0,rfl,rfl,rfl,w0⟩:=open_int underlying3 (hval 0 3 v0 rfl rfl) h0;obtain⟨a1,rfl,rfl,rfl,w1⟩:=open_int underlying3 (hval 1 3 v1 rfl rfl) h1;obtain⟨a2,rfl,rfl,rfl,w2⟩:=open_int underlying3 (hval 2 3 v2 rfl rfl) h2;clear Uq hval0;refine(Nd _ _ _ W (Cu hL).1 (Cu hL).2).mono fun e W' ⟨he,fF⟩=>?_;subst he;exact⟨_,rfl,_,_,_,[],_,_,hW',trodAll_mk1 (shut_bool underlying4 _),(trodAll_cons_mk (shut_int underlying3 w0) (trodAll_cons_mk (shut_int underlying3 w1) (trodAll_cons_mk (shut_int underlying3 w2) trodAll_mk0))),Below.trodVars laidOut fF (by kernel_rfl) kV,fF.frame _,fun h=>by cases h⟩
theorem said:Rows.FnExactFormatSaid:=
 OpenClaim.holds_of_wide 3 f3 rfl rfl rfl rfl rfl rfl rfl ⟨rfl,rfl,rfl,rfl,rfl⟩ rfl rfl rfl rfl rfl (by kernel_rfl) func3 (by kernel_rfl)
  (of_decide_eq_true (by kernel_rfl)) (by unfold Func.isWrapper;first|(rw[if_pos (by decide+kernel)];kernel_rfl)|(rw[if_neg (by decide+kernel)];exact⟨rfl,rfl⟩))
  (fun os started H enc _=>lifted os started H enc)
theorem plain (f:FuncId) (fn:Func) (hf:Tryz.pinned.checked.prog.funcNamed "loop.example/s02533/laws.FnExactFormat" =some f) (hfn:Tryz.pinned.checked.prog.funcs[f]?=some fn):
 true=Tryz.pinned.checked.prog.looks []∧∀(j:Nat) t,fn.params[j]?=some t→Tryz.pinned.checked.prog.wantsStandIn t=false:=by
 obtain rfl:f=3:=Option.some.inj ((show prog.funcNamed "loop.example/s02533/laws.FnExactFormat" =some 3 by kernel_rfl).symm.trans hf)|>.symm;obtain rfl:fn=f3:=(Option.some.inj (func3.symm.trans hfn)).symm;refine ⟨by kernel_rfl,fun j t ht=>?_⟩;rw [params3] at ht;obtain rfl:t=3:=by simpa using Array.mem_of_getElem? ht
 exact(show prog.wantsStandIn 3=false by kernel_rfl)
end fnExactFormat
theorem format_card:Rows.FnExactFormatCardSaid:=
 Claim7.holds_tied_plain_at .later [] _ _ _ _ fnExactFormat.said (fun _ h=>by cases h) (by kernel_rfl) (fun _ h=>by cases h) fnExactFormat_row_tie rfl ⟨rfl,rfl⟩ (by kernel_rfl) rfl fnExactFormat.plain (by kernel_rfl)
#print axioms format_card
end
end Go.Proofs.YtpplnhkpcpieoaaGreatDoor
