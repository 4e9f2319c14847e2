/- The law on EncodeFsinfo holds for every root record: the program's answer is the model's, its answer owns its memory; so the law answers true and the record reads as before. Condition: errors.errorType and impl.fsinfoLetters hold what the program's own start lays there (the card ties it to the text). -/
import Derived.Test.YtfpfhmnmcjnmaaaDoorCards
import Derived.Test.YtfpfhmnmcjnmaaaDoorTie
import Derived.Test.YtfpfhmnmcjnmaaaDoorDoor
import Derived.Test.YtfpfhmnmcjnmaaaDoorLawEncF
import Derived.Test.YtfpfhmnmcjnmaaaDoorFsO
namespace Go.Proofs.YtfpfhmnmcjnmaaaDoor

namespace fnExactEncodeFsinfo
open Go.ChangeShapes Go.WideShapes Go.ChangeAt Go.RowKit
set_option linter.unusedVariables false

theorem laidWorld_met (os : Os) (args : Array Value) : laidMetH Tryd.prog Rows.fnExactEncodeFsinfoRow.laid ((laidWorldF os).forCall (fun _ _ => 0) ⟨#[], args, []⟩).memory :=
  laidMetH_of_parts (laidMet_of_run' (l := [("loop.example/s02533/impl.fsinfoLetters", Rows.laid_loop_example_s02533_impl_fsinfoLetters)]) 8 (by kernel_rfl) (by kernel_rfl)) (by kernel_rfl)
theorem parts_of_laid {W : World} (h : laidMetH Tryd.prog Rows.fnExactEncodeFsinfoRow.laid W) : ErrT W ∧ LetF W := by
  have h' : laidMet Tryd.prog [("loop.example/s02533/impl.fsinfoLetters", Rows.laid_loop_example_s02533_impl_fsinfoLetters)] W ∧ handlesMet Tryd.prog [("errors.errorType", Rows.laid_errors_errorType)] W := h
  exact ⟨errT_of (List.mem_singleton.2 rfl) h'.2, letF_of h'.1⟩

set_option maxRecDepth 100000 in
set_option maxHeartbeats 1000000 in
theorem lifted (os : Os) (started : os.Started) (H : Type) (enc : TypeId × Value → H) :
    ReturnsInHanded {} Tryd.checked os 8 .any (fun w args => (Rows.fnExactEncodeFsinfoSpec.pre enc Tryd.prog Tryd.f8 [] false w args ∧ laidMetH Tryd.prog Rows.fnExactEncodeFsinfoRow.laid w) ∧ sizedMet enc Tryd.prog Tryd.f8 (OpenSpec.ofChange Rows.fnExactEncodeFsinfoSpec) false w args)
      (Rows.fnExactEncodeFsinfoSpec.post enc Tryd.prog Tryd.f8 false true false false) := by
  refine returnsInHanded_of_change_and (C := Tryd.checked) (X := fun w _ => laidMetH Tryd.prog Rows.fnExactEncodeFsinfoRow.laid w) (fun _ _ _ hh h => h.of_heap hh) own started (by kernel_rfl) Tryd.func8
    (ChangeSpec.witness_at (enc := enc) (C := Tryd.checked) (os := os) (X := fun w _ => laidMetH Tryd.prog Rows.fnExactEncodeFsinfoRow.laid w) false (laidWorldF os) #[.agg #[.int .i64 0, .int .i64 0, .int .i64 0, .int .i64 0, .int .i64 0, .int .i64 0, .int .i64 0, .int .i64 0, .int .i64 0, .int .i64 0, .int .i64 0, .int .i64 0, .int .i64 0, .int .i64 0, .int .i64 0, .int .i64 0, .int .i64 0, .int .i64 0, .int .i64 0, .int .i64 0, .int .i64 0, .int .i64 0, .int .i64 0, .int .i64 0, .int .i64 0, .int .i64 0, .int .i64 0, .int .i64 0, .int .i64 0, .int .i64 0, .int .i64 0, .int .i64 0, .int .i64 0, .int .i64 0, .int .i64 0, .int .i64 0, .int .i64 0, .int .i64 0, .int .i64 0, .int .i64 0, .int .i64 0, .int .i64 0, .int .i64 0, .int .i64 0, .int .i64 0, .int .i64 0, .int .i64 0, .int .i64 0, .int .i64 0, .int .i64 0, .int .i64 0, .int .i64 0, .int .i64 0, .int .i64 0, .int .i64 0, .int .i64 0, .int .i64 0, .int .i64 0, .int .i64 0, .int .i64 0, .int .i64 0, .int .i64 0, .int .i64 0, .int .i64 0, .int .i64 0, .int .i64 0, .int .i64 0, .int .i64 0]] 8 rfl (by kernel_rfl) (by kernel_rfl) (by kernel_rfl) (by kernel_rfl) (by kernel_rfl) (laidWorld_met os _)) ?_
  intro W base args ds gs before hval0 hW hcnd _ hL _
  have hval : ∀ (j : Nat) t v, Tryd.f8.params[j]? = some t → args[j]? = some v → Value.okWide Tryd.prog W .any base t v := hval0
  have hW' := hW
  obtain ⟨p, q, hA0, hV, rfl, hfz, hnd⟩ := hW
  have hA : DataW.TrodAll enc Tryd.prog W 0 (fun _ => true) true Tryd.f8.params.toList args.toList ds p := hA0
  rw [Tryd.params8] at hA hval
  obtain ⟨v0, vs0, d0, ds0, p0, q0, hargs, rfl, rfl, h0, r0⟩ := trodAll_cons hA
  obtain ⟨rfl, rfl, rfl⟩ := trodAll_nil r0
  obtain rfl : args = #[v0] := by cases args; simp_all
  have kV := hV
  have k0 := h0
  have lt0 : ∀ x ∈ p0, x.block < W.heap.size := by obtain ⟨m, hm⟩ := k0; exact DataW.trod_lt m _ _ _ hm
  obtain ⟨j0, j1, j2, j3, j4, j5, j6, s1, ds1, pp1, qq1, s2, ds2, pp2, qq2, sn, hd1, hd2, hsn, rfl⟩ := open_fs (hval 0 56 v0 rfl rfl) h0
  obtain ⟨gv, tv, csv, fv, dv, pv, rfl, _⟩ := trodVars_one hV
  clear hA0 hval0
  refine (lawEncF j0 j1 j2 j3 j4 j5 j6 s1 ds1 pp1 qq1 s2 ds2 pp2 qq2 sn W hd1 hd2 hsn (parts_of_laid hL).1 (parts_of_laid hL).2).mono fun e W' ⟨he, bel⟩ => ?_
  subst he
  exact ⟨_, rfl, _, _, _, [], _, _, hW', trodAll_mk1 (shut_bool Tryd.underlying4 _), (trodAll_cons_mk (Below.trod laidOut (by kernel_rfl) (of_decide_eq_true (by kernel_rfl)) k0 bel lt0) trodAll_mk0), Below.trodVars laidOut bel (by kernel_rfl) kV, bel.frame _, fun h => by cases h⟩

theorem said : Rows.FnExactEncodeFsinfoSaid :=
  OpenClaim.holds_of_wide 8 Tryd.f8 rfl rfl rfl rfl rfl rfl rfl ⟨rfl, rfl, rfl, rfl, rfl⟩ rfl rfl rfl rfl rfl (by kernel_rfl) Tryd.func8 (by kernel_rfl)
    (of_decide_eq_true (by kernel_rfl)) (by unfold Func.isWrapper; first | (rw [if_pos (by decide +kernel)]; kernel_rfl) | (rw [if_neg (by decide +kernel)]; exact ⟨rfl, rfl⟩))
    (fun os started H enc _ => lifted os started H enc)

theorem plain (f : FuncId) (fn : Func) (hf : Tryd.pinned.checked.prog.funcNamed "loop.example/s02533/laws.FnExactEncodeFsinfo" = some f) (hfn : Tryd.pinned.checked.prog.funcs[f]? = some fn) :
    true = Tryd.pinned.checked.prog.looks [] ∧ ∀ (j : Nat) t, fn.params[j]? = some t → Tryd.pinned.checked.prog.wantsStandIn t = false := by
  obtain rfl : f = 8 := Option.some.inj ((show Tryd.prog.funcNamed "loop.example/s02533/laws.FnExactEncodeFsinfo" = some 8 by kernel_rfl).symm.trans hf) |>.symm
  obtain rfl : fn = Tryd.f8 := (Option.some.inj (Tryd.func8.symm.trans hfn)).symm
  refine ⟨by kernel_rfl, fun j t ht => ?_⟩
  rw [Tryd.params8] at ht
  obtain rfl : t = 56 := by simpa using Array.mem_of_getElem? ht
  exact (show Tryd.prog.wantsStandIn 56 = false by kernel_rfl)
end fnExactEncodeFsinfo

/-- The card. -/
theorem encodeFsinfo_card : Rows.FnExactEncodeFsinfoCardSaid :=
  Claim7.holds_tied_plain_at .later [] _ _ _ _ fnExactEncodeFsinfo.said (fun _ h => by cases h) (by kernel_rfl) (fun _ h => by cases h) fnExactEncodeFsinfo_row_tie rfl ⟨rfl, rfl⟩ (by kernel_rfl) rfl fnExactEncodeFsinfo.plain (by kernel_rfl)
#print axioms encodeFsinfo_card
end Go.Proofs.YtfpfhmnmcjnmaaaDoor
