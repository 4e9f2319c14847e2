/- The law on LowestInode holds for every slice of inodes: the program's number and the model's agree, neither writes into its argument, so the law answers true; the slice reads as before. No condition. -/
import Derived.Test.YtbgiccgfgljkbaaRows
import Derived.WalkKit
import Derived.ProofKit
import Derived.OpenShut
import Derived.ShutString
import Derived.ChangeOld
import Derived.Below
import Derived.Test.YtbgiccgfgljkbaaLowA
import Derived.Test.YtbgiccgfgljkbaaInoL
namespace Go.Proofs.Ytbgiccgfgljkbaa
namespace fnExactLowestInode
open Go.ChangeShapes Go.WideShapes Go.ChangeAt Go.RowKit
set_option linter.unusedVariables false

theorem own : ownKnob Try.prog.godebug = none := by kernel_rfl
theorem laidOut : laidOutB Try.prog = true := by kernel_rfl

theorem walk (v : Value) (n : Nat) (zs : List Int) (w : World) (hrd : RdT w v n zs) :
    Calls Try.prog 7 #[v] w fun e w' => e = .returned (.bool true) ∧ Below w.heap.size w w' := by
  have HR := hide hrd
  by_cases hbig : (1048576 : Int) < (n : Int)
  · have HS := hide (show (if (1048576 : Int) < n then (-1 : Int) else 1048576 - (n : Int)) = -1 from if_pos hbig)
    clear hrd
    go_enter Try.func7, Try.ntmps7
    go_wp2_with fail
    refine (szInodeS_any v n zs _ HR.out).mono ?_
    rintro e w1 ⟨rfl, rfl⟩
    rw [HS.out]
    go_wp2
    go_ret
    exact ⟨rfl, Below.refl _ _⟩
  · have HS := hide (show (if (1048576 : Int) < n then (-1 : Int) else 1048576 - (n : Int)) = 1048576 - (n : Int) from if_neg hbig)
    have hn : n ≤ 1048576 := by omega
    have HN := hide hn
    clear hrd
    go_enter Try.func7, Try.ntmps7
    go_wp2_with fail
    refine (szInodeS_any v n zs _ HR.out).mono ?_
    rintro e w1 ⟨rfl, rfl⟩
    rw [HS.out]
    have hl : decide ((1048576 : Int) - (n : Int) < 0) = false := by simp; omega
    go_wp2_with fail
    refine (toInodeS_any v n zs _ HR.out HN.out).mono ?_
    rintro e w1 ⟨v1, rfl, o1, b1⟩
    have R1 := hide (RdT.own o1)
    have B1 := hide b1
    clear o1 b1
    go_wp2_with fail
    refine (specLow_any v1 n zs _ R1.out).mono ?_
    rintro e w' ⟨rfl, rfl⟩
    go_wp2_with fail
    refine (toInodeS_any v n zs _ (HR.out.below B1.out) HN.out).mono ?_
    rintro e w2 ⟨v2, rfl, o2, b2⟩
    have R2 := hide (RdT.own o2)
    have B2 := hide (B1.out.trans (b2.mono B1.out.size))
    clear o2 b2 R1 B1
    go_wp2_with fail
    refine (implLow_any v2 n zs _ R2.out).mono ?_
    rintro e w' ⟨rfl, rfl⟩
    have hcc : ((lowG zs n 999 2 : Int) != (lowG zs n 999 2 : Int)) = false := by simp
    go_wp2_with fail
    refine (toInodeS_any v n zs _ (HR.out.below B2.out) HN.out).mono ?_
    rintro e w3 ⟨v3, rfl, o3, b3⟩
    have R3 := hide (RdT.own o3)
    have R23 := hide (R2.out.below b3)
    have B3 := hide (B2.out.trans (b3.mono B2.out.size))
    clear o3 b3 R2 B2
    go_wp2_with fail
    refine (eqInodeS_same v2 v3 n zs _ R23.out R3.out).mono ?_
    rintro e w4 ⟨rfl, b4⟩
    have B4 := hide (B3.out.trans (b4.mono B3.out.size))
    clear b4 B3 R3 R23
    go_wp2
    go_ret
    exact ⟨rfl, B4.out⟩

/-! ### The row's step -/
set_option maxRecDepth 100000 in
theorem lifted (os : Os) (started : os.Started) (H : Type) (enc : TypeId × Value → H) :
    ReturnsInHanded {} Try.checked os 7 .any (Rows.fnExactLowestInodeSpec.pre6 enc Try.prog Try.f7 Rows.fnExactLowestInodeRow.domain false) (Rows.fnExactLowestInodeSpec.post enc Try.prog Try.f7 false true false false) := by
  refine returnsInHanded_of_change (C := Try.checked) own started (by kernel_rfl) Try.func7
    (ChangeSpec.witness6 (enc := enc) (C := Try.checked) false ⟨#[], #[.slice none 0 0], []⟩ 8 (by kernel_rfl) (by kernel_rfl) (by kernel_rfl) (by kernel_rfl)) ?_
  intro W base args ds gs before hval0 hW hcnd _
  have hval : ∀ (j : Nat) t v, Try.f7.params[j]? = some t → args[j]? = some v → Value.okWide Try.prog W .any base t v := hval0
  have hW' := hW
  obtain ⟨p, q, hA0, hV, rfl, hfz, hnd⟩ := hW
  have hA : DataW.TrodAll enc Try.prog W 0 (fun _ => true) true Try.f7.params.toList args.toList ds p := hA0
  rw [Try.params7] at hA hval
  obtain ⟨v0, vs0, d0, ds0, p0, q0, hargs, rfl, rfl, h0, r0⟩ := trodAll_cons hA
  obtain ⟨rfl, rfl, rfl⟩ := trodAll_nil r0
  obtain rfl : args = #[v0] := by cases args; simp_all
  obtain ⟨rfl, rfl⟩ := trodVars_none hV
  obtain ⟨a0, len0, cap0, rfl⟩ := okWide_slice Try.underlying37 (hval 0 37 v0 rfl rfl)
  have k0 := h0
  have lt0 : ∀ x ∈ p0, x.block < W.heap.size := by obtain ⟨m, hm⟩ := k0; exact DataW.trod_lt m _ _ _ hm
  obtain ⟨z0, w0⟩ := open_inodes h0
  clear hA0 hval0
  refine (walk _ len0 z0 W w0).mono fun e W' ⟨he, bel⟩ => ?_
  subst he
  exact ⟨_, rfl, _, _, _, [], _, [], hW', trodAll_mk1 (shut_bool Try.underlying4 _), (trodAll_cons_mk (Below.trod laidOut (by kernel_rfl) (of_decide_eq_true (by kernel_rfl)) k0 bel lt0) trodAll_mk0), rfl, bel.frame _, fun h => by cases h⟩

theorem over : Rows.fnExactLowestInodeRow.holds Try.pinned (OpenSpec.ofChange Rows.fnExactLowestInodeSpec) :=
  OpenClaim.holds_of_wide 7 Try.f7 rfl rfl rfl rfl rfl rfl rfl ⟨rfl, rfl, rfl, rfl, rfl⟩ rfl rfl rfl rfl rfl (by kernel_rfl) Try.func7 (by kernel_rfl)
    (of_decide_eq_true (by kernel_rfl)) (by unfold Func.isWrapper; first | (rw [if_pos (by decide +kernel)]; kernel_rfl) | (rw [if_neg (by decide +kernel)]; exact ⟨rfl, rfl⟩))
    (fun os started H enc _ => lifted os started H enc)

end fnExactLowestInode
/-- The statement. -/
theorem lowestInode_holds : Rows.FnExactLowestInodeSaid := fnExactLowestInode.over
#print axioms lowestInode_holds
end Go.Proofs.Ytbgiccgfgljkbaa
