/- The law on Crc32 holds for every []byte: the program's sum and the model's agree, neither writes into its argument, so the law answers true; the slice reads as before. No condition. -/
import Derived.Test.YtbgiccgfgljkbaaRows
import Derived.WalkKit
import Derived.ProofKit
import Derived.OpenShut
import Derived.ShutString
import Derived.ChangeOld
import Derived.Below
import Derived.Test.YtbgiccgfgljkbaaBytes
import Derived.Test.YtbgiccgfgljkbaaCrcWalks
namespace Go.Proofs.Ytbgiccgfgljkbaa
namespace fnExactCrc32
open Go.ChangeShapes Go.WideShapes Go.ChangeAt Go.RowKit
open Go.ChangeMaps (open_string shut_string)
set_option linter.unusedVariables false

theorem own : ownKnob Try.prog.godebug = none := by kernel_rfl
theorem laidOut : laidOutB Try.prog = true := by kernel_rfl

/-! ### STEP 1: THE WALK: the Go text returns true, AND WRITES NOTHING THAT WAS THERE: 'Below w.heap.size w w'' (Derived/Below.lean: '.refl', '.alloc', '.drew', '.setCell' at a new block, '.trans'). Open each 'IsRow' by 'rcases' AHEAD of 'go_enter'; part every test ahead of the walk. -/
theorem walk (a0 : Option Addr) (len0 cap0 : Nat) (z0 : List Int) (w : World) (w0 : IsRow .u8 w a0 len0 cap0 z0) :
    Calls Try.prog 6 #[.slice a0 len0 cap0] w fun e w' => e = .returned (.bool true) ∧ Below w.heap.size w w' := by
  obtain ⟨hrd, hlen, hwf⟩ := Rd.of_row w0
  generalize z0.take len0 = zs at hrd hlen hwf
  have hbd := bytes_bd hwf
  clear w0 hwf
  subst hlen
  have hm := hrd.len
  unfold maxLen at hm
  by_cases hbig : (1048576 : Int) < (zs.length : Int)
  · clear hrd hbd
    go_enter Try.func6, Try.ntmps6
    go_wp2
    go_ret
    exact ⟨rfl, Below.refl _ _⟩
  · have hsm : zs.length ≤ 1048576 := by omega
    have HR : Hid (Rd .u8 w (.slice a0 zs.length cap0) zs) := hrd
    have HB : Hid (∀ z ∈ zs, 0 ≤ z ∧ z < 256) := hbd
    clear hrd hbd hbig
    go_enter Try.func6, Try.ntmps6
    go_wp2_with fail
    refine (toByteS_any _ zs _ HR.out (by omega)).mono ?_
    rintro e w1 ⟨v1, rfl, o1, b1⟩
    have R1 : Hid (Rd .u8 w1 v1 zs) := Rd.own o1
    clear o1
    go_wp2_with fail
    refine (specCrc_any v1 zs _ R1.out HB.out).mono ?_
    rintro e w' ⟨rfl, rfl⟩
    go_wp2_with fail
    refine (toByteS_any _ zs _ (HR.out.below b1) (by omega)).mono ?_
    rintro e w2 ⟨v2, rfl, o2, b2⟩
    have R2 : Hid (Rd .u8 w2 v2 zs) := Rd.own o2
    have b12 : Below w.heap.size w w2 := b1.trans (b2.mono b1.size)
    clear o2 R1 b1 b2
    go_wp2_with fail
    refine (implCrc_any v2 zs _ R2.out HB.out).mono ?_
    rintro e w' ⟨rfl, rfl⟩
    go_wp2_with fail
    refine (toByteS_any _ zs _ (HR.out.below b12) (by omega)).mono ?_
    rintro e w3 ⟨v3, rfl, o3, b3⟩
    have R3 : Hid (Rd .u8 w3 v3 zs) := Rd.own o3
    have R23 : Hid (Rd .u8 w3 v2 zs) := R2.out.below b3
    have b13 : Below w.heap.size w w3 := b12.trans (b3.mono b12.size)
    clear o3 R2 b12 b3
    go_wp2_with fail
    refine (eqByteS_any v2 v3 zs zs _ R23.out R3.out).mono ?_
    rintro e w4 ⟨rfl, b4⟩
    have b14 : Below w.heap.size w w4 := b13.trans (b4.mono b13.size)
    have hd : decide (zs = zs) = true := by simp
    clear b4 b13 R3 R23
    rw [hd]
    go_wp2
    go_ret
    exact ⟨rfl, b14⟩

/-! ### THE ROW's STEP: WRITTEN OUT: LEAVE IT -/
set_option maxRecDepth 100000 in
theorem lifted (os : Os) (started : os.Started) (H : Type) (enc : TypeId × Value → H) :
    ReturnsInHanded {} Try.checked os 6 .any (Rows.fnExactCrc32Spec.pre6 enc Try.prog Try.f6 Rows.fnExactCrc32Row.domain false) (Rows.fnExactCrc32Spec.post enc Try.prog Try.f6 false true false false) := by
  refine returnsInHanded_of_change (C := Try.checked) own started (by kernel_rfl) Try.func6
    (ChangeSpec.witness6 (enc := enc) (C := Try.checked) false ⟨#[], #[.slice none 0 0], []⟩ 8 (by kernel_rfl) (by kernel_rfl) (by kernel_rfl) (by kernel_rfl)) ?_
  intro W base args ds gs before hval0 hW hcnd _
  have hval : ∀ (j : Nat) t v, Try.f6.params[j]? = some t → args[j]? = some v → Value.okWide Try.prog W .any base t v := hval0
  have hW' := hW
  obtain ⟨p, q, hA0, hV, rfl, hfz, hnd⟩ := hW
  have hA : DataW.TrodAll enc Try.prog W 0 (fun _ => true) true Try.f6.params.toList args.toList ds p := hA0
  rw [Try.params6] at hA hval
  obtain ⟨v0, vs0, d0, ds0, p0, q0, hargs, rfl, rfl, h0, r0⟩ := trodAll_cons hA
  obtain ⟨rfl, rfl, rfl⟩ := trodAll_nil r0
  obtain rfl : args = #[v0] := by cases args; simp_all
  obtain ⟨rfl, rfl⟩ := trodVars_none hV
  obtain ⟨a0, len0, cap0, rfl⟩ := okWide_slice Try.underlying31 (hval 0 31 v0 rfl rfl)
  have k0 := h0
  have lt0 : ∀ x ∈ p0, x.block < W.heap.size := by obtain ⟨m, hm⟩ := k0; exact DataW.trod_lt m _ _ _ hm
  obtain ⟨z0, w0⟩ : ∃ zs, IsRow .u8 W a0 len0 cap0 zs := by
    obtain ⟨fuel, hf⟩ := h0
    rcases open_ints Try.underlying31 Try.underlying5 (by kernel_rfl) hf with ⟨hcs, _⟩ | ⟨x, l, c, zs, hcs, _, hl, hm, hz, _, hcell, hwz⟩
    · simp [Value.cells] at hcs
      obtain ⟨rfl, rfl, rfl⟩ := hcs
      exact ⟨[], .inl ⟨rfl, rfl, rfl, rfl⟩⟩
    · simp [Value.cells] at hcs
      obtain ⟨rfl, rfl, rfl⟩ := hcs
      exact ⟨zs, .inr ⟨_, rfl, hl, hm, by simpa using hz, hcell, hwz⟩⟩
  clear hA0 hval0
  refine (walk a0 len0 cap0 z0 W w0).mono fun e W' ⟨he, bel⟩ => ?_
  subst he
  exact ⟨_, rfl, _, _, _, [], _, [], hW', trodAll_mk1 (shut_bool Try.underlying4 _), (trodAll_cons_mk (Below.trod laidOut (by kernel_rfl) (of_decide_eq_true (by kernel_rfl)) k0 bel lt0) trodAll_mk0), rfl, bel.frame _, fun h => by cases h⟩

theorem over : Rows.fnExactCrc32Row.holds Try.pinned (OpenSpec.ofChange Rows.fnExactCrc32Spec) :=
  OpenClaim.holds_of_wide 6 Try.f6 rfl rfl rfl rfl rfl rfl rfl ⟨rfl, rfl, rfl, rfl, rfl⟩ rfl rfl rfl rfl rfl (by kernel_rfl) Try.func6 (by kernel_rfl)
    (of_decide_eq_true (by kernel_rfl)) (by unfold Func.isWrapper; first | (rw [if_pos (by decide +kernel)]; kernel_rfl) | (rw [if_neg (by decide +kernel)]; exact ⟨rfl, rfl⟩))
    (fun os started H enc _ => lifted os started H enc)

end fnExactCrc32
/-- The statement. -/
theorem crc32_holds : Rows.FnExactCrc32Said := fnExactCrc32.over
#print axioms crc32_holds
end Go.Proofs.Ytbgiccgfgljkbaa
