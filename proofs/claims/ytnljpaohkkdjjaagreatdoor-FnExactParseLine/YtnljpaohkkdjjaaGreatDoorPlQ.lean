/- The program's lineWords. -/
import Derived.Test.YtnljpaohkkdjjaaGreatDoorPlP
import Derived.Test.YtnljpaohkkdjjaaGreatDoorSplS
namespace Go.Proofs.YtnljpaohkkdjjaaGreatDoor
set_option linter.unusedVariables false
set_option linter.unusedSimpArgs false
open Go.RowKit

theorem isSpace_any (x : Nat) (w : World) (hx : x ≤ 1114111) : Calls Tryz.prog 37 #[.int .i32 (x : Int)] w fun e w' => e = .returned (.bool (Spw.isSl x)) ∧ w' = w := by
  go_enter Tryz.func37, Tryz.ntmps37
  go_wp2
  go_ret
  refine ⟨ret_bool ?_, rfl⟩
  unfold Spw.isSl
  cases h : (x == 32) with
  | true => simp at h; subst h; rfl
  | false => simp at h; simp; omega
theorem space_pred (w : World) : PredGrows Tryz.prog 37 #[] Spw.isSl w := fun W x hx hb => (isSpace_any x W hx).mono fun e w' h => ⟨h.1, by rw [h.2]; exact Below.refl _ _⟩
theorem fieldsW_any (s : ByteArray) (w : World) (hs : s.size ≤ 1048576) :
    Calls Tryz.prog 36 #[.string s, .func (.func 37) #[] #[]] w fun e w' => ∃ v, e = .returned v ∧ w'.ownsRow w.heap.size 9 1 v (Spw.names s).length ((Spw.names s).map Value.string) ∧ Below w.heap.size w w' := by
  refine (strings_FieldsFunc_grows 37 #[] (enters_of Tryz.func37 (by kernel_rfl) rfl) Spw.isSl s w (by omega) (space_pred w)).mono ?_
  rintro e w' ⟨A, rfl, hA, ho, hb⟩
  rw [Spw.fields_names] at ho ⊢
  exact ⟨_, rfl, ho, hb⟩
theorem lineWords_any (s : ByteArray) (w : World) (hs : s.size ≤ 1048576) :
    Calls Tryz.prog 24 #[.string s] w fun e w' => ∃ v, e = .returned v ∧ w'.ownsRow w.heap.size 9 1 v (Spw.names s).length ((Spw.names s).map Value.string) ∧ Below w.heap.size w w' := by
  go_enter Tryz.func24, Tryz.ntmps24
  go_wp2_with (go_at_call 36; fail)
  refine (fieldsW_any s _ hs).mono ?_
  rintro e w1 ⟨v1, rfl, o1, b1⟩
  have H1 := hide (And.intro o1 b1)
  clear o1 b1
  go_wp2_with fail
  go_ret
  exact ⟨_, rfl, H1.out.1, H1.out.2⟩
end Go.Proofs.YtnljpaohkkdjjaaGreatDoor
