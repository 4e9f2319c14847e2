/- The program tells a root: told at Root; DecodeRoot. The program's DecodeRoot. -/
import Derived.Test.YtkbbnflblkkepaaGreatDoorZm21
import Derived.Test.YtkbbnflblkkepaaGreatDoorZm24
namespace Go.Proofs.YtkbbnflblkkepaaGreatDoor
set_option linter.unusedVariables false
set_option linter.unusedSimpArgs false
open Go.RowKit


def noRoot : List Int := List.replicate 15 0

end Go.Proofs.YtkbbnflblkkepaaGreatDoor

namespace Go.Proofs.YtkbbnflblkkepaaGreatDoor
set_option linter.unusedVariables false
set_option linter.unusedSimpArgs false
open Go.RowKit

/-- What DecodeRoot's regions leave: a root that was read, and whether it is told. -/
def ReadR (zs : List Int) (s : Int) (ds : List Int) (p q : Int) (ok : Bool) : Prop :=
  ds.length = 12 ∧ (ok = true → RootAt zs 0 s ds p q ∧ rightR s ds p q = true ∧ zs.length = 64) ∧ (zs.length = 64 → RootAt zs 0 s ds p q ∧ ok = rightR s ds p q)

theorem readR_of (zs : List Int) (s : Int) (ds : List Int) (p q : Int) (ok2 : Bool) (p2 : Nat) (ha : Adv true zs 0 64 ok2 p2) (hv : ok2 = true → RootAt zs 0 s ds p q) (hd : ds.length = 12) :
    ReadR zs s ds p q (ok2 && ((((zs.drop p2).take (64 - p2)).all fun z => decide (z = 0)) && decide (zs.length = 64)) && rightR s ds p q) := by
  refine ⟨hd, fun h => ?_, fun h => ?_⟩
  · simp only [Bool.and_eq_true, decide_eq_true_eq] at h
    exact ⟨hv h.1.1, h.2, h.1.2.2⟩
  · rcases ha with ⟨h1, _, _, h4⟩ | ⟨_, h2, _⟩
    · subst h4 h1
      refine ⟨hv rfl, ?_⟩
      simp [h]
    · exact absurd ⟨rfl, by omega⟩ h2

end Go.Proofs.YtkbbnflblkkepaaGreatDoor
