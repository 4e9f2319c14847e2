/- A number laid down at the end of bytes that are owned and have room: lay at its four widths. -/
import Derived.Test.YthghibopnnjboaaZi04
import Derived.WalkSpells
namespace Go.Proofs.Ythghibopnnjboaa
open Go.RowKit

/-- The m lowest bytes of n, the lowest first. -/
def le : Nat → Nat → List Int
  | 0, _ => []
  | m + 1, n => ((n % 256 : Nat) : Int) :: le m (n / 256)
theorem le_len : ∀ m n, (le m n).length = m
  | 0, _ => rfl
  | m + 1, n => by simp [le, le_len m]
theorem le_step (ys : List Int) (m j q : Nat) (h : j < m) : ys ++ le (m - j) q = ys ++ [((q % 256 : Nat) : Int)] ++ le (m - (j + 1)) (q / 256) := by
  have e : m - j = (m - (j + 1)) + 1 := by omega
  rw [e, le]
  simp
theorem one_u8 (z : Int) : ∀ u ∈ [Value.int .u8 z], u.oneCell' = true := by
  intro u hu
  rw [List.mem_singleton] at hu
  subst hu
  rfl

end Go.Proofs.Ythghibopnnjboaa
