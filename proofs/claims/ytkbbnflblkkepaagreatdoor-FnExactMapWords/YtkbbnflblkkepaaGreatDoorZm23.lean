/- The program's look at an inode: inodeFault. EncodeWords of the program: it gives encW, in memory of its own. The program lays a root down: layRoot, EncodeRoot. -/
import Derived.Test.YtkbbnflblkkepaaGreatDoorZm22
import Derived.Test.YtkbbnflblkkepaaGreatDoorZm17
import Derived.Test.YtkbbnflblkkepaaGreatDoorZm07
import Derived.Test.YtkbbnflblkkepaaGreatDoorZm08
import Derived.Test.YtkbbnflblkkepaaGreatDoorZm04
import Derived.Deep.RegionHeld
namespace Go.Proofs.YtkbbnflblkkepaaGreatDoor
set_option linter.unusedVariables false
set_option linter.unusedSimpArgs false
open Go.RowKit


end Go.Proofs.YtkbbnflblkkepaaGreatDoor

namespace Go.Proofs.YtkbbnflblkkepaaGreatDoor
open Go.RowKit

/-- The bytes of whatever integers, each cut to its lowest 32 bits. -/
def bytesM (ws : List Int) : List Int := ws.flatMap fun v => le 4 (v % 4294967296).toNat
theorem bytesM_take (ws : List Int) (k : Nat) (h : k < ws.length) : bytesM (ws.take (k + 1)) = bytesM (ws.take k) ++ le 4 (ws.getD k 0 % 4294967296).toNat := by
  unfold bytesM
  rw [List.take_succ_eq_append_getElem h, List.flatMap_append]
  simp [List.getD, h]
theorem bytesM_eq (ws : List Int) (h : ws.all okW = true) : bytesM ws = bytesW ws := by
  unfold bytesM bytesW
  induction ws with
  | nil => rfl
  | cons v ws ih =>
    rw [List.all_cons, Bool.and_eq_true] at h
    rw [List.flatMap_cons, List.flatMap_cons, ih h.2]
    have := h.1
    simp only [okW, Bool.and_eq_true, decide_eq_true_eq] at this
    rw [Int.emod_eq_of_lt this.1 (by omega)]

end Go.Proofs.YtkbbnflblkkepaaGreatDoor

namespace Go.Proofs.YtkbbnflblkkepaaGreatDoor
set_option linter.unusedVariables false
set_option linter.unusedSimpArgs false
open Go.RowKit

theorem bytesW_append (xs ys : List Int) : bytesW (xs ++ ys) = bytesW xs ++ bytesW ys := by simp [bytesW]

end Go.Proofs.YtkbbnflblkkepaaGreatDoor
