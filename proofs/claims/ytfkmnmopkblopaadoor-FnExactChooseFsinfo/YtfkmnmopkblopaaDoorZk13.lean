/- The program's look at an inode: inodeFault. EncodeWords, the model's and the program's: both give encW. -/
import Derived.Test.YtfkmnmopkblopaaDoorZk11
import Derived.Test.YtfkmnmopkblopaaDoorZk12
import Derived.Test.YtfkmnmopkblopaaDoorZk05
import Derived.Test.YtfkmnmopkblopaaDoorZk03
import Derived.Test.YtfkmnmopkblopaaDoorZk06
namespace Go.Proofs.YtfkmnmopkblopaaDoor
set_option linter.unusedVariables false
set_option linter.unusedSimpArgs false
open Go.RowKit


end Go.Proofs.YtfkmnmopkblopaaDoor

namespace Go.Proofs.YtfkmnmopkblopaaDoor
open Go.RowKit

def okW (v : Int) : Bool := decide (0 ≤ v) && decide (v ≤ 4294967295)
def bytesW (ws : List Int) : List Int := ws.flatMap fun v => le 4 v.toNat
def goodW (ws : List Int) : Bool := decide (ws.length = 128) && ws.all okW
def encW (ws : List Int) : List Int := if goodW ws = true then bytesW ws else []
def codeW (ws : List Int) : Int := if goodW ws = true then 0 else 7

theorem bytesW_len (ws : List Int) : (bytesW ws).length = 4 * ws.length := by
  unfold bytesW
  induction ws with
  | nil => rfl
  | cons v ws ih => rw [List.flatMap_cons, List.length_append, ih, le_len, List.length_cons]; omega
theorem bytesW_take (ws : List Int) (k : Nat) (h : k < ws.length) : bytesW (ws.take (k + 1)) = bytesW (ws.take k) ++ le 4 (ws.getD k 0).toNat := by
  unfold bytesW
  rw [List.take_succ_eq_append_getElem h, List.flatMap_append]
  simp [List.getD, h]
theorem all_take (ws : List Int) (k : Nat) (h : k < ws.length) : (ws.take (k + 1)).all okW = ((ws.take k).all okW && okW (ws.getD k 0)) := by
  rw [List.take_succ_eq_append_getElem h, List.all_append]
  simp [List.getD, h]
theorem bad_of_get (ws : List Int) (k : Nat) (h : k < ws.length) (hb : okW (ws.getD k 0) = false) : goodW ws = false := by
  unfold goodW
  rw [Bool.and_eq_false_iff]
  right
  rw [List.all_eq_false]
  refine ⟨ws.getD k 0, ?_, by rw [hb]; simp⟩
  simp [List.getD, h]

end Go.Proofs.YtfkmnmopkblopaaDoor
