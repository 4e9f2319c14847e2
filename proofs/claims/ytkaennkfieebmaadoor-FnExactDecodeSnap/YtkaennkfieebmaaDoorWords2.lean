/- EncodeWords of the program: it gives encW, in memory of its own. -/
import Derived.Test.YtkaennkfieebmaaDoorWords
namespace Go.Proofs.YtkaennkfieebmaaDoor
open Go.RowKit

/-- The bytes of whatever integers, each cut to its lowest 32 bits. -/
def bytesM (ws : List Int) : List Int := ws.flatMap fun v => le 4 (v % 4294967296).toNat
theorem bytesM_take (ws : List Int) (k : Nat) (h : k < ws.length) : bytesM (ws.take (k + 1)) = bytesM (ws.take k) ++ le 4 (ws.getD k 0 % 4294967296).toNat := by
  unfold bytesM
  rw [List.take_succ_eq_append_getElem h, List.flatMap_append]
  simp [List.getD, h]
theorem bytesM_eq (ws : List Int) (h : ws.all okW = true) : bytesM ws = bytesW ws := by
  unfold bytesM bytesW
  induction ws with
  | nil => rfl
  | cons v ws ih =>
    rw [List.all_cons, Bool.and_eq_true] at h
    rw [List.flatMap_cons, List.flatMap_cons, ih h.2]
    have := h.1
    simp only [okW, Bool.and_eq_true, decide_eq_true_eq] at this
    rw [Int.emod_eq_of_lt this.1 (by omega)]

end Go.Proofs.YtkaennkfieebmaaDoor
