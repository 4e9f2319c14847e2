/- A copy of a root: toRoot. -/
import Derived.Test.YtkaennkfieebmaaDoorRootA

namespace Go.Proofs.YtkaennkfieebmaaDoor
set_option linter.unusedVariables false
set_option linter.unusedSimpArgs false
open Go.RowKit

/-- The fifteen integers of a root. -/
def rootI (s : Int) (ds : List Int) (p q : Int) : List Int := s :: (ds ++ [p, q])
theorem rootI_len (s : Int) (ds : List Int) (p q : Int) (hd : ds.length = 12) : (rootI s ds p q).length = 15 := by simp [rootI, hd]
theorem rootI_get13 (s : Int) (ds : List Int) (p q : Int) (hd : ds.length = 12) : (cellsI (rootI s ds p q))[13]? = some (.int .i64 p) := by
  rw [cellsI_get _ _ (by rw [rootI_len s ds p q hd]; omega)]
  match ds, hd with | [_, _, _, _, _, _, _, _, _, _, _, _], _ => rfl
theorem rootI_get14 (s : Int) (ds : List Int) (p q : Int) (hd : ds.length = 12) : (cellsI (rootI s ds p q))[14]? = some (.int .i64 q) := by
  rw [cellsI_get _ _ (by rw [rootI_len s ds p q hd]; omega)]
  match ds, hd with | [_, _, _, _, _, _, _, _, _, _, _, _], _ => rfl
theorem root_build (s : Int) (ds : List Int) (p q : Int) (hd : ds.length = 12) : ((over (s :: List.replicate 14 0) 1 ds).set 13 p).set 14 q = rootI s ds p q := by
  match ds, hd with | [_, _, _, _, _, _, _, _, _, _, _, _], _ => rfl
theorem root_range (s : Int) (ds : List Int) (p q : Int) (hd : ds.length = 12) : ((rootI s ds p q).drop 1).take 12 = ds := by
  match ds, hd with | [_, _, _, _, _, _, _, _, _, _, _, _], _ => rfl

theorem over_at {w2 : World} {b : Nat} {t : TypeId} (s : Int) (ds : List Int) (hd : ds.length = 12) (h : Blk w2 b (cellsI (over (s :: List.replicate 14 0) 1 ds)) t) (k : Nat) (hk : k < 15) : ∃ u, w2.cell? ⟨b, k, none⟩ = some u := by
  rw [h.cell k]
  exact ⟨_, Array.getElem?_eq_getElem (by rw [cellsI_size, over_len _ _ _ (by simp [hd])]; simpa using hk)⟩

end Go.Proofs.YtkaennkfieebmaaDoor
