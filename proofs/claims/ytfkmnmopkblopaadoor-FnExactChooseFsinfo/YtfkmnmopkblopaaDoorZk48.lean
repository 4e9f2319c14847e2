/- The law on EncodeFsinfo, walked: it answers true and turns nothing that was there. What a struct that came in is opened with. A root that came in, opened: fifteen integers. -/
import Derived.Test.YtfkmnmopkblopaaDoorZk39
import Derived.Test.YtfkmnmopkblopaaDoorZk31
import Derived.Test.YtfkmnmopkblopaaDoorZk08
import Derived.ProofKit
import Derived.OpenShut
namespace Go.Proofs.YtfkmnmopkblopaaDoor
set_option linter.unusedVariables false
set_option linter.unusedSimpArgs false
open Go.RowKit

end Go.Proofs.YtfkmnmopkblopaaDoor

namespace Go.Proofs.YtfkmnmopkblopaaDoor
set_option linter.unusedVariables false
set_option linter.unusedSimpArgs false
open Go.ChangeShapes Go.WideShapes Go.ChangeAt Go.RowKit

theorem cells1 : Tryd.prog.cellsOf 3 = 1 := by kernel_rfl
theorem cells12 : Tryd.prog.cellsOf 23 = 12 := by kernel_rfl
theorem take_one {l : List Value} {o : Nat} {c : Value} (h : (l.drop o).take 1 = [c]) : l[o]? = some c := by
  have h2 : ((l.drop o).take 1)[0]? = some c := by rw [h]; rfl
  simpa using h2

theorem ints_of_cells : ∀ (l : List Value), (∀ i, i < l.length → ∃ a, l[i]? = some (.int .i64 a)) → ∃ rs : List Int, l = rs.map (Value.int .i64)
  | [], _ => ⟨[], rfl⟩
  | c :: l, h => by
    obtain ⟨a, ha⟩ := h 0 (by simp)
    obtain ⟨rs, hrs⟩ := ints_of_cells l (fun i hi => by have := h (i + 1) (by simpa using hi); simpa using this)
    simp at ha
    exact ⟨a :: rs, by rw [ha, hrs]; rfl⟩

end Go.Proofs.YtfkmnmopkblopaaDoor

namespace Go.Proofs.YtfkmnmopkblopaaDoor
set_option linter.unusedVariables false
set_option linter.unusedSimpArgs false
open Go.ChangeShapes Go.WideShapes Go.ChangeAt Go.RowKit

end Go.Proofs.YtfkmnmopkblopaaDoor
