/- The law on EncodeRoot, walked: it answers true and turns nothing that was there. -/
import Derived.Test.YtmmhkjpkidljlaaDoorZc25
import Derived.Test.YtmmhkjpkidljlaaDoorZc28
namespace Go.Proofs.YtmmhkjpkidljlaaDoor
set_option linter.unusedVariables false
set_option linter.unusedSimpArgs false
open Go.RowKit


theorem root_of_list (rs : List Int) (h : rs.length = 15) : ∃ s ds p q, ds.length = 12 ∧ rs = rootI s ds p q := by
  match rs, h with
  | [s, d0, d1, d2, d3, d4, d5, d6, d7, d8, d9, d10, d11, p, q], _ => exact ⟨s, [d0, d1, d2, d3, d4, d5, d6, d7, d8, d9, d10, d11], p, q, rfl, rfl⟩
end Go.Proofs.YtmmhkjpkidljlaaDoor
