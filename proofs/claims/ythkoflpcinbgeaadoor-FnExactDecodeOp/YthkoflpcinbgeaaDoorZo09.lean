/- The laws' own helpers over []int: a copy, two held against each other, marks. The model's look at a root: l02Pointer, l02Pointers, l02Root. -/
import Derived.Test.YthkoflpcinbgeaaDoorZo04
import Derived.WalkLawsBesides
import Derived.Deep.QuietTactic
import Derived.BigQuiet
import Derived.Test.YthkoflpcinbgeaaDoorZo08
import Derived.Test.YthkoflpcinbgeaaDoorZo06
namespace Go.Proofs.YthkoflpcinbgeaaDoor
open Go.RowKit

theorem infoI64 : (Tryd.prog.info? 3).map (fun i => (i.zero, i.size, i.bytes)) = some (some (.int .i64 0), 1, 8) := by kernel_rfl

end Go.Proofs.YthkoflpcinbgeaaDoor

namespace Go.Proofs.YthkoflpcinbgeaaDoor
set_option linter.unusedVariables false
set_option linter.unusedSimpArgs false
open Go.RowKit

def ptrB (x n : Int) : Bool := decide (x = 0) || (decide (2 ≤ x) && decide (x < n))
end Go.Proofs.YthkoflpcinbgeaaDoor
