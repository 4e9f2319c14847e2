/- The laws' own helpers over []int: a copy, two held against each other, marks. -/
import Derived.Test.YtkaennkfieebmaaDoorPure
import Derived.WalkLawsBesides
import Derived.Deep.QuietTactic
import Derived.BigQuiet
namespace Go.Proofs.YtkaennkfieebmaaDoor
open Go.RowKit

theorem infoI64 : (Tryd.prog.info? 3).map (fun i => (i.zero, i.size, i.bytes)) = some (some (.int .i64 0), 1, 8) := by kernel_rfl

end Go.Proofs.YtkaennkfieebmaaDoor
