/- The model's numbers as bytes: l02Put, l02Get. The laws' own helpers over []int: a copy, two held against each other, marks. -/
import Derived.Test.YthghibopnnjboaaZi05
import Derived.Test.YthghibopnnjboaaZi01
import Derived.WalkLawsBesides
import Derived.Deep.QuietTactic
import Derived.BigQuiet
namespace Go.Proofs.Ythghibopnnjboaa
open Go.RowKit

theorem own_empty (w : World) (e : TypeId) : (w.alloc (.cells #[] e)).ownsRow w.heap.size e 1 (.slice (some ⟨w.heap.size, 0, none⟩) 0 0) 0 [] := by
  have h := World.ownsRow_lit (base := w.heap.size) (e := e) (size := 1) w #[] 0 (Nat.le_refl _) (by simp) rfl
  simpa using h

end Go.Proofs.Ythghibopnnjboaa

namespace Go.Proofs.Ythghibopnnjboaa
open Go.RowKit

theorem infoI64 : (Try.prog.info? 3).map (fun i => (i.zero, i.size, i.bytes)) = some (some (.int .i64 0), 1, 8) := by kernel_rfl

end Go.Proofs.Ythghibopnnjboaa
