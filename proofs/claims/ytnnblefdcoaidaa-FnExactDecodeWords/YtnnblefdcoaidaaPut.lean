/- The model's numbers as bytes: l02Put, l02Get. -/
import Derived.Test.YtnnblefdcoaidaaLay
namespace Go.Proofs.Ytnnblefdcoaidaa
open Go.RowKit

theorem own_empty (w : World) (e : TypeId) : (w.alloc (.cells #[] e)).ownsRow w.heap.size e 1 (.slice (some ⟨w.heap.size, 0, none⟩) 0 0) 0 [] := by
  have h := World.ownsRow_lit (base := w.heap.size) (e := e) (size := 1) w #[] 0 (Nat.le_refl _) (by simp) rfl
  simpa using h

end Go.Proofs.Ytnnblefdcoaidaa
