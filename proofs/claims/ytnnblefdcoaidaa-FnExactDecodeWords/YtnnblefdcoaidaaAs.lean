/- errors.As at the one target that the program has (**formFault), of an error that is a chain of placed faults down to one form fault: Go's own text of errors.As and errors.as walked, the entries of reflectlite by closed facts. -/
import Derived.Test.YtnnblefdcoaidaaRows
import Derived.Test.YtnnblefdcoaidaaBase
import Derived.WalkLawsBesides
import Derived.LaidEql
import Derived.Stop.Asserts
import Derived.RowKitTokens
import Derived.Deep.LoopGhost
namespace Go.Proofs.Ytnnblefdcoaidaa
open Go.RowKit Go.Extern.Stop Go.Stop Go.Extern

/-! ### Closed facts on the entries of reflectlite at this program's types -/
/-! ### The entries that read or write memory -/
theorem rlm (z : Sem Value) (f : TypeId → Addr → Nat → Nat → Sem Value) (v : Value) :
    ReflectliteValue.method z f #[v] = (do match ← ReflectliteValue.parts v with | none => z | some (t, a, fl) => f t a fl (fl % 32)) := rfl
end Go.Proofs.Ytnnblefdcoaidaa
