/- The program's reader of bytes: take, number, zeros, end, at a reader that lies in a block of its own. -/
import Derived.Test.YtnnblefdcoaidaaCheck
import Derived.Test.YtnnblefdcoaidaaMarks
import Derived.Test.YtnnblefdcoaidaaLay
import Derived.Deep.RegionHeld
import Derived.Deep.RegionWith
import Derived.BigQuiet
import Derived.Deep.QuietTactic
namespace Go.Proofs.Ytnnblefdcoaidaa
open Go.RowKit

end Go.Proofs.Ytnnblefdcoaidaa
