/- The laws' own marks on []byte: laid into what is owned, and found again. -/
import Derived.Test.YtkaennkfieebmaaDoorBytes
namespace Go.Proofs.YtkaennkfieebmaaDoor
open Go.RowKit

end Go.Proofs.YtkaennkfieebmaaDoor
