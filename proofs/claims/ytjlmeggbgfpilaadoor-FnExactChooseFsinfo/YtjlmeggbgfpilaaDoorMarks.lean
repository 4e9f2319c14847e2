/- The laws' own marks on []byte: laid into what is owned, and found again. -/
import Derived.Test.YtjlmeggbgfpilaaDoorBytes
namespace Go.Proofs.YtjlmeggbgfpilaaDoor
open Go.RowKit

end Go.Proofs.YtjlmeggbgfpilaaDoor
