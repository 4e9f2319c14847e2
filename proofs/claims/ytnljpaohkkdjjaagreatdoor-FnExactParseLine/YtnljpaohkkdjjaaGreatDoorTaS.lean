/- The library's strconv.AppendInt, laid at this program (as the library's own tool prints it). -/
import Derived.Shelf.Strconv.AppendIntPublic10
import Derived.Test.YtnljpaohkkdjjaaGreatDoorRows
import Derived.Test.YtnljpaohkkdjjaaGreatDoorBase
namespace Go.Proofs.YtnljpaohkkdjjaaGreatDoor
open Go.Shelf
end Go.Proofs.YtnljpaohkkdjjaaGreatDoor
