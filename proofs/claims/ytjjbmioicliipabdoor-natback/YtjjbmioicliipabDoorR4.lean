/-
  Walks of the document's reference for nat: Sub on digits, and the calls DocAdd, DocSub, DocCmp.
-/
import Derived.Test.YtjjbmioicliipabDoorR3
namespace Go.Proofs.YtjjbmioicliipabDoor
open Go.RowKit

end Go.Proofs.YtjjbmioicliipabDoor
