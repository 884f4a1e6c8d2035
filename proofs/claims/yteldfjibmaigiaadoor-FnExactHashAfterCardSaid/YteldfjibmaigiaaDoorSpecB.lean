/-
  The model's ValidPoint, for every int.
-/
import Derived.Test.YteldfjibmaigiaaDoorSpecA
namespace Go.Proofs.YteldfjibmaigiaaDoor
set_option maxRecDepth 100000
open Go.RowKit

end Go.Proofs.YteldfjibmaigiaaDoor
