/-
  The diagonals of a point in both packages: for every two ints, the list of PureBg.
-/
import Derived.Test.YteldfjibmaigiaaDoorBitsB
import Derived.Test.YteldfjibmaigiaaDoorSpecB
import Derived.Test.YteldfjibmaigiaaDoorNbSpec
namespace Go.Proofs.YteldfjibmaigiaaDoor
set_option maxRecDepth 100000
open Go.RowKit

end Go.Proofs.YteldfjibmaigiaaDoor
