/-
  Exchanging the colors of boards: both packages make the same board.
-/
import Derived.Test.YteldfjibmaigiaaDoorInv
namespace Go.Proofs.YteldfjibmaigiaaDoor
set_option maxRecDepth 100000
open Go.RowKit

def invS (s : Int) (cs : List Int) : Int := if Bd.okB s cs then s else 0
def invCs (s : Int) (cs : List Int) : List Int := if Bd.okB s cs then othCs cs else []

end Go.Proofs.YteldfjibmaigiaaDoor
