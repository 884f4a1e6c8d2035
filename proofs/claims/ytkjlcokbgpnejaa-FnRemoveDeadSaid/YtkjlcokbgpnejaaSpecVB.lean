/-
  The model's ValidBoard, for every board.
-/
import Derived.Test.YtkjlcokbgpnejaaBoard
namespace Go.Proofs.Ytkjlcokbgpnejaa
set_option maxRecDepth 100000
open Go.RowKit

end Go.Proofs.Ytkjlcokbgpnejaa
