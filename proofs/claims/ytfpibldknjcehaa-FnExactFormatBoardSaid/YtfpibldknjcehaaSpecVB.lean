/-
  The model's ValidBoard, for every board.
-/
import Derived.Test.YtfpibldknjcehaaBoard
namespace Go.Proofs.Ytfpibldknjcehaa
set_option maxRecDepth 100000
open Go.RowKit

end Go.Proofs.Ytfpibldknjcehaa
