/-
  The model's ValidBoard, for every board.
-/
import Derived.Test.YtmokpaofljdehaaBoard
namespace Go.Proofs.Ytmokpaofljdehaa
set_option maxRecDepth 100000
open Go.RowKit

end Go.Proofs.Ytmokpaofljdehaa
