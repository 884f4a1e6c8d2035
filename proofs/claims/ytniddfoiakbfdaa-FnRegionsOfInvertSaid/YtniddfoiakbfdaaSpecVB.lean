/-
  The model's ValidBoard, for every board.
-/
import Derived.Test.YtniddfoiakbfdaaBoard
namespace Go.Proofs.Ytniddfoiakbfdaa
set_option maxRecDepth 100000
open Go.RowKit

end Go.Proofs.Ytniddfoiakbfdaa
