/-
  The model's ValidBoard, for every board.
-/
import Derived.Test.YtoflbpihcfdcgaaBoard
namespace Go.Proofs.Ytoflbpihcfdcgaa
open Go.RowKit

end Go.Proofs.Ytoflbpihcfdcgaa
