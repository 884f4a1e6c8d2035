/-
  The model's ValidPoint, for every int.
-/
import Derived.Test.YtpogjegihhljpaaDoorSpecA
namespace Go.Proofs.YtpogjegihhljpaaDoor
set_option maxRecDepth 100000
open Go.RowKit

end Go.Proofs.YtpogjegihhljpaaDoor
