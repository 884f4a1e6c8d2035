/-
  The model's ValidPoint, for every int.
-/
import Derived.Test.YtfpibldknjcehaaDoorSpecA
namespace Go.Proofs.YtfpibldknjcehaaDoor
set_option maxRecDepth 100000
open Go.RowKit

end Go.Proofs.YtfpibldknjcehaaDoor
