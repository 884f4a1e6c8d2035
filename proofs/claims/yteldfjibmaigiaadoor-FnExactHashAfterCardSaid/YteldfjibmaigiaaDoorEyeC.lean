/-
  The program's test of corners.
-/
import Derived.Test.YteldfjibmaigiaaDoorEyeI
namespace Go.Proofs.YteldfjibmaigiaaDoor
set_option maxRecDepth 100000
open Go.RowKit

section
variable (s p E M O : Nat) (w : World) (h1 : 1 ≤ s) (h2 : s ≤ 7) (hp : p < s * s) (hO : O < 2 ^ (s * s))
include h1 h2 hp hO

end
end Go.Proofs.YteldfjibmaigiaaDoor
