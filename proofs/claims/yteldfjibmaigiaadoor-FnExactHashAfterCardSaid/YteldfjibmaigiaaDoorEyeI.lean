/-
  The program's enclosed points, and corners.
-/
import Derived.Test.YteldfjibmaigiaaDoorAro
namespace Go.Proofs.YteldfjibmaigiaaDoor
set_option maxRecDepth 100000
open Go.RowKit

/-- Empty points all of whose neighbours have the color of M. -/
def encM (s E M O : Nat) : Nat := (E &&& Bt.aro s M) &&& (18446744073709551615 - Bt.aro s (E ||| O))
/-- Whether the corners of a point hold. -/
def holdB (s p O : Nat) : Bool := if (Bt.pts (Bt.abv s (Bt.bes s (2 ^ p))) 64).length = 4 then decide ((Bt.pts (Bt.abv s (Bt.bes s (2 ^ p)) &&& O) 64).length ≤ 1) else decide ((Bt.pts (Bt.abv s (Bt.bes s (2 ^ p)) &&& O) 64).length = 0)

section
variable (s E M O : Nat) (w : World) (h1 : 1 ≤ s) (h2 : s ≤ 7) (hE : E < 2 ^ (s * s)) (hM : M < 2 ^ (s * s)) (hO : O < 2 ^ (s * s))
include h1 h2 hE hM hO

end
end Go.Proofs.YteldfjibmaigiaaDoor
