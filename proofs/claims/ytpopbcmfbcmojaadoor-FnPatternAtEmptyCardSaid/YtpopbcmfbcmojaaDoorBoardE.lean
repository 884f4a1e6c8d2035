/-
  Equal boards compare equal; a board's row is marked; the marks are found.
-/
import Derived.Test.YtpopbcmfbcmojaaDoorBoardX
namespace Go.Proofs.YtpopbcmfbcmojaaDoor
set_option maxRecDepth 100000
open Go.RowKit

theorem drew_below {B : Nat} {a w : World} (h : Below B a w) (k : Nat) : Below B a (w.drewN k) := ⟨h.os, h.tape, h.output, h.size, h.block⟩

end Go.Proofs.YtpopbcmfbcmojaaDoor
