/-
  The program's lists of images and of moved cells.
-/
import Derived.Test.YteldfjibmaigiaaDoorPureMv
import Derived.Test.YteldfjibmaigiaaDoorImplPtB
import Derived.Test.YteldfjibmaigiaaDoorInvS
namespace Go.Proofs.YteldfjibmaigiaaDoor
set_option maxRecDepth 100000
open Go.RowKit

def imgs (s k : Int) (n : Nat) : List Int := (List.range n).map fun (p : Nat) => Pt.img s k p
theorem imgs_len (s k : Int) (n : Nat) : (imgs s k n).length = n := by simp [imgs]
theorem imgs_at (s k : Int) (n j : Nat) (h : j < n) : (imgs s k n).getD j 0 = Pt.img s k j := by
  simp [imgs, List.getD_eq_getElem?_getD, h]

end Go.Proofs.YteldfjibmaigiaaDoor
