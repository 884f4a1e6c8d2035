/-
  The draws of names' arguments.
-/
import Derived.Test.YtcloolldnjhljaaDoorDrawPt
import Derived.Test.YtcloolldnjhljaaDoorPpS
namespace Go.Proofs.YtcloolldnjhljaaDoor
set_option maxRecDepth 100000
open Go.RowKit

theorem d_pn (w : World) (a : Option Addr) (len cap : Nat) (zs : List Int) (h : IsRow .u8 w a len cap zs) :
    Calls Tryd.prog 26 #[.slice a len cap] w fun e w' => Two w e w' := by
  go_enter Tryd.func26, Tryd.ntmps26
  go_wp2_with fail
  refine (d_vp w a len cap zs h).mono ?_
  rintro e w1 ⟨x, y, rfl, hb⟩
  go_wp2_with fail
  go_ret2
  exact ⟨_, _, rfl, hb⟩
end Go.Proofs.YtcloolldnjhljaaDoor
