/-
  The program's own places and symmetries: placeOf, mirrored, turned, pointOn, TransformPoint, ComposeOf compute the plain functions of PurePt; what they make lies in new memory.
-/
import Derived.Test.YteldfjibmaigiaaDoorBase
import Derived.Test.YteldfjibmaigiaaDoorFactPt
import Derived.RegionTactic
import Derived.Laws.ResultCell
namespace Go.Proofs.YteldfjibmaigiaaDoor
set_option maxRecDepth 100000
open Go.RowKit

theorem i_place (s p : Int) (w : World) (h1 : 1 ≤ s) (h2 : s ≤ 7) (h3 : 0 ≤ p) (h4 : p < s * s) :
    Calls Tryd.prog 86 #[.int .i64 s, .int .i64 p] w fun e w' => e = .returned (.agg #[.int .i64 (p / s), .int .i64 (p % s)]) ∧ Below w.heap.size w w' := by
  have hb := Pt.sq_bd s h1 h2
  obtain ⟨d1, d2, d3, d4, d5⟩ := Pt.dm s p h1 h2 h3 h4
  clear d5
  go_enter Tryd.func86, Tryd.ntmps86
  go_wp2
  go_region
  all_goals go_wp2
  all_goals go_returns
  all_goals exact ⟨rfl, ((Below.refl _ _).alloc (Nat.le_refl _) _).drew⟩

end Go.Proofs.YteldfjibmaigiaaDoor
