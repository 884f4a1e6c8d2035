/-
  The program's 'emptyNextTo': the empty neighbours of some points.
-/
import Derived.Test.YtniddfoiakbfdaaGrpI
namespace Go.Proofs.Ytniddfoiakbfdaa
set_option maxRecDepth 100000
open Go.RowKit

theorem nbs_few (s z : Int) : (Pt.nbs s z).length ≤ 4 := by
  rw [Pt.nbs, List.length_append, List.length_append, List.length_append]
  have := len_if (P := s ≤ z) (z - s)
  have := len_if (P := 0 < z % s) (z - 1)
  have := len_if (P := z % s < s - 1) (z + 1)
  have := len_if (P := z + s < s * s) (z + s)
  unfold Pt.nbL Pt.nbA Pt.nbB Pt.nbU at *
  omega

end Go.Proofs.Ytniddfoiakbfdaa
