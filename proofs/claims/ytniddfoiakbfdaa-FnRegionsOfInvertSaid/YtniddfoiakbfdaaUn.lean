/-
  The program's forest of sets of points: 'newUnions', 'firstOf', 'join', 'setOf'.
-/
import Derived.Test.YtniddfoiakbfdaaPureUn
import Derived.Test.YtniddfoiakbfdaaInvS
import Derived.Test.YtniddfoiakbfdaaWordsB
import Derived.Test.YtniddfoiakbfdaaMarks
namespace Go.Proofs.Ytniddfoiakbfdaa
set_option maxRecDepth 100000
open Go.RowKit

theorem Own.cellD {w : World} {B g n c : Nat} {xs : List Int} (h : Own w B (some ⟨g, 0, none⟩) n c xs) (j : Nat) (hj : j < n) : w.cell? ⟨g, j, none⟩ = some (.int .i64 (xs.getD j 0)) := by
  rw [World.ownsRow.cellAt h.2 j (by omega)]
  simp [List.getD_eq_getElem?_getD, List.getElem?_eq_getElem (show j < xs.length by rw [h.1]; exact hj)]

/-- What the calls on a forest keep: the row at block g alone is written. -/
def Fst (B g n c : Nat) (r : Nat → Nat) (w wx : World) : Prop := ∃ u, Own wx B (some ⟨g, 0, none⟩) n c u ∧ Un.Un u n r ∧ w.grownBy wx (some g)

end Go.Proofs.Ytniddfoiakbfdaa
