/-
  The model's neighbours: a row of the call's own, the list of PurePt.
-/
import Derived.Test.YtcloolldnjhljaaDoorSpecA
import Derived.Test.YtcloolldnjhljaaDoorWords
import Derived.Deep.DeepCutAuto
namespace Go.Proofs.YtcloolldnjhljaaDoor
open Go.RowKit

def Slc (B : Nat) (w0 : World) (v : Value) (w : World) (xs : List Int) : Prop := ∃ A n c, v = .slice A n c ∧ Own w B A n c xs ∧ Below w0.heap.size w0 w

theorem len_if {P : Prop} [Decidable P] (x : Int) : (if P then [x] else []).length ≤ 1 := by split <;> simp

end Go.Proofs.YtcloolldnjhljaaDoor
