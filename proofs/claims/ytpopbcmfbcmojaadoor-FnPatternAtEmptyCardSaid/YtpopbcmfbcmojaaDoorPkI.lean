/-
  Patterns of the program: its cells, the number of cells, validity.
-/
import Derived.Test.YtpopbcmfbcmojaaDoorPkP
import Derived.Test.YtpopbcmfbcmojaaDoorMvI
import Derived.Deep.LoopGhost
namespace Go.Proofs.YtpopbcmfbcmojaaDoor
set_option maxRecDepth 100000
open Go.RowKit

/-- What is left of a number behind the first k cells. -/
def Pk.rest (n : Int) : Nat → Int
  | 0 => n
  | k + 1 => if k = 4 then Pk.rest n k else Pk.rest n k / 4
/-- The cell at k. -/
def Pk.at (n : Int) (k : Nat) : Int := if k = 4 then 0 else Pk.rest n k % 4
theorem Pk.rest_bd {n : Int} (h0 : 0 ≤ n) (h1 : n ≤ 65535) : ∀ k, 0 ≤ Pk.rest n k ∧ Pk.rest n k ≤ 65535
  | 0 => ⟨h0, h1⟩
  | k + 1 => by
    have := Pk.rest_bd h0 h1 k
    unfold Pk.rest
    split <;> omega
theorem Pk.cells_at {n : Int} {k : Nat} (hk : k < 9) : (Pk.cells n).getD k 0 = Pk.at n k := by
  have : k = 0 ∨ k = 1 ∨ k = 2 ∨ k = 3 ∨ k = 4 ∨ k = 5 ∨ k = 6 ∨ k = 7 ∨ k = 8 := by omega
  rcases this with rfl | rfl | rfl | rfl | rfl | rfl | rfl | rfl | rfl <;> simp [Pk.cells, Pk.at, Pk.rest] <;> omega
theorem Pk.cells_len (n : Int) : (Pk.cells n).length = 9 := rfl
end Go.Proofs.YtpopbcmfbcmojaaDoor
