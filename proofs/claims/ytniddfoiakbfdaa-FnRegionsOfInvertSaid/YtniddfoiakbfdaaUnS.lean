/-
  The program's 'setOf' and 'joinEqual'.
-/
import Derived.Test.YtniddfoiakbfdaaUn
import Derived.Test.YtniddfoiakbfdaaNbImpl
import Derived.Test.YtniddfoiakbfdaaGroupS
namespace Go.Proofs.Ytniddfoiakbfdaa
set_option maxRecDepth 100000
open Go.RowKit

theorem nbs_sy {s : Int} {n : Nat} (h1 : 1 ≤ s) (h2 : s ≤ 7) (hn : (n : Int) = s * s) : ∀ x : Int, 0 ≤ x → x < n → ∀ y ∈ Pt.nbs s x, x ∈ Pt.nbs s y := by
  intro x h0 hx y hy
  obtain ⟨m1, _, _⟩ := Pt.nbs_all s x h1 h2 h0 (by omega)
  have := List.all_eq_true.1 m1 y hy
  simp only [Bool.and_eq_true, decide_eq_true_eq] at this
  simpa using this.1.2

/-- The points whose set begins with a point, as a list of marks. -/
def inSet (r : Nat → Nat) (p n : Nat) : List Bool := (List.range n).map fun q => r q == r p
theorem inSet_len (r : Nat → Nat) (p n : Nat) : (inSet r p n).length = n := by simp [inSet]
theorem inSet_at {r : Nat → Nat} {p n q : Nat} (h : q < n) : (inSet r p n).getD q false = (r q == r p) := by
  simp [inSet, List.getD_eq_getElem?_getD, h]

/-- What 'joinEqual' returns: a forest of the connected points of one color. -/
def Joined (s : Int) (n : Nat) (cs : List Int) (w : World) (e : Ending) (w' : World) : Prop :=
  ∃ g c' u r, e = .returned (.slice (some ⟨g, 0, none⟩) n c') ∧ Own w' w.heap.size (some ⟨g, 0, none⟩) n c' u ∧ Un.Un u n r ∧ Un.Jn s n cs r n 0 ∧ Below w.heap.size w w'

end Go.Proofs.Ytniddfoiakbfdaa
