/-
  Marking a row of the call's own, and finding the marks.
-/
import Derived.Test.YteldfjibmaigiaaDoorLists
import Derived.Laws.OwnMore
namespace Go.Proofs.YteldfjibmaigiaaDoor
set_option maxRecDepth 100000
open Go.RowKit

/-- k, k + 1, .. (n of them) -/
def marks (k : Int) (n : Nat) : List Int := (List.range n).map fun (j : Nat) => k + (j : Int)
theorem marks_len (k : Int) (n : Nat) : (marks k n).length = n := by simp [marks]
theorem marks_at (k : Int) (n j : Nat) (h : j < n) : (marks k n).getD j 0 = k + j := by
  simp [marks, List.getD_eq_getElem?_getD, List.getElem?_range h]
theorem marks_succ (k : Int) (j : Nat) (xs : List Int) (h : j < xs.length) : (marks k j ++ xs.drop j).set j (k + j) = marks k (j + 1) ++ xs.drop (j + 1) := by
  rw [List.set_append_right _ _ (by rw [marks_len]; exact Nat.le_refl _), marks_len, Nat.sub_self, List.drop_eq_getElem_cons h, List.set_cons_zero]
  simp [marks, List.range_succ]

/-- The row at A is the call's own, and that row alone was written between the two worlds. -/
theorem Own.stored {w : World} {B n c g : Nat} {xs : List Int} (h : Own w B (some ⟨g, 0, none⟩) n c xs) (j : Nat) (x : Int) :
    Own (w.setCell ⟨g, j, none⟩ (.int .i64 x)) B (some ⟨g, 0, none⟩) n c (xs.set j x) ∧ w.grownBy (w.setCell ⟨g, j, none⟩ (.int .i64 x)) (some g) := by
  have := World.ownsRow.stored h.2 j (.int .i64 x)
  exact ⟨⟨by simpa using h.1, by rw [List.map_set]; exact this.1⟩, this.2⟩

def Marked (B : Nat) (A : Option Addr) (n c : Nat) (k : Int) (w : World) (e : Ending) (w' : World) : Prop :=
  e = .returned (.int .i64 (k + n)) ∧ Own w' B A n c (marks k n) ∧ w.grownBy w' (Value.slice A n c).ownBlock

end Go.Proofs.YteldfjibmaigiaaDoor
