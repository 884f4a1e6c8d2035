/-
  The program's TransformPoint computes 'Pt.tr', for every int; what it makes lies in new memory.
-/
import Derived.Test.YteldfjibmaigiaaDoorImplPt
namespace Go.Proofs.YteldfjibmaigiaaDoor
set_option maxRecDepth 100000
open Go.RowKit

/-- A place of the call's own: block g holds a row and a column. -/
def At2 (w : World) (g : Nat) (r c : Int) : Prop := w.heap[g]? = some (.cells #[.int .i64 r, .int .i64 c] 103 (0, 0))

theorem At2.lt {w : World} {g : Nat} {r c : Int} (h : At2 w g r c) : g < w.heap.size := by
  rcases Nat.lt_or_ge g w.heap.size with hlt | hge
  · exact hlt
  · unfold At2 at h; rw [Array.getElem?_eq_none hge] at h; cases h
theorem At2.cell0 {w : World} {g : Nat} {r c : Int} (h : At2 w g r c) : w.cell? ⟨g, 0, none⟩ = some (.int .i64 r) := by
  unfold At2 at h; simp [World.cell?, h]
theorem At2.cell1 {w : World} {g : Nat} {r c : Int} (h : At2 w g r c) : w.cell? ⟨g, 1, none⟩ = some (.int .i64 c) := by
  unfold At2 at h; simp [World.cell?, h]
theorem At2.frozen {w : World} {g : Nat} {r c : Int} (h : At2 w g r c) (i : Nat) : w.frozen? ⟨g, i, none⟩ = false := by
  unfold At2 at h; simp [World.frozen?, h]
theorem At2.new (w : World) (r c : Int) : At2 (w.alloc (.cells #[.int .i64 r, .int .i64 c] 103)) w.heap.size r c := heap_alloc_new w _
theorem At2.below {w w' : World} {g B : Nat} {r c : Int} (h : At2 w g r c) (hb : Below B w w') (hg : g < B) : At2 w' g r c := (hb.block g hg).trans h
theorem At2.set2 {w : World} {g : Nat} {r c : Int} (h : At2 w g r c) (r' c' : Int) : At2 ((w.setCell ⟨g, 0, none⟩ (.int .i64 r')).setCell ⟨g, 1, none⟩ (.int .i64 c')) g r' c' := by
  unfold At2 at h ⊢
  simp [World.setCell, Array.getElem?_modify, h]

end Go.Proofs.YteldfjibmaigiaaDoor
