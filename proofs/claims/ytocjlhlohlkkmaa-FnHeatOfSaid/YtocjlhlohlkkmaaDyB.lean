/-
  Facts on the present world, and how they go over to the next one (for walks over boxes of two ints).
-/
import Derived.Test.YtocjlhlohlkkmaaDyS
import Derived.Test.YtocjlhlohlkkmaaWords
import Derived.Deep.RegionHeld3
import Derived.Deep.RegionWith
import Derived.Deep.DeepCutAuto
import Derived.RegionTactic
import Derived.IntWalk
namespace Go.Proofs.Ytocjlhlohlkkmaa
set_option maxRecDepth 100000
open Go.RowKit

theorem new_box (w : World) (o : Obj) : ∃ y, y = w.alloc o ∧ Below w.heap.size w y ∧ w.heap.size + 1 ≤ y.heap.size ∧ y.heap.size ≤ w.heap.size + 1 :=
  ⟨_, rfl, (Below.refl _ _).alloc (Nat.le_refl _) _, by simp, by simp⟩
theorem undrew {a b : World} (h : Below a.drew.heap.size a.drew b) : Below a.heap.size a b := ⟨h.os, h.tape, h.output, h.size, h.block⟩
theorem Bx.step {t : TypeId} {w w' : World} {g : Nat} {s : Int} {v : Value} (h : Bx t w g s v) (hb : Below w.heap.size w w') : Bx t w' g s v := h.below hb h.lt
theorem bstep {a w w' : World} (h : Below a.heap.size a w) (hb : Below w.heap.size w w') : Below a.heap.size a w' := h.trans (hb.mono h.size)
theorem Bx.dr {t : TypeId} {w : World} {g : Nat} {s : Int} {v : Value} (h : Bx t w g s v) : Bx t w.drew g s v := h
theorem cell_far {w : World} {a b : Addr} {v u : Value} (h : w.cell? a = some v) (hne : a.block ≠ b.block) : (w.setCell b u).cell? a = some v :=
  (World.cell?_of_block (w := w) (Below.heap_setCell w b u a.block hne)).trans h
/-- A number and whether there is one, as a result. -/
def optV (o : Option (Int × Int)) : Value := .tuple #[.agg #[.int .i64 (o.getD (0, 0)).1, .int .i64 (o.getD (0, 0)).2], .bool o.isSome]
/-- A new box that p points to. -/
def NewBx (t : TypeId) (W : World) (x y : Int) (p : Value) (wx : World) : Prop := ∃ g, p = .pointer (some ⟨g, 0, none⟩) ∧ W.heap.size ≤ g ∧ Bx t wx g x (.int .i64 y) ∧ Below W.heap.size W wx
section
variable {t : TypeId} {W y0 : World} {x y : Int}
theorem NewBx.make (hb : Below W.heap.size W y0) : NewBx t W x y (.pointer (some ⟨y0.heap.size, 0, none⟩)) (y0.alloc (.cells #[.int .i64 x, .int .i64 y] t)) :=
  ⟨_, rfl, hb.size, Bx.new _ _ _ _, hb.alloc hb.size _⟩
theorem NewBx.late {g : Nat} {a : Int} {b : Value} (hx : Bx t y0 g a b) (hb : Below W.heap.size W y0) (hg : W.heap.size ≤ g) : NewBx t W x y (.pointer (some ⟨g, 0, none⟩)) ((y0.setCell ⟨g, 0, none⟩ (.int .i64 x)).setCell ⟨g, 1, none⟩ (.int .i64 y)) :=
  ⟨_, rfl, hg, (hx.set0 x).set1 _, (hb.setCell hg _).setCell hg _⟩
theorem NewBx.late2 {a : Int} {b : Value} (hb : Below W.heap.size W y0) : NewBx t W x y (.pointer (some ⟨y0.heap.size, 0, none⟩)) (((y0.alloc (.cells #[.int .i64 a, b] t)).setCell ⟨y0.heap.size, 0, none⟩ (.int .i64 x)).setCell ⟨y0.heap.size, 1, none⟩ (.int .i64 y)) :=
  NewBx.late (Bx.new _ _ _ _) (hb.alloc hb.size _) hb.size
theorem NewBx.drew {p : Value} {wx : World} (h : NewBx t W x y p wx) : NewBx t W x y p wx.drew := by
  obtain ⟨g, h1, h2, h3, h4⟩ := h
  exact ⟨g, h1, h2, h3, h4.os, h4.tape, h4.output, h4.size, h4.block⟩
end
end Go.Proofs.Ytocjlhlohlkkmaa
