/-
  Rows of the call's own, told by where they may lie: blocks from lo to below hi; what a call leaves of them.
-/
import Derived.Test.YteldfjibmaigiaaDoorBoardE
namespace Go.Proofs.YteldfjibmaigiaaDoor
set_option maxRecDepth 100000
open Go.RowKit

structure Row (w : World) (lo hi : Nat) (A : Option Addr) (n c : Nat) (xs : List Int) : Prop where
  own : Own w lo A n c xs
  top : ∀ g, A = some ⟨g, 0, none⟩ → g < hi
  le : hi ≤ w.heap.size

section
variable {w w' : World} {lo hi n c : Nat} {A : Option Addr} {xs : List Int}
theorem Row.of {lo : Nat} (h : Own w lo A n c xs) : Row w lo w.heap.size A n c xs := ⟨h, fun _ hA => (h.ge hA).2, Nat.le_refl _⟩
theorem Row.below (h : Row w lo hi A n c xs) (hb : Below w.heap.size w w') : Row w' lo hi A n c xs := ⟨h.own.below hb, h.top, Nat.le_trans h.le hb.size⟩
theorem Row.ints (h : Row w lo hi A n c xs) : Ints w w.heap.size A n xs := h.own.ints
theorem Row.len (h : Row w lo hi A n c xs) : xs.length = n := h.own.1
theorem Row.block (h : Row w lo hi A n c xs) {g : Nat} (hg : (Value.slice A n c).ownBlock = some g) : lo ≤ g ∧ g < hi := by
  rcases h.own.2.2 with ⟨e, _⟩ | ⟨g', cap, cur, e, hb, _⟩
  · rw [e] at hg; cases hg
  · have hA : A = some ⟨g', 0, none⟩ := by injection e
    subst hA
    have : g' = g := by simpa [Value.ownBlock] using hg
    subst this
    exact ⟨hb, h.top g' rfl⟩
/-- Another row, and a box, behind a call that wrote the first row alone. -/
theorem Row.other {lo' hi' n' c' : Nat} {A' : Option Addr} {xs' : List Int} (h : Row w lo hi A n c xs) (r : Row w lo' hi' A' n' c' xs') (hg : w.grownBy w' (Value.slice A n c).ownBlock) (hne : hi ≤ lo' ∨ hi' ≤ lo) : Row w' lo' hi' A' n' c' xs' := by
  refine ⟨r.own.kept hg ?_, r.top, Nat.le_trans r.le hg.size⟩
  intro g hA e
  have h1 := h.block e
  have h2 := r.own.ge hA
  have h3 := r.top g hA
  omega
theorem Row.boxKept {t : TypeId} {g : Nat} {s : Int} {v : Value} (h : Row w lo hi A n c xs) (b : Bx t w g s v) (hg : w.grownBy w' (Value.slice A n c).ownBlock) (hne : hi ≤ g ∨ g < lo) : Bx t w' g s v := by
  refine b.grown hg fun e => ?_
  have := h.block e.symm
  omega
theorem Row.intsKept {B m : Nat} {A' : Option Addr} {ys : List Int} (h : Row w lo hi A n c xs) (b : Ints w B A' m ys) (hg : w.grownBy w' (Value.slice A n c).ownBlock) (hne : B ≤ lo) (hB : B ≤ w.heap.size) : Ints w' B A' m ys :=
  b.keep fun k hk => hg.block k (by omega) (fun e => by have := h.block e.symm; omega)
theorem Row.belowKept {B : Nat} {a : World} (h : Row w lo hi A n c xs) (hb : Below B a w) (hg : w.grownBy w' (Value.slice A n c).ownBlock) (hne : B ≤ lo) (hB : B ≤ w.heap.size) : Below B a w' :=
  hb.grown hg hB (fun k hk => by have := h.block hk; omega)
end

/-- A new block: what it is, how many blocks there are now. -/
theorem new_box (w : World) (o : Obj) : ∃ y, y = w.alloc o ∧ Below w.heap.size w y ∧ w.heap.size + 1 ≤ y.heap.size ∧ y.heap.size ≤ w.heap.size + 1 :=
  ⟨_, rfl, (Below.refl _ _).alloc (Nat.le_refl _) _, by simp, by simp⟩
theorem new_drew (w : World) (k : Nat) : ∃ y, y = w.drewN k ∧ Below w.heap.size w y ∧ w.heap.size ≤ y.heap.size :=
  ⟨_, rfl, drew_below (Below.refl _ _) k, Nat.le_refl _⟩
end Go.Proofs.YteldfjibmaigiaaDoor
