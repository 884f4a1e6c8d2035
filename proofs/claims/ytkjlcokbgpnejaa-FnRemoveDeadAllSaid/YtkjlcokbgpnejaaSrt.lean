/-
  slices.Sort of a row of the call's own.
-/
import Derived.Test.YtkjlcokbgpnejaaWords
import Derived.Test.YtkjlcokbgpnejaaShelfS
import Derived.Sort.OwnSortedInts
namespace Go.Proofs.Ytkjlcokbgpnejaa
set_option maxRecDepth 100000
open Go.RowKit Go.Sort

theorem i_sortI (w : World) (B g n c : Nat) (xs : List Int) (h : Own w B (some ⟨g, 0, none⟩) n c xs) (hn : n ≤ 1000000) :
    Calls Try.prog 51 #[.slice (some ⟨g, 0, none⟩) n c] w fun e w' => e = .returned (.tuple #[]) ∧ Own w' B (some ⟨g, 0, none⟩) n c (xs.mergeSort fun x y => decide (x ≤ y)) ∧ w.grownBy w' (some g) := by
  have hl := h.1
  rcases h.2.2 with ⟨e, _⟩ | ⟨g', cap, cur, e, hg, hb, h1, h2, h3, ht⟩
  · cases e
  · injection e with e1 e2 e3
    injection e1 with e1
    injection e1 with e1
    subst e1
    subst e3
    subst hl
    have hlen : (xs.mergeSort fun x y => decide (x ≤ y)).length = xs.length := List.length_mergeSort _
    have hlt : g < w.heap.size := (Array.getElem?_eq_some_iff.1 hb).1
    refine (Try.slices_Sort_int g 0 c xs w (holds_of_blockI hb (by simpa using ht)) hlt (by omega)).mono ?_
    rintro e w' ⟨rfl, k, os, rfl⟩
    refine ⟨rfl, ⟨hlen, ?_⟩, grownBy_sortedI _⟩
    exact ownsRow_sortedI (ts := xs.mergeSort fun x y => decide (x ≤ y)) hlen hg hb h1 h2 h3
end Go.Proofs.Ytkjlcokbgpnejaa
