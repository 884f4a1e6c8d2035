/-
  Equal boards compare equal; a board's row is marked; the marks are found.
-/
import Derived.Test.YteldfjibmaigiaaDoorBoardX
namespace Go.Proofs.YteldfjibmaigiaaDoor
set_option maxRecDepth 100000
open Go.RowKit

theorem drew_below {B : Nat} {a w : World} (h : Below B a w) (k : Nat) : Below B a (w.drewN k) := ⟨h.os, h.tape, h.output, h.size, h.block⟩

theorem b_eq (w : World) (s : Int) (B B' : Nat) (A A' : Option Addr) (n c c' : Nat) (xs : List Int) (h : Ints w B A n xs) (h' : Ints w B' A' n xs) (hB : B ≤ w.heap.size) (hB' : B' ≤ w.heap.size) (hn : n ≤ 1000000000) :
    Calls Tryd.prog 18 #[.agg #[.int .i64 s, .slice A n c], .agg #[.int .i64 s, .slice A' n c']] w fun e w' => e = .returned (.bool true) ∧ Below w.heap.size w w' := by
  have hb2 : Below w.heap.size w ((w.alloc (.cells #[.int .i64 s, .slice A n c] 25)).alloc (.cells #[.int .i64 s, .slice A' n c'] 25)) := ((Below.refl _ _).alloc (Nat.le_refl _) _).alloc (by simp) _
  have H := Lib.hid (h.below hb2 hB)
  have H' := Lib.hid (h'.below hb2 hB')
  have Hb := Lib.hid hb2
  clear h h' hb2
  go_enter Tryd.func18, Tryd.ntmps18
  go_wp2_with fail
  refine (eqs_t _ _ _ _ _ _ _ _ _ H.out H'.out hn).mono ?_
  rintro e w' ⟨k, rfl, rfl⟩
  go_wp2_with fail
  go_ret
  exact ⟨rfl, drew_below Hb.out k⟩

end Go.Proofs.YteldfjibmaigiaaDoor
