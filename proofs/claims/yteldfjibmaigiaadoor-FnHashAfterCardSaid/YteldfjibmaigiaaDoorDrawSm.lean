/-
  The draw of a valid size.
-/
import Derived.Test.YteldfjibmaigiaaDoorDraw
namespace Go.Proofs.YteldfjibmaigiaaDoor
set_option maxRecDepth 100000
open Go.RowKit

theorem r_smallSize (B g q : Nat) (w : World) (h : Rdr w B g q) (hq : q ≤ 1000000000000) :
    Calls Tryd.prog 75 #[.pointer (some ⟨g, 0, none⟩)] w fun e w' => Got (fun x => 1 ≤ x ∧ x ≤ 7) w B g (q + 1) e w' := by
  have hlt := h.lt
  go_enter Tryd.func75, Tryd.ntmps75
  go_wp2_with fail
  have hl := Ints.lit w 3 [3, 4, 5, 3, 2, 4, 6, 7, 1]
  refine (r_one B g q _ _ [3, 4, 5, 3, 2, 4, 6, 7, 1] _ _ (h.below ((Below.refl _ _).alloc (Nat.le_refl _) _) hlt) hq hl (by simp) (by simp) (by simp) (by rintro b o e; injection e with e; injection e; omega)).mono ?_
  rintro e w1 ⟨x, rfl, hx, hr, hw⟩
  have Hr := Lib.hid hr
  have Hw := Lib.hid (gtrans (World.grownBy_alloc w _ (some g)) hw)
  have Hx := Lib.hid hx
  clear hr hw hl hx
  go_wp2_with fail
  go_ret
  refine ⟨_, rfl, ?_, Hr.out, Hw.out⟩
  have := Hx.out
  simp at this
  omega
end Go.Proofs.YteldfjibmaigiaaDoor
