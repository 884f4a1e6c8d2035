/-
  The model's tests of ranges, sizes and points on a board of a valid size. For every int.
-/
import Derived.Test.YteldfjibmaigiaaDoorBase
namespace Go.Proofs.YteldfjibmaigiaaDoor
set_option maxRecDepth 100000
open Go.RowKit

theorem s_range (n lo hi : Int) (w : World) : Calls Tryd.prog 62 #[.int .i64 n, .int .i64 lo, .int .i64 hi] w fun e w' => e = .returned (.bool (decide (lo ≤ n) && decide (n ≤ hi))) ∧ w = w' := by
  by_cases h1 : lo ≤ n
  · go_enter Tryd.func62, Tryd.ntmps62
    go_wp2
    go_ret
    exact ⟨ret_bool (by simp [h1]), rfl⟩
  · have hd : decide (lo ≤ n) = false := by simpa using h1
    go_enter Tryd.func62, Tryd.ntmps62
    go_wp2
    go_ret
    exact ⟨rfl, rfl⟩

theorem s_size (s : Int) (w : World) : Calls Tryd.prog 60 #[.int .i64 s] w fun e w' => e = .returned (.bool (Pt.okS s)) ∧ w = w' := by
  go_enter Tryd.func60, Tryd.ntmps60
  go_wp2_with (go_at_call 62; refine (s_range _ _ _ _).mono ?_; rintro e w' ⟨rfl, rfl⟩)
  go_ret
  exact ⟨ret_bool rfl, rfl⟩

theorem sq_le (s p : Int) : (decide (0 ≤ p) && decide (p ≤ s * s - 1)) = (decide (0 ≤ p) && decide (p < s * s)) := by
  congr 1
  exact decide_eq_decide.2 (by omega)

theorem s_vpoint (s p : Int) (w : World) (h1 : 1 ≤ s) (h2 : s ≤ 7) : Calls Tryd.prog 38 #[.int .i64 s, .int .i64 p] w fun e w' => e = .returned (.bool (decide (0 ≤ p) && decide (p < s * s))) ∧ w = w' := by
  have hb := Pt.sq_bd s h1 h2
  go_enter Tryd.func38, Tryd.ntmps38
  go_wp2_with (go_at_call 62; refine (s_range _ _ _ _).mono ?_; rintro e w' ⟨rfl, rfl⟩)
  go_ret
  exact ⟨ret_bool (sq_le s p), rfl⟩

end Go.Proofs.YteldfjibmaigiaaDoor
