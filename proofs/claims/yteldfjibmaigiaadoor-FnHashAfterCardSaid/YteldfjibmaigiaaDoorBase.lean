/-
  The validity of sizes, points and symmetries: both packages' tests compute the plain functions of PurePt. No condition.
-/
import Derived.Test.YteldfjibmaigiaaDoorProg
import Derived.Test.YteldfjibmaigiaaDoorPurePt
import Derived.WalkKit
import Derived.Handy
import Derived.Below
import Derived.Lib.Hide
import Derived.WalkLawsBesides
import Derived.WalkSpells
import Derived.Deep.QuietTactic
import Derived.BigQuiet
namespace Go.Proofs.YteldfjibmaigiaaDoor
set_option maxRecDepth 100000
open Go.RowKit

theorem ret_bool {a b : Bool} (h : a = b) : Ending.returned (.bool a) = .returned (.bool b) := by rw [h]
theorem ret_int {a b : Int} (h : a = b) : Ending.returned (.int .i64 a) = .returned (.int .i64 b) := by rw [h]

theorem i_size (s : Int) (w : World) : Calls Tryd.prog 52 #[.int .i64 s] w fun e w' => e = .returned (.bool (Pt.okS s)) ∧ w = w' := by
  by_cases h1 : 1 ≤ s
  · go_enter Tryd.func52, Tryd.ntmps52
    go_wp2
    go_ret
    exact ⟨ret_bool (by simp [Pt.okS, h1]), rfl⟩
  · have hd : decide (1 ≤ s) = false := by simpa using h1
    go_enter Tryd.func52, Tryd.ntmps52
    go_wp2
    go_ret
    exact ⟨ret_bool (by rw [Pt.okS, hd]; rfl), rfl⟩

theorem i_point (s p : Int) (w : World) : Calls Tryd.prog 31 #[.int .i64 s, .int .i64 p] w fun e w' => e = .returned (.bool (Pt.okP s p)) ∧ w = w' := by
  by_cases h1 : Pt.okS s = true
  · have hs := (Pt.okS_iff s).1 h1
    have hb := Pt.sq_bd s hs.1 hs.2
    by_cases h2 : 0 ≤ p
    · go_enter Tryd.func31, Tryd.ntmps31
      go_wp2_with (go_at_call 52; refine (i_size _ _).mono ?_; rintro e w' ⟨rfl, rfl⟩)
      go_ret
      exact ⟨ret_bool (by simp [Pt.okP, h1, h2]), rfl⟩
    · have hd : decide (0 ≤ p) = false := by simpa using h2
      go_enter Tryd.func31, Tryd.ntmps31
      go_wp2_with (go_at_call 52; refine (i_size _ _).mono ?_; rintro e w' ⟨rfl, rfl⟩)
      go_ret
      exact ⟨ret_bool (by rw [Pt.okP, h1, hd]; rfl), rfl⟩
  · have h1' : Pt.okS s = false := by simpa using h1
    go_enter Tryd.func31, Tryd.ntmps31
    go_wp2_with (go_at_call 52; refine (i_size _ _).mono ?_; rintro e w' ⟨rfl, rfl⟩)
    go_ret
    exact ⟨ret_bool (by simp [Pt.okP, h1']), rfl⟩
end Go.Proofs.YteldfjibmaigiaaDoor
