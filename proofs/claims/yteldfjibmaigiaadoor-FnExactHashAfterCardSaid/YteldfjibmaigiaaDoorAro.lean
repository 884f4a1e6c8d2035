/-
  Sets of points as bits: the points around; the other color.
-/
import Derived.Test.YteldfjibmaigiaaDoorPos
import Derived.Deep.QuietTactic
import Derived.BigQuiet
namespace Go.Proofs.YteldfjibmaigiaaDoor
set_option maxRecDepth 100000
open Go.RowKit

/-- It only reads: what it draws alone may have changed. -/
def Qt (v : Value) (w : World) (e : Ending) (w' : World) : Prop := e = .returned v ∧ ∃ m, w' = w.drewN m

theorem i_around (s m : Nat) (w : World) (h1 : 1 ≤ s) (h2 : s ≤ 7) (hm : m < 2 ^ (s * s)) :
    Calls Tryd.prog 81 #[.int .u64 m, .int .i64 s] w fun e w' => e = .returned (.int .u64 ((Bt.aro s m : Nat) : Int)) ∧ ∃ d, w' = w.drewN d := by
  have h7 := (Bt.masks s h1 h2).2.2.2.2.2.2
  have hm64 : m < 18446744073709551616 := by omega
  have hb := Bt.bes_lt s m h1 h2 hm
  have ha := Bt.abv_lt s m
  have hor : bits .or .u64 ((Bt.bes s m : Nat) : Int) ((Bt.abv s m : Nat) : Int) = ((Bt.aro s m : Nat) : Int) := u64_or_nat _ _ (by omega) (by omega)
  have HO := Lib.hid hor
  clear hor hb ha h7 hm
  go_enter Tryd.func81, Tryd.ntmps81
  go_wp2_with fail
  refine (i_beside s m _ h1 h2 hm64).mono ?_
  rintro e w' ⟨rfl, rfl⟩
  go_wp2_with fail
  refine (i_above s m _ h1 h2 hm64).mono ?_
  rintro e w' ⟨k, rfl, rfl⟩
  go_wp2_with fail
  go_ret
  exact ⟨by rw [← HO.out]; rfl, _, rfl⟩
theorem i_oth1 (w : World) : Calls Tryd.prog 55 #[.int .i64 1] w fun e w' => e = .returned (.int .i64 2) ∧ w' = w := by
  go_enter Tryd.func55, Tryd.ntmps55
  go_wp2_with fail
  go_ret
  exact ⟨rfl, rfl⟩
theorem i_oth2 (w : World) : Calls Tryd.prog 55 #[.int .i64 2] w fun e w' => e = .returned (.int .i64 1) ∧ w' = w := by
  go_enter Tryd.func55, Tryd.ntmps55
  go_wp2_with fail
  go_ret
  exact ⟨rfl, rfl⟩
end Go.Proofs.YteldfjibmaigiaaDoor
