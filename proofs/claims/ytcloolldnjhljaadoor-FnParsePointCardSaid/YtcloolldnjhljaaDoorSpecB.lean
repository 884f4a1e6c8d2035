/-
  The model's ValidPoint, for every int.
-/
import Derived.Test.YtcloolldnjhljaaDoorSpecA
namespace Go.Proofs.YtcloolldnjhljaaDoor
open Go.RowKit

theorem s_point (s p : Int) (w : World) : Calls Tryd.prog 29 #[.int .i64 s, .int .i64 p] w fun e w' => e = .returned (.bool (Pt.okP s p)) ∧ w = w' := by
  by_cases h : Pt.okS s = true
  · have hs := (Pt.okS_iff s).1 h
    obtain ⟨hs1, hs2⟩ := hs
    go_enter Tryd.func29, Tryd.ntmps29
    go_wp2_with fail
    refine (s_size _ _).mono ?_
    rintro e w' ⟨rfl, rfl⟩
    go_wp2_with fail
    refine (s_vpoint _ _ _ hs1 hs2).mono ?_
    rintro e w' ⟨rfl, rfl⟩
    go_wp2_with fail
    go_ret
    exact ⟨ret_bool (by rw [Pt.okP, h]; rfl), rfl⟩
  · have h' : Pt.okS s = false := by simpa using h
    go_enter Tryd.func29, Tryd.ntmps29
    go_wp2_with fail
    refine (s_size _ _).mono ?_
    rintro e w' ⟨rfl, rfl⟩
    go_wp2_with fail
    go_ret
    exact ⟨ret_bool (by rw [Pt.okP, h']; rfl), rfl⟩

end Go.Proofs.YtcloolldnjhljaaDoor
