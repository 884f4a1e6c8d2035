/-
  The model's enclosed points and eyes.
-/
import Derived.Test.YteldfjibmaigiaaDoorEyeP
import Derived.Test.YteldfjibmaigiaaDoorDia
namespace Go.Proofs.YteldfjibmaigiaaDoor
set_option maxRecDepth 100000
open Go.RowKit

theorem nbs_le (s p : Int) : (Pt.nbs s p).length ≤ 4 := by
  unfold Pt.nbs Pt.nbL Pt.nbA Pt.nbB Pt.nbU
  simp only [List.length_append]
  split <;> split <;> split <;> split <;> simp

theorem s_opp3 (c y : Int) (w : World) (h : y = 3 - c) (h1 : 1 ≤ c) (h2 : c ≤ 2) : Calls Tryd.prog 65 #[.int .i64 c] w fun e w' => e = .returned (.int .i64 y) ∧ w' = w := by
  have H := Lib.hid h
  clear h
  go_enter Tryd.func65, Tryd.ntmps65
  go_wp2_with fail
  go_ret
  exact ⟨ret_int H.out.symm, rfl⟩
theorem s_eyeColor (x : Int) (w : World) : Calls Tryd.prog 37 #[.int .i64 x] w fun e w' => e = .returned (.bool (decide (1 ≤ x) && decide (x ≤ 2))) ∧ w = w' := by
  go_enter Tryd.func37, Tryd.ntmps37
  go_wp2_with fail
  refine (s_range _ _ _ _).mono ?_
  rintro e w' ⟨rfl, rfl⟩
  go_wp2_with fail
  go_ret
  exact ⟨rfl, rfl⟩

section
variable (s p : Nat) (x : Int) (w : World) (B : Nat) (A : Option Addr) (n c : Nat) (cs : List Int) (h : Ints w B A n cs) (hB : B ≤ w.heap.size) (h1 : 1 ≤ s) (h2 : s ≤ 7) (hn : n = s * s) (hp : p < s * s)
include h hB h1 h2 hn hp

end
end Go.Proofs.YteldfjibmaigiaaDoor
