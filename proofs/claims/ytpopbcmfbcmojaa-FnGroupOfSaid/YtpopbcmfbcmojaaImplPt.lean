/-
  The program's own places and symmetries: placeOf, mirrored, turned, pointOn, TransformPoint, ComposeOf compute the plain functions of PurePt; what they make lies in new memory.
-/
import Derived.Test.YtpopbcmfbcmojaaBase
import Derived.Test.YtpopbcmfbcmojaaFactPt
import Derived.RegionTactic
import Derived.Laws.ResultCell
namespace Go.Proofs.Ytpopbcmfbcmojaa
set_option maxRecDepth 100000
open Go.RowKit

theorem i_place (s p : Int) (w : World) (h1 : 1 ≤ s) (h2 : s ≤ 7) (h3 : 0 ≤ p) (h4 : p < s * s) :
    Calls Try.prog 55 #[.int .i64 s, .int .i64 p] w fun e w' => e = .returned (.agg #[.int .i64 (p / s), .int .i64 (p % s)]) ∧ Below w.heap.size w w' := by
  have hb := Pt.sq_bd s h1 h2
  obtain ⟨d1, d2, d3, d4, d5⟩ := Pt.dm s p h1 h2 h3 h4
  clear d5
  go_enter Try.func55, Try.ntmps55
  go_wp2
  go_region
  all_goals go_wp2
  all_goals go_returns
  all_goals exact ⟨rfl, ((Below.refl _ _).alloc (Nat.le_refl _) _).drew⟩

theorem i_mirrored (s r c : Int) (w : World) (h1 : 1 ≤ s) (h2 : s ≤ 7) (c1 : 0 ≤ c) (c2 : c ≤ s - 1) :
    Calls Try.prog 56 #[.agg #[.int .i64 r, .int .i64 c], .int .i64 s] w fun e w' => e = .returned (.agg #[.int .i64 r, .int .i64 (s - 1 - c)]) ∧ Below w.heap.size w w' := by
  go_enter Try.func56, Try.ntmps56
  go_wp2
  go_returns
  exact ⟨rfl, (((Below.refl _ _).alloc (Nat.le_refl _) _).alloc (by simp) _)⟩

theorem i_turned (s r c : Int) (w : World) (h1 : 1 ≤ s) (h2 : s ≤ 7) (c1 : 0 ≤ r) (c2 : r ≤ s - 1) :
    Calls Try.prog 57 #[.agg #[.int .i64 r, .int .i64 c], .int .i64 s] w fun e w' => e = .returned (.agg #[.int .i64 c, .int .i64 (s - 1 - r)]) ∧ Below w.heap.size w w' := by
  go_enter Try.func57, Try.ntmps57
  go_wp2
  go_returns
  exact ⟨rfl, (((Below.refl _ _).alloc (Nat.le_refl _) _).alloc (by simp) _)⟩

theorem i_pointOn (s r c : Int) (w : World) (h1 : 1 ≤ s) (h2 : s ≤ 7) (r1 : 0 ≤ r) (r2 : r ≤ s - 1) (c1 : 0 ≤ c) (c2 : c ≤ s - 1) :
    Calls Try.prog 58 #[.agg #[.int .i64 r, .int .i64 c], .int .i64 s] w fun e w' => e = .returned (.int .i64 (r * s + c)) ∧ Below w.heap.size w w' := by
  obtain ⟨l1, l2, l3, l4⟩ := Pt.lin_bd s r c h1 h2 r1 r2 c1 c2
  have hb := Pt.sq_bd s h1 h2
  go_enter Try.func58, Try.ntmps58
  go_wp2
  go_returns
  exact ⟨rfl, (Below.refl _ _).alloc (Nat.le_refl _) _⟩

end Go.Proofs.Ytpopbcmfbcmojaa
