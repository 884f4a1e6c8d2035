/-
  All groups of a color: GroupsOf of both packages, for every board and every int.
-/
import Derived.Test.YtniddfoiakbfdaaGs
namespace Go.Proofs.Ytniddfoiakbfdaa
set_option maxRecDepth 100000
open Go.RowKit

theorem SS.weaken {w : World} {B B' hi n c : Nat} {A : Option Addr} {xss : List (List Int)} (h : SS w B hi A n c xss) (hB : B' ≤ B) : SS w B' hi A n c xss := by
  obtain ⟨a1, a2, vs, ra, rn, rc, a3, a4, a5, a6, a7⟩ := h
  refine ⟨a1, a2, vs, ra, rn, rc, a3, ⟨a4.1, ?_⟩, fun j hj => ⟨(a5 j hj).1, (a5 j hj).2.weaken hB⟩, a6, a7⟩
  rcases a4.2 with e | ⟨g, cap, cur, e, hg, r⟩
  · exact .inl e
  · exact .inr ⟨g, cap, cur, e, by omega, r⟩

theorem i_stone (x : Int) (w : World) : Calls Try.prog 27 #[.int .i64 x] w fun e w' => e = .returned (.bool (decide (1 ≤ x) && decide (x ≤ 2))) ∧ w = w' := by
  refine (i_isStone x w).mono ?_
  rintro e w' ⟨rfl, rfl⟩
  refine ⟨?_, rfl⟩
  have : (x == 1 || x == 2) = (decide (1 ≤ x) && decide (x ≤ 2)) := by
    rw [Bool.eq_iff_iff]
    simp only [Bool.or_eq_true, beq_iff_eq, Bool.and_eq_true, decide_eq_true_eq]
    omega
  rw [this]

end Go.Proofs.Ytniddfoiakbfdaa
