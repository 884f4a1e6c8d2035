/-
  The program's own places and symmetries: placeOf, mirrored, turned, pointOn, TransformPoint, ComposeOf compute the plain functions of PurePt; what they make lies in new memory.
-/
import Derived.Test.YtoflbpihcfdcgaaBase
import Derived.Test.YtoflbpihcfdcgaaFactPt
import Derived.RegionTactic
import Derived.Laws.ResultCell
namespace Go.Proofs.Ytoflbpihcfdcgaa
open Go.RowKit

theorem i_place (s p : Int) (w : World) (h1 : 1 ≤ s) (h2 : s ≤ 7) (h3 : 0 ≤ p) (h4 : p < s * s) :
    Calls Try.prog 64 #[.int .i64 s, .int .i64 p] w fun e w' => e = .returned (.agg #[.int .i64 (p / s), .int .i64 (p % s)]) ∧ Below w.heap.size w w' := by
  have hb := Pt.sq_bd s h1 h2
  obtain ⟨d1, d2, d3, d4, d5⟩ := Pt.dm s p h1 h2 h3 h4
  clear d5
  go_enter Try.func64, Try.ntmps64
  go_wp2
  go_region
  all_goals go_wp2
  all_goals go_returns
  all_goals exact ⟨rfl, ((Below.refl _ _).alloc (Nat.le_refl _) _).drew⟩

theorem i_mirrored (s r c : Int) (w : World) (h1 : 1 ≤ s) (h2 : s ≤ 7) (c1 : 0 ≤ c) (c2 : c ≤ s - 1) :
    Calls Try.prog 65 #[.agg #[.int .i64 r, .int .i64 c], .int .i64 s] w fun e w' => e = .returned (.agg #[.int .i64 r, .int .i64 (s - 1 - c)]) ∧ Below w.heap.size w w' := by
  go_enter Try.func65, Try.ntmps65
  go_wp2
  go_returns
  exact ⟨rfl, (((Below.refl _ _).alloc (Nat.le_refl _) _).alloc (by simp) _)⟩

theorem i_turned (s r c : Int) (w : World) (h1 : 1 ≤ s) (h2 : s ≤ 7) (c1 : 0 ≤ r) (c2 : r ≤ s - 1) :
    Calls Try.prog 66 #[.agg #[.int .i64 r, .int .i64 c], .int .i64 s] w fun e w' => e = .returned (.agg #[.int .i64 c, .int .i64 (s - 1 - r)]) ∧ Below w.heap.size w w' := by
  go_enter Try.func66, Try.ntmps66
  go_wp2
  go_returns
  exact ⟨rfl, (((Below.refl _ _).alloc (Nat.le_refl _) _).alloc (by simp) _)⟩

theorem i_pointOn (s r c : Int) (w : World) (h1 : 1 ≤ s) (h2 : s ≤ 7) (r1 : 0 ≤ r) (r2 : r ≤ s - 1) (c1 : 0 ≤ c) (c2 : c ≤ s - 1) :
    Calls Try.prog 67 #[.agg #[.int .i64 r, .int .i64 c], .int .i64 s] w fun e w' => e = .returned (.int .i64 (r * s + c)) ∧ Below w.heap.size w w' := by
  obtain ⟨l1, l2, l3, l4⟩ := Pt.lin_bd s r c h1 h2 r1 r2 c1 c2
  have hb := Pt.sq_bd s h1 h2
  go_enter Try.func67, Try.ntmps67
  go_wp2
  go_returns
  exact ⟨rfl, (Below.refl _ _).alloc (Nat.le_refl _) _⟩

theorem i_comp (a b : Int) (w : World) : Calls Try.prog 19 #[.int .i64 a, .int .i64 b] w fun e w' => e = .returned (.int .i64 (Pt.comp a b)) ∧ w = w' := by
  by_cases ha : Pt.okK a = true
  · by_cases hb : Pt.okK b = true
    · obtain ⟨a1, a2⟩ := (Pt.okK_iff a).1 ha
      obtain ⟨b1, b2⟩ := (Pt.okK_iff b).1 hb
      by_cases h4 : 4 ≤ b
      · have hfin : Pt.comp a b = (a / 4 + b / 4) % 2 * 4 + (b - a + 8) % 4 := by rw [Pt.comp, ha, hb, if_pos h4]; rfl
        have H := Lib.hid hfin
        clear hfin
        go_enter Try.func19, Try.ntmps19
        go_wp2_with (go_at_call 57; refine (i_sym _ _).mono ?_; rintro e w' ⟨rfl, rfl⟩)
        go_ret
        exact ⟨ret_int H.out.symm, rfl⟩
      · have hfin : Pt.comp a b = (a / 4 + b / 4) % 2 * 4 + (b + a) % 4 := by rw [Pt.comp, ha, hb, if_neg h4]; rfl
        have H := Lib.hid hfin
        clear hfin
        go_enter Try.func19, Try.ntmps19
        go_wp2_with (go_at_call 57; refine (i_sym _ _).mono ?_; rintro e w' ⟨rfl, rfl⟩)
        go_ret
        exact ⟨ret_int H.out.symm, rfl⟩
    · have hb' : Pt.okK b = false := by simpa using hb
      have hfin : Pt.comp a b = -1 := by rw [Pt.comp, ha, hb']; rfl
      have H := Lib.hid hfin
      clear hfin
      go_enter Try.func19, Try.ntmps19
      go_wp2_with (go_at_call 57; refine (i_sym _ _).mono ?_; rintro e w' ⟨rfl, rfl⟩)
      go_ret
      exact ⟨ret_int H.out.symm, rfl⟩
  · have ha' : Pt.okK a = false := by simpa using ha
    have hfin : Pt.comp a b = -1 := by rw [Pt.comp, ha']; rfl
    have H := Lib.hid hfin
    clear hfin
    go_enter Try.func19, Try.ntmps19
    go_wp2_with (go_at_call 57; refine (i_sym _ _).mono ?_; rintro e w' ⟨rfl, rfl⟩)
    go_ret
    exact ⟨ret_int H.out.symm, rfl⟩
end Go.Proofs.Ytoflbpihcfdcgaa
