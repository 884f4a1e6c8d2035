/-
  The model's own points: inRange, validSize, validPoint, ValidPoint, transform, TransformPoint, ComposeOf compute the plain functions of PurePt. 'transform' for valid arguments; the others for every int.
-/
import Derived.Test.YtdkmedlffphmdaaBase
import Derived.Test.YtdkmedlffphmdaaFactPt
namespace Go.Proofs.Ytdkmedlffphmdaa
open Go.RowKit

theorem s_range (n lo hi : Int) (w : World) : Calls Try.prog 41 #[.int .i64 n, .int .i64 lo, .int .i64 hi] w fun e w' => e = .returned (.bool (decide (lo ≤ n) && decide (n ≤ hi))) ∧ w = w' := by
  by_cases h1 : lo ≤ n
  · go_enter Try.func41, Try.ntmps41
    go_wp2
    go_ret
    exact ⟨ret_bool (by simp [h1]), rfl⟩
  · have hd : decide (lo ≤ n) = false := by simpa using h1
    go_enter Try.func41, Try.ntmps41
    go_wp2
    go_ret
    exact ⟨rfl, rfl⟩

theorem s_size (s : Int) (w : World) : Calls Try.prog 43 #[.int .i64 s] w fun e w' => e = .returned (.bool (Pt.okS s)) ∧ w = w' := by
  go_enter Try.func43, Try.ntmps43
  go_wp2_with (go_at_call 41; refine (s_range _ _ _ _).mono ?_; rintro e w' ⟨rfl, rfl⟩)
  go_ret
  exact ⟨ret_bool rfl, rfl⟩

theorem sq_le (s p : Int) : (decide (0 ≤ p) && decide (p ≤ s * s - 1)) = (decide (0 ≤ p) && decide (p < s * s)) := by
  congr 1
  exact decide_eq_decide.2 (by omega)

theorem s_vpoint (s p : Int) (w : World) (h1 : 1 ≤ s) (h2 : s ≤ 7) : Calls Try.prog 44 #[.int .i64 s, .int .i64 p] w fun e w' => e = .returned (.bool (decide (0 ≤ p) && decide (p < s * s))) ∧ w = w' := by
  have hb := Pt.sq_bd s h1 h2
  go_enter Try.func44, Try.ntmps44
  go_wp2_with (go_at_call 41; refine (s_range _ _ _ _).mono ?_; rintro e w' ⟨rfl, rfl⟩)
  go_ret
  exact ⟨ret_bool (sq_le s p), rfl⟩

theorem s_point (s p : Int) (w : World) : Calls Try.prog 25 #[.int .i64 s, .int .i64 p] w fun e w' => e = .returned (.bool (Pt.okP s p)) ∧ w = w' := by
  by_cases h : Pt.okS s = true
  · have hs := (Pt.okS_iff s).1 h
    obtain ⟨hs1, hs2⟩ := hs
    go_enter Try.func25, Try.ntmps25
    go_wp2_with fail
    refine (s_size _ _).mono ?_
    rintro e w' ⟨rfl, rfl⟩
    go_wp2_with fail
    refine (s_vpoint _ _ _ hs1 hs2).mono ?_
    rintro e w' ⟨rfl, rfl⟩
    go_wp2_with fail
    go_ret
    exact ⟨ret_bool (by rw [Pt.okP, h]; rfl), rfl⟩
  · have h' : Pt.okS s = false := by simpa using h
    go_enter Try.func25, Try.ntmps25
    go_wp2_with fail
    refine (s_size _ _).mono ?_
    rintro e w' ⟨rfl, rfl⟩
    go_wp2_with fail
    go_ret
    exact ⟨ret_bool (by rw [Pt.okP, h']; rfl), rfl⟩

set_option maxHeartbeats 400000 in
theorem s_transform (s k p : Int) (w : World) (h1 : 1 ≤ s) (h2 : s ≤ 7) (h3 : 0 ≤ p) (h4 : p < s * s) (k1 : 0 ≤ k) (k2 : k < 8) :
    Calls Try.prog 42 #[.int .i64 s, .int .i64 k, .int .i64 p] w fun e w' => e = .returned (.int .i64 (Pt.img s k p)) ∧ w = w' := by
  have hb := Pt.sq_bd s h1 h2
  obtain ⟨d1, d2, d3, d4, d5⟩ := Pt.dm s p h1 h2 h3 h4
  clear d5
  by_cases h4k : 4 ≤ k
  all_goals
    go_enter Try.func42, Try.ntmps42
    go_wp2
    go_loop [7, 8, 9] (fun r c i => ∃ n : Nat, n ≤ (k % 4).toNat ∧ i = .int .i64 n ∧ r = .int .i64 (Pt.rot s n (Pt.beg s k p)).1 ∧ c = .int .i64 (Pt.rot s n (Pt.beg s k p)).2) (fun _ _ i => (k % 4).toNat - (intOf i).toNat)
    case atStart => exact ⟨0, Nat.zero_le _, rfl, rfl, by simp only [Pt.rot, Pt.beg]; split <;> first | rfl | omega⟩
    case round =>
      obtain ⟨n, hn, rfl, rfl, rfl⟩ := hrel
      have hr := Pt.rot_bd s n _ (Pt.beg_bd s k p h1 h2 h3 h4)
      have hl := Pt.lin_bd s _ _ h1 h2 hr.1 hr.2.1 hr.2.2.1 hr.2.2.2
      obtain ⟨r1, r2, r3, r4⟩ := hr
      obtain ⟨l1, l2, l3, l4⟩ := hl
      by_cases hlt : (n : Int) < k % 4
      · go_wp2
        go_round
        case rel => exact ⟨n + 1, by omega, by go_num, rfl, rfl⟩
        case measure => simp [intOf]; omega
      · have hm : (k % 4).toNat = n := by omega
        have H := Lib.hid hm
        clear hm
        go_wp2
        go_ret
        exact ⟨ret_int (by rw [Pt.img, H.out]), rfl⟩
end Go.Proofs.Ytdkmedlffphmdaa
