/-
  The model's transform, for valid arguments.
-/
import Derived.Test.YteldfjibmaigiaaDoorSpecA
namespace Go.Proofs.YteldfjibmaigiaaDoor
set_option maxRecDepth 100000
open Go.RowKit

set_option maxHeartbeats 400000 in
theorem s_transform (s k p : Int) (w : World) (h1 : 1 ≤ s) (h2 : s ≤ 7) (h3 : 0 ≤ p) (h4 : p < s * s) (k1 : 0 ≤ k) (k2 : k < 8) :
    Calls Tryd.prog 88 #[.int .i64 s, .int .i64 k, .int .i64 p] w fun e w' => e = .returned (.int .i64 (Pt.img s k p)) ∧ w = w' := by
  have hb := Pt.sq_bd s h1 h2
  obtain ⟨d1, d2, d3, d4, d5⟩ := Pt.dm s p h1 h2 h3 h4
  clear d5
  by_cases h4k : 4 ≤ k
  all_goals
    go_enter Tryd.func88, Tryd.ntmps88
    go_wp2
    go_loop [7, 8, 9] (fun r c i => ∃ n : Nat, n ≤ (k % 4).toNat ∧ i = .int .i64 n ∧ r = .int .i64 (Pt.rot s n (Pt.beg s k p)).1 ∧ c = .int .i64 (Pt.rot s n (Pt.beg s k p)).2) (fun _ _ i => (k % 4).toNat - (intOf i).toNat)
    case atStart => exact ⟨0, Nat.zero_le _, rfl, rfl, by simp only [Pt.rot, Pt.beg]; split <;> first | rfl | omega⟩
    case round =>
      obtain ⟨n, hn, rfl, rfl, rfl⟩ := hrel
      have hr := Pt.rot_bd s n _ (Pt.beg_bd s k p h1 h2 h3 h4)
      have hl := Pt.lin_bd s _ _ h1 h2 hr.1 hr.2.1 hr.2.2.1 hr.2.2.2
      obtain ⟨r1, r2, r3, r4⟩ := hr
      obtain ⟨l1, l2, l3, l4⟩ := hl
      by_cases hlt : (n : Int) < k % 4
      · go_wp2
        go_round
        case rel => exact ⟨n + 1, by omega, by go_num, rfl, rfl⟩
        case measure => simp [intOf]; omega
      · have hm : (k % 4).toNat = n := by omega
        have H := Lib.hid hm
        clear hm
        go_wp2
        go_ret
        exact ⟨ret_int (by rw [Pt.img, H.out]), rfl⟩
end Go.Proofs.YteldfjibmaigiaaDoor
