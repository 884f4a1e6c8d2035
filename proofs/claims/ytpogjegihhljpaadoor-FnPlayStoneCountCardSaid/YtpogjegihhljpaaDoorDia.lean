/-
  The diagonals of a point in both packages: for every two ints, the list of PureBg.
-/
import Derived.Test.YtpogjegihhljpaaDoorBitsB
import Derived.Test.YtpogjegihhljpaaDoorSpecB
import Derived.Test.YtpogjegihhljpaaDoorNbSpec
namespace Go.Proofs.YtpogjegihhljpaaDoor
set_option maxRecDepth 100000
open Go.RowKit

theorem s_diagonals (s p : Int) (w : World) (h1 : 1 ≤ s) (h2 : s ≤ 7) (h3 : 0 ≤ p) (h4 : p < s * s) :
    Calls Tryd.prog 95 #[.int .i64 s, .int .i64 p] w fun e w' => ∃ A n c, e = .returned (.slice A n c) ∧ Own w' w.heap.size A n c (Bt.dia s p) ∧ Below w.heap.size w w' := by
  obtain ⟨d1, d2, d3, d4, d5⟩ := Pt.dm s p h1 h2 h3 h4
  have hb49 := Pt.sq_bd s h1 h2
  have hp49 : p ≤ 48 := by omega
  clear d5
  go_enter Tryd.func95, Tryd.ntmps95
  go_wp2_with fail
  go_loopw [5, 8] (fun v i wr => ∃ k A n c, k ≤ 4 ∧ v = .slice A n c ∧ i = .int .i64 ((k : Nat) : Int) ∧ Own wr w.heap.size A n c (Bt.dis s p k) ∧ Below w.heap.size w wr) (fun _ i _ => 4 - (intOf i).toNat)
  case atStart => exact ⟨0, _, _, _, by omega, rfl, rfl, Own.bare w w.heap.size (Nat.le_refl _), (Below.refl w.heap.size w).alloc (Nat.le_refl _) _⟩
  case round =>
    obtain ⟨k, A, n, c, hk, rfl, rfl, ho, hb⟩ := hrel
    have hz := hb.size
    have hn : n ≤ 4 := by have := ho.1; have := Bt.dis_len s p k; omega
    have Ho := Lib.hid ho
    have Hb := Lib.hid hb
    clear ho hb
    by_cases hlt : k < 4
    · obtain ⟨Y, hY⟩ : ∃ Y, p / s - 1 + (k : Int) / 2 * 2 = Y := ⟨_, rfl⟩
      obtain ⟨X, hX⟩ : ∃ X, p % s - 1 + (k : Int) % 2 * 2 = X := ⟨_, rfl⟩
      have eY : Bt.diY s p k = Y := by rw [← hY, Bt.diY]; push_cast; rfl
      have eX : Bt.diX s p k = X := by rw [← hX, Bt.diX]; push_cast; rfl
      have hdi : Bt.di1 s p k = if (0 ≤ Y ∧ Y ≤ s - 1) ∧ (0 ≤ X ∧ X ≤ s - 1) then [Y * s + X] else [] := by rw [Bt.di1, eY, eX]
      have HD := Lib.hid hdi
      have bY : -1 ≤ Y ∧ Y ≤ 8 := by omega
      have bX : -1 ≤ X ∧ X ≤ 8 := by omega
      obtain ⟨bY1, bY2⟩ := bY
      obtain ⟨bX1, bX2⟩ := bX
      clear hdi eY eX
      by_cases hy : 0 ≤ Y ∧ Y ≤ s - 1
      · have hyb : (decide (0 ≤ Y) && decide (Y ≤ s - 1)) = true := by simp [hy.1, hy.2]
        have Hyb := Lib.hid hyb
        clear hyb
        by_cases hx : 0 ≤ X ∧ X ≤ s - 1
        · have hxb : (decide (0 ≤ X) && decide (X ≤ s - 1)) = true := by simp [hx.1, hx.2]
          have Hxb := Lib.hid hxb
          have hl := Pt.lin_bd s Y X h1 h2 hy.1 hy.2 hx.1 hx.2
          obtain ⟨l1, l2, l3, l4⟩ := hl
          have HD' : Hid (Bt.di1 s p k = [Y * s + X]) := Lib.hid (by rw [HD.out, if_pos ⟨hy, hx⟩])
          clear hxb HD hy hx
          go_wp2_with fail
          refine (s_range _ _ _ _).mono ?_
          rintro e w' ⟨rfl, rfl⟩
          rw [Hyb.out]
          go_wp2_with fail
          refine (s_range _ _ _ _).mono ?_
          rintro e w' ⟨rfl, rfl⟩
          rw [Hxb.out]
          clear hY hX
          go_wp2_with (at_builtin; refine app1 rfl _ _ rfl _ _ _ _ _ _ _ _ rfl rfl (by simp) Ho.out hz (by omega) ?_; intro A' c' w' hown' hb' hlt' _)
          go_roundw
          case rel => exact ⟨k + 1, _, _, _, by omega, rfl, by go_num, by rw [Bt.dis, HD'.out]; exact hown', Hb.out.trans (hb'.mono (by omega))⟩
          case measure => simp [intOf]; omega
        · have hxb : (decide (0 ≤ X) && decide (X ≤ s - 1)) = false := by
            rcases Bool.eq_false_or_eq_true (decide (0 ≤ X) && decide (X ≤ s - 1)) with e | e
            · rw [Bool.and_eq_true, decide_eq_true_eq, decide_eq_true_eq] at e; exact absurd e hx
            · exact e
          have Hxb := Lib.hid hxb
          have HD' : Hid (Bt.di1 s p k = []) := Lib.hid (by rw [HD.out, if_neg (fun h => hx h.2)])
          clear hxb HD hy hx
          go_wp2_with fail
          refine (s_range _ _ _ _).mono ?_
          rintro e w' ⟨rfl, rfl⟩
          rw [Hyb.out]
          go_wp2_with fail
          refine (s_range _ _ _ _).mono ?_
          rintro e w' ⟨rfl, rfl⟩
          rw [Hxb.out]
          clear hY hX
          go_wp2_with fail
          go_roundw
          case rel => exact ⟨k + 1, _, _, _, by omega, rfl, by go_num, by rw [Bt.dis, HD'.out, List.append_nil]; exact Ho.out, Hb.out⟩
          case measure => simp [intOf]; omega
      · have hyb : (decide (0 ≤ Y) && decide (Y ≤ s - 1)) = false := by
          rcases Bool.eq_false_or_eq_true (decide (0 ≤ Y) && decide (Y ≤ s - 1)) with e | e
          · rw [Bool.and_eq_true, decide_eq_true_eq, decide_eq_true_eq] at e; exact absurd e hy
          · exact e
        have Hyb := Lib.hid hyb
        have HD' : Hid (Bt.di1 s p k = []) := Lib.hid (by rw [HD.out, if_neg (fun h => hy h.1)])
        clear hyb HD hy
        go_wp2_with fail
        refine (s_range _ _ _ _).mono ?_
        rintro e w' ⟨rfl, rfl⟩
        rw [Hyb.out]
        clear hY hX
        go_wp2_with fail
        go_roundw
        case rel => exact ⟨k + 1, _, _, _, by omega, rfl, by go_num, by rw [Bt.dis, HD'.out, List.append_nil]; exact Ho.out, Hb.out⟩
        case measure => simp [intOf]; omega
    · obtain rfl : k = 4 := by omega
      go_wp2_with fail
      go_ret
      exact ⟨_, _, _, rfl, Ho.out, Hb.out⟩

end Go.Proofs.YtpogjegihhljpaaDoor
