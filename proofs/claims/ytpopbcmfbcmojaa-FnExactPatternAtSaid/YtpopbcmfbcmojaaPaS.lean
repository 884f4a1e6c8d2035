/-
  The model's pattern around a point.
-/
import Derived.Test.YtpopbcmfbcmojaaPaQ
import Derived.Test.YtpopbcmfbcmojaaPkS
import Derived.Deep.QuietTactic
namespace Go.Proofs.Ytpopbcmfbcmojaa
set_option maxRecDepth 100000
open Go.RowKit

set_option maxHeartbeats 4000000 in
theorem s_around (s p : Int) (w : World) (h1 : 1 ≤ s) (h2 : s ≤ 7) (h3 : 0 ≤ p) (h4 : p < s * s) :
    Calls Try.prog 85 #[.int .i64 s, .int .i64 p] w fun e w' => ∃ A c, e = .returned (.slice A 8 c) ∧ Own w' w.heap.size A 8 c (Pa.arl s p 9) ∧ Below w.heap.size w w' := by
  have hsq := Pt.sq_bd s h1 h2
  obtain ⟨d1, d2, d3, d4, d5⟩ := Pt.dm s p h1 h2 h3 h4
  clear d5
  go_enter Try.func85, Try.ntmps85
  go_wp2_with fail
  have Ho := Lib.hid (Own.bare w w.heap.size (Nat.le_refl _))
  have Hb := Lib.hid ((Below.refl w.heap.size w).alloc (Nat.le_refl _) (.cells #[] 3))
  obtain ⟨y, hy, hyz⟩ : ∃ y, y = w.alloc (.cells #[] 3) ∧ w.heap.size ≤ y.heap.size := ⟨_, rfl, by simp⟩
  rw [← hy] at Ho Hb ⊢
  clear hy
  go_loopg [5, 6] 10 (fun q v5 v6 wr => ∃ (k : Nat) (A : Option Addr) (m c : Nat), k + q = 10 ∧ k ≤ 9 ∧ v5 = .slice A m c ∧ v6 = .int .i64 (k : Nat) ∧ Own wr w.heap.size A m c (Pa.arl s p k) ∧ Below w.heap.size w wr)
  case atStart => exact ⟨0, _, _, _, by omega, by omega, rfl, rfl, Ho.out, Hb.out⟩
  case round =>
    clear Ho Hb
    obtain ⟨k, A, m, c, hk, hk9, rfl, rfl, ho, hb⟩ := hrel
    have hm := ho.1
    have hm9 := Pa.arl_few s p k
    have Ho := Lib.hid ho
    have Hb := Lib.hid hb
    have hz := hb.size
    clear ho hb
    by_cases hkk : k = 9
    · subst hkk
      have hlt : ¬ (((9 : Nat) : Int)) < 9 := by omega
      obtain rfl : m = 8 := by rw [← hm, Pa.arl_len]
      clear hm hm9
      go_wp2_with fail
      go_ret
      exact ⟨_, _, rfl, Ho.out, Hb.out⟩
    · have hlt : ((k : Nat) : Int) < 9 := by omega
      have hk0 : (0 : Int) ≤ (k : Nat) := by omega
      have hs1 : Pa.arl s p (k + 1) = if k = 4 then Pa.arl s p k else Pa.arl s p k ++ [Pa.pt s p (k : Nat)] := rfl
      obtain ⟨r, hr⟩ : ∃ r, p / s - 1 + ((k : Nat) : Int) / 3 = r := ⟨_, rfl⟩
      obtain ⟨cc, hc⟩ : ∃ cc, p % s - 1 + ((k : Nat) : Int) % 3 = cc := ⟨_, rfl⟩
      have hmm : m ≤ 9 := by omega
      by_cases h4k : k = 4
      · have q4 : (((k : Nat) : Int) == 4) = true := by simp; omega
        rw [if_pos h4k] at hs1
        have Hs := Lib.hid hs1
        have Hm := Lib.hid hm
        clear hs1 hm hm9 h4k
        go_wp2_with fail
        go_roundg (9 - k)
        case measure => omega
        case rel => exact ⟨k + 1, _, _, _, by omega, by omega, rfl, by go_num, by rw [Hs.out]; exact Ho.out, Hb.out⟩
      · have q4 : (((k : Nat) : Int) == 4) = false := by simp; omega
        rw [if_neg h4k] at hs1
        have Hm := Lib.hid hm
        by_cases hin : Pa.inB s p (k : Nat) = true
        · have hpt : Pa.pt s p (k : Nat) = r * s + cc := by unfold Pa.pt; rw [if_pos hin, ← hr, ← hc]; rfl
          obtain ⟨⟨a1, a2⟩, a3, a4⟩ := Pa.inB_iff.1 hin
          have a1 : 0 ≤ r := by rw [← hr]; exact a1
          have a2 : r ≤ s - 1 := by rw [← hr]; exact a2
          have a3 : 0 ≤ cc := by rw [← hc]; exact a3
          have a4 : cc ≤ s - 1 := by rw [← hc]; exact a4
          obtain ⟨l1, l2, l3, l4⟩ := Pt.lin_bd s r cc h1 h2 a1 a2 a3 a4
          have e1 : (decide (0 ≤ r) && decide (r ≤ s - 1)) = true := by rw [decide_eq_true a1, decide_eq_true a2]; rfl
          have e2 : (decide (0 ≤ cc) && decide (cc ≤ s - 1)) = true := by rw [decide_eq_true a3, decide_eq_true a4]; rfl
          have E1 := Lib.hid e1
          have E2 := Lib.hid e2
          rw [hpt] at hs1
          have Hs := Lib.hid hs1
          clear hs1 hm hm9 h4k hin hpt e1 e2
          go_wp2_with fail
          refine (s_range r 0 (s - 1) _).mono ?_
          rintro e y1 ⟨rfl, rfl⟩
          rw [E1.out]
          go_wp2_with fail
          refine (s_range cc 0 (s - 1) _).mono ?_
          rintro e y1 ⟨rfl, rfl⟩
          rw [E2.out]
          go_wp2_with (at_builtin; refine app1 rfl _ _ rfl _ _ _ _ _ _ _ _ rfl rfl (by simp) Ho.out hz (by omega) ?_; intro A' c' w' hown' hb' hlt' _)
          have Ho2 := Lib.hid hown'
          have Hb2 := Lib.hid (Hb.out.trans hb')
          clear hown' hb'
          go_wp2_with fail
          go_roundg (9 - k)
          case measure => omega
          case rel => exact ⟨k + 1, _, _, _, by omega, by omega, rfl, by go_num, by rw [Hs.out]; exact Ho2.out, Hb2.out⟩
        · have hpt : Pa.pt s p (k : Nat) = -1 := by unfold Pa.pt; rw [if_neg hin]
          rw [hpt] at hs1
          have Hs := Lib.hid hs1
          by_cases hrr : (decide (0 ≤ r) && decide (r ≤ s - 1)) = true
          · have e2 : (decide (0 ≤ cc) && decide (cc ≤ s - 1)) = false := by
              cases hq : (decide (0 ≤ cc) && decide (cc ≤ s - 1)) with
              | false => rfl
              | true =>
                exfalso
                apply hin
                unfold Pa.inB
                rw [show Pa.row s p (k : Nat) = r from hr, show Pa.col s p (k : Nat) = cc from hc, hrr, hq]
                rfl
            have E1 := Lib.hid hrr
            have E2 := Lib.hid e2
            clear hs1 hm hm9 h4k hin hpt hrr e2
            go_wp2_with fail
            refine (s_range r 0 (s - 1) _).mono ?_
            rintro e y1 ⟨rfl, rfl⟩
            rw [E1.out]
            go_wp2_with fail
            refine (s_range cc 0 (s - 1) _).mono ?_
            rintro e y1 ⟨rfl, rfl⟩
            rw [E2.out]
            go_wp2_with (at_builtin; refine app1 rfl _ _ rfl _ _ _ _ _ _ _ _ rfl rfl (by simp) Ho.out hz (by omega) ?_; intro A' c' w' hown' hb' hlt' _)
            have Ho2 := Lib.hid hown'
            have Hb2 := Lib.hid (Hb.out.trans hb')
            clear hown' hb'
            go_wp2_with fail
            go_roundg (9 - k)
            case measure => omega
            case rel => exact ⟨k + 1, _, _, _, by omega, by omega, rfl, by go_num, by rw [Hs.out]; exact Ho2.out, Hb2.out⟩
          · have e1 : (decide (0 ≤ r) && decide (r ≤ s - 1)) = false := by simpa using hrr
            have E1 := Lib.hid e1
            clear hs1 hm hm9 h4k hin hpt hrr e1
            go_wp2_with fail
            refine (s_range r 0 (s - 1) _).mono ?_
            rintro e y1 ⟨rfl, rfl⟩
            rw [E1.out]
            go_wp2_with (at_builtin; refine app1 rfl _ _ rfl _ _ _ _ _ _ _ _ rfl rfl (by simp) Ho.out hz (by omega) ?_; intro A' c' w' hown' hb' hlt' _)
            have Ho2 := Lib.hid hown'
            have Hb2 := Lib.hid (Hb.out.trans hb')
            clear hown' hb'
            go_wp2_with fail
            go_roundg (9 - k)
            case measure => omega
            case rel => exact ⟨k + 1, _, _, _, by omega, by omega, rfl, by go_num, by rw [Hs.out]; exact Ho2.out, Hb2.out⟩
end Go.Proofs.Ytpopbcmfbcmojaa
