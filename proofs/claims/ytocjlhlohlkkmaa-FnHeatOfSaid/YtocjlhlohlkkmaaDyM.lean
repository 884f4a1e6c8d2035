/-
  The model of dyadic numbers: ranges, validity, lowest terms, numerators for the denominator 256.
-/
import Derived.Test.YtocjlhlohlkkmaaDyJ
import Derived.Deep.LoopGhost
namespace Go.Proofs.Ytocjlhlohlkkmaa
set_option maxRecDepth 100000
open Go.RowKit

theorem s_inR (x lo hi : Int) (w : World) : Calls Try.prog 44 #[.int .i64 x, .int .i64 lo, .int .i64 hi] w fun r w' => r = .returned (.bool (decide (lo ≤ x) && decide (x ≤ hi))) ∧ w = w' := by
  by_cases h1 : lo ≤ x
  · go_enter Try.func44, Try.ntmps44
    go_wp2
    go_ret
    exact ⟨ret_bool (by simp [h1]), rfl⟩
  · have hd : decide (lo ≤ x) = false := by simpa using h1
    go_enter Try.func44, Try.ntmps44
    go_wp2
    go_ret
    exact ⟨rfl, rfl⟩
theorem inR_t {x lo hi : Int} (h1 : lo ≤ x) (h2 : x ≤ hi) : (decide (lo ≤ x) && decide (x ≤ hi)) = true := by simp [h1, h2]
theorem inR_f {x lo hi : Int} (h : ¬(lo ≤ x ∧ x ≤ hi)) : (decide (lo ≤ x) && decide (x ≤ hi)) = false := by
  rw [← Bool.not_eq_true, Bool.and_eq_true, decide_eq_true_eq, decide_eq_true_eq]; exact h
set_option maxRecDepth 100000 in
set_option maxHeartbeats 4000000 in
theorem s_ok (n e : Int) (w : World) : Calls Try.prog 49 #[.agg #[.int .i64 n, .int .i64 e]] w fun r w' => r = .returned (.bool (Dy.ok n e)) ∧ Below w.heap.size w w' := by
  have HB := Lib.hid ((Below.refl w.heap.size w).alloc (Nat.le_refl _) (.cells #[.int .i64 n, .int .i64 e] 26))
  by_cases he : 0 ≤ e ∧ e ≤ 8
  · have H1 := Lib.hid (inR_t he.1 he.2)
    by_cases hn : -9999 ≤ n ∧ n ≤ 9999
    · have H2 := Lib.hid (inR_t hn.1 hn.2)
      by_cases h0 : e = 0
      · have HF : Hid (Dy.ok n e = true) := Lib.hid (Dy.ok_iff.2 ⟨⟨hn.1, hn.2, he.1, he.2⟩, .inl h0⟩)
        have hz : (e == 0) = true := by simpa using h0
        clear he hn h0
        go_enter Try.func49, Try.ntmps49
        go_wp2_with (go_at_call 44; refine (s_inR _ _ _ _).mono ?_; rintro e w' ⟨rfl, rfl⟩; first | rw [H1.out] | rw [H2.out])
        go_ret
        exact ⟨by rw [HF.out]; rfl, HB.out⟩
      · have hz : (e == 0) = false := by simpa using h0
        by_cases hm : n % 2 = 1
        · have HF : Hid (Dy.ok n e = true) := Lib.hid (Dy.ok_iff.2 ⟨⟨hn.1, hn.2, he.1, he.2⟩, .inr hm⟩)
          have hmt : ¬ n.tmod 2 = 0 := fun h => by
            have := Int.emod_eq_zero_of_dvd (Int.dvd_of_tmod_eq_zero h)
            omega
          have hmb : (n.tmod 2 != 0) = true := by simpa using hmt
          clear he hn h0
          go_enter Try.func49, Try.ntmps49
          go_wp2_with (go_at_call 44; refine (s_inR _ _ _ _).mono ?_; rintro e w' ⟨rfl, rfl⟩; first | rw [H1.out] | rw [H2.out])
          go_ret
          exact ⟨by rw [HF.out, ← hmb]; rfl, HB.out⟩
        · have HF : Hid (Dy.ok n e = false) := Lib.hid (by rw [← Bool.not_eq_true, Dy.ok_iff]; rintro ⟨_, h | h⟩ <;> omega)
          have hmt : n.tmod 2 = 0 := Int.tmod_eq_zero_of_dvd (Int.dvd_of_emod_eq_zero (by omega))
          clear he hn h0
          go_enter Try.func49, Try.ntmps49
          go_wp2_with (go_at_call 44; refine (s_inR _ _ _ _).mono ?_; rintro e w' ⟨rfl, rfl⟩; first | rw [H1.out] | rw [H2.out])
          go_ret
          exact ⟨by rw [HF.out]; rfl, HB.out⟩
    · have HF : Hid (Dy.ok n e = false) := Lib.hid (by rw [← Bool.not_eq_true, Dy.ok_iff]; rintro ⟨⟨_, _, _, _⟩, _⟩; omega)
      have H2 := Lib.hid (inR_f hn)
      clear he hn
      go_enter Try.func49, Try.ntmps49
      go_wp2_with (go_at_call 44; refine (s_inR _ _ _ _).mono ?_; rintro e w' ⟨rfl, rfl⟩; first | rw [H1.out] | rw [H2.out])
      go_ret
      exact ⟨by rw [HF.out]; rfl, HB.out⟩
  · have HF : Hid (Dy.ok n e = false) := Lib.hid (by rw [← Bool.not_eq_true, Dy.ok_iff]; rintro ⟨⟨_, _, _, _⟩, _⟩; omega)
    have H1 := Lib.hid (inR_f he)
    clear he
    go_enter Try.func49, Try.ntmps49
    go_wp2_with (go_at_call 44; refine (s_inR _ _ _ _).mono ?_; rintro e w' ⟨rfl, rfl⟩; rw [H1.out])
    go_ret
    exact ⟨by rw [HF.out]; rfl, HB.out⟩
theorem s_scaled (n e : Int) (w : World) (hn1 : -9999 ≤ n) (hn2 : n ≤ 9999) (e1 : 0 ≤ e) (e2 : e ≤ 8) : Calls Try.prog 50 #[.agg #[.int .i64 n, .int .i64 e]] w fun r w' => r = .returned (.int .i64 (Dy.sc n e)) ∧ Below w.heap.size w w' := by
  obtain ⟨b1, b2⟩ := Dy.mul_bd hn1 hn2 (d := 8 - e) (by omega) (by omega)
  unfold Dy.sc
  go_enter Try.func50, Try.ntmps50
  go_wp2
  go_ret
  exact ⟨rfl, (Below.refl _ _).alloc (Nat.le_refl _) _⟩
set_option maxRecDepth 100000 in
set_option maxHeartbeats 4000000 in
theorem s_lowest (n : Int) (e : Nat) (w : World) (hn1 : -1000000000 ≤ n) (hn2 : n ≤ 1000000000) (he : e ≤ 64) : Calls Try.prog 45 #[.int .i64 n, .int .i64 e] w fun r w' => r = .returned (.agg #[.int .i64 (Dy.low e n).1, .int .i64 (Dy.low e n).2]) ∧ Below w.heap.size w w' := by
  go_enter Try.func45, Try.ntmps45
  go_wp2_with fail
  have X1 := Lib.hid (Bx.new 26 w 0 (.int .i64 0))
  have Hb := Lib.hid ((Below.refl w.heap.size w).alloc (Nat.le_refl _) (.cells #[.int .i64 0, .int .i64 0] 26))
  go_loopg [0, 1] (e + 1) (fun q v u wr => ∃ (m : Int) (k : Nat), k + 1 = q ∧ k ≤ e ∧ -1000000000 ≤ m ∧ m ≤ 1000000000 ∧ v = .int .i64 m ∧ u = .int .i64 (k : Nat) ∧ Bx 26 wr w.heap.size 0 (.int .i64 0) ∧ Dy.low k m = Dy.low e n ∧ Below w.heap.size w wr)
  case atStart => exact ⟨n, e, rfl, Nat.le_refl _, hn1, hn2, rfl, rfl, X1.out, rfl, Hb.out⟩
  case round =>
    clear X1 Hb
    obtain ⟨m, k, rfl, hke, hm1, hm2, rfl, rfl, hy, hl, hb⟩ := hrel
    have y0 := hy.cell0
    have y1 := hy.cell1
    have fy0 := hy.frozen 0
    have fy1 := hy.frozen 1
    have lty := hy.lt
    have HY := Lib.hid hy
    have HL := Lib.hid hl
    have HB := Lib.hid hb
    clear hy hl hb
    by_cases hk : 0 < k
    · have hk0 : (0 : Int) < k := by omega
      by_cases hm : m % 2 = 0
      · have hdv : (2 : Int) ∣ m := Int.dvd_of_emod_eq_zero hm
        have hmt : m.tmod 2 = 0 := Int.tmod_eq_zero_of_dvd hdv
        have hdt : m.tdiv 2 = m / 2 := Int.tdiv_eq_ediv_of_dvd hdv
        clear hdv
        have Hle := Lib.hid (show Dy.low (k - 1) (m / 2) = Dy.low e n by
          rw [← HL.out]
          obtain ⟨k', rfl⟩ : ∃ k', k = k' + 1 := ⟨k - 1, by omega⟩
          rw [Dy.low, if_pos hm]
          rfl)
        have hk1 : (k : Int) - 1 = ((k - 1 : Nat) : Int) := by omega
        have hkr := Lib.hid hk1
        have r1 : m / 2 ≤ 1000000000 := by omega
        have r2 : -1000000000 ≤ m / 2 := by omega
        clear hk1
        go_wp2
        go_roundg k
        case measure => omega
        case rel => exact ⟨m / 2, k - 1, by omega, by omega, r2, r1, rfl, by rw [hkr.out], HY.out, Hle.out, HB.out⟩
      · have hmt : ¬ m.tmod 2 = 0 := by rw [Int.dvd_iff_tmod_eq_zero.symm, Int.dvd_iff_emod_eq_zero]; exact hm
        have hfin : Dy.low e n = (m, (k : Int)) := by
          rw [← HL.out]
          obtain ⟨k', rfl⟩ : ∃ k', k = k' + 1 := ⟨k - 1, by omega⟩
          rw [Dy.low, if_neg hm]
        have HF := Lib.hid hfin
        clear hfin
        have HS := Lib.hid ((HY.out.set0 m).set1 (.int .i64 k))
        have z0 := HS.out.cell0
        have z1 := HS.out.cell1
        have HBS := Lib.hid ((HB.out.setCell (p := ⟨w.heap.size, 0, none⟩) (by simp) (.int .i64 m)).setCell (p := ⟨w.heap.size, 1, none⟩) (by simp) (.int .i64 k))
        go_wp2
        refine bodyPost_ret (v := .agg #[.int .i64 m, .int .i64 k]) (by simp [results, Try.results45, go_sem, z0, z1]) rfl ?_
        exact ⟨by rw [HF.out], HBS.out⟩
    · have hk0 : ¬ (0 : Int) < k := by omega
      have hfin : Dy.low e n = (m, (k : Int)) := by
        rw [← HL.out]
        obtain rfl : k = 0 := by omega
        rfl
      have HF := Lib.hid hfin
      clear hfin
      have HS := Lib.hid ((HY.out.set0 m).set1 (.int .i64 k))
      have z0 := HS.out.cell0
      have z1 := HS.out.cell1
      have HBS := Lib.hid ((HB.out.setCell (p := ⟨w.heap.size, 0, none⟩) (by simp) (.int .i64 m)).setCell (p := ⟨w.heap.size, 1, none⟩) (by simp) (.int .i64 k))
      go_wp2
      refine bodyPost_ret (v := .agg #[.int .i64 m, .int .i64 k]) (by simp [results, Try.results45, go_sem, z0, z1]) rfl ?_
      exact ⟨by rw [HF.out], HBS.out⟩
end Go.Proofs.Ytocjlhlohlkkmaa
