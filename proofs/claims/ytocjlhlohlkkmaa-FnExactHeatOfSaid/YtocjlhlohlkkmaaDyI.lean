/-
  The program's own dyadic numbers: ranges, lowest terms, validity, numerators for an exponent; each computes the plain function of DyP.
-/
import Derived.Test.YtocjlhlohlkkmaaWords
import Derived.Test.YtocjlhlohlkkmaaDyP
import Derived.RegionTactic
import Derived.OwnWalk
import Derived.IntWalk
import Derived.Deep.DeepCutAuto
namespace Go.Proofs.Ytocjlhlohlkkmaa
set_option maxRecDepth 100000
open Go.RowKit

theorem i_inR (n e : Int) (w : World) : Calls Try.prog 42 #[.agg #[.int .i64 n, .int .i64 e]] w fun r w' => r = .returned (.bool (Dy.okR n e)) ∧ Below w.heap.size w w' := by
  by_cases h1 : -9999 ≤ n
  · by_cases h2 : n ≤ 9999
    · by_cases h3 : 0 ≤ e
      · go_enter Try.func42, Try.ntmps42
        go_wp2
        go_ret
        exact ⟨ret_bool (Dy.okR_last h1 h2 h3).symm, (Below.refl _ _).alloc (Nat.le_refl _) _⟩
      · go_enter Try.func42, Try.ntmps42
        go_wp2
        go_ret
        exact ⟨ret_bool (Dy.okR_false (by omega)).symm, (Below.refl _ _).alloc (Nat.le_refl _) _⟩
    · go_enter Try.func42, Try.ntmps42
      go_wp2
      go_ret
      exact ⟨ret_bool (Dy.okR_false (by omega)).symm, (Below.refl _ _).alloc (Nat.le_refl _) _⟩
  · go_enter Try.func42, Try.ntmps42
    go_wp2
    go_ret
    exact ⟨ret_bool (Dy.okR_false (by omega)).symm, (Below.refl _ _).alloc (Nat.le_refl _) _⟩

theorem i_neg (n e : Int) (w : World) (h : -9999 ≤ n ∧ n ≤ 9999) : Calls Try.prog 53 #[.agg #[.int .i64 n, .int .i64 e]] w fun r w' => r = .returned (.agg #[.int .i64 (-n), .int .i64 e]) ∧ Below w.heap.size w w' := by
  obtain ⟨h1, h2⟩ := h
  go_enter Try.func53, Try.ntmps53
  go_wp2
  go_returns
  exact ⟨rfl, (((Below.refl _ _).alloc (Nat.le_refl _) _).alloc (by simp) _)⟩
theorem i_isnan (x : Int) (w : World) : Calls Try.prog 60 #[.int .i64 x] w fun r w' => r = .returned (.bool false) ∧ w = w' := by
  go_enter Try.func60, Try.ntmps60
  go_wp2
  go_ret
  exact ⟨ret_bool (by simp), rfl⟩
theorem i_cmpI (x y : Int) (w : World) : Calls Try.prog 51 #[.int .i64 x, .int .i64 y] w fun r w' => r = .returned (.int .i64 (if x < y then -1 else if y < x then 1 else 0)) ∧ w = w' := by
  by_cases h1 : x < y
  · go_enter Try.func51, Try.ntmps51
    go_wp2_with (go_at_call 60; refine (i_isnan _ _).mono ?_; rintro e w' ⟨rfl, rfl⟩)
    go_ret
    exact ⟨ret_int rfl, rfl⟩
  · by_cases h2 : y < x
    · go_enter Try.func51, Try.ntmps51
      go_wp2_with (go_at_call 60; refine (i_isnan _ _).mono ?_; rintro e w' ⟨rfl, rfl⟩)
      go_ret
      exact ⟨ret_int rfl, rfl⟩
    · go_enter Try.func51, Try.ntmps51
      go_wp2_with (go_at_call 60; refine (i_isnan _ _).mono ?_; rintro e w' ⟨rfl, rfl⟩)
      go_ret
      exact ⟨ret_int rfl, rfl⟩

set_option maxRecDepth 100000 in
theorem i_lowest (n : Int) (e : Nat) (w : World) (hn1 : -1000000000 ≤ n) (hn2 : n ≤ 1000000000) (he : e ≤ 64) : Calls Try.prog 43 #[.agg #[.int .i64 n, .int .i64 e]] w fun r w' => r = .returned (.agg #[.int .i64 (Dy.low e n).1, .int .i64 (Dy.low e n).2]) ∧ Below w.heap.size w w' := by
  go_enter Try.func43, Try.ntmps43
  go_upto_region 1 with (fail)
  have x0 := (Bx.new 26 w n (.int .i64 e)).alloc (.cells #[.int .i64 0, .int .i64 0] 26)
  have x1 := Bx.new 26 (w.alloc (.cells #[.int .i64 n, .int .i64 e] 26)) 0 (.int .i64 0)
  have hb2 : Below w.heap.size w ((w.alloc (.cells #[.int .i64 n, .int .i64 e] 26)).alloc (.cells #[.int .i64 0, .int .i64 0] 26)) := ((Below.refl _ _).alloc (Nat.le_refl _) _).alloc (by simp) _
  have X0 := Lib.hid x0
  have X1 := Lib.hid x1
  have Hb := Lib.hid hb2
  clear x0 x1 hb2
  go_loopg [] (e + 1) (fun q wr => ∃ (m : Int) (k : Nat), k + 1 = q ∧ k ≤ e ∧ -1000000000 ≤ m ∧ m ≤ 1000000000 ∧ Bx 26 wr w.heap.size m (.int .i64 k) ∧ Bx 26 wr (w.heap.size + 1) 0 (.int .i64 0) ∧ Dy.low k m = Dy.low e n ∧ Below w.heap.size w wr)
  case atStart => exact ⟨n, e, rfl, Nat.le_refl _, hn1, hn2, X0.out, by simpa using X1.out, rfl, Hb.out⟩
  case round =>
    clear X0 X1 Hb
    obtain ⟨m, k, rfl, hke, hm1, hm2, hx, hy, hl, hb⟩ := hrel
    have x0 := hx.cell0
    have x1 := hx.cell1
    have y0 := hy.cell0
    have y1 := hy.cell1
    have fx := hx.frozen
    have fx0 := fx 0
    have fx1 := fx 1
    have fy0 := hy.frozen 0
    have fy1 := hy.frozen 1
    have ltx := hx.lt
    have lty := hy.lt
    have HX := Lib.hid hx
    have HY := Lib.hid hy
    have HL := Lib.hid hl
    have HB := Lib.hid hb
    clear hx hy hl hb fx
    have HS := Lib.hid ((HY.out.set0 m).set1 (.int .i64 k))
    have z0 := HS.out.cell0
    have z1 := HS.out.cell1
    have hbs : Below w.heap.size w ((wr.setCell ⟨w.heap.size + 1, 0, none⟩ (.int .i64 m)).setCell ⟨w.heap.size + 1, 1, none⟩ (.int .i64 k)) := (HB.out.setCell (by simp) _).setCell (by simp) _
    have HBS := Lib.hid hbs
    clear hbs
    by_cases hk : 0 < k
    · have hk0 : (0 : Int) < k := by omega
      by_cases hm : m % 2 = 0
      · have hdv : (2 : Int) ∣ m := Int.dvd_of_emod_eq_zero hm
        have hmt : m.tmod 2 = 0 := Int.tmod_eq_zero_of_dvd hdv
        have hdt : m.tdiv 2 = m / 2 := Int.tdiv_eq_ediv_of_dvd hdv
        clear hdv
        have Hle := Lib.hid (show Dy.low (k - 1) (m / 2) = Dy.low e n by
          rw [← HL.out]
          obtain ⟨k', rfl⟩ : ∃ k', k = k' + 1 := ⟨k - 1, by omega⟩
          rw [Dy.low, if_pos hm]
          rfl)
        have hk1 : ((k - 1 : Nat) : Int) = (k : Int) - 1 := by omega
        have hkr := Lib.hid hk1
        have hx2 : Bx 26 ((wr.setCell ⟨w.heap.size, 0, none⟩ (.int .i64 (m / 2))).setCell ⟨w.heap.size, 1, none⟩ (.int .i64 ((k : Int) - 1))) w.heap.size (m / 2) (.int .i64 ((k - 1 : Nat) : Int)) := by
          rw [hk1]; exact (HX.out.set0 _).set1 _
        have HX2 := Lib.hid hx2
        have HY2 := Lib.hid ((HY.out.far (p := ⟨w.heap.size, 0, none⟩) (by simp) (.int .i64 (m / 2))).far (p := ⟨w.heap.size, 1, none⟩) (by simp) (.int .i64 ((k : Int) - 1)))
        have HB2 := Lib.hid ((HB.out.setCell (p := ⟨w.heap.size, 0, none⟩) (by simp) (.int .i64 (m / 2))).setCell (p := ⟨w.heap.size, 1, none⟩) (by simp) (.int .i64 ((k : Int) - 1)))
        have r1 : m / 2 ≤ 1000000000 := by omega
        have r2 : -1000000000 ≤ m / 2 := by omega
        clear hx2 hk1
        go_wp2
        go_roundg k
        case measure => omega
        case rel => exact ⟨m / 2, k - 1, by omega, by omega, r2, r1, HX2.out, HY2.out, Hle.out, HB2.out⟩
      · have hmt : ¬ m.tmod 2 = 0 := by rw [Int.dvd_iff_tmod_eq_zero.symm, Int.dvd_iff_emod_eq_zero]; exact hm
        have hfin : Dy.low e n = (m, (k : Int)) := by
          rw [← HL.out]
          obtain ⟨k', rfl⟩ : ∃ k', k = k' + 1 := ⟨k - 1, by omega⟩
          rw [Dy.low, if_neg hm]
        have HF := Lib.hid hfin
        clear hfin
        go_wp2
        refine bodyPost_ret (v := .agg #[.int .i64 m, .int .i64 k]) (by simp [results, Try.results43, go_sem, z0, z1]) rfl ?_
        exact ⟨by rw [HF.out], HBS.out⟩
    · have hk0 : ¬ (0 : Int) < k := by omega
      have hfin : Dy.low e n = (m, (k : Int)) := by
        rw [← HL.out]
        obtain rfl : k = 0 := by omega
        rfl
      have HF := Lib.hid hfin
      clear hfin
      go_wp2
      refine bodyPost_ret (v := .agg #[.int .i64 m, .int .i64 k]) (by simp [results, Try.results43, go_sem, z0, z1]) rfl ?_
      exact ⟨by rw [HF.out], HBS.out⟩
end Go.Proofs.Ytocjlhlohlkkmaa
