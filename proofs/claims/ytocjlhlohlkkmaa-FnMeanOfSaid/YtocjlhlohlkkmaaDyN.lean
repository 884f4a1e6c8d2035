/-
  The model's MakeDyadic and CompareDyadic compute the plain functions of DyP.
-/
import Derived.Test.YtocjlhlohlkkmaaDyM
namespace Go.Proofs.Ytocjlhlohlkkmaa
set_option maxRecDepth 100000
open Go.RowKit
set_option maxRecDepth 100000 in
set_option maxHeartbeats 4000000 in
theorem s_make (n e : Int) (w : World) : Calls Try.prog 19 #[.int .i64 n, .int .i64 e] w fun r w' => r = .returned (if Dy.okR n e = true then .tuple #[.agg #[.int .i64 (Dy.low e.toNat n).1, .int .i64 (Dy.low e.toNat n).2], .bool true] else .tuple #[.agg #[.int .i64 0, .int .i64 0], .bool false]) ∧ Below w.heap.size w w' := by
  by_cases hn : -9999 ≤ n ∧ n ≤ 9999
  · have H1 := Lib.hid (inR_t hn.1 hn.2)
    by_cases he : 0 ≤ e ∧ e ≤ 8
    · have H2 := Lib.hid (inR_t he.1 he.2)
      obtain ⟨n1, n2⟩ := hn
      obtain ⟨e1, e2⟩ := he
      obtain ⟨k, rfl⟩ := Int.eq_ofNat_of_zero_le e1
      rw [if_pos (Dy.okR_iff.2 ⟨n1, n2, e1, e2⟩), Int.toNat_natCast]
      obtain ⟨⟨x, y⟩, hp⟩ : ∃ p, Dy.low k n = p := ⟨_, rfl⟩
      rw [hp]
      have Hp := Lib.hid hp
      clear hp
      have HB := Lib.hid (Below.refl w.heap.size w)
      go_enter Try.func19, Try.ntmps19
      go_wp2_with fail
      obtain ⟨x1, hy3, hb2, z4, z5⟩ := new_box w (.cells #[.int .i64 0, .int .i64 0] 26)
      have R : Hid (Bx 26 x1 w.heap.size 0 (.int .i64 0)) := Lib.hid (by rw [hy3]; exact Bx.new _ _ _ _)
      rw [← hy3]
      clear hy3
      have HB := Lib.hid (bstep HB.out hb2)
      clear hb2
      have R_0 := R.out.cell0
      have R_1 := R.out.cell1
      have R_l := R.out.lt
      have R_g : w.heap.size ≤ w.heap.size := Nat.le_refl _
      go_wp2_with (go_at_call 44; refine (s_inR _ _ _ _).mono ?_; rintro e w' ⟨rfl, rfl⟩; first | rw [H1.out] | rw [H2.out])
      refine (s_lowest n k _ (by omega) (by omega) (by omega)).mono ?_
      rintro e x6 ⟨rfl, hb7⟩
      clear R_0 R_1 R_l
      have R := Lib.hid (R.out.step hb7)
      have HB := Lib.hid (bstep HB.out hb7)
      rw [Hp.out]
      clear hb7
      have R_0 := R.out.cell0
      have R_1 := R.out.cell1
      have R_l := R.out.lt
      have HS := Lib.hid ((R.out.set0 (x)).set1 (.int .i64 (y)))
      have z0 := HS.out.cell0
      have z1 := HS.out.cell1
      have HBS := Lib.hid ((HB.out.setCell (p := ⟨w.heap.size, 0, none⟩) (by have := R_g; omega) (.int .i64 (x))).setCell (p := ⟨w.heap.size, 1, none⟩) (by have := R_g; omega) (.int .i64 (y)))
      have R_f0 := R.out.frozen 0
      have R_f1 := R.out.frozen 1
      go_wp2_with fail
      refine bodyPost_ret (v := .tuple #[.agg #[.int .i64 (x), .int .i64 (y)], .bool true]) (by simp [results, Try.results19, go_sem, z0, z1]) rfl ?_
      exact ⟨rfl, HBS.out⟩
    · have H2 := Lib.hid (inR_f he)
      rw [if_neg (fun h => he ⟨(Dy.okR_iff.1 h).2.2.1, (Dy.okR_iff.1 h).2.2.2⟩)]
      clear hn he
      have HB := Lib.hid (Below.refl w.heap.size w)
      go_enter Try.func19, Try.ntmps19
      go_wp2_with fail
      obtain ⟨x1, hy3, hb2, z4, z5⟩ := new_box w (.cells #[.int .i64 0, .int .i64 0] 26)
      have R : Hid (Bx 26 x1 w.heap.size 0 (.int .i64 0)) := Lib.hid (by rw [hy3]; exact Bx.new _ _ _ _)
      rw [← hy3]
      clear hy3
      have HB := Lib.hid (bstep HB.out hb2)
      clear hb2
      have R_0 := R.out.cell0
      have R_1 := R.out.cell1
      have R_l := R.out.lt
      have R_g : w.heap.size ≤ w.heap.size := Nat.le_refl _
      have HS := Lib.hid ((R.out.set0 (0)).set1 (.int .i64 (0)))
      have z0 := HS.out.cell0
      have z1 := HS.out.cell1
      have HBS := Lib.hid ((HB.out.setCell (p := ⟨w.heap.size, 0, none⟩) (by have := R_g; omega) (.int .i64 (0))).setCell (p := ⟨w.heap.size, 1, none⟩) (by have := R_g; omega) (.int .i64 (0)))
      have R_f0 := R.out.frozen 0
      have R_f1 := R.out.frozen 1
      go_wp2_with (go_at_call 44; refine (s_inR _ _ _ _).mono ?_; rintro e w' ⟨rfl, rfl⟩; first | rw [H1.out] | rw [H2.out])
      refine bodyPost_ret (v := .tuple #[.agg #[.int .i64 (0), .int .i64 (0)], .bool false]) (by simp [results, Try.results19, go_sem, z0, z1]) rfl ?_
      exact ⟨rfl, HBS.out⟩
  · have H1 := Lib.hid (inR_f hn)
    rw [if_neg (fun h => hn ⟨(Dy.okR_iff.1 h).1, (Dy.okR_iff.1 h).2.1⟩)]
    clear hn
    have HB := Lib.hid (Below.refl w.heap.size w)
    go_enter Try.func19, Try.ntmps19
    go_wp2_with fail
    obtain ⟨x1, hy3, hb2, z4, z5⟩ := new_box w (.cells #[.int .i64 0, .int .i64 0] 26)
    have R : Hid (Bx 26 x1 w.heap.size 0 (.int .i64 0)) := Lib.hid (by rw [hy3]; exact Bx.new _ _ _ _)
    rw [← hy3]
    clear hy3
    have HB := Lib.hid (bstep HB.out hb2)
    clear hb2
    have R_0 := R.out.cell0
    have R_1 := R.out.cell1
    have R_l := R.out.lt
    have R_g : w.heap.size ≤ w.heap.size := Nat.le_refl _
    have HS := Lib.hid ((R.out.set0 (0)).set1 (.int .i64 (0)))
    have z0 := HS.out.cell0
    have z1 := HS.out.cell1
    have HBS := Lib.hid ((HB.out.setCell (p := ⟨w.heap.size, 0, none⟩) (by have := R_g; omega) (.int .i64 (0))).setCell (p := ⟨w.heap.size, 1, none⟩) (by have := R_g; omega) (.int .i64 (0)))
    have R_f0 := R.out.frozen 0
    have R_f1 := R.out.frozen 1
    go_wp2_with (go_at_call 44; refine (s_inR _ _ _ _).mono ?_; rintro e w' ⟨rfl, rfl⟩; rw [H1.out])
    refine bodyPost_ret (v := .tuple #[.agg #[.int .i64 (0), .int .i64 (0)], .bool false]) (by simp [results, Try.results19, go_sem, z0, z1]) rfl ?_
    exact ⟨rfl, HBS.out⟩
set_option maxRecDepth 100000 in
set_option maxHeartbeats 4000000 in
theorem s_cmp (n e m k : Int) (w : World) : Calls Try.prog 26 #[.agg #[.int .i64 n, .int .i64 e], .agg #[.int .i64 m, .int .i64 k]] w fun r w' => r = .returned (.int .i64 (Dy.cmp n e m k)) ∧ Below w.heap.size w w' := by
  by_cases ha : Dy.ok n e = true
  · have Ha := Lib.hid ha
    by_cases hb : Dy.ok m k = true
    · have Hb := Lib.hid hb
      obtain ⟨⟨n1, n2, e1, e2⟩, _⟩ := Dy.ok_iff.1 ha
      obtain ⟨⟨m1, m2, k1, k2⟩, _⟩ := Dy.ok_iff.1 hb
      have hc := Dy.cmp_ok ha hb
      obtain ⟨P1, hP1⟩ : ∃ P, Dy.sc n e = P := ⟨_, rfl⟩
      obtain ⟨P2, hP2⟩ : ∃ P, Dy.sc m k = P := ⟨_, rfl⟩
      rw [hP1, hP2] at hc
      have HP1 := Lib.hid hP1
      have HP2 := Lib.hid hP2
      clear hP1 hP2 ha hb
      rcases Int.lt_trichotomy P1 P2 with hlt | hlt | hlt
      · have HC9 : Hid (Dy.cmp n e m k = -1) := Lib.hid (by rw [hc]; rw [if_pos hlt])
        clear hc
        have HB := Lib.hid (Below.refl w.heap.size w)
        go_enter Try.func26, Try.ntmps26
        have R_g : w.heap.size ≤ w.heap.size + 2 := by omega
        go_wp2_with fail
        obtain ⟨x1, hy3, hb2, z4, z5⟩ := new_box w (.cells #[.int .i64 n, .int .i64 e] 26)
        have X0 : Hid (Bx 26 x1 w.heap.size n (.int .i64 e)) := Lib.hid (by rw [hy3]; exact Bx.new _ _ _ _)
        rw [← hy3]
        clear hy3
        have HB := Lib.hid (bstep HB.out hb2)
        clear hb2
        have X0_0 := X0.out.cell0
        have X0_1 := X0.out.cell1
        have X0_l := X0.out.lt
        obtain ⟨x6, hy8, hb7, z9, z10⟩ := new_box x1 (.cells #[.int .i64 m, .int .i64 k] 26)
        have X1 : Hid (Bx 26 x6 x1.heap.size m (.int .i64 k)) := Lib.hid (by rw [hy8]; exact Bx.new _ _ _ _)
        rw [← hy8]
        clear hy8
        clear X0_0 X0_1 X0_l
        have X0 := Lib.hid (X0.out.step hb7)
        have HB := Lib.hid (bstep HB.out hb7)
        clear hb7
        have X0_0 := X0.out.cell0
        have X0_1 := X0.out.cell1
        have X0_l := X0.out.lt
        have X1_0 := X1.out.cell0
        have X1_1 := X1.out.cell1
        have X1_l := X1.out.lt
        clear X1_0 X1_1 X1_l
        have X1 : Hid (Bx 26 x6 (w.heap.size + 1) m (.int .i64 k)) := Lib.hid (by have h := X1.out; rw [show x1.heap.size = w.heap.size + 1 by omega] at h; exact h)
        have X1_0 := X1.out.cell0
        have X1_1 := X1.out.cell1
        have X1_l := X1.out.lt
        refine (s_ok n e _).mono ?_
        rintro e x11 ⟨rfl, hb12⟩
        clear X0_0 X0_1 X0_l X1_0 X1_1 X1_l
        have X0 := Lib.hid (X0.out.step hb12)
        have X1 := Lib.hid (X1.out.step hb12)
        have HB := Lib.hid (bstep HB.out hb12)
        rw [Ha.out]
        clear hb12
        have X0_0 := X0.out.cell0
        have X0_1 := X0.out.cell1
        have X0_l := X0.out.lt
        have X1_0 := X1.out.cell0
        have X1_1 := X1.out.cell1
        have X1_l := X1.out.lt
        go_wp2_with fail
        refine (s_ok m k _).mono ?_
        rintro e x14 ⟨rfl, hb15⟩
        clear X0_0 X0_1 X0_l X1_0 X1_1 X1_l
        have X0 := Lib.hid (X0.out.step hb15)
        have X1 := Lib.hid (X1.out.step hb15)
        have HB := Lib.hid (bstep HB.out hb15)
        rw [Hb.out]
        clear hb15
        have X0_0 := X0.out.cell0
        have X0_1 := X0.out.cell1
        have X0_l := X0.out.lt
        have X1_0 := X1.out.cell0
        have X1_1 := X1.out.cell1
        have X1_l := X1.out.lt
        go_wp2_with fail
        refine (s_scaled n e _ n1 n2 e1 e2).mono ?_
        rintro e x17 ⟨rfl, hb18⟩
        clear X0_0 X0_1 X0_l X1_0 X1_1 X1_l
        have X0 := Lib.hid (X0.out.step hb18)
        have X1 := Lib.hid (X1.out.step hb18)
        have HB := Lib.hid (bstep HB.out hb18)
        rw [HP1.out]
        clear hb18
        have X0_0 := X0.out.cell0
        have X0_1 := X0.out.cell1
        have X0_l := X0.out.lt
        have X1_0 := X1.out.cell0
        have X1_1 := X1.out.cell1
        have X1_l := X1.out.lt
        go_wp2_with fail
        refine (s_scaled m k _ m1 m2 k1 k2).mono ?_
        rintro e x20 ⟨rfl, hb21⟩
        clear X0_0 X0_1 X0_l X1_0 X1_1 X1_l
        have X0 := Lib.hid (X0.out.step hb21)
        have X1 := Lib.hid (X1.out.step hb21)
        have HB := Lib.hid (bstep HB.out hb21)
        rw [HP2.out]
        clear hb21
        have X0_0 := X0.out.cell0
        have X0_1 := X0.out.cell1
        have X0_l := X0.out.lt
        have X1_0 := X1.out.cell0
        have X1_1 := X1.out.cell1
        have X1_l := X1.out.lt
        go_wp2_with fail
        go_ret
        exact ⟨by rw [HC9.out]; rfl, HB.out⟩
      · have HC9 : Hid (Dy.cmp n e m k = 0) := Lib.hid (by rw [hc]; rw [hlt, if_neg (Int.lt_irrefl _), if_neg (Int.lt_irrefl _)])
        clear hc
        have hl1 : ¬ P1 < P2 := by omega
        have hl2 : ¬ P2 < P1 := by omega
        clear hlt
        have HB := Lib.hid (Below.refl w.heap.size w)
        go_enter Try.func26, Try.ntmps26
        have R_g : w.heap.size ≤ w.heap.size + 2 := by omega
        go_wp2_with fail
        obtain ⟨x1, hy3, hb2, z4, z5⟩ := new_box w (.cells #[.int .i64 n, .int .i64 e] 26)
        have X0 : Hid (Bx 26 x1 w.heap.size n (.int .i64 e)) := Lib.hid (by rw [hy3]; exact Bx.new _ _ _ _)
        rw [← hy3]
        clear hy3
        have HB := Lib.hid (bstep HB.out hb2)
        clear hb2
        have X0_0 := X0.out.cell0
        have X0_1 := X0.out.cell1
        have X0_l := X0.out.lt
        obtain ⟨x6, hy8, hb7, z9, z10⟩ := new_box x1 (.cells #[.int .i64 m, .int .i64 k] 26)
        have X1 : Hid (Bx 26 x6 x1.heap.size m (.int .i64 k)) := Lib.hid (by rw [hy8]; exact Bx.new _ _ _ _)
        rw [← hy8]
        clear hy8
        clear X0_0 X0_1 X0_l
        have X0 := Lib.hid (X0.out.step hb7)
        have HB := Lib.hid (bstep HB.out hb7)
        clear hb7
        have X0_0 := X0.out.cell0
        have X0_1 := X0.out.cell1
        have X0_l := X0.out.lt
        have X1_0 := X1.out.cell0
        have X1_1 := X1.out.cell1
        have X1_l := X1.out.lt
        clear X1_0 X1_1 X1_l
        have X1 : Hid (Bx 26 x6 (w.heap.size + 1) m (.int .i64 k)) := Lib.hid (by have h := X1.out; rw [show x1.heap.size = w.heap.size + 1 by omega] at h; exact h)
        have X1_0 := X1.out.cell0
        have X1_1 := X1.out.cell1
        have X1_l := X1.out.lt
        refine (s_ok n e _).mono ?_
        rintro e x11 ⟨rfl, hb12⟩
        clear X0_0 X0_1 X0_l X1_0 X1_1 X1_l
        have X0 := Lib.hid (X0.out.step hb12)
        have X1 := Lib.hid (X1.out.step hb12)
        have HB := Lib.hid (bstep HB.out hb12)
        rw [Ha.out]
        clear hb12
        have X0_0 := X0.out.cell0
        have X0_1 := X0.out.cell1
        have X0_l := X0.out.lt
        have X1_0 := X1.out.cell0
        have X1_1 := X1.out.cell1
        have X1_l := X1.out.lt
        go_wp2_with fail
        refine (s_ok m k _).mono ?_
        rintro e x14 ⟨rfl, hb15⟩
        clear X0_0 X0_1 X0_l X1_0 X1_1 X1_l
        have X0 := Lib.hid (X0.out.step hb15)
        have X1 := Lib.hid (X1.out.step hb15)
        have HB := Lib.hid (bstep HB.out hb15)
        rw [Hb.out]
        clear hb15
        have X0_0 := X0.out.cell0
        have X0_1 := X0.out.cell1
        have X0_l := X0.out.lt
        have X1_0 := X1.out.cell0
        have X1_1 := X1.out.cell1
        have X1_l := X1.out.lt
        go_wp2_with fail
        refine (s_scaled n e _ n1 n2 e1 e2).mono ?_
        rintro e x17 ⟨rfl, hb18⟩
        clear X0_0 X0_1 X0_l X1_0 X1_1 X1_l
        have X0 := Lib.hid (X0.out.step hb18)
        have X1 := Lib.hid (X1.out.step hb18)
        have HB := Lib.hid (bstep HB.out hb18)
        rw [HP1.out]
        clear hb18
        have X0_0 := X0.out.cell0
        have X0_1 := X0.out.cell1
        have X0_l := X0.out.lt
        have X1_0 := X1.out.cell0
        have X1_1 := X1.out.cell1
        have X1_l := X1.out.lt
        go_wp2_with fail
        refine (s_scaled m k _ m1 m2 k1 k2).mono ?_
        rintro e x20 ⟨rfl, hb21⟩
        clear X0_0 X0_1 X0_l X1_0 X1_1 X1_l
        have X0 := Lib.hid (X0.out.step hb21)
        have X1 := Lib.hid (X1.out.step hb21)
        have HB := Lib.hid (bstep HB.out hb21)
        rw [HP2.out]
        clear hb21
        have X0_0 := X0.out.cell0
        have X0_1 := X0.out.cell1
        have X0_l := X0.out.lt
        have X1_0 := X1.out.cell0
        have X1_1 := X1.out.cell1
        have X1_l := X1.out.lt
        go_wp2_with fail
        go_ret
        exact ⟨by rw [HC9.out]; rfl, HB.out⟩
      · have HC9 : Hid (Dy.cmp n e m k = 1) := Lib.hid (by rw [hc]; rw [if_neg (by omega), if_pos hlt])
        clear hc
        have hl1 : ¬ P1 < P2 := by omega
        have HB := Lib.hid (Below.refl w.heap.size w)
        go_enter Try.func26, Try.ntmps26
        have R_g : w.heap.size ≤ w.heap.size + 2 := by omega
        go_wp2_with fail
        obtain ⟨x1, hy3, hb2, z4, z5⟩ := new_box w (.cells #[.int .i64 n, .int .i64 e] 26)
        have X0 : Hid (Bx 26 x1 w.heap.size n (.int .i64 e)) := Lib.hid (by rw [hy3]; exact Bx.new _ _ _ _)
        rw [← hy3]
        clear hy3
        have HB := Lib.hid (bstep HB.out hb2)
        clear hb2
        have X0_0 := X0.out.cell0
        have X0_1 := X0.out.cell1
        have X0_l := X0.out.lt
        obtain ⟨x6, hy8, hb7, z9, z10⟩ := new_box x1 (.cells #[.int .i64 m, .int .i64 k] 26)
        have X1 : Hid (Bx 26 x6 x1.heap.size m (.int .i64 k)) := Lib.hid (by rw [hy8]; exact Bx.new _ _ _ _)
        rw [← hy8]
        clear hy8
        clear X0_0 X0_1 X0_l
        have X0 := Lib.hid (X0.out.step hb7)
        have HB := Lib.hid (bstep HB.out hb7)
        clear hb7
        have X0_0 := X0.out.cell0
        have X0_1 := X0.out.cell1
        have X0_l := X0.out.lt
        have X1_0 := X1.out.cell0
        have X1_1 := X1.out.cell1
        have X1_l := X1.out.lt
        clear X1_0 X1_1 X1_l
        have X1 : Hid (Bx 26 x6 (w.heap.size + 1) m (.int .i64 k)) := Lib.hid (by have h := X1.out; rw [show x1.heap.size = w.heap.size + 1 by omega] at h; exact h)
        have X1_0 := X1.out.cell0
        have X1_1 := X1.out.cell1
        have X1_l := X1.out.lt
        refine (s_ok n e _).mono ?_
        rintro e x11 ⟨rfl, hb12⟩
        clear X0_0 X0_1 X0_l X1_0 X1_1 X1_l
        have X0 := Lib.hid (X0.out.step hb12)
        have X1 := Lib.hid (X1.out.step hb12)
        have HB := Lib.hid (bstep HB.out hb12)
        rw [Ha.out]
        clear hb12
        have X0_0 := X0.out.cell0
        have X0_1 := X0.out.cell1
        have X0_l := X0.out.lt
        have X1_0 := X1.out.cell0
        have X1_1 := X1.out.cell1
        have X1_l := X1.out.lt
        go_wp2_with fail
        refine (s_ok m k _).mono ?_
        rintro e x14 ⟨rfl, hb15⟩
        clear X0_0 X0_1 X0_l X1_0 X1_1 X1_l
        have X0 := Lib.hid (X0.out.step hb15)
        have X1 := Lib.hid (X1.out.step hb15)
        have HB := Lib.hid (bstep HB.out hb15)
        rw [Hb.out]
        clear hb15
        have X0_0 := X0.out.cell0
        have X0_1 := X0.out.cell1
        have X0_l := X0.out.lt
        have X1_0 := X1.out.cell0
        have X1_1 := X1.out.cell1
        have X1_l := X1.out.lt
        go_wp2_with fail
        refine (s_scaled n e _ n1 n2 e1 e2).mono ?_
        rintro e x17 ⟨rfl, hb18⟩
        clear X0_0 X0_1 X0_l X1_0 X1_1 X1_l
        have X0 := Lib.hid (X0.out.step hb18)
        have X1 := Lib.hid (X1.out.step hb18)
        have HB := Lib.hid (bstep HB.out hb18)
        rw [HP1.out]
        clear hb18
        have X0_0 := X0.out.cell0
        have X0_1 := X0.out.cell1
        have X0_l := X0.out.lt
        have X1_0 := X1.out.cell0
        have X1_1 := X1.out.cell1
        have X1_l := X1.out.lt
        go_wp2_with fail
        refine (s_scaled m k _ m1 m2 k1 k2).mono ?_
        rintro e x20 ⟨rfl, hb21⟩
        clear X0_0 X0_1 X0_l X1_0 X1_1 X1_l
        have X0 := Lib.hid (X0.out.step hb21)
        have X1 := Lib.hid (X1.out.step hb21)
        have HB := Lib.hid (bstep HB.out hb21)
        rw [HP2.out]
        clear hb21
        have X0_0 := X0.out.cell0
        have X0_1 := X0.out.cell1
        have X0_l := X0.out.lt
        have X1_0 := X1.out.cell0
        have X1_1 := X1.out.cell1
        have X1_l := X1.out.lt
        go_wp2_with fail
        go_ret
        exact ⟨by rw [HC9.out]; rfl, HB.out⟩
    · have Hb : Hid (Dy.ok m k = false) := Lib.hid (by simpa using hb)
      clear ha hb
      have HB := Lib.hid (Below.refl w.heap.size w)
      go_enter Try.func26, Try.ntmps26
      have R_g : w.heap.size ≤ w.heap.size + 2 := by omega
      go_wp2_with fail
      obtain ⟨x1, hy3, hb2, z4, z5⟩ := new_box w (.cells #[.int .i64 n, .int .i64 e] 26)
      have X0 : Hid (Bx 26 x1 w.heap.size n (.int .i64 e)) := Lib.hid (by rw [hy3]; exact Bx.new _ _ _ _)
      rw [← hy3]
      clear hy3
      have HB := Lib.hid (bstep HB.out hb2)
      clear hb2
      have X0_0 := X0.out.cell0
      have X0_1 := X0.out.cell1
      have X0_l := X0.out.lt
      obtain ⟨x6, hy8, hb7, z9, z10⟩ := new_box x1 (.cells #[.int .i64 m, .int .i64 k] 26)
      have X1 : Hid (Bx 26 x6 x1.heap.size m (.int .i64 k)) := Lib.hid (by rw [hy8]; exact Bx.new _ _ _ _)
      rw [← hy8]
      clear hy8
      clear X0_0 X0_1 X0_l
      have X0 := Lib.hid (X0.out.step hb7)
      have HB := Lib.hid (bstep HB.out hb7)
      clear hb7
      have X0_0 := X0.out.cell0
      have X0_1 := X0.out.cell1
      have X0_l := X0.out.lt
      have X1_0 := X1.out.cell0
      have X1_1 := X1.out.cell1
      have X1_l := X1.out.lt
      clear X1_0 X1_1 X1_l
      have X1 : Hid (Bx 26 x6 (w.heap.size + 1) m (.int .i64 k)) := Lib.hid (by have h := X1.out; rw [show x1.heap.size = w.heap.size + 1 by omega] at h; exact h)
      have X1_0 := X1.out.cell0
      have X1_1 := X1.out.cell1
      have X1_l := X1.out.lt
      refine (s_ok n e _).mono ?_
      rintro e x11 ⟨rfl, hb12⟩
      clear X0_0 X0_1 X0_l X1_0 X1_1 X1_l
      have X0 := Lib.hid (X0.out.step hb12)
      have X1 := Lib.hid (X1.out.step hb12)
      have HB := Lib.hid (bstep HB.out hb12)
      rw [Ha.out]
      clear hb12
      have X0_0 := X0.out.cell0
      have X0_1 := X0.out.cell1
      have X0_l := X0.out.lt
      have X1_0 := X1.out.cell0
      have X1_1 := X1.out.cell1
      have X1_l := X1.out.lt
      go_wp2_with fail
      refine (s_ok m k _).mono ?_
      rintro e x14 ⟨rfl, hb15⟩
      clear X0_0 X0_1 X0_l X1_0 X1_1 X1_l
      have X0 := Lib.hid (X0.out.step hb15)
      have X1 := Lib.hid (X1.out.step hb15)
      have HB := Lib.hid (bstep HB.out hb15)
      rw [Hb.out]
      clear hb15
      have X0_0 := X0.out.cell0
      have X0_1 := X0.out.cell1
      have X0_l := X0.out.lt
      have X1_0 := X1.out.cell0
      have X1_1 := X1.out.cell1
      have X1_l := X1.out.lt
      have Hz : Hid (Dy.cmp n e m k = 2) := Lib.hid (Dy.cmp_two.2 (by simp [Hb.out]))
      go_wp2_with fail
      go_ret
      exact ⟨by rw [Hz.out]; rfl, HB.out⟩
  · have Ha : Hid (Dy.ok n e = false) := Lib.hid (by simpa using ha)
    clear ha
    have HB := Lib.hid (Below.refl w.heap.size w)
    go_enter Try.func26, Try.ntmps26
    have R_g : w.heap.size ≤ w.heap.size + 2 := by omega
    go_wp2_with fail
    obtain ⟨x1, hy3, hb2, z4, z5⟩ := new_box w (.cells #[.int .i64 n, .int .i64 e] 26)
    have X0 : Hid (Bx 26 x1 w.heap.size n (.int .i64 e)) := Lib.hid (by rw [hy3]; exact Bx.new _ _ _ _)
    rw [← hy3]
    clear hy3
    have HB := Lib.hid (bstep HB.out hb2)
    clear hb2
    have X0_0 := X0.out.cell0
    have X0_1 := X0.out.cell1
    have X0_l := X0.out.lt
    obtain ⟨x6, hy8, hb7, z9, z10⟩ := new_box x1 (.cells #[.int .i64 m, .int .i64 k] 26)
    have X1 : Hid (Bx 26 x6 x1.heap.size m (.int .i64 k)) := Lib.hid (by rw [hy8]; exact Bx.new _ _ _ _)
    rw [← hy8]
    clear hy8
    clear X0_0 X0_1 X0_l
    have X0 := Lib.hid (X0.out.step hb7)
    have HB := Lib.hid (bstep HB.out hb7)
    clear hb7
    have X0_0 := X0.out.cell0
    have X0_1 := X0.out.cell1
    have X0_l := X0.out.lt
    have X1_0 := X1.out.cell0
    have X1_1 := X1.out.cell1
    have X1_l := X1.out.lt
    clear X1_0 X1_1 X1_l
    have X1 : Hid (Bx 26 x6 (w.heap.size + 1) m (.int .i64 k)) := Lib.hid (by have h := X1.out; rw [show x1.heap.size = w.heap.size + 1 by omega] at h; exact h)
    have X1_0 := X1.out.cell0
    have X1_1 := X1.out.cell1
    have X1_l := X1.out.lt
    refine (s_ok n e _).mono ?_
    rintro e x11 ⟨rfl, hb12⟩
    clear X0_0 X0_1 X0_l X1_0 X1_1 X1_l
    have X0 := Lib.hid (X0.out.step hb12)
    have X1 := Lib.hid (X1.out.step hb12)
    have HB := Lib.hid (bstep HB.out hb12)
    rw [Ha.out]
    clear hb12
    have X0_0 := X0.out.cell0
    have X0_1 := X0.out.cell1
    have X0_l := X0.out.lt
    have X1_0 := X1.out.cell0
    have X1_1 := X1.out.cell1
    have X1_l := X1.out.lt
    have Hz : Hid (Dy.cmp n e m k = 2) := Lib.hid (Dy.cmp_two.2 (by simp [Ha.out]))
    go_wp2_with fail
    go_ret
    exact ⟨by rw [Hz.out]; rfl, HB.out⟩
end Go.Proofs.Ytocjlhlohlkkmaa
