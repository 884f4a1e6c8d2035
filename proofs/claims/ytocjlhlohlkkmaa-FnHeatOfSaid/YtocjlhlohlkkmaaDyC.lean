/-
  The program's CompareDyadic computes the plain function of DyP.
-/
import Derived.Test.YtocjlhlohlkkmaaDyJ
namespace Go.Proofs.Ytocjlhlohlkkmaa
set_option maxRecDepth 100000
open Go.RowKit
theorem i_cmpB (x y : Int) (w : World) : Calls Try.prog 51 #[.int .i64 x, .int .i64 y] w fun r w' => r = .returned (.int .i64 (if x < y then -1 else if y < x then 1 else 0)) ∧ Below w.heap.size w w' :=
  (i_cmpI x y w).mono fun _ _ h => ⟨h.1, h.2 ▸ Below.refl _ _⟩
set_option maxRecDepth 100000 in
set_option maxHeartbeats 4000000 in
theorem i_cmp (n e m k : Int) (w : World) : Calls Try.prog 25 #[.agg #[.int .i64 n, .int .i64 e], .agg #[.int .i64 m, .int .i64 k]] w fun r w' => r = .returned (.int .i64 (Dy.cmp n e m k)) ∧ Below w.heap.size w w' := by
  by_cases ha : Dy.ok n e = true
  · have Ha := Lib.hid ha
    by_cases hb : Dy.ok m k = true
    · have Hb := Lib.hid hb
      obtain ⟨⟨n1, n2, e1, e2⟩, _⟩ := Dy.ok_iff.1 ha
      obtain ⟨⟨m1, m2, k1, k2⟩, _⟩ := Dy.ok_iff.1 hb
      have hc := Dy.cmp_ok ha hb
      obtain ⟨P1, hP1⟩ : ∃ P, Dy.sc n e = P := ⟨_, rfl⟩
      obtain ⟨P2, hP2⟩ : ∃ P, Dy.sc m k = P := ⟨_, rfl⟩
      rw [hP1, hP2] at hc
      obtain ⟨c, hcc⟩ : ∃ c : Int, (if P1 < P2 then -1 else if P2 < P1 then 1 else 0) = c := ⟨_, rfl⟩
      rw [hcc] at hc
      have HP1 : Hid (n * 2 ^ ((8 : Int) - e).toNat = P1) := Lib.hid hP1
      have HP2 : Hid (m * 2 ^ ((8 : Int) - k).toNat = P2) := Lib.hid hP2
      have Hc := Lib.hid hcc
      have HC9 := Lib.hid hc
      clear hP1 hP2 hcc hc ha hb
      have HB := Lib.hid (Below.refl w.heap.size w)
      go_enter Try.func25, Try.ntmps25
      have R_g : w.heap.size ≤ w.heap.size + 2 := by omega
      go_wp2_with fail
      obtain ⟨x1, hy3, hb2, z4, z5⟩ := new_box w (.cells #[.int .i64 n, .int .i64 e] 26)
      have X0 : Hid (Bx 26 x1 w.heap.size n (.int .i64 e)) := Lib.hid (by rw [hy3]; exact Bx.new _ _ _ _)
      rw [← hy3]
      clear hy3
      have HB := Lib.hid (bstep HB.out hb2)
      clear hb2
      have X0_0 := X0.out.cell0
      have X0_1 := X0.out.cell1
      have X0_l := X0.out.lt
      obtain ⟨x6, hy8, hb7, z9, z10⟩ := new_box x1 (.cells #[.int .i64 m, .int .i64 k] 26)
      have X1 : Hid (Bx 26 x6 x1.heap.size m (.int .i64 k)) := Lib.hid (by rw [hy8]; exact Bx.new _ _ _ _)
      rw [← hy8]
      clear hy8
      clear X0_0 X0_1 X0_l
      have X0 := Lib.hid (X0.out.step hb7)
      have HB := Lib.hid (bstep HB.out hb7)
      clear hb7
      have X0_0 := X0.out.cell0
      have X0_1 := X0.out.cell1
      have X0_l := X0.out.lt
      have X1_0 := X1.out.cell0
      have X1_1 := X1.out.cell1
      have X1_l := X1.out.lt
      clear X1_0 X1_1 X1_l
      have X1 : Hid (Bx 26 x6 (w.heap.size + 1) m (.int .i64 k)) := Lib.hid (by have h := X1.out; rw [show x1.heap.size = w.heap.size + 1 by omega] at h; exact h)
      have X1_0 := X1.out.cell0
      have X1_1 := X1.out.cell1
      have X1_l := X1.out.lt
      refine (i_ok n e _).mono ?_
      rintro e x11 ⟨rfl, hb12⟩
      clear X0_0 X0_1 X0_l X1_0 X1_1 X1_l
      have X0 := Lib.hid (X0.out.step hb12)
      have X1 := Lib.hid (X1.out.step hb12)
      have HB := Lib.hid (bstep HB.out hb12)
      rw [Ha.out]
      clear hb12
      have X0_0 := X0.out.cell0
      have X0_1 := X0.out.cell1
      have X0_l := X0.out.lt
      have X1_0 := X1.out.cell0
      have X1_1 := X1.out.cell1
      have X1_l := X1.out.lt
      go_wp2_with fail
      refine (i_ok m k _).mono ?_
      rintro e x14 ⟨rfl, hb15⟩
      clear X0_0 X0_1 X0_l X1_0 X1_1 X1_l
      have X0 := Lib.hid (X0.out.step hb15)
      have X1 := Lib.hid (X1.out.step hb15)
      have HB := Lib.hid (bstep HB.out hb15)
      rw [Hb.out]
      clear hb15
      have X0_0 := X0.out.cell0
      have X0_1 := X0.out.cell1
      have X0_l := X0.out.lt
      have X1_0 := X1.out.cell0
      have X1_1 := X1.out.cell1
      have X1_l := X1.out.lt
      go_wp2_with fail
      have HC := Lib.hid (Below.refl x14.heap.size x14)
      go_cut [4] (fun v wx => v = .int .i64 c ∧ Below x14.heap.size x14 wx)
      case first =>
        go_region_held3 (fun w' => w'.cell? ⟨w.heap.size, 0, none⟩ = some (.int .i64 n) ∧ w'.cell? ⟨w.heap.size, 1, none⟩ = some (.int .i64 e) ∧ w'.cell? ⟨w.heap.size + 1, 0, none⟩ = some (.int .i64 m) ∧ w'.cell? ⟨w.heap.size + 1, 1, none⟩ = some (.int .i64 k)) (first | exact ⟨X0_0, X0_1, X1_0, X1_1⟩ | go_keep) (first | (go_at_call 51; refine (i_cmpB P1 P2 _).mono ?_; rintro e yc ⟨rfl, hb9⟩; (try replace hb9 := undrew hb9); (with_reducible have hq9 := bstep HC.out hb9); clear hq9; have X0 := Lib.hid (Bx.step X0.out hb9); have X1 := Lib.hid (Bx.step X1.out hb9); have HC := Lib.hid (bstep HC.out hb9); clear X0_0 X0_1 X0_l X1_0 X1_1 X1_l; have X0_0 := X0.out.cell0; have X0_1 := X0.out.cell1; have X0_l := X0.out.lt; have X1_0 := X1.out.cell0; have X1_1 := X1.out.cell1; have X1_l := X1.out.lt; rw [Hc.out]; clear hb9) | (go_at_call 48; with_reducible show Calls _ _ #[.agg #[.int .i64 n, .int .i64 e], _] _ _; refine (i_over n e 8 _ n1 n2 e1 e2 (by omega)).mono ?_; rintro e yc ⟨rfl, hb9⟩; (try replace hb9 := undrew hb9); (with_reducible have hq9 := bstep HC.out hb9); clear hq9; have X0 := Lib.hid (Bx.step X0.out hb9); have X1 := Lib.hid (Bx.step X1.out hb9); have HC := Lib.hid (bstep HC.out hb9); clear X0_0 X0_1 X0_l X1_0 X1_1 X1_l; have X0_0 := X0.out.cell0; have X0_1 := X0.out.cell1; have X0_l := X0.out.lt; have X1_0 := X1.out.cell0; have X1_1 := X1.out.cell1; have X1_l := X1.out.lt; rw [HP1.out]; clear hb9) | (go_at_call 48; with_reducible show Calls _ _ #[.agg #[.int .i64 m, .int .i64 k], _] _ _; refine (i_over m k 8 _ m1 m2 k1 k2 (by omega)).mono ?_; rintro e yc ⟨rfl, hb9⟩; (try replace hb9 := undrew hb9); (with_reducible have hq9 := bstep HC.out hb9); clear hq9; have X0 := Lib.hid (Bx.step X0.out hb9); have X1 := Lib.hid (Bx.step X1.out hb9); have HC := Lib.hid (bstep HC.out hb9); clear X0_0 X0_1 X0_l X1_0 X1_1 X1_l; have X0_0 := X0.out.cell0; have X0_1 := X0.out.cell1; have X0_l := X0.out.lt; have X1_0 := X1.out.cell0; have X1_1 := X1.out.cell1; have X1_l := X1.out.lt; rw [HP2.out]; clear hb9))
        all_goals go_wp2_with fail
        all_goals go_meet
        all_goals exact ⟨rfl, HC.out⟩
      case rest =>
        clear HC
        obtain ⟨rfl, hb17⟩ := hcut
        clear X0_0 X0_1 X0_l X1_0 X1_1 X1_l
        have X0 := Lib.hid (X0.out.step hb17)
        have X1 := Lib.hid (X1.out.step hb17)
        have HB := Lib.hid (bstep HB.out hb17)
        clear hb17
        have X0_0 := X0.out.cell0
        have X0_1 := X0.out.cell1
        have X0_l := X0.out.lt
        have X1_0 := X1.out.cell0
        have X1_1 := X1.out.cell1
        have X1_l := X1.out.lt
        go_wp2_with fail
        go_ret
        exact ⟨by rw [HC9.out]; rfl, HB.out⟩
    · have Hb : Hid (Dy.ok m k = false) := Lib.hid (by simpa using hb)
      clear ha hb
      have HB := Lib.hid (Below.refl w.heap.size w)
      go_enter Try.func25, Try.ntmps25
      have R_g : w.heap.size ≤ w.heap.size + 2 := by omega
      go_wp2_with fail
      obtain ⟨x1, hy3, hb2, z4, z5⟩ := new_box w (.cells #[.int .i64 n, .int .i64 e] 26)
      have X0 : Hid (Bx 26 x1 w.heap.size n (.int .i64 e)) := Lib.hid (by rw [hy3]; exact Bx.new _ _ _ _)
      rw [← hy3]
      clear hy3
      have HB := Lib.hid (bstep HB.out hb2)
      clear hb2
      have X0_0 := X0.out.cell0
      have X0_1 := X0.out.cell1
      have X0_l := X0.out.lt
      obtain ⟨x6, hy8, hb7, z9, z10⟩ := new_box x1 (.cells #[.int .i64 m, .int .i64 k] 26)
      have X1 : Hid (Bx 26 x6 x1.heap.size m (.int .i64 k)) := Lib.hid (by rw [hy8]; exact Bx.new _ _ _ _)
      rw [← hy8]
      clear hy8
      clear X0_0 X0_1 X0_l
      have X0 := Lib.hid (X0.out.step hb7)
      have HB := Lib.hid (bstep HB.out hb7)
      clear hb7
      have X0_0 := X0.out.cell0
      have X0_1 := X0.out.cell1
      have X0_l := X0.out.lt
      have X1_0 := X1.out.cell0
      have X1_1 := X1.out.cell1
      have X1_l := X1.out.lt
      clear X1_0 X1_1 X1_l
      have X1 : Hid (Bx 26 x6 (w.heap.size + 1) m (.int .i64 k)) := Lib.hid (by have h := X1.out; rw [show x1.heap.size = w.heap.size + 1 by omega] at h; exact h)
      have X1_0 := X1.out.cell0
      have X1_1 := X1.out.cell1
      have X1_l := X1.out.lt
      refine (i_ok n e _).mono ?_
      rintro e x11 ⟨rfl, hb12⟩
      clear X0_0 X0_1 X0_l X1_0 X1_1 X1_l
      have X0 := Lib.hid (X0.out.step hb12)
      have X1 := Lib.hid (X1.out.step hb12)
      have HB := Lib.hid (bstep HB.out hb12)
      rw [Ha.out]
      clear hb12
      have X0_0 := X0.out.cell0
      have X0_1 := X0.out.cell1
      have X0_l := X0.out.lt
      have X1_0 := X1.out.cell0
      have X1_1 := X1.out.cell1
      have X1_l := X1.out.lt
      go_wp2_with fail
      refine (i_ok m k _).mono ?_
      rintro e x14 ⟨rfl, hb15⟩
      clear X0_0 X0_1 X0_l X1_0 X1_1 X1_l
      have X0 := Lib.hid (X0.out.step hb15)
      have X1 := Lib.hid (X1.out.step hb15)
      have HB := Lib.hid (bstep HB.out hb15)
      rw [Hb.out]
      clear hb15
      have X0_0 := X0.out.cell0
      have X0_1 := X0.out.cell1
      have X0_l := X0.out.lt
      have X1_0 := X1.out.cell0
      have X1_1 := X1.out.cell1
      have X1_l := X1.out.lt
      have Hz : Hid (Dy.cmp n e m k = 2) := Lib.hid (Dy.cmp_two.2 (by simp [Hb.out]))
      go_wp2_with fail
      go_ret
      exact ⟨by rw [Hz.out]; rfl, HB.out⟩
  · have Ha : Hid (Dy.ok n e = false) := Lib.hid (by simpa using ha)
    clear ha
    have HB := Lib.hid (Below.refl w.heap.size w)
    go_enter Try.func25, Try.ntmps25
    have R_g : w.heap.size ≤ w.heap.size + 2 := by omega
    go_wp2_with fail
    obtain ⟨x1, hy3, hb2, z4, z5⟩ := new_box w (.cells #[.int .i64 n, .int .i64 e] 26)
    have X0 : Hid (Bx 26 x1 w.heap.size n (.int .i64 e)) := Lib.hid (by rw [hy3]; exact Bx.new _ _ _ _)
    rw [← hy3]
    clear hy3
    have HB := Lib.hid (bstep HB.out hb2)
    clear hb2
    have X0_0 := X0.out.cell0
    have X0_1 := X0.out.cell1
    have X0_l := X0.out.lt
    obtain ⟨x6, hy8, hb7, z9, z10⟩ := new_box x1 (.cells #[.int .i64 m, .int .i64 k] 26)
    have X1 : Hid (Bx 26 x6 x1.heap.size m (.int .i64 k)) := Lib.hid (by rw [hy8]; exact Bx.new _ _ _ _)
    rw [← hy8]
    clear hy8
    clear X0_0 X0_1 X0_l
    have X0 := Lib.hid (X0.out.step hb7)
    have HB := Lib.hid (bstep HB.out hb7)
    clear hb7
    have X0_0 := X0.out.cell0
    have X0_1 := X0.out.cell1
    have X0_l := X0.out.lt
    have X1_0 := X1.out.cell0
    have X1_1 := X1.out.cell1
    have X1_l := X1.out.lt
    clear X1_0 X1_1 X1_l
    have X1 : Hid (Bx 26 x6 (w.heap.size + 1) m (.int .i64 k)) := Lib.hid (by have h := X1.out; rw [show x1.heap.size = w.heap.size + 1 by omega] at h; exact h)
    have X1_0 := X1.out.cell0
    have X1_1 := X1.out.cell1
    have X1_l := X1.out.lt
    refine (i_ok n e _).mono ?_
    rintro e x11 ⟨rfl, hb12⟩
    clear X0_0 X0_1 X0_l X1_0 X1_1 X1_l
    have X0 := Lib.hid (X0.out.step hb12)
    have X1 := Lib.hid (X1.out.step hb12)
    have HB := Lib.hid (bstep HB.out hb12)
    rw [Ha.out]
    clear hb12
    have X0_0 := X0.out.cell0
    have X0_1 := X0.out.cell1
    have X0_l := X0.out.lt
    have X1_0 := X1.out.cell0
    have X1_1 := X1.out.cell1
    have X1_l := X1.out.lt
    have Hz : Hid (Dy.cmp n e m k = 2) := Lib.hid (Dy.cmp_two.2 (by simp [Ha.out]))
    go_wp2_with fail
    go_ret
    exact ⟨by rw [Hz.out]; rfl, HB.out⟩
end Go.Proofs.Ytocjlhlohlkkmaa
