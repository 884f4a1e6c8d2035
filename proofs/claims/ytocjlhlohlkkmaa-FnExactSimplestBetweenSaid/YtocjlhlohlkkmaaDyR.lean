/-
  The model's SimplestBetween computes the plain function of DyS.
-/
import Derived.Test.YtocjlhlohlkkmaaDyO
import Derived.Test.YtocjlhlohlkkmaaDyN
import Derived.Test.YtocjlhlohlkkmaaDyT
import Derived.Deep.LoopGhost
import Derived.BigQuiet
namespace Go.Proofs.Ytocjlhlohlkkmaa
set_option maxRecDepth 100000
open Go.RowKit
/-- What is best so far: nothing found below the exponent f, or found at the exponent before. -/
def SimSt (A B : Int) (f : Nat) (fo : Bool) (p q : Int) : Prop :=
  (fo = false ∧ p = 0 ∧ q = 0 ∧ Dy.find A B (9 - f) f = Dy.sim A B ∧ ∀ g, g < f → ¬ Dy.betAt A B g) ∨
  (fo = true ∧ Dy.Red p q ∧ 0 ≤ q ∧ q ≤ 8 ∧ -2559745 ≤ p ∧ p ≤ 2559745 ∧ Dy.sim A B = if Dy.okR p q = true then some (p, q) else none)
theorem Dy.near_bd {A B : Int} {e : Nat} (he : e ≤ 8) (a1 : -2559744 ≤ A) (a2 : A ≤ 2559744) (b1 : -2559744 ≤ B) (b2 : B ≤ 2559744) : -2559745 ≤ Dy.nearAt A B e ∧ Dy.nearAt A B e ≤ 2559745 := by
  have h1 := Dy.lo_bd (A := A) he a1 a2
  have h2 := Dy.lo_bd (A := -B) he (by omega) (by omega)
  unfold Dy.nearAt
  rw [Dy.hi_neg]
  split
  · omega
  · split <;> omega
theorem SimSt.hit {A B : Int} {f : Nat} (hAB : A < B) (hf : f ≤ 8) (h1 : Dy.find A B (9 - f) f = Dy.sim A B) (h2 : ∀ g, g < f → ¬ Dy.betAt A B g) (hb : Dy.betAt A B f) (a1 : -2559744 ≤ A) (a2 : A ≤ 2559744) (b1 : -2559744 ≤ B) (b2 : B ≤ 2559744) : SimSt A B (f + 1) true (Dy.nearAt A B f) f ∧ Dy.low f (Dy.nearAt A B f) = (Dy.nearAt A B f, (f : Int)) := by
  have hr : Dy.Red (Dy.nearAt A B f) f := by
    rcases f with _ | g
    · exact .inl rfl
    · exact Dy.red_near hf hb (h2 g (by omega))
  have hn := Dy.near_bd hf a1 a2 b1 b2
  refine ⟨.inr ⟨rfl, hr, by omega, by omega, hn.1, hn.2, ?_⟩, Dy.low_red hf hr⟩
  rw [← h1, show 9 - f = (8 - f) + 1 by omega]
  exact Dy.find_hit hAB hf (by omega) hb
theorem SimSt.miss {A B : Int} {f : Nat} (hAB : A < B) (hf : f ≤ 8) (h1 : Dy.find A B (9 - f) f = Dy.sim A B) (h2 : ∀ g, g < f → ¬ Dy.betAt A B g) (hb : ¬ Dy.betAt A B f) : SimSt A B (f + 1) false 0 0 := by
  refine .inl ⟨rfl, rfl, rfl, ?_, fun g hg => ?_⟩
  · rw [← h1, show 9 - f = (9 - (f + 1)) + 1 by omega]
    exact (Dy.find_miss hAB hf hb).symm
  · by_cases h : g = f
    · rw [h]; exact hb
    · exact h2 g (by omega)
set_option maxRecDepth 100000 in
set_option maxHeartbeats 4000000 in
theorem s_simplest (A B : Int) (w : World) (hAB : A < B) (a1 : -2559744 ≤ A) (a2 : A ≤ 2559744) (b1 : -2559744 ≤ B) (b2 : B ≤ 2559744) : Calls Try.prog 54 #[.int .i64 A, .int .i64 B] w fun r w' => ∃ p q b, r = .returned (.tuple #[.agg #[.int .i64 p, .int .i64 q], .bool b]) ∧ (Dy.sim A B = if b = true then some (p, q) else none) ∧ Below w.heap.size w w' := by
  have HB := Lib.hid (Below.refl w.heap.size w)
  go_enter Try.func54, Try.ntmps54
  have R_g : w.heap.size ≤ w.heap.size + 1 := by omega
  go_wp2_with fail
  obtain ⟨x1, hy3, hb2, z4, z5⟩ := new_box w (.cells #[.int .i64 0, .int .i64 0] 26)
  have R : Hid (Bx 26 x1 w.heap.size 0 (.int .i64 0)) := Lib.hid (by rw [hy3]; exact Bx.new _ _ _ _)
  rw [← hy3]
  clear hy3
  have HB := Lib.hid (bstep HB.out hb2)
  clear hb2
  have R_0 := R.out.cell0
  have R_1 := R.out.cell1
  have R_l := R.out.lt
  obtain ⟨x6, hy8, hb7, z9, z10⟩ := new_box x1 (.cells #[.int .i64 0, .int .i64 0] 26)
  have X : Hid (Bx 26 x6 x1.heap.size 0 (.int .i64 0)) := Lib.hid (by rw [hy8]; exact Bx.new _ _ _ _)
  rw [← hy8]
  clear hy8
  clear R_0 R_1 R_l
  have R := Lib.hid (R.out.step hb7)
  have HB := Lib.hid (bstep HB.out hb7)
  clear hb7
  have R_0 := R.out.cell0
  have R_1 := R.out.cell1
  have R_l := R.out.lt
  have X_0 := X.out.cell0
  have X_1 := X.out.cell1
  have X_l := X.out.lt
  clear X_0 X_1 X_l
  have X : Hid (Bx 26 x6 (w.heap.size + 1) 0 (.int .i64 0)) := Lib.hid (by have h := X.out; rw [show x1.heap.size = w.heap.size + 1 by omega] at h; exact h)
  have X_0 := X.out.cell0
  have X_1 := X.out.cell1
  have X_l := X.out.lt
  go_loopg [7, 8] 10 (fun gq fo v wr => ∃ (f : Nat) (b : Bool) (p q : Int), f + gq = 10 ∧ f ≤ 9 ∧ fo = .bool b ∧ v = .int .i64 (f : Nat) ∧ SimSt A B f b p q ∧ Bx 26 wr (w.heap.size + 1) p (.int .i64 q) ∧ Bx 26 wr w.heap.size 0 (.int .i64 0) ∧ Below w.heap.size w wr)
  case atStart => exact ⟨0, false, 0, 0, rfl, by omega, rfl, rfl, .inl ⟨rfl, rfl, rfl, rfl, fun g hg => by omega⟩, X.out, R.out, HB.out⟩
  case round =>
    clear R_0 R_1 R_l X_0 X_1 X_l
    clear X R HB
    obtain ⟨f, b, p, q, hf, hf9, rfl, rfl, hst, hX, hR9, hB9⟩ := hrel
    have X := Lib.hid hX
    have R := Lib.hid hR9
    have HB := Lib.hid hB9
    clear hX hR9 hB9
    have R_0 := R.out.cell0
    have R_1 := R.out.cell1
    have R_l := R.out.lt
    have X_0 := X.out.cell0
    have X_1 := X.out.cell1
    have X_l := X.out.lt
    rcases hst with ⟨rfl, rfl, rfl, hfi, hno⟩ | ⟨rfl, hred, q1, q2, p1, p2, hsim⟩
    · by_cases hf8 : f = 9
      · have hlt : ¬ ((f : Nat) : Int) ≤ 8 := by omega
        have Hn : Hid (Dy.sim A B = none) := Lib.hid (by rw [← hfi, hf8]; rfl)
        clear hfi hno
        have HS := Lib.hid ((R.out.set0 0).set1 (.int .i64 0))
        have z0 := HS.out.cell0
        have z1 := HS.out.cell1
        have HBS := Lib.hid ((HB.out.setCell (p := ⟨w.heap.size, 0, none⟩) (by simp) (.int .i64 0)).setCell (p := ⟨w.heap.size, 1, none⟩) (by simp) (.int .i64 0))
        have R_f0 := R.out.frozen 0
        have R_f1 := R.out.frozen 1
        go_wp2_with fail
        go_region_with (fail)
        all_goals go_wp2_with fail
        all_goals (refine bodyPost_ret (v := .tuple #[.agg #[.int .i64 0, .int .i64 0], .bool false]) (by simp [results, Try.results54, go_sem, z0, z1]) rfl ?_; exact ⟨_, _, _, rfl, Hn.out, HBS.out.os, HBS.out.tape, HBS.out.output, HBS.out.size, HBS.out.block⟩)
      · have hf8 : f ≤ 8 := by omega
        have hlt : ((f : Nat) : Int) ≤ 8 := by omega
        have hf0 : (0 : Int) ≤ (f : Nat) := by omega
        obtain ⟨U, hU⟩ : ∃ U : Int, (2 : Int) ^ (8 - ((f : Nat) : Int)).toNat = U := ⟨_, rfl⟩
        have hU2 : (2 : Int) ^ (8 - f) = U := by rw [← hU]; congr 1; omega
        have hwU : IntKind.i64.wrap U = U := IntWalk.i64_in _ (by have := Dy.unit_bd hf8 hU2; omega)
        have u12 : 1 ≤ U ∧ U ≤ 256 := Dy.unit_bd hf8 hU2
        obtain ⟨u1, u2⟩ := u12
        have hUz : ¬ U = 0 := by omega
        have hsc : ∀ m : Int, Dy.sc m (f : Nat) = m * U := fun m => by rw [Dy.sc, hU]
        have hfi := Lib.hid hfi
        have hno := Lib.hid hno
        by_cases cA : 0 ≤ A
        · have hB0 : ¬ B ≤ 0 := by omega
          have hA0 : ¬ A < 0 := by omega
          obtain ⟨D, hD⟩ : ∃ D, A.tdiv U = D := ⟨_, rfl⟩
          have hD2 : A / U = D := by rw [← hD, Int.tdiv_eq_ediv_of_nonneg cA]
          obtain ⟨N, hN⟩ : ∃ N, D + 1 = N := ⟨_, rfl⟩
          have hne : Dy.nearAt A B f = N := by rw [Dy.nearAt, if_neg (by omega), if_pos cA, Dy.loN, hU2, hD2, hN]
          have nb := Dy.near_bd (A := A) (B := B) hf8 a1 a2 b1 b2
          rw [hne] at nb
          obtain ⟨nb1, nb2⟩ := nb
          have dd1 : -2559746 ≤ D := by omega
          have dd2 : D ≤ 2559746 := by omega
          have hwD : IntKind.i64.wrap D = D := IntWalk.i64_in _ (by omega)
          have hwN : IntKind.i64.wrap N = N := IntWalk.i64_in _ (by omega)
          clear hD2
          obtain ⟨M, hM⟩ : ∃ M, N * U = M := ⟨_, rfl⟩
          have hMs : Dy.sc (Dy.nearAt A B f) (f : Nat) = M := by rw [hne, hsc, hM]
          have hbd := Dy.near_mul (A := A) (B := B) hf8 a1 a2 b1 b2
          rw [hMs] at hbd
          obtain ⟨m1, m2⟩ := hbd
          have hwM : IntKind.i64.wrap M = M := IntWalk.i64_in _ (by omega)
          by_cases g1 : A < M
          · by_cases g2 : M < B
            · have hhit := SimSt.hit hAB hf8 hfi.out hno.out ⟨by rw [hMs]; exact g1, by rw [hMs]; exact g2⟩ a1 a2 b1 b2
              rw [hne] at hhit
              have Hh := Lib.hid hhit.1
              have Hl := Lib.hid hhit.2
              have hnb := Dy.near_bd (A := A) (B := B) hf8 a1 a2 b1 b2
              rw [hne] at hnb
              obtain ⟨nb1, nb2⟩ := hnb
              clear hhit hMs hne hfi hno hsc
              go_wp2_with fail
              refine (s_lowest N f _ (by omega) (by omega) (by omega)).mono ?_
              rintro e x311 ⟨rfl, hb312⟩
              clear R_0 R_1 R_l X_0 X_1 X_l
              have R := Lib.hid (R.out.step hb312)
              have X := Lib.hid (X.out.step hb312)
              have HB := Lib.hid (bstep HB.out hb312)
              rw [Hl.out]
              clear hb312
              have R_0 := R.out.cell0
              have R_1 := R.out.cell1
              have R_l := R.out.lt
              have X_0 := X.out.cell0
              have X_1 := X.out.cell1
              have X_l := X.out.lt
              have HX := Lib.hid ((X.out.set0 N).set1 (.int .i64 (f : Nat)))
              have HR := Lib.hid ((R.out.far (p := ⟨w.heap.size + 1, 0, none⟩) (by simp) (.int .i64 N)).far (p := ⟨w.heap.size + 1, 1, none⟩) (by simp) (.int .i64 (f : Nat)))
              have HBS := Lib.hid ((HB.out.setCell (p := ⟨w.heap.size + 1, 0, none⟩) (by simp) (.int .i64 N)).setCell (p := ⟨w.heap.size + 1, 1, none⟩) (by simp) (.int .i64 (f : Nat)))
              have X_f0 := X.out.frozen 0
              have X_f1 := X.out.frozen 1
              go_wp2_with fail
              go_roundg (9 - f)
              case measure => omega
              case rel => exact ⟨f + 1, true, N, (f : Nat), by omega, by omega, rfl, rfl, Hh.out, HX.out, HR.out, HBS.out⟩
            · have Hh := Lib.hid (SimSt.miss hAB hf8 hfi.out hno.out (fun hb => by unfold Dy.betAt at hb; rw [hMs] at hb; omega))
              clear hMs hne hfi hno hsc
              go_wp2_with fail
              go_roundg (9 - f)
              case measure => omega
              case rel => exact ⟨f + 1, false, 0, 0, by omega, by omega, rfl, rfl, Hh.out, X.out, R.out, HB.out⟩
          · have Hh := Lib.hid (SimSt.miss hAB hf8 hfi.out hno.out (fun hb => by unfold Dy.betAt at hb; rw [hMs] at hb; omega))
            clear hMs hne hfi hno hsc
            go_wp2_with fail
            go_roundg (9 - f)
            case measure => omega
            case rel => exact ⟨f + 1, false, 0, 0, by omega, by omega, rfl, rfl, Hh.out, X.out, R.out, HB.out⟩
        · by_cases cB : B ≤ 0
          · have hA0 : A < 0 := by omega
            have hB1 : ¬ 0 < B := by omega
            obtain ⟨D, hD⟩ : ∃ D, B.tdiv U = D := ⟨_, rfl⟩
            have hD2 : (-B) / U = -D := by rw [← hD, ← Int.neg_tdiv, Int.tdiv_eq_ediv_of_nonneg (by omega)]
            obtain ⟨N, hN⟩ : ∃ N, D - 1 = N := ⟨_, rfl⟩
            have hne : Dy.nearAt A B f = N := by rw [Dy.nearAt, if_neg (by omega), if_neg cA, Dy.hiN, hU2, hD2]; omega
            have nb := Dy.near_bd (A := A) (B := B) hf8 a1 a2 b1 b2
            rw [hne] at nb
            obtain ⟨nb1, nb2⟩ := nb
            have dd1 : -2559746 ≤ D := by omega
            have dd2 : D ≤ 2559746 := by omega
            have hwD : IntKind.i64.wrap D = D := IntWalk.i64_in _ (by omega)
            have hwN : IntKind.i64.wrap N = N := IntWalk.i64_in _ (by omega)
            clear hD2
            obtain ⟨M, hM⟩ : ∃ M, N * U = M := ⟨_, rfl⟩
            have hMs : Dy.sc (Dy.nearAt A B f) (f : Nat) = M := by rw [hne, hsc, hM]
            have hbd := Dy.near_mul (A := A) (B := B) hf8 a1 a2 b1 b2
            rw [hMs] at hbd
            obtain ⟨m1, m2⟩ := hbd
            have hwM : IntKind.i64.wrap M = M := IntWalk.i64_in _ (by omega)
            by_cases g1 : A < M
            · by_cases g2 : M < B
              · have hhit := SimSt.hit hAB hf8 hfi.out hno.out ⟨by rw [hMs]; exact g1, by rw [hMs]; exact g2⟩ a1 a2 b1 b2
                rw [hne] at hhit
                have Hh := Lib.hid hhit.1
                have Hl := Lib.hid hhit.2
                have hnb := Dy.near_bd (A := A) (B := B) hf8 a1 a2 b1 b2
                rw [hne] at hnb
                obtain ⟨nb1, nb2⟩ := hnb
                clear hhit hMs hne hfi hno hsc
                go_wp2_with fail
                refine (s_lowest N f _ (by omega) (by omega) (by omega)).mono ?_
                rintro e x611 ⟨rfl, hb612⟩
                clear R_0 R_1 R_l X_0 X_1 X_l
                have R := Lib.hid (R.out.step hb612)
                have X := Lib.hid (X.out.step hb612)
                have HB := Lib.hid (bstep HB.out hb612)
                rw [Hl.out]
                clear hb612
                have R_0 := R.out.cell0
                have R_1 := R.out.cell1
                have R_l := R.out.lt
                have X_0 := X.out.cell0
                have X_1 := X.out.cell1
                have X_l := X.out.lt
                have HX := Lib.hid ((X.out.set0 N).set1 (.int .i64 (f : Nat)))
                have HR := Lib.hid ((R.out.far (p := ⟨w.heap.size + 1, 0, none⟩) (by simp) (.int .i64 N)).far (p := ⟨w.heap.size + 1, 1, none⟩) (by simp) (.int .i64 (f : Nat)))
                have HBS := Lib.hid ((HB.out.setCell (p := ⟨w.heap.size + 1, 0, none⟩) (by simp) (.int .i64 N)).setCell (p := ⟨w.heap.size + 1, 1, none⟩) (by simp) (.int .i64 (f : Nat)))
                have X_f0 := X.out.frozen 0
                have X_f1 := X.out.frozen 1
                go_wp2_with fail
                go_roundg (9 - f)
                case measure => omega
                case rel => exact ⟨f + 1, true, N, (f : Nat), by omega, by omega, rfl, rfl, Hh.out, HX.out, HR.out, HBS.out⟩
              · have Hh := Lib.hid (SimSt.miss hAB hf8 hfi.out hno.out (fun hb => by unfold Dy.betAt at hb; rw [hMs] at hb; omega))
                clear hMs hne hfi hno hsc
                go_wp2_with fail
                go_roundg (9 - f)
                case measure => omega
                case rel => exact ⟨f + 1, false, 0, 0, by omega, by omega, rfl, rfl, Hh.out, X.out, R.out, HB.out⟩
            · have Hh := Lib.hid (SimSt.miss hAB hf8 hfi.out hno.out (fun hb => by unfold Dy.betAt at hb; rw [hMs] at hb; omega))
              clear hMs hne hfi hno hsc
              go_wp2_with fail
              go_roundg (9 - f)
              case measure => omega
              case rel => exact ⟨f + 1, false, 0, 0, by omega, by omega, rfl, rfl, Hh.out, X.out, R.out, HB.out⟩
          · have hA0 : A < 0 := by omega
            have hB1 : 0 < B := by omega
            have hne : Dy.nearAt A B f = 0 := by rw [Dy.nearAt, if_pos ⟨hA0, hB1⟩]
            obtain ⟨M, hM⟩ : ∃ M, 0 * U = M := ⟨_, rfl⟩
            have hMs : Dy.sc (Dy.nearAt A B f) (f : Nat) = M := by rw [hne, hsc, hM]
            have hbd := Dy.near_mul (A := A) (B := B) hf8 a1 a2 b1 b2
            rw [hMs] at hbd
            obtain ⟨m1, m2⟩ := hbd
            have hwM : IntKind.i64.wrap M = M := IntWalk.i64_in _ (by omega)
            by_cases g1 : A < M
            · by_cases g2 : M < B
              · have hhit := SimSt.hit hAB hf8 hfi.out hno.out ⟨by rw [hMs]; exact g1, by rw [hMs]; exact g2⟩ a1 a2 b1 b2
                rw [hne] at hhit
                have Hh := Lib.hid hhit.1
                have Hl := Lib.hid hhit.2
                have hnb := Dy.near_bd (A := A) (B := B) hf8 a1 a2 b1 b2
                rw [hne] at hnb
                obtain ⟨nb1, nb2⟩ := hnb
                clear hhit hMs hne hfi hno hsc
                go_wp2_with fail
                refine (s_lowest 0 f _ (by omega) (by omega) (by omega)).mono ?_
                rintro e x911 ⟨rfl, hb912⟩
                clear R_0 R_1 R_l X_0 X_1 X_l
                have R := Lib.hid (R.out.step hb912)
                have X := Lib.hid (X.out.step hb912)
                have HB := Lib.hid (bstep HB.out hb912)
                rw [Hl.out]
                clear hb912
                have R_0 := R.out.cell0
                have R_1 := R.out.cell1
                have R_l := R.out.lt
                have X_0 := X.out.cell0
                have X_1 := X.out.cell1
                have X_l := X.out.lt
                have HX := Lib.hid ((X.out.set0 0).set1 (.int .i64 (f : Nat)))
                have HR := Lib.hid ((R.out.far (p := ⟨w.heap.size + 1, 0, none⟩) (by simp) (.int .i64 0)).far (p := ⟨w.heap.size + 1, 1, none⟩) (by simp) (.int .i64 (f : Nat)))
                have HBS := Lib.hid ((HB.out.setCell (p := ⟨w.heap.size + 1, 0, none⟩) (by simp) (.int .i64 0)).setCell (p := ⟨w.heap.size + 1, 1, none⟩) (by simp) (.int .i64 (f : Nat)))
                have X_f0 := X.out.frozen 0
                have X_f1 := X.out.frozen 1
                go_wp2_with fail
                go_roundg (9 - f)
                case measure => omega
                case rel => exact ⟨f + 1, true, 0, (f : Nat), by omega, by omega, rfl, rfl, Hh.out, HX.out, HR.out, HBS.out⟩
              · have Hh := Lib.hid (SimSt.miss hAB hf8 hfi.out hno.out (fun hb => by unfold Dy.betAt at hb; rw [hMs] at hb; omega))
                clear hMs hne hfi hno hsc
                go_wp2_with fail
                go_roundg (9 - f)
                case measure => omega
                case rel => exact ⟨f + 1, false, 0, 0, by omega, by omega, rfl, rfl, Hh.out, X.out, R.out, HB.out⟩
            · have Hh := Lib.hid (SimSt.miss hAB hf8 hfi.out hno.out (fun hb => by unfold Dy.betAt at hb; rw [hMs] at hb; omega))
              clear hMs hne hfi hno hsc
              go_wp2_with fail
              go_roundg (9 - f)
              case measure => omega
              case rel => exact ⟨f + 1, false, 0, 0, by omega, by omega, rfl, rfl, Hh.out, X.out, R.out, HB.out⟩
    · have Hs := Lib.hid hsim
      by_cases hr : Dy.ok p q = true
      · have Hr : Hid (Dy.ok p q = true) := Lib.hid (by simpa using hr)
        have Hf : Hid (Dy.sim A B = if (true : Bool) = true then some (p, q) else none) := Lib.hid (by rw [Hs.out, ← Dy.ok_red hred, hr])
        clear hr hred hsim
        by_cases hf8 : f = 9
        · have hlt : ¬ ((f : Nat) : Int) ≤ 8 := by omega
          have HS := Lib.hid ((R.out.set0 p).set1 (.int .i64 q))
          have z0 := HS.out.cell0
          have z1 := HS.out.cell1
          skip
          go_wp2_with fail
          go_region_held3 (fun w' => w'.cell? ⟨w.heap.size + 1, 0, none⟩ = some (.int .i64 p) ∧ w'.cell? ⟨w.heap.size + 1, 1, none⟩ = some (.int .i64 q)) (first | exact ⟨X_0, X_1⟩ | go_keep | exact ⟨cell_far (cell_far X_0 (by simp)) (by simp), cell_far (cell_far X_1 (by simp)) (by simp)⟩) (first | (go_at_call 49; refine (s_ok p q _).mono ?_; rintro e yc ⟨rfl, hb9⟩; (try replace hb9 := undrew hb9); rw [Hr.out]; have X := Lib.hid (Bx.step X.out hb9); have R := Lib.hid (Bx.step R.out hb9); have HB := Lib.hid (bstep HB.out hb9); clear hb9 R_0 R_1 R_l X_0 X_1 X_l z0 z1 HS; have R_0 := R.out.cell0; have R_1 := R.out.cell1; have R_l := R.out.lt; have X_0 := X.out.cell0; have X_1 := X.out.cell1; have X_l := X.out.lt; have R_f0 := R.out.frozen 0; have R_f1 := R.out.frozen 1; have HS := Lib.hid ((R.out.set0 p).set1 (.int .i64 q)); have z0 := HS.out.cell0; have z1 := HS.out.cell1))
          all_goals go_wp2_with fail
          all_goals (refine bodyPost_ret (v := .tuple #[.agg #[.int .i64 p, .int .i64 q], .bool true]) (by simp [results, Try.results54, go_sem, z0, z1]) rfl ?_; have hbs := (HB.out.setCell (p := ⟨w.heap.size, 0, none⟩) (by simp) (.int .i64 p)).setCell (p := ⟨w.heap.size, 1, none⟩) (by simp) (.int .i64 q); exact ⟨_, _, _, rfl, Hf.out, hbs.os, hbs.tape, hbs.output, hbs.size, hbs.block⟩)
        · have hlt : ((f : Nat) : Int) ≤ 8 := by omega
          have HS := Lib.hid ((R.out.set0 p).set1 (.int .i64 q))
          have z0 := HS.out.cell0
          have z1 := HS.out.cell1
          skip
          go_wp2_with fail
          go_region_held3 (fun w' => w'.cell? ⟨w.heap.size + 1, 0, none⟩ = some (.int .i64 p) ∧ w'.cell? ⟨w.heap.size + 1, 1, none⟩ = some (.int .i64 q)) (first | exact ⟨X_0, X_1⟩ | go_keep | exact ⟨cell_far (cell_far X_0 (by simp)) (by simp), cell_far (cell_far X_1 (by simp)) (by simp)⟩) (first | (go_at_call 49; refine (s_ok p q _).mono ?_; rintro e yc ⟨rfl, hb9⟩; (try replace hb9 := undrew hb9); rw [Hr.out]; have X := Lib.hid (Bx.step X.out hb9); have R := Lib.hid (Bx.step R.out hb9); have HB := Lib.hid (bstep HB.out hb9); clear hb9 R_0 R_1 R_l X_0 X_1 X_l z0 z1 HS; have R_0 := R.out.cell0; have R_1 := R.out.cell1; have R_l := R.out.lt; have X_0 := X.out.cell0; have X_1 := X.out.cell1; have X_l := X.out.lt; have R_f0 := R.out.frozen 0; have R_f1 := R.out.frozen 1; have HS := Lib.hid ((R.out.set0 p).set1 (.int .i64 q)); have z0 := HS.out.cell0; have z1 := HS.out.cell1))
          all_goals go_wp2_with fail
          all_goals (refine bodyPost_ret (v := .tuple #[.agg #[.int .i64 p, .int .i64 q], .bool true]) (by simp [results, Try.results54, go_sem, z0, z1]) rfl ?_; have hbs := (HB.out.setCell (p := ⟨w.heap.size, 0, none⟩) (by simp) (.int .i64 p)).setCell (p := ⟨w.heap.size, 1, none⟩) (by simp) (.int .i64 q); exact ⟨_, _, _, rfl, Hf.out, hbs.os, hbs.tape, hbs.output, hbs.size, hbs.block⟩)
      · have Hr : Hid (Dy.ok p q = false) := Lib.hid (by simpa using hr)
        have Hf : Hid (Dy.sim A B = if (false : Bool) = true then some (p, q) else none) := Lib.hid (by rw [Hs.out, ← Dy.ok_red hred, show Dy.ok p q = false from by simpa using hr])
        clear hr hred hsim
        by_cases hf8 : f = 9
        · have hlt : ¬ ((f : Nat) : Int) ≤ 8 := by omega
          have HS := Lib.hid ((R.out.set0 p).set1 (.int .i64 q))
          have z0 := HS.out.cell0
          have z1 := HS.out.cell1
          skip
          go_wp2_with fail
          go_region_held3 (fun w' => w'.cell? ⟨w.heap.size + 1, 0, none⟩ = some (.int .i64 p) ∧ w'.cell? ⟨w.heap.size + 1, 1, none⟩ = some (.int .i64 q)) (first | exact ⟨X_0, X_1⟩ | go_keep | exact ⟨cell_far (cell_far X_0 (by simp)) (by simp), cell_far (cell_far X_1 (by simp)) (by simp)⟩) (first | (go_at_call 49; refine (s_ok p q _).mono ?_; rintro e yc ⟨rfl, hb9⟩; (try replace hb9 := undrew hb9); rw [Hr.out]; have X := Lib.hid (Bx.step X.out hb9); have R := Lib.hid (Bx.step R.out hb9); have HB := Lib.hid (bstep HB.out hb9); clear hb9 R_0 R_1 R_l X_0 X_1 X_l z0 z1 HS; have R_0 := R.out.cell0; have R_1 := R.out.cell1; have R_l := R.out.lt; have X_0 := X.out.cell0; have X_1 := X.out.cell1; have X_l := X.out.lt; have R_f0 := R.out.frozen 0; have R_f1 := R.out.frozen 1; have HS := Lib.hid ((R.out.set0 p).set1 (.int .i64 q)); have z0 := HS.out.cell0; have z1 := HS.out.cell1))
          all_goals go_wp2_with fail
          all_goals (refine bodyPost_ret (v := .tuple #[.agg #[.int .i64 p, .int .i64 q], .bool false]) (by simp [results, Try.results54, go_sem, z0, z1]) rfl ?_; have hbs := (HB.out.setCell (p := ⟨w.heap.size, 0, none⟩) (by simp) (.int .i64 p)).setCell (p := ⟨w.heap.size, 1, none⟩) (by simp) (.int .i64 q); exact ⟨_, _, _, rfl, Hf.out, hbs.os, hbs.tape, hbs.output, hbs.size, hbs.block⟩)
        · have hlt : ((f : Nat) : Int) ≤ 8 := by omega
          have HS := Lib.hid ((R.out.set0 p).set1 (.int .i64 q))
          have z0 := HS.out.cell0
          have z1 := HS.out.cell1
          skip
          go_wp2_with fail
          go_region_held3 (fun w' => w'.cell? ⟨w.heap.size + 1, 0, none⟩ = some (.int .i64 p) ∧ w'.cell? ⟨w.heap.size + 1, 1, none⟩ = some (.int .i64 q)) (first | exact ⟨X_0, X_1⟩ | go_keep | exact ⟨cell_far (cell_far X_0 (by simp)) (by simp), cell_far (cell_far X_1 (by simp)) (by simp)⟩) (first | (go_at_call 49; refine (s_ok p q _).mono ?_; rintro e yc ⟨rfl, hb9⟩; (try replace hb9 := undrew hb9); rw [Hr.out]; have X := Lib.hid (Bx.step X.out hb9); have R := Lib.hid (Bx.step R.out hb9); have HB := Lib.hid (bstep HB.out hb9); clear hb9 R_0 R_1 R_l X_0 X_1 X_l z0 z1 HS; have R_0 := R.out.cell0; have R_1 := R.out.cell1; have R_l := R.out.lt; have X_0 := X.out.cell0; have X_1 := X.out.cell1; have X_l := X.out.lt; have R_f0 := R.out.frozen 0; have R_f1 := R.out.frozen 1; have HS := Lib.hid ((R.out.set0 p).set1 (.int .i64 q)); have z0 := HS.out.cell0; have z1 := HS.out.cell1))
          all_goals go_wp2_with fail
          all_goals (refine bodyPost_ret (v := .tuple #[.agg #[.int .i64 p, .int .i64 q], .bool false]) (by simp [results, Try.results54, go_sem, z0, z1]) rfl ?_; have hbs := (HB.out.setCell (p := ⟨w.heap.size, 0, none⟩) (by simp) (.int .i64 p)).setCell (p := ⟨w.heap.size, 1, none⟩) (by simp) (.int .i64 q); exact ⟨_, _, _, rfl, Hf.out, hbs.os, hbs.tape, hbs.output, hbs.size, hbs.block⟩)
end Go.Proofs.Ytocjlhlohlkkmaa
