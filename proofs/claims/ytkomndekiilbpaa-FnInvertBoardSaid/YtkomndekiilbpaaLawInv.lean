/-
  The law of InvertBoard: exchanging the colors of a drawn board twice gives it back, and it goes with the images. For every code. No condition.
-/
import Derived.Test.YtkomndekiilbpaaRows
import Derived.Test.YtkomndekiilbpaaValid
import Derived.Deep.RegionWith
import Derived.Deep.DeepCutAuto
import Derived.WalkKit
import Derived.ProofKit
import Derived.OpenShut
import Derived.ShutString
import Derived.ChangeOld
import Derived.Below
namespace Go.Proofs.Ytkomndekiilbpaa.fnInvertBoard
open Go.ChangeShapes Go.WideShapes Go.ChangeAt Go.RowKit
open Go.ChangeMaps (open_string shut_string)
set_option linter.unusedVariables false

theorem own : ownKnob Try.prog.godebug = none := by kernel_rfl
theorem laidOut : laidOutB Try.prog = true := by kernel_rfl


set_option maxRecDepth 100000 in
set_option maxHeartbeats 8000000 in
theorem walk (a0 : Option Addr) (len0 cap0 : Nat) (z0 : List Int) (w : World) (w0 : IsRow .u8 w a0 len0 cap0 z0) :
    Calls Try.prog 6 #[.slice a0 len0 cap0] w fun e w' => e = .returned (.bool true) ∧ Below w.heap.size w w' := by
  by_cases hl : 1048576 < len0
  · go_enter Try.func6, Try.ntmps6
    go_wp2_with fail
    go_ret
    exact ⟨rfl, Below.refl _ _⟩
  · have hl' : decide ((1048576 : Int) < (len0 : Int)) = false := by rw [decide_eq_false_iff_not]; omega
    go_enter Try.func6, Try.ntmps6
    go_wp2_with fail
    refine (d_inv w a0 len0 cap0 z0 w0).mono ?_
    rintro e y0 ⟨s, A, n, c, cs, rfl, hi, hn49, s0, s8, hb⟩
    have I0 := Lib.hid hi
    have HB := Lib.hid hb
    clear hi hb w0 hl'
    go_wp2_with fail
    obtain ⟨x1, hy3, hb2, z4, z5⟩ := new_box y0 (.cells #[.int .i64 s, .slice A n c] 25)
    have X3 : Hid (Bx 25 x1 y0.heap.size s (.slice A n c)) := Lib.hid (by rw [hy3]; exact Bx.new _ _ _ _)
    rw [← hy3]
    clear hy3
    have I0 := Lib.hid (I0.out.step hb2)
    have HB := Lib.hid (bstep HB.out hb2)
    clear hb2
    have X3_0 := X3.out.cell0
    have X3_1 := X3.out.cell1
    have X3_l := X3.out.lt
    by_cases hv : Bd.okB s cs = true
    · have s1 : 1 ≤ s := ((Bd.okB_iff s cs).1 hv).1
      have hz : (s == 0) = false := by simp; omega
      have Hv := Lib.hid hv
      have Hvo := Lib.hid (okB_oth hv)
      have Hok := Lib.hid (okL_mem.2 ((Bd.okB_iff s cs).1 hv).2.2.2)
      clear hv
      go_wp2_with fail
      refine (i_invV s _ _ _ _ cs I0.out hn49 Hv.out).mono ?_
      rintro e x6 ⟨A1, n1, c1, rfl, ho8, hb7⟩
      clear X3_0 X3_1 X3_l
      have X3 := Lib.hid (X3.out.step hb7)
      have I0 := Lib.hid (I0.out.step hb7)
      have HB := Lib.hid (bstep HB.out hb7)
      have I1 := Lib.hid ho8.ints
      have lenI1 := ho8.1
      clear hb7 ho8
      have X3_0 := X3.out.cell0
      have X3_1 := X3.out.cell1
      have X3_l := X3.out.lt
      obtain rfl : n = n1 := len_of lenI1 I0.out.1
      clear lenI1
      go_wp2_with fail
      obtain ⟨x9, hy11, hb10, z12, z13⟩ := new_box x6 (.cells #[.int .i64 s, .slice A1 n c1] 25)
      have X4 : Hid (Bx 25 x9 x6.heap.size s (.slice A1 n c1)) := Lib.hid (by rw [hy11]; exact Bx.new _ _ _ _)
      rw [← hy11]
      clear hy11
      clear X3_0 X3_1 X3_l
      have X3 := Lib.hid (X3.out.step hb10)
      have I0 := Lib.hid (I0.out.step hb10)
      have I1 := Lib.hid (I1.out.step hb10)
      have HB := Lib.hid (bstep HB.out hb10)
      clear hb10
      have X3_0 := X3.out.cell0
      have X3_1 := X3.out.cell1
      have X3_l := X3.out.lt
      have X4_0 := X4.out.cell0
      have X4_1 := X4.out.cell1
      have X4_l := X4.out.lt
      go_wp2_with fail
      have HC := Lib.hid (Below.refl x9.heap.size x9)
      go_cut [21] (fun v wx => v = .bool false ∧ Below x9.heap.size x9 wx)
      case first =>
        go_region_with (first | (go_at_call 25; refine (s_invV s _ _ _ _ cs (by exact I0.out) hn49 Hv.out).mono ?_; rintro e yc ⟨A2, n2, c2, rfl, ho9, hb9⟩; (try replace hb9 := undrew hb9); (try (have X3 := Lib.hid (X3.out.step hb9))); (try (have X4 := Lib.hid (X4.out.step hb9))); (try (have I0 := Lib.hid (I0.out.step hb9))); (try (have I1 := Lib.hid (I1.out.step hb9))); (try (have R2 := Lib.hid (R2.out.step hb9))); have HC := Lib.hid (bstep HC.out hb9); have X3_0 := X3.out.cell0; have X3_1 := X3.out.cell1; have X3_l := X3.out.lt; have X4_0 := X4.out.cell0; have X4_1 := X4.out.cell1; have X4_l := X4.out.lt; have R2 := Lib.hid ho9.ints; have lenR2 := ho9.1; obtain rfl : n = n2 := (len_of lenR2 I0.out.1); clear lenR2; clear hb9 ho9) | (go_at_call 18; refine (l_eqB s _ _ _ _ _ _ (othCs cs) (by exact I1.out) (by exact R2.out) (by omega)).mono ?_; rintro e yc ⟨rfl, hb9⟩; (try replace hb9 := undrew hb9); (try (have X3 := Lib.hid (X3.out.step hb9))); (try (have X4 := Lib.hid (X4.out.step hb9))); (try (have I0 := Lib.hid (I0.out.step hb9))); (try (have I1 := Lib.hid (I1.out.step hb9))); (try (have R2 := Lib.hid (R2.out.step hb9))); have HC := Lib.hid (bstep HC.out hb9); have X3_0 := X3.out.cell0; have X3_1 := X3.out.cell1; have X3_l := X3.out.lt; have X4_0 := X4.out.cell0; have X4_1 := X4.out.cell1; have X4_l := X4.out.lt; clear hb9))
        all_goals go_wp2_with fail
        all_goals go_meet
        all_goals exact ⟨rfl, HC.out⟩
      case rest =>
        clear HC
        obtain ⟨rfl, hb14⟩ := hcut
        clear X3_0 X3_1 X3_l X4_0 X4_1 X4_l
        have X3 := Lib.hid (X3.out.step hb14)
        have X4 := Lib.hid (X4.out.step hb14)
        have I0 := Lib.hid (I0.out.step hb14)
        have I1 := Lib.hid (I1.out.step hb14)
        have HB := Lib.hid (bstep HB.out hb14)
        clear hb14
        have X3_0 := X3.out.cell0
        have X3_1 := X3.out.cell1
        have X3_l := X3.out.lt
        have X4_0 := X4.out.cell0
        have X4_1 := X4.out.cell1
        have X4_l := X4.out.lt
        have Hoo := Lib.hid (othCs_twice Hok.out)
        have Hvm := Lib.hid (okB_mv (k := 3) Hv.out)
        go_wp2_with fail
        have HC := Lib.hid (Below.refl wc.heap.size wc)
        go_cut [2] (fun v wx => v = .bool true ∧ Below wc.heap.size wc wx)
        case first =>
          go_region_with (first | (go_at_call 23; refine (i_invV s _ _ _ _ (othCs cs) (by exact I1.out) hn49 Hvo.out).mono ?_; rintro e yc ⟨A2, n2, c2, rfl, ho9, hb9⟩; (try replace hb9 := undrew hb9); (try (have X3 := Lib.hid (X3.out.step hb9))); (try (have X4 := Lib.hid (X4.out.step hb9))); (try (have I0 := Lib.hid (I0.out.step hb9))); (try (have I1 := Lib.hid (I1.out.step hb9))); (try (have R2 := Lib.hid (R2.out.step hb9))); (try (have R3 := Lib.hid (R3.out.step hb9))); (try (have R4 := Lib.hid (R4.out.step hb9))); (try (have R5 := Lib.hid (R5.out.step hb9))); have HC := Lib.hid (bstep HC.out hb9); have X3_0 := X3.out.cell0; have X3_1 := X3.out.cell1; have X3_l := X3.out.lt; have X4_0 := X4.out.cell0; have X4_1 := X4.out.cell1; have X4_l := X4.out.lt; have R2 := Lib.hid ho9.ints; have lenR2 := ho9.1; obtain rfl : n = n2 := (len_of lenR2 I1.out.1); clear lenR2; rw [Hoo.out] at R2; clear hb9 ho9) | (go_at_call 18; refine (l_eqB s _ _ _ _ _ _ cs (by exact R2.out) (by exact I0.out) (by omega)).mono ?_; rintro e yc ⟨rfl, hb9⟩; (try replace hb9 := undrew hb9); (try (have X3 := Lib.hid (X3.out.step hb9))); (try (have X4 := Lib.hid (X4.out.step hb9))); (try (have I0 := Lib.hid (I0.out.step hb9))); (try (have I1 := Lib.hid (I1.out.step hb9))); (try (have R2 := Lib.hid (R2.out.step hb9))); (try (have R3 := Lib.hid (R3.out.step hb9))); (try (have R4 := Lib.hid (R4.out.step hb9))); (try (have R5 := Lib.hid (R5.out.step hb9))); have HC := Lib.hid (bstep HC.out hb9); have X3_0 := X3.out.cell0; have X3_1 := X3.out.cell1; have X3_l := X3.out.lt; have X4_0 := X4.out.cell0; have X4_1 := X4.out.cell1; have X4_l := X4.out.lt; clear hb9) | (go_at_call 22; refine (i_trV s _ _ _ _ (othCs cs) 3 (by exact I1.out) hn49 Hvo.out rfl).mono ?_; rintro e yc ⟨A3, n3, c3, rfl, ho9, hb9⟩; (try replace hb9 := undrew hb9); (try (have X3 := Lib.hid (X3.out.step hb9))); (try (have X4 := Lib.hid (X4.out.step hb9))); (try (have I0 := Lib.hid (I0.out.step hb9))); (try (have I1 := Lib.hid (I1.out.step hb9))); (try (have R2 := Lib.hid (R2.out.step hb9))); (try (have R3 := Lib.hid (R3.out.step hb9))); (try (have R4 := Lib.hid (R4.out.step hb9))); (try (have R5 := Lib.hid (R5.out.step hb9))); have HC := Lib.hid (bstep HC.out hb9); have X3_0 := X3.out.cell0; have X3_1 := X3.out.cell1; have X3_l := X3.out.lt; have X4_0 := X4.out.cell0; have X4_1 := X4.out.cell1; have X4_l := X4.out.lt; have R3 := Lib.hid ho9.ints; have lenR3 := ho9.1; obtain rfl : n = n3 := (len_mv lenR3 I1.out.1); clear lenR3; rw [mv_oth] at R3; clear hb9 ho9) | (go_at_call 22; refine (i_trV s _ _ _ _ cs 3 (by exact I0.out) hn49 Hv.out rfl).mono ?_; rintro e yc ⟨A4, n4, c4, rfl, ho9, hb9⟩; (try replace hb9 := undrew hb9); (try (have X3 := Lib.hid (X3.out.step hb9))); (try (have X4 := Lib.hid (X4.out.step hb9))); (try (have I0 := Lib.hid (I0.out.step hb9))); (try (have I1 := Lib.hid (I1.out.step hb9))); (try (have R2 := Lib.hid (R2.out.step hb9))); (try (have R3 := Lib.hid (R3.out.step hb9))); (try (have R4 := Lib.hid (R4.out.step hb9))); (try (have R5 := Lib.hid (R5.out.step hb9))); have HC := Lib.hid (bstep HC.out hb9); have X3_0 := X3.out.cell0; have X3_1 := X3.out.cell1; have X3_l := X3.out.lt; have X4_0 := X4.out.cell0; have X4_1 := X4.out.cell1; have X4_l := X4.out.lt; have R4 := Lib.hid ho9.ints; have lenR4 := ho9.1; obtain rfl : n = n4 := (len_mv lenR4 I0.out.1); clear lenR4; clear hb9 ho9) | (go_at_call 23; refine (i_invV s _ _ _ _ (Bd.mv s 3 cs) (by exact R4.out) hn49 Hvm.out).mono ?_; rintro e yc ⟨A5, n5, c5, rfl, ho9, hb9⟩; (try replace hb9 := undrew hb9); (try (have X3 := Lib.hid (X3.out.step hb9))); (try (have X4 := Lib.hid (X4.out.step hb9))); (try (have I0 := Lib.hid (I0.out.step hb9))); (try (have I1 := Lib.hid (I1.out.step hb9))); (try (have R2 := Lib.hid (R2.out.step hb9))); (try (have R3 := Lib.hid (R3.out.step hb9))); (try (have R4 := Lib.hid (R4.out.step hb9))); (try (have R5 := Lib.hid (R5.out.step hb9))); have HC := Lib.hid (bstep HC.out hb9); have X3_0 := X3.out.cell0; have X3_1 := X3.out.cell1; have X3_l := X3.out.lt; have X4_0 := X4.out.cell0; have X4_1 := X4.out.cell1; have X4_l := X4.out.lt; have R5 := Lib.hid ho9.ints; have lenR5 := ho9.1; obtain rfl : n = n5 := (len_of lenR5 R4.out.1); clear lenR5; clear hb9 ho9) | (go_at_call 18; refine (l_eqB s _ _ _ _ _ _ (othCs (Bd.mv s 3 cs)) (by exact R3.out) (by exact R5.out) (by omega)).mono ?_; rintro e yc ⟨rfl, hb9⟩; (try replace hb9 := undrew hb9); (try (have X3 := Lib.hid (X3.out.step hb9))); (try (have X4 := Lib.hid (X4.out.step hb9))); (try (have I0 := Lib.hid (I0.out.step hb9))); (try (have I1 := Lib.hid (I1.out.step hb9))); (try (have R2 := Lib.hid (R2.out.step hb9))); (try (have R3 := Lib.hid (R3.out.step hb9))); (try (have R4 := Lib.hid (R4.out.step hb9))); (try (have R5 := Lib.hid (R5.out.step hb9))); have HC := Lib.hid (bstep HC.out hb9); have X3_0 := X3.out.cell0; have X3_1 := X3.out.cell1; have X3_l := X3.out.lt; have X4_0 := X4.out.cell0; have X4_1 := X4.out.cell1; have X4_l := X4.out.lt; clear hb9))
          all_goals go_wp2_with fail
          all_goals go_meet
          all_goals exact ⟨rfl, HC.out⟩
        case rest =>
          clear HC
          obtain ⟨rfl, hb15⟩ := hcut
          clear X3_0 X3_1 X3_l X4_0 X4_1 X4_l
          have X3 := Lib.hid (X3.out.step hb15)
          have X4 := Lib.hid (X4.out.step hb15)
          have I0 := Lib.hid (I0.out.step hb15)
          have I1 := Lib.hid (I1.out.step hb15)
          have HB := Lib.hid (bstep HB.out hb15)
          clear hb15
          have X3_0 := X3.out.cell0
          have X3_1 := X3.out.cell1
          have X3_l := X3.out.lt
          have X4_0 := X4.out.cell0
          have X4_1 := X4.out.cell1
          have X4_l := X4.out.lt
          go_wp2_with fail
          go_ret
          exact ⟨rfl, HB.out⟩
    · have hv0 : Bd.okB s cs = false := by simpa using hv
      have Hv := Lib.hid hv0
      clear hv hv0
      go_wp2_with fail
      refine (i_invN s _ _ _ _ cs I0.out hn49 Hv.out).mono ?_
      rintro e x106 ⟨A1, n1, c1, rfl, ho108, hb107⟩
      clear X3_0 X3_1 X3_l
      have X3 := Lib.hid (X3.out.step hb107)
      have I0 := Lib.hid (I0.out.step hb107)
      have HB := Lib.hid (bstep HB.out hb107)
      have I1 := Lib.hid ho108.ints
      have lenI1 := ho108.1
      clear hb107 ho108
      have X3_0 := X3.out.cell0
      have X3_1 := X3.out.cell1
      have X3_l := X3.out.lt
      obtain rfl : 0 = n1 := lenI1
      try clear lenI1
      go_wp2_with fail
      obtain ⟨x109, hy111, hb110, z112, z113⟩ := new_box x106 (.cells #[.int .i64 0, .slice A1 0 c1] 25)
      have X4 : Hid (Bx 25 x109 x106.heap.size 0 (.slice A1 0 c1)) := Lib.hid (by rw [hy111]; exact Bx.new _ _ _ _)
      rw [← hy111]
      clear hy111
      clear X3_0 X3_1 X3_l
      have X3 := Lib.hid (X3.out.step hb110)
      have I0 := Lib.hid (I0.out.step hb110)
      have I1 := Lib.hid (I1.out.step hb110)
      have HB := Lib.hid (bstep HB.out hb110)
      clear hb110
      have X3_0 := X3.out.cell0
      have X3_1 := X3.out.cell1
      have X3_l := X3.out.lt
      have X4_0 := X4.out.cell0
      have X4_1 := X4.out.cell1
      have X4_l := X4.out.lt
      go_wp2_with fail
      have HC := Lib.hid (Below.refl x109.heap.size x109)
      go_cut [21] (fun v wx => v = .bool true ∧ Below x109.heap.size x109 wx)
      case first =>
        go_region_with (first | (go_at_call 25; refine (s_invN s _ _ _ _ cs (by exact I0.out) hn49 Hv.out).mono ?_; rintro e yc ⟨A2, n2, c2, rfl, ho9, hb9⟩; (try replace hb9 := undrew hb9); (try (have X3 := Lib.hid (X3.out.step hb9))); (try (have X4 := Lib.hid (X4.out.step hb9))); (try (have I0 := Lib.hid (I0.out.step hb9))); (try (have I1 := Lib.hid (I1.out.step hb9))); (try (have R2 := Lib.hid (R2.out.step hb9))); have HC := Lib.hid (bstep HC.out hb9); have X3_0 := X3.out.cell0; have X3_1 := X3.out.cell1; have X3_l := X3.out.lt; have X4_0 := X4.out.cell0; have X4_1 := X4.out.cell1; have X4_l := X4.out.lt; have R2 := Lib.hid ho9.ints; have lenR2 := ho9.1; obtain rfl : 0 = n2 := lenR2; (try clear lenR2); clear hb9 ho9) | (go_at_call 18; refine (l_eqB 0 _ _ _ _ _ _ [] (by exact I1.out) (by exact R2.out) (by omega)).mono ?_; rintro e yc ⟨rfl, hb9⟩; (try replace hb9 := undrew hb9); (try (have X3 := Lib.hid (X3.out.step hb9))); (try (have X4 := Lib.hid (X4.out.step hb9))); (try (have I0 := Lib.hid (I0.out.step hb9))); (try (have I1 := Lib.hid (I1.out.step hb9))); (try (have R2 := Lib.hid (R2.out.step hb9))); have HC := Lib.hid (bstep HC.out hb9); have X3_0 := X3.out.cell0; have X3_1 := X3.out.cell1; have X3_l := X3.out.lt; have X4_0 := X4.out.cell0; have X4_1 := X4.out.cell1; have X4_l := X4.out.lt; clear hb9))
        all_goals go_wp2_with fail
        all_goals go_meet
        all_goals exact ⟨rfl, HC.out⟩
      case rest =>
        clear HC
        obtain ⟨rfl, hb114⟩ := hcut
        clear X3_0 X3_1 X3_l X4_0 X4_1 X4_l
        have X3 := Lib.hid (X3.out.step hb114)
        have X4 := Lib.hid (X4.out.step hb114)
        have I0 := Lib.hid (I0.out.step hb114)
        have I1 := Lib.hid (I1.out.step hb114)
        have HB := Lib.hid (bstep HB.out hb114)
        clear hb114
        have X3_0 := X3.out.cell0
        have X3_1 := X3.out.cell1
        have X3_l := X3.out.lt
        have X4_0 := X4.out.cell0
        have X4_1 := X4.out.cell1
        have X4_l := X4.out.lt
        go_wp2_with fail
        have HC := Lib.hid (Below.refl wc.heap.size wc)
        go_cut [2] (fun v wx => v = .bool true ∧ Below wc.heap.size wc wx)
        case first =>
          go_region_with (first | (go_at_call 25; refine (s_invN s _ _ _ _ cs (by exact I0.out) hn49 Hv.out).mono ?_; rintro e yc ⟨A2, n2, c2, rfl, ho9, hb9⟩; (try replace hb9 := undrew hb9); (try (have X3 := Lib.hid (X3.out.step hb9))); (try (have X4 := Lib.hid (X4.out.step hb9))); (try (have I0 := Lib.hid (I0.out.step hb9))); (try (have I1 := Lib.hid (I1.out.step hb9))); (try (have R2 := Lib.hid (R2.out.step hb9))); have HC := Lib.hid (bstep HC.out hb9); have X3_0 := X3.out.cell0; have X3_1 := X3.out.cell1; have X3_l := X3.out.lt; have X4_0 := X4.out.cell0; have X4_1 := X4.out.cell1; have X4_l := X4.out.lt; have R2 := Lib.hid ho9.ints; have lenR2 := ho9.1; obtain rfl : 0 = n2 := lenR2; (try clear lenR2); clear hb9 ho9) | (go_at_call 18; refine (l_eqB 0 _ _ _ _ _ _ [] (by exact I1.out) (by exact R2.out) (by omega)).mono ?_; rintro e yc ⟨rfl, hb9⟩; (try replace hb9 := undrew hb9); (try (have X3 := Lib.hid (X3.out.step hb9))); (try (have X4 := Lib.hid (X4.out.step hb9))); (try (have I0 := Lib.hid (I0.out.step hb9))); (try (have I1 := Lib.hid (I1.out.step hb9))); (try (have R2 := Lib.hid (R2.out.step hb9))); have HC := Lib.hid (bstep HC.out hb9); have X3_0 := X3.out.cell0; have X3_1 := X3.out.cell1; have X3_l := X3.out.lt; have X4_0 := X4.out.cell0; have X4_1 := X4.out.cell1; have X4_l := X4.out.lt; clear hb9))
          all_goals go_wp2_with fail
          all_goals go_meet
          all_goals exact ⟨rfl, HC.out⟩
        case rest =>
          clear HC
          obtain ⟨rfl, hb115⟩ := hcut
          clear X3_0 X3_1 X3_l X4_0 X4_1 X4_l
          have X3 := Lib.hid (X3.out.step hb115)
          have X4 := Lib.hid (X4.out.step hb115)
          have I0 := Lib.hid (I0.out.step hb115)
          have I1 := Lib.hid (I1.out.step hb115)
          have HB := Lib.hid (bstep HB.out hb115)
          clear hb115
          have X3_0 := X3.out.cell0
          have X3_1 := X3.out.cell1
          have X3_l := X3.out.lt
          have X4_0 := X4.out.cell0
          have X4_1 := X4.out.cell1
          have X4_l := X4.out.lt
          go_wp2_with fail
          go_ret
          exact ⟨rfl, HB.out⟩


set_option maxRecDepth 100000 in
theorem lifted (os : Os) (started : os.Started) (H : Type) (enc : TypeId × Value → H) :
    ReturnsInHanded {} Try.checked os 6 .any (Rows.fnInvertBoardSpec.pre6 enc Try.prog Try.f6 Rows.fnInvertBoardRow.domain false) (Rows.fnInvertBoardSpec.post enc Try.prog Try.f6 false true false false) := by
  refine returnsInHanded_of_change (C := Try.checked) own started (by kernel_rfl) Try.func6
    (ChangeSpec.witness6 (enc := enc) (C := Try.checked) false ⟨#[], #[.slice none 0 0], []⟩ 8 (by kernel_rfl) (by kernel_rfl) (by kernel_rfl) (by kernel_rfl)) ?_
  intro W base args ds gs before hval0 hW hcnd _
  have hval : ∀ (j : Nat) t v, Try.f6.params[j]? = some t → args[j]? = some v → Value.okWide Try.prog W .any base t v := hval0
  have hW' := hW
  obtain ⟨p, q, hA0, hV, rfl, hfz, hnd⟩ := hW
  have hA : DataW.TrodAll enc Try.prog W 0 (fun _ => true) true Try.f6.params.toList args.toList ds p := hA0
  rw [Try.params6] at hA hval
  obtain ⟨v0, vs0, d0, ds0, p0, q0, hargs, rfl, rfl, h0, r0⟩ := trodAll_cons hA
  obtain ⟨rfl, rfl, rfl⟩ := trodAll_nil r0
  obtain rfl : args = #[v0] := by cases args; simp_all
  obtain ⟨rfl, rfl⟩ := trodVars_none hV
  obtain ⟨a0, len0, cap0, rfl⟩ := okWide_slice Try.underlying22 (hval 0 22 v0 rfl rfl)
  have k0 := h0
  have lt0 : ∀ x ∈ p0, x.block < W.heap.size := by obtain ⟨m, hm⟩ := k0; exact DataW.trod_lt m _ _ _ hm
  obtain ⟨z0, w0⟩ : ∃ zs, IsRow .u8 W a0 len0 cap0 zs := by
    obtain ⟨fuel, hf⟩ := h0
    rcases open_ints Try.underlying22 Try.underlying5 (by kernel_rfl) hf with ⟨hcs, _⟩ | ⟨x, l, c, zs, hcs, _, hl, hm, hz, _, hcell, hwz⟩
    · simp [Value.cells] at hcs
      obtain ⟨rfl, rfl, rfl⟩ := hcs
      exact ⟨[], .inl ⟨rfl, rfl, rfl, rfl⟩⟩
    · simp [Value.cells] at hcs
      obtain ⟨rfl, rfl, rfl⟩ := hcs
      exact ⟨zs, .inr ⟨_, rfl, hl, hm, by simpa using hz, hcell, hwz⟩⟩
  clear hA0 hval0
  refine (walk a0 len0 cap0 z0 W w0).mono fun e W' ⟨he, bel⟩ => ?_
  subst he
  exact ⟨_, rfl, _, _, _, [], _, [], hW', trodAll_mk1 (shut_bool Try.underlying4 _), (trodAll_cons_mk (Below.trod laidOut (by kernel_rfl) (of_decide_eq_true (by kernel_rfl)) k0 bel lt0) trodAll_mk0), rfl, bel.frame _, fun h => by cases h⟩

theorem over : Rows.fnInvertBoardRow.holds Try.pinned (OpenSpec.ofChange Rows.fnInvertBoardSpec) :=
  OpenClaim.holds_of_wide 6 Try.f6 rfl rfl rfl rfl rfl rfl rfl ⟨rfl, rfl, rfl, rfl, rfl⟩ rfl rfl rfl rfl rfl (by kernel_rfl) Try.func6 (by kernel_rfl)
    (of_decide_eq_true (by kernel_rfl)) (by unfold Func.isWrapper; first | (rw [if_pos (by decide +kernel)]; kernel_rfl) | (rw [if_neg (by decide +kernel)]; exact ⟨rfl, rfl⟩))
    (fun os started H enc _ => lifted os started H enc)

theorem proved : Rows.FnInvertBoardSaid := over
end Go.Proofs.Ytkomndekiilbpaa.fnInvertBoard
