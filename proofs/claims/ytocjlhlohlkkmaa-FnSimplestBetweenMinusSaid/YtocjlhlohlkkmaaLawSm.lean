/-
  Both sides are alike: the law of SimplestBetween and numbers times -1 holds for every code. No condition.
-/
import Derived.Test.YtocjlhlohlkkmaaRows
import Derived.Test.YtocjlhlohlkkmaaDyL
import Derived.Test.YtocjlhlohlkkmaaDyF
import Derived.Test.YtocjlhlohlkkmaaDyB
import Derived.Deep.RegionHeld3
import Derived.Deep.DeepCutAuto
import Derived.BigQuiet
import Derived.Test.YtocjlhlohlkkmaaDyX
import Derived.WalkKit
import Derived.ProofKit
import Derived.OpenShut
import Derived.ShutString
import Derived.ChangeOld
import Derived.Below
namespace Go.Proofs.Ytocjlhlohlkkmaa.fnSimplestBetweenMinus
set_option maxRecDepth 100000
open Go.ChangeShapes Go.WideShapes Go.ChangeAt Go.RowKit
open Go.ChangeMaps (open_string shut_string)
set_option linter.unusedVariables false

theorem own : ownKnob Try.prog.godebug = none := by kernel_rfl
theorem laidOut : laidOutB Try.prog = true := by kernel_rfl


set_option maxRecDepth 100000 in
set_option maxHeartbeats 16000000 in
theorem walk (a0 : Option Addr) (len0 cap0 : Nat) (z0 : List Int) (w : World) (w0 : IsRow .u8 w a0 len0 cap0 z0) :
    Calls Try.prog 7 #[.slice a0 len0 cap0] w fun e w' => e = .returned (.bool true) ∧ Below w.heap.size w w' := by
  by_cases hl : 1048576 < len0
  · go_enter Try.func7, Try.ntmps7
    go_wp2_with fail
    go_ret
    exact ⟨rfl, Below.refl _ _⟩
  · have hl' : decide ((1048576 : Int) < (len0 : Int)) = false := by rw [decide_eq_false_iff_not]; omega
    go_enter Try.func7, Try.ntmps7
    go_wp2_with fail
    refine (d_si w a0 len0 cap0 z0 w0).mono ?_
    rintro e0 y0 ⟨x, y, u, v, rfl, hb⟩
    have HB := Lib.hid hb
    clear hb w0 hl'
    obtain ⟨p, q, b, hp, h0⟩ := Dy.simP x y u v
    have Hp := Lib.hid hp
    have H0 := Lib.hid h0
    have hbb : (b != b) = false := by simp
    clear hp h0
    go_wp2_with fail
    obtain ⟨x1, hy3, hb2, z4, z5⟩ := new_box y0 (.cells #[.int .i64 x, .int .i64 y] 26)
    have X3 : Hid (Bx 26 x1 y0.heap.size x (.int .i64 y)) := Lib.hid (by rw [hy3]; exact Bx.new _ _ _ _)
    rw [← hy3]
    clear hy3
    have HB := Lib.hid (bstep HB.out hb2)
    clear hb2
    have X3_0 := X3.out.cell0
    have X3_1 := X3.out.cell1
    have X3_l := X3.out.lt
    obtain ⟨x6, hy8, hb7, z9, z10⟩ := new_box x1 (.cells #[.int .i64 u, .int .i64 v] 26)
    have X4 : Hid (Bx 26 x6 x1.heap.size u (.int .i64 v)) := Lib.hid (by rw [hy8]; exact Bx.new _ _ _ _)
    rw [← hy8]
    clear hy8
    clear X3_0 X3_1 X3_l
    have X3 := Lib.hid (X3.out.step hb7)
    have HB := Lib.hid (bstep HB.out hb7)
    clear hb7
    have X3_0 := X3.out.cell0
    have X3_1 := X3.out.cell1
    have X3_l := X3.out.lt
    have X4_0 := X4.out.cell0
    have X4_1 := X4.out.cell1
    have X4_l := X4.out.lt
    clear X4_0 X4_1 X4_l
    have X4 : Hid (Bx 26 x6 (y0.heap.size + 1) u (.int .i64 v)) := Lib.hid (by have h := X4.out; rw [show x1.heap.size = y0.heap.size + 1 by omega] at h; exact h)
    have X4_0 := X4.out.cell0
    have X4_1 := X4.out.cell1
    have X4_l := X4.out.lt
    go_wp2_with fail
    refine (i_simW x y u v p q b _ Hp H0).mono ?_
    rintro e x11 ⟨rfl, hb12⟩
    clear X3_0 X3_1 X3_l X4_0 X4_1 X4_l
    have X3 := Lib.hid (X3.out.step hb12)
    have X4 := Lib.hid (X4.out.step hb12)
    have HB := Lib.hid (bstep HB.out hb12)
    clear hb12
    have X3_0 := X3.out.cell0
    have X3_1 := X3.out.cell1
    have X3_l := X3.out.lt
    have X4_0 := X4.out.cell0
    have X4_1 := X4.out.cell1
    have X4_l := X4.out.lt
    go_wp2_with fail
    obtain ⟨x14, hy16, hb15, z17, z18⟩ := new_box x11 (.cells #[.int .i64 p, .int .i64 q] 26)
    have X5 : Hid (Bx 26 x14 x11.heap.size p (.int .i64 q)) := Lib.hid (by rw [hy16]; exact Bx.new _ _ _ _)
    rw [← hy16]
    clear hy16
    clear X3_0 X3_1 X3_l X4_0 X4_1 X4_l
    have X3 := Lib.hid (X3.out.step hb15)
    have X4 := Lib.hid (X4.out.step hb15)
    have HB := Lib.hid (bstep HB.out hb15)
    clear hb15
    have X3_0 := X3.out.cell0
    have X3_1 := X3.out.cell1
    have X3_l := X3.out.lt
    have X4_0 := X4.out.cell0
    have X4_1 := X4.out.cell1
    have X4_l := X4.out.lt
    have X5_0 := X5.out.cell0
    have X5_1 := X5.out.cell1
    have X5_l := X5.out.lt
    go_wp2_with fail
    refine (s_simW x y u v p q b _ Hp H0).mono ?_
    rintro e x19 ⟨rfl, hb20⟩
    clear X3_0 X3_1 X3_l X4_0 X4_1 X4_l X5_0 X5_1 X5_l
    have X3 := Lib.hid (X3.out.step hb20)
    have X4 := Lib.hid (X4.out.step hb20)
    have X5 := Lib.hid (X5.out.step hb20)
    have HB := Lib.hid (bstep HB.out hb20)
    clear hb20
    have X3_0 := X3.out.cell0
    have X3_1 := X3.out.cell1
    have X3_l := X3.out.lt
    have X4_0 := X4.out.cell0
    have X4_1 := X4.out.cell1
    have X4_l := X4.out.lt
    have X5_0 := X5.out.cell0
    have X5_1 := X5.out.cell1
    have X5_l := X5.out.lt
    cases b with
    | false =>
      clear hbb
      go_wp2_with fail
      obtain ⟨x122, hy124, hb123, z125, z126⟩ := new_box x19 (.cells #[.int .i64 p, .int .i64 q] 26)
      have X7 : Hid (Bx 26 x122 x19.heap.size p (.int .i64 q)) := Lib.hid (by rw [hy124]; exact Bx.new _ _ _ _)
      rw [← hy124]
      clear hy124
      clear X3_0 X3_1 X3_l X4_0 X4_1 X4_l X5_0 X5_1 X5_l
      have X3 := Lib.hid (X3.out.step hb123)
      have X4 := Lib.hid (X4.out.step hb123)
      have X5 := Lib.hid (X5.out.step hb123)
      have HB := Lib.hid (bstep HB.out hb123)
      clear hb123
      have X3_0 := X3.out.cell0
      have X3_1 := X3.out.cell1
      have X3_l := X3.out.lt
      have X4_0 := X4.out.cell0
      have X4_1 := X4.out.cell1
      have X4_l := X4.out.lt
      have X5_0 := X5.out.cell0
      have X5_1 := X5.out.cell1
      have X5_l := X5.out.lt
      have X7_0 := X7.out.cell0
      have X7_1 := X7.out.cell1
      have X7_l := X7.out.lt
      go_wp2_with fail
      go_ret
      exact ⟨rfl, HB.out⟩
    | true =>
      clear hbb
      have hs : Dy.simR x y u v = some (p, q) := by have := Hp.out; rw [if_pos rfl] at this; exact this
      obtain ⟨o1, o2, _⟩ := Dy.simR_some hs
      have o3 := (Dy.sim_ok (Dy.simR_some hs).2.2).1
      obtain ⟨⟨x1', x2', _, _⟩, _⟩ := Dy.ok_iff.1 o1
      obtain ⟨⟨u1', u2', _, _⟩, _⟩ := Dy.ok_iff.1 o2
      obtain ⟨⟨p1', p2', _, _⟩, _⟩ := Dy.ok_iff.1 o3
      have Hn : Hid (Dy.simR (-u) v (-x) y = if true = true then some (-p, q) else none) := Lib.hid (by rw [if_pos rfl]; exact Dy.simR_neg hs)
      have Hn0 : Hid (true = false → -p = 0 ∧ q = 0) := Lib.hid (fun h => by cases h)
      clear hs o1 o2 o3
      go_wp2_with fail
      obtain ⟨x222, hy224, hb223, z225, z226⟩ := new_box x19 (.cells #[.int .i64 p, .int .i64 q] 26)
      have X7 : Hid (Bx 26 x222 x19.heap.size p (.int .i64 q)) := Lib.hid (by rw [hy224]; exact Bx.new _ _ _ _)
      rw [← hy224]
      clear hy224
      clear X3_0 X3_1 X3_l X4_0 X4_1 X4_l X5_0 X5_1 X5_l
      have X3 := Lib.hid (X3.out.step hb223)
      have X4 := Lib.hid (X4.out.step hb223)
      have X5 := Lib.hid (X5.out.step hb223)
      have HB := Lib.hid (bstep HB.out hb223)
      clear hb223
      have X3_0 := X3.out.cell0
      have X3_1 := X3.out.cell1
      have X3_l := X3.out.lt
      have X4_0 := X4.out.cell0
      have X4_1 := X4.out.cell1
      have X4_l := X4.out.lt
      have X5_0 := X5.out.cell0
      have X5_1 := X5.out.cell1
      have X5_l := X5.out.lt
      have X7_0 := X7.out.cell0
      have X7_1 := X7.out.cell1
      have X7_l := X7.out.lt
      go_wp2_with fail
      have HC := Lib.hid (Below.refl x222.heap.size x222)
      go_cut [9, 10] (fun v u wx => (NewBx 26 x222 ((-p)) (q) v wx) ∧ u = .bool true)
      case first =>
        go_region_held3 (fun w' => w'.cell? ⟨y0.heap.size, 0, none⟩ = some (.int .i64 x) ∧ w'.cell? ⟨y0.heap.size, 1, none⟩ = some (.int .i64 y) ∧ w'.cell? ⟨y0.heap.size + 1, 0, none⟩ = some (.int .i64 u) ∧ w'.cell? ⟨y0.heap.size + 1, 1, none⟩ = some (.int .i64 v) ∧ w'.cell? ⟨x11.heap.size, 0, none⟩ = some (.int .i64 p) ∧ w'.cell? ⟨x11.heap.size, 1, none⟩ = some (.int .i64 q) ∧ w'.cell? ⟨x19.heap.size, 0, none⟩ = some (.int .i64 p) ∧ w'.cell? ⟨x19.heap.size, 1, none⟩ = some (.int .i64 q)) (first | exact ⟨X3_0, X3_1, X4_0, X4_1, X5_0, X5_1, X7_0, X7_1⟩ | go_keep | exact ⟨cell_far (cell_far X3_0 N_q0) N_q0, cell_far (cell_far X3_1 N_q0) N_q0, cell_far (cell_far X4_0 N_q1) N_q1, cell_far (cell_far X4_1 N_q1) N_q1, cell_far (cell_far X5_0 N_q2) N_q2, cell_far (cell_far X5_1 N_q2) N_q2, cell_far (cell_far X7_0 N_q3) N_q3, cell_far (cell_far X7_1 N_q3) N_q3⟩) (first | (go_at_call 28; refine (i_simW (-u) v (-x) y (-p) q true _ Hn Hn0).mono ?_; rintro e yc ⟨rfl, hb9⟩; (try replace hb9 := undrew hb9); (first | ((with_reducible have hn9 := Bx.step HN.out hb9); have HN := Lib.hid hn9; clear hn9 N_0 N_1 N_f0 N_f1 N_l; (with_reducible have hq9 := bstep HC.out hb9); clear hq9; have X3 := Lib.hid (Bx.step X3.out hb9); have X4 := Lib.hid (Bx.step X4.out hb9); have X5 := Lib.hid (Bx.step X5.out hb9); have X7 := Lib.hid (Bx.step X7.out hb9); have HC := Lib.hid (bstep HC.out hb9); have N_0 := HN.out.cell0; have N_1 := HN.out.cell1; have N_f0 := HN.out.frozen 0; have N_f1 := HN.out.frozen 1; have N_l := HN.out.lt) | ((with_reducible have hq9 := bstep HC.out hb9); clear hq9; have X3 := Lib.hid (Bx.step X3.out hb9); have X4 := Lib.hid (Bx.step X4.out hb9); have X5 := Lib.hid (Bx.step X5.out hb9); have X7 := Lib.hid (Bx.step X7.out hb9); have HC := Lib.hid (bstep HC.out hb9)) | (have HN := Lib.hid (Bx.step (Bx.new 26 _ 0 (.int .i64 0)) hb9); have N_g := HC.out.size; have N_q0 := Nat.ne_of_lt X3.out.lt; have N_q1 := Nat.ne_of_lt X4.out.lt; have N_q2 := Nat.ne_of_lt X5.out.lt; have N_q3 := Nat.ne_of_lt X7.out.lt; have X3 := Lib.hid (Bx.step (Bx.alloc X3.out (.cells #[.int .i64 0, .int .i64 0] 26)) hb9); have X4 := Lib.hid (Bx.step (Bx.alloc X4.out (.cells #[.int .i64 0, .int .i64 0] 26)) hb9); have X5 := Lib.hid (Bx.step (Bx.alloc X5.out (.cells #[.int .i64 0, .int .i64 0] 26)) hb9); have X7 := Lib.hid (Bx.step (Bx.alloc X7.out (.cells #[.int .i64 0, .int .i64 0] 26)) hb9); have HC := Lib.hid (bstep (Below.alloc HC.out HC.out.size (.cells #[.int .i64 0, .int .i64 0] 26)) hb9); have N_0 := HN.out.cell0; have N_1 := HN.out.cell1; have N_f0 := HN.out.frozen 0; have N_f1 := HN.out.frozen 1; have N_l := HN.out.lt)); clear X3_0 X3_1 X3_l X4_0 X4_1 X4_l X5_0 X5_1 X5_l X7_0 X7_1 X7_l; have X3_0 := X3.out.cell0; have X3_1 := X3.out.cell1; have X3_l := X3.out.lt; have X4_0 := X4.out.cell0; have X4_1 := X4.out.cell1; have X4_l := X4.out.lt; have X5_0 := X5.out.cell0; have X5_1 := X5.out.cell1; have X5_l := X5.out.lt; have X7_0 := X7.out.cell0; have X7_1 := X7.out.cell1; have X7_l := X7.out.lt; clear hb9) | (go_at_call 23; with_reducible show Calls _ _ #[.agg #[.int .i64 u, .int .i64 v]] _ _; refine (l_minus u v _ u1' u2').mono ?_; rintro e yc ⟨rfl, hb9⟩; (try replace hb9 := undrew hb9); (first | ((with_reducible have hn9 := Bx.step HN.out hb9); have HN := Lib.hid hn9; clear hn9 N_0 N_1 N_f0 N_f1 N_l; (with_reducible have hq9 := bstep HC.out hb9); clear hq9; have X3 := Lib.hid (Bx.step X3.out hb9); have X4 := Lib.hid (Bx.step X4.out hb9); have X5 := Lib.hid (Bx.step X5.out hb9); have X7 := Lib.hid (Bx.step X7.out hb9); have HC := Lib.hid (bstep HC.out hb9); have N_0 := HN.out.cell0; have N_1 := HN.out.cell1; have N_f0 := HN.out.frozen 0; have N_f1 := HN.out.frozen 1; have N_l := HN.out.lt) | ((with_reducible have hq9 := bstep HC.out hb9); clear hq9; have X3 := Lib.hid (Bx.step X3.out hb9); have X4 := Lib.hid (Bx.step X4.out hb9); have X5 := Lib.hid (Bx.step X5.out hb9); have X7 := Lib.hid (Bx.step X7.out hb9); have HC := Lib.hid (bstep HC.out hb9)) | (have HN := Lib.hid (Bx.step (Bx.new 26 _ 0 (.int .i64 0)) hb9); have N_g := HC.out.size; have N_q0 := Nat.ne_of_lt X3.out.lt; have N_q1 := Nat.ne_of_lt X4.out.lt; have N_q2 := Nat.ne_of_lt X5.out.lt; have N_q3 := Nat.ne_of_lt X7.out.lt; have X3 := Lib.hid (Bx.step (Bx.alloc X3.out (.cells #[.int .i64 0, .int .i64 0] 26)) hb9); have X4 := Lib.hid (Bx.step (Bx.alloc X4.out (.cells #[.int .i64 0, .int .i64 0] 26)) hb9); have X5 := Lib.hid (Bx.step (Bx.alloc X5.out (.cells #[.int .i64 0, .int .i64 0] 26)) hb9); have X7 := Lib.hid (Bx.step (Bx.alloc X7.out (.cells #[.int .i64 0, .int .i64 0] 26)) hb9); have HC := Lib.hid (bstep (Below.alloc HC.out HC.out.size (.cells #[.int .i64 0, .int .i64 0] 26)) hb9); have N_0 := HN.out.cell0; have N_1 := HN.out.cell1; have N_f0 := HN.out.frozen 0; have N_f1 := HN.out.frozen 1; have N_l := HN.out.lt)); clear X3_0 X3_1 X3_l X4_0 X4_1 X4_l X5_0 X5_1 X5_l X7_0 X7_1 X7_l; have X3_0 := X3.out.cell0; have X3_1 := X3.out.cell1; have X3_l := X3.out.lt; have X4_0 := X4.out.cell0; have X4_1 := X4.out.cell1; have X4_l := X4.out.lt; have X5_0 := X5.out.cell0; have X5_1 := X5.out.cell1; have X5_l := X5.out.lt; have X7_0 := X7.out.cell0; have X7_1 := X7.out.cell1; have X7_l := X7.out.lt; clear hb9) | (go_at_call 23; with_reducible show Calls _ _ #[.agg #[.int .i64 x, .int .i64 y]] _ _; refine (l_minus x y _ x1' x2').mono ?_; rintro e yc ⟨rfl, hb9⟩; (try replace hb9 := undrew hb9); (first | ((with_reducible have hn9 := Bx.step HN.out hb9); have HN := Lib.hid hn9; clear hn9 N_0 N_1 N_f0 N_f1 N_l; (with_reducible have hq9 := bstep HC.out hb9); clear hq9; have X3 := Lib.hid (Bx.step X3.out hb9); have X4 := Lib.hid (Bx.step X4.out hb9); have X5 := Lib.hid (Bx.step X5.out hb9); have X7 := Lib.hid (Bx.step X7.out hb9); have HC := Lib.hid (bstep HC.out hb9); have N_0 := HN.out.cell0; have N_1 := HN.out.cell1; have N_f0 := HN.out.frozen 0; have N_f1 := HN.out.frozen 1; have N_l := HN.out.lt) | ((with_reducible have hq9 := bstep HC.out hb9); clear hq9; have X3 := Lib.hid (Bx.step X3.out hb9); have X4 := Lib.hid (Bx.step X4.out hb9); have X5 := Lib.hid (Bx.step X5.out hb9); have X7 := Lib.hid (Bx.step X7.out hb9); have HC := Lib.hid (bstep HC.out hb9)) | (have HN := Lib.hid (Bx.step (Bx.new 26 _ 0 (.int .i64 0)) hb9); have N_g := HC.out.size; have N_q0 := Nat.ne_of_lt X3.out.lt; have N_q1 := Nat.ne_of_lt X4.out.lt; have N_q2 := Nat.ne_of_lt X5.out.lt; have N_q3 := Nat.ne_of_lt X7.out.lt; have X3 := Lib.hid (Bx.step (Bx.alloc X3.out (.cells #[.int .i64 0, .int .i64 0] 26)) hb9); have X4 := Lib.hid (Bx.step (Bx.alloc X4.out (.cells #[.int .i64 0, .int .i64 0] 26)) hb9); have X5 := Lib.hid (Bx.step (Bx.alloc X5.out (.cells #[.int .i64 0, .int .i64 0] 26)) hb9); have X7 := Lib.hid (Bx.step (Bx.alloc X7.out (.cells #[.int .i64 0, .int .i64 0] 26)) hb9); have HC := Lib.hid (bstep (Below.alloc HC.out HC.out.size (.cells #[.int .i64 0, .int .i64 0] 26)) hb9); have N_0 := HN.out.cell0; have N_1 := HN.out.cell1; have N_f0 := HN.out.frozen 0; have N_f1 := HN.out.frozen 1; have N_l := HN.out.lt)); clear X3_0 X3_1 X3_l X4_0 X4_1 X4_l X5_0 X5_1 X5_l X7_0 X7_1 X7_l; have X3_0 := X3.out.cell0; have X3_1 := X3.out.cell1; have X3_l := X3.out.lt; have X4_0 := X4.out.cell0; have X4_1 := X4.out.cell1; have X4_l := X4.out.lt; have X5_0 := X5.out.cell0; have X5_1 := X5.out.cell1; have X5_l := X5.out.lt; have X7_0 := X7.out.cell0; have X7_1 := X7.out.cell1; have X7_l := X7.out.lt; clear hb9))
        all_goals go_wp2_with fail
        all_goals go_meet
        all_goals first | exact ⟨NewBx.make HC.out, rfl⟩ | exact ⟨NewBx.late HN.out HC.out (by omega), rfl⟩ | exact ⟨NewBx.late2 HC.out, rfl⟩
      case rest =>
        clear HC
        obtain ⟨⟨gq229, rfl, Q228_g, Q228_h, hb227⟩, rfl⟩ := hcut
        clear X3_0 X3_1 X3_l X4_0 X4_1 X4_l X5_0 X5_1 X5_l X7_0 X7_1 X7_l
        have X3 := Lib.hid (X3.out.step hb227)
        have X4 := Lib.hid (X4.out.step hb227)
        have X5 := Lib.hid (X5.out.step hb227)
        have X7 := Lib.hid (X7.out.step hb227)
        have HB := Lib.hid (bstep HB.out hb227)
        have Q228 := Lib.hid Q228_h
        clear Q228_h hb227
        have X3_0 := X3.out.cell0
        have X3_1 := X3.out.cell1
        have X3_l := X3.out.lt
        have X4_0 := X4.out.cell0
        have X4_1 := X4.out.cell1
        have X4_l := X4.out.lt
        have X5_0 := X5.out.cell0
        have X5_1 := X5.out.cell1
        have X5_l := X5.out.lt
        have X7_0 := X7.out.cell0
        have X7_1 := X7.out.cell1
        have X7_l := X7.out.lt
        have Q228_0 := Q228.out.cell0
        have Q228_1 := Q228.out.cell1
        have Q228_l := Q228.out.lt
        go_wp2_with fail
        have HC := Lib.hid (Below.refl wc.heap.size wc)
        go_cut [2] (fun v wx => v = .bool true ∧ Below wc.heap.size wc wx)
        case first =>
          go_region_held3 (fun w' => w'.cell? ⟨y0.heap.size, 0, none⟩ = some (.int .i64 x) ∧ w'.cell? ⟨y0.heap.size, 1, none⟩ = some (.int .i64 y) ∧ w'.cell? ⟨y0.heap.size + 1, 0, none⟩ = some (.int .i64 u) ∧ w'.cell? ⟨y0.heap.size + 1, 1, none⟩ = some (.int .i64 v) ∧ w'.cell? ⟨x11.heap.size, 0, none⟩ = some (.int .i64 p) ∧ w'.cell? ⟨x11.heap.size, 1, none⟩ = some (.int .i64 q) ∧ w'.cell? ⟨x19.heap.size, 0, none⟩ = some (.int .i64 p) ∧ w'.cell? ⟨x19.heap.size, 1, none⟩ = some (.int .i64 q) ∧ w'.cell? ⟨gq229, 0, none⟩ = some (.int .i64 (-p)) ∧ w'.cell? ⟨gq229, 1, none⟩ = some (.int .i64 (q))) (first | exact ⟨X3_0, X3_1, X4_0, X4_1, X5_0, X5_1, X7_0, X7_1, Q228_0, Q228_1⟩ | go_keep) (first | (go_at_call 23; refine (l_minus p q _ p1' p2').mono ?_; rintro e yc ⟨rfl, hb9⟩; (try replace hb9 := undrew hb9); (with_reducible have hq9 := bstep HC.out hb9); clear hq9; have X3 := Lib.hid (Bx.step X3.out hb9); have X4 := Lib.hid (Bx.step X4.out hb9); have X5 := Lib.hid (Bx.step X5.out hb9); have X7 := Lib.hid (Bx.step X7.out hb9); have Q228 := Lib.hid (Bx.step Q228.out hb9); have HC := Lib.hid (bstep HC.out hb9); clear X3_0 X3_1 X3_l X4_0 X4_1 X4_l X5_0 X5_1 X5_l X7_0 X7_1 X7_l Q228_0 Q228_1 Q228_l; have X3_0 := X3.out.cell0; have X3_1 := X3.out.cell1; have X3_l := X3.out.lt; have X4_0 := X4.out.cell0; have X4_1 := X4.out.cell1; have X4_l := X4.out.lt; have X5_0 := X5.out.cell0; have X5_1 := X5.out.cell1; have X5_l := X5.out.lt; have X7_0 := X7.out.cell0; have X7_1 := X7.out.cell1; have X7_l := X7.out.lt; have Q228_0 := Q228.out.cell0; have Q228_1 := Q228.out.cell1; have Q228_l := Q228.out.lt; clear hb9))
          all_goals go_wp2_with fail
          all_goals go_meet
          all_goals exact ⟨rfl, HC.out⟩
        case rest =>
          clear HC
          obtain ⟨rfl, hb230⟩ := hcut
          clear X3_0 X3_1 X3_l X4_0 X4_1 X4_l X5_0 X5_1 X5_l X7_0 X7_1 X7_l Q228_0 Q228_1 Q228_l
          have X3 := Lib.hid (X3.out.step hb230)
          have X4 := Lib.hid (X4.out.step hb230)
          have X5 := Lib.hid (X5.out.step hb230)
          have X7 := Lib.hid (X7.out.step hb230)
          have Q228 := Lib.hid (Q228.out.step hb230)
          have HB := Lib.hid (bstep HB.out hb230)
          clear hb230
          have X3_0 := X3.out.cell0
          have X3_1 := X3.out.cell1
          have X3_l := X3.out.lt
          have X4_0 := X4.out.cell0
          have X4_1 := X4.out.cell1
          have X4_l := X4.out.lt
          have X5_0 := X5.out.cell0
          have X5_1 := X5.out.cell1
          have X5_l := X5.out.lt
          have X7_0 := X7.out.cell0
          have X7_1 := X7.out.cell1
          have X7_l := X7.out.lt
          have Q228_0 := Q228.out.cell0
          have Q228_1 := Q228.out.cell1
          have Q228_l := Q228.out.lt
          go_wp2_with fail
          go_ret
          exact ⟨rfl, HB.out⟩


set_option maxRecDepth 100000 in
theorem lifted (os : Os) (started : os.Started) (H : Type) (enc : TypeId × Value → H) :
    ReturnsInHanded {} Try.checked os 7 .any (Rows.fnSimplestBetweenMinusSpec.pre6 enc Try.prog Try.f7 Rows.fnSimplestBetweenMinusRow.domain false) (Rows.fnSimplestBetweenMinusSpec.post enc Try.prog Try.f7 false true false false) := by
  refine returnsInHanded_of_change (C := Try.checked) own started (by kernel_rfl) Try.func7
    (ChangeSpec.witness6 (enc := enc) (C := Try.checked) false ⟨#[], #[.slice none 0 0], []⟩ 8 (by kernel_rfl) (by kernel_rfl) (by kernel_rfl) (by kernel_rfl)) ?_
  intro W base args ds gs before hval0 hW hcnd _
  have hval : ∀ (j : Nat) t v, Try.f7.params[j]? = some t → args[j]? = some v → Value.okWide Try.prog W .any base t v := hval0
  have hW' := hW
  obtain ⟨p, q, hA0, hV, rfl, hfz, hnd⟩ := hW
  have hA : DataW.TrodAll enc Try.prog W 0 (fun _ => true) true Try.f7.params.toList args.toList ds p := hA0
  rw [Try.params7] at hA hval
  obtain ⟨v0, vs0, d0, ds0, p0, q0, hargs, rfl, rfl, h0, r0⟩ := trodAll_cons hA
  obtain ⟨rfl, rfl, rfl⟩ := trodAll_nil r0
  obtain rfl : args = #[v0] := by cases args; simp_all
  obtain ⟨rfl, rfl⟩ := trodVars_none hV
  obtain ⟨a0, len0, cap0, rfl⟩ := okWide_slice Try.underlying22 (hval 0 22 v0 rfl rfl)
  have k0 := h0
  have lt0 : ∀ x ∈ p0, x.block < W.heap.size := by obtain ⟨m, hm⟩ := k0; exact DataW.trod_lt m _ _ _ hm
  obtain ⟨z0, w0⟩ : ∃ zs, IsRow .u8 W a0 len0 cap0 zs := by
    obtain ⟨fuel, hf⟩ := h0
    rcases open_ints Try.underlying22 Try.underlying5 (by kernel_rfl) hf with ⟨hcs, _⟩ | ⟨x, l, c, zs, hcs, _, hl, hm, hz, _, hcell, hwz⟩
    · simp [Value.cells] at hcs
      obtain ⟨rfl, rfl, rfl⟩ := hcs
      exact ⟨[], .inl ⟨rfl, rfl, rfl, rfl⟩⟩
    · simp [Value.cells] at hcs
      obtain ⟨rfl, rfl, rfl⟩ := hcs
      exact ⟨zs, .inr ⟨_, rfl, hl, hm, by simpa using hz, hcell, hwz⟩⟩
  clear hA0 hval0
  refine (walk a0 len0 cap0 z0 W w0).mono fun e W' ⟨he, bel⟩ => ?_
  subst he
  exact ⟨_, rfl, _, _, _, [], _, [], hW', trodAll_mk1 (shut_bool Try.underlying4 _), (trodAll_cons_mk (Below.trod laidOut (by kernel_rfl) (of_decide_eq_true (by kernel_rfl)) k0 bel lt0) trodAll_mk0), rfl, bel.frame _, fun h => by cases h⟩

theorem over : Rows.fnSimplestBetweenMinusRow.holds Try.pinned (OpenSpec.ofChange Rows.fnSimplestBetweenMinusSpec) :=
  OpenClaim.holds_of_wide 7 Try.f7 rfl rfl rfl rfl rfl rfl rfl ⟨rfl, rfl, rfl, rfl, rfl⟩ rfl rfl rfl rfl rfl (by kernel_rfl) Try.func7 (by kernel_rfl)
    (of_decide_eq_true (by kernel_rfl)) (by unfold Func.isWrapper; first | (rw [if_pos (by decide +kernel)]; kernel_rfl) | (rw [if_neg (by decide +kernel)]; exact ⟨rfl, rfl⟩))
    (fun os started H enc _ => lifted os started H enc)

theorem proved : Rows.FnSimplestBetweenMinusSaid := over
end Go.Proofs.Ytocjlhlohlkkmaa.fnSimplestBetweenMinus
