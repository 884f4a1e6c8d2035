/-
  Addition is commutative and can be undone: the law of AddDyadic holds for every code. No condition.
-/
import Derived.Test.YtocjlhlohlkkmaaRows
import Derived.Test.YtocjlhlohlkkmaaDyL
import Derived.Test.YtocjlhlohlkkmaaDyF
import Derived.Test.YtocjlhlohlkkmaaDyB
import Derived.Deep.RegionHeld3
import Derived.Deep.DeepCutAuto
import Derived.BigQuiet
import Derived.WalkKit
import Derived.ProofKit
import Derived.OpenShut
import Derived.ShutString
import Derived.ChangeOld
import Derived.Below
namespace Go.Proofs.Ytocjlhlohlkkmaa.fnAddDyadic
set_option maxRecDepth 100000
open Go.ChangeShapes Go.WideShapes Go.ChangeAt Go.RowKit
open Go.ChangeMaps (open_string shut_string)
set_option linter.unusedVariables false

theorem own : ownKnob Try.prog.godebug = none := by kernel_rfl
theorem laidOut : laidOutB Try.prog = true := by kernel_rfl


set_option maxRecDepth 100000 in
set_option maxHeartbeats 16000000 in
theorem walk (a0 : Option Addr) (len0 cap0 : Nat) (z0 : List Int) (w : World) (w0 : IsRow .u8 w a0 len0 cap0 z0) :
    Calls Try.prog 4 #[.slice a0 len0 cap0] w fun e w' => e = .returned (.bool true) ∧ Below w.heap.size w w' := by
  by_cases hl : 1048576 < len0
  · go_enter Try.func4, Try.ntmps4
    go_wp2_with fail
    go_ret
    exact ⟨rfl, Below.refl _ _⟩
  · have hl' : decide ((1048576 : Int) < (len0 : Int)) = false := by rw [decide_eq_false_iff_not]; omega
    go_enter Try.func4, Try.ntmps4
    go_wp2_with fail
    refine (d_ad w a0 len0 cap0 z0 w0).mono ?_
    rintro e0 y0 ⟨x, y, u, v, rfl, hb⟩
    have HB := Lib.hid hb
    clear hb w0 hl'
    obtain ⟨⟨⟨p, q⟩, b⟩, hp⟩ : ∃ r, Dy.ad x y u v = r := ⟨_, rfl⟩
    have Hp := Lib.hid hp
    have Hq := Lib.hid ((Dy.ad_comm u v x y).trans hp)
    have hbb : (b != b) = false := by simp
    clear hp
    go_wp2_with fail
    obtain ⟨x1, hy3, hb2, z4, z5⟩ := new_box y0 (.cells #[.int .i64 x, .int .i64 y] 26)
    have X3 : Hid (Bx 26 x1 y0.heap.size x (.int .i64 y)) := Lib.hid (by rw [hy3]; exact Bx.new _ _ _ _)
    rw [← hy3]
    clear hy3
    have HB := Lib.hid (bstep HB.out hb2)
    clear hb2
    have X3_0 := X3.out.cell0
    have X3_1 := X3.out.cell1
    have X3_l := X3.out.lt
    obtain ⟨x6, hy8, hb7, z9, z10⟩ := new_box x1 (.cells #[.int .i64 u, .int .i64 v] 26)
    have X4 : Hid (Bx 26 x6 x1.heap.size u (.int .i64 v)) := Lib.hid (by rw [hy8]; exact Bx.new _ _ _ _)
    rw [← hy8]
    clear hy8
    clear X3_0 X3_1 X3_l
    have X3 := Lib.hid (X3.out.step hb7)
    have HB := Lib.hid (bstep HB.out hb7)
    clear hb7
    have X3_0 := X3.out.cell0
    have X3_1 := X3.out.cell1
    have X3_l := X3.out.lt
    have X4_0 := X4.out.cell0
    have X4_1 := X4.out.cell1
    have X4_l := X4.out.lt
    clear X4_0 X4_1 X4_l
    have X4 : Hid (Bx 26 x6 (y0.heap.size + 1) u (.int .i64 v)) := Lib.hid (by have h := X4.out; rw [show x1.heap.size = y0.heap.size + 1 by omega] at h; exact h)
    have X4_0 := X4.out.cell0
    have X4_1 := X4.out.cell1
    have X4_l := X4.out.lt
    go_wp2_with fail
    refine (i_addW x y u v p q b _ Hp).mono ?_
    rintro e x11 ⟨rfl, hb12⟩
    clear X3_0 X3_1 X3_l X4_0 X4_1 X4_l
    have X3 := Lib.hid (X3.out.step hb12)
    have X4 := Lib.hid (X4.out.step hb12)
    have HB := Lib.hid (bstep HB.out hb12)
    clear hb12
    have X3_0 := X3.out.cell0
    have X3_1 := X3.out.cell1
    have X3_l := X3.out.lt
    have X4_0 := X4.out.cell0
    have X4_1 := X4.out.cell1
    have X4_l := X4.out.lt
    go_wp2_with fail
    obtain ⟨x14, hy16, hb15, z17, z18⟩ := new_box x11 (.cells #[.int .i64 p, .int .i64 q] 26)
    have X5 : Hid (Bx 26 x14 x11.heap.size p (.int .i64 q)) := Lib.hid (by rw [hy16]; exact Bx.new _ _ _ _)
    rw [← hy16]
    clear hy16
    clear X3_0 X3_1 X3_l X4_0 X4_1 X4_l
    have X3 := Lib.hid (X3.out.step hb15)
    have X4 := Lib.hid (X4.out.step hb15)
    have HB := Lib.hid (bstep HB.out hb15)
    clear hb15
    have X3_0 := X3.out.cell0
    have X3_1 := X3.out.cell1
    have X3_l := X3.out.lt
    have X4_0 := X4.out.cell0
    have X4_1 := X4.out.cell1
    have X4_l := X4.out.lt
    have X5_0 := X5.out.cell0
    have X5_1 := X5.out.cell1
    have X5_l := X5.out.lt
    go_wp2_with fail
    refine (s_addW x y u v p q b _ Hp).mono ?_
    rintro e x19 ⟨rfl, hb20⟩
    clear X3_0 X3_1 X3_l X4_0 X4_1 X4_l X5_0 X5_1 X5_l
    have X3 := Lib.hid (X3.out.step hb20)
    have X4 := Lib.hid (X4.out.step hb20)
    have X5 := Lib.hid (X5.out.step hb20)
    have HB := Lib.hid (bstep HB.out hb20)
    clear hb20
    have X3_0 := X3.out.cell0
    have X3_1 := X3.out.cell1
    have X3_l := X3.out.lt
    have X4_0 := X4.out.cell0
    have X4_1 := X4.out.cell1
    have X4_l := X4.out.lt
    have X5_0 := X5.out.cell0
    have X5_1 := X5.out.cell1
    have X5_l := X5.out.lt
    go_wp2_with fail
    obtain ⟨x22, hy24, hb23, z25, z26⟩ := new_box x19 (.cells #[.int .i64 p, .int .i64 q] 26)
    have X7 : Hid (Bx 26 x22 x19.heap.size p (.int .i64 q)) := Lib.hid (by rw [hy24]; exact Bx.new _ _ _ _)
    rw [← hy24]
    clear hy24
    clear X3_0 X3_1 X3_l X4_0 X4_1 X4_l X5_0 X5_1 X5_l
    have X3 := Lib.hid (X3.out.step hb23)
    have X4 := Lib.hid (X4.out.step hb23)
    have X5 := Lib.hid (X5.out.step hb23)
    have HB := Lib.hid (bstep HB.out hb23)
    clear hb23
    have X3_0 := X3.out.cell0
    have X3_1 := X3.out.cell1
    have X3_l := X3.out.lt
    have X4_0 := X4.out.cell0
    have X4_1 := X4.out.cell1
    have X4_l := X4.out.lt
    have X5_0 := X5.out.cell0
    have X5_1 := X5.out.cell1
    have X5_l := X5.out.lt
    have X7_0 := X7.out.cell0
    have X7_1 := X7.out.cell1
    have X7_l := X7.out.lt
    go_wp2_with fail
    refine (i_addW u v x y p q b _ Hq).mono ?_
    rintro e x27 ⟨rfl, hb28⟩
    clear X3_0 X3_1 X3_l X4_0 X4_1 X4_l X5_0 X5_1 X5_l X7_0 X7_1 X7_l
    have X3 := Lib.hid (X3.out.step hb28)
    have X4 := Lib.hid (X4.out.step hb28)
    have X5 := Lib.hid (X5.out.step hb28)
    have X7 := Lib.hid (X7.out.step hb28)
    have HB := Lib.hid (bstep HB.out hb28)
    clear hb28
    have X3_0 := X3.out.cell0
    have X3_1 := X3.out.cell1
    have X3_l := X3.out.lt
    have X4_0 := X4.out.cell0
    have X4_1 := X4.out.cell1
    have X4_l := X4.out.lt
    have X5_0 := X5.out.cell0
    have X5_1 := X5.out.cell1
    have X5_l := X5.out.lt
    have X7_0 := X7.out.cell0
    have X7_1 := X7.out.cell1
    have X7_l := X7.out.lt
    cases b with
    | false =>
      clear hbb
      go_wp2_with fail
      obtain ⟨x130, hy132, hb131, z133, z134⟩ := new_box x27 (.cells #[.int .i64 p, .int .i64 q] 26)
      have X9 : Hid (Bx 26 x130 x27.heap.size p (.int .i64 q)) := Lib.hid (by rw [hy132]; exact Bx.new _ _ _ _)
      rw [← hy132]
      clear hy132
      clear X3_0 X3_1 X3_l X4_0 X4_1 X4_l X5_0 X5_1 X5_l X7_0 X7_1 X7_l
      have X3 := Lib.hid (X3.out.step hb131)
      have X4 := Lib.hid (X4.out.step hb131)
      have X5 := Lib.hid (X5.out.step hb131)
      have X7 := Lib.hid (X7.out.step hb131)
      have HB := Lib.hid (bstep HB.out hb131)
      clear hb131
      have X3_0 := X3.out.cell0
      have X3_1 := X3.out.cell1
      have X3_l := X3.out.lt
      have X4_0 := X4.out.cell0
      have X4_1 := X4.out.cell1
      have X4_l := X4.out.lt
      have X5_0 := X5.out.cell0
      have X5_1 := X5.out.cell1
      have X5_l := X5.out.lt
      have X7_0 := X7.out.cell0
      have X7_1 := X7.out.cell1
      have X7_l := X7.out.lt
      have X9_0 := X9.out.cell0
      have X9_1 := X9.out.cell1
      have X9_l := X9.out.lt
      go_wp2_with fail
      go_ret
      exact ⟨rfl, HB.out⟩
    | true =>
      go_wp2_with fail
      obtain ⟨x230, hy232, hb231, z233, z234⟩ := new_box x27 (.cells #[.int .i64 p, .int .i64 q] 26)
      have X9 : Hid (Bx 26 x230 x27.heap.size p (.int .i64 q)) := Lib.hid (by rw [hy232]; exact Bx.new _ _ _ _)
      rw [← hy232]
      clear hy232
      clear X3_0 X3_1 X3_l X4_0 X4_1 X4_l X5_0 X5_1 X5_l X7_0 X7_1 X7_l
      have X3 := Lib.hid (X3.out.step hb231)
      have X4 := Lib.hid (X4.out.step hb231)
      have X5 := Lib.hid (X5.out.step hb231)
      have X7 := Lib.hid (X7.out.step hb231)
      have HB := Lib.hid (bstep HB.out hb231)
      clear hb231
      have X3_0 := X3.out.cell0
      have X3_1 := X3.out.cell1
      have X3_l := X3.out.lt
      have X4_0 := X4.out.cell0
      have X4_1 := X4.out.cell1
      have X4_l := X4.out.lt
      have X5_0 := X5.out.cell0
      have X5_1 := X5.out.cell1
      have X5_l := X5.out.lt
      have X7_0 := X7.out.cell0
      have X7_1 := X7.out.cell1
      have X7_l := X7.out.lt
      have X9_0 := X9.out.cell0
      have X9_1 := X9.out.cell1
      have X9_l := X9.out.lt
      clear hbb
      have Hr := Lib.hid (Dy.ad_back Hp.out)
      obtain ⟨⟨u1, u2, _, _⟩, _⟩ := Dy.ok_iff.1 (Dy.addB_ok (Dy.ad_true Hp.out).1).2
      go_wp2_with fail
      have HC := Lib.hid (Below.refl x230.heap.size x230)
      go_cut [11, 12] (fun v u wx => (NewBx 26 x230 (x) (y) v wx) ∧ u = .bool true)
      case first =>
        go_region_held3 (fun w' => w'.cell? ⟨y0.heap.size, 0, none⟩ = some (.int .i64 x) ∧ w'.cell? ⟨y0.heap.size, 1, none⟩ = some (.int .i64 y) ∧ w'.cell? ⟨y0.heap.size + 1, 0, none⟩ = some (.int .i64 u) ∧ w'.cell? ⟨y0.heap.size + 1, 1, none⟩ = some (.int .i64 v) ∧ w'.cell? ⟨x11.heap.size, 0, none⟩ = some (.int .i64 p) ∧ w'.cell? ⟨x11.heap.size, 1, none⟩ = some (.int .i64 q) ∧ w'.cell? ⟨x19.heap.size, 0, none⟩ = some (.int .i64 p) ∧ w'.cell? ⟨x19.heap.size, 1, none⟩ = some (.int .i64 q) ∧ w'.cell? ⟨x27.heap.size, 0, none⟩ = some (.int .i64 p) ∧ w'.cell? ⟨x27.heap.size, 1, none⟩ = some (.int .i64 q)) (first | exact ⟨X3_0, X3_1, X4_0, X4_1, X5_0, X5_1, X7_0, X7_1, X9_0, X9_1⟩ | go_keep | exact ⟨cell_far (cell_far X3_0 N_q0) N_q0, cell_far (cell_far X3_1 N_q0) N_q0, cell_far (cell_far X4_0 N_q1) N_q1, cell_far (cell_far X4_1 N_q1) N_q1, cell_far (cell_far X5_0 N_q2) N_q2, cell_far (cell_far X5_1 N_q2) N_q2, cell_far (cell_far X7_0 N_q3) N_q3, cell_far (cell_far X7_1 N_q3) N_q3, cell_far (cell_far X9_0 N_q4) N_q4, cell_far (cell_far X9_1 N_q4) N_q4⟩) (first | (go_at_call 21; refine (i_addW p q (-u) v x y true _ Hr).mono ?_; rintro e yc ⟨rfl, hb9⟩; (try replace hb9 := undrew hb9); (first | ((with_reducible have hn9 := Bx.step HN.out hb9); have HN := Lib.hid hn9; clear hn9 N_0 N_1 N_f0 N_f1 N_l; (with_reducible have hq9 := bstep HC.out hb9); clear hq9; have X3 := Lib.hid (Bx.step X3.out hb9); have X4 := Lib.hid (Bx.step X4.out hb9); have X5 := Lib.hid (Bx.step X5.out hb9); have X7 := Lib.hid (Bx.step X7.out hb9); have X9 := Lib.hid (Bx.step X9.out hb9); have HC := Lib.hid (bstep HC.out hb9); have N_0 := HN.out.cell0; have N_1 := HN.out.cell1; have N_f0 := HN.out.frozen 0; have N_f1 := HN.out.frozen 1; have N_l := HN.out.lt) | ((with_reducible have hq9 := bstep HC.out hb9); clear hq9; have X3 := Lib.hid (Bx.step X3.out hb9); have X4 := Lib.hid (Bx.step X4.out hb9); have X5 := Lib.hid (Bx.step X5.out hb9); have X7 := Lib.hid (Bx.step X7.out hb9); have X9 := Lib.hid (Bx.step X9.out hb9); have HC := Lib.hid (bstep HC.out hb9)) | (have HN := Lib.hid (Bx.step (Bx.new 26 _ 0 (.int .i64 0)) hb9); have N_g := HC.out.size; have N_q0 := Nat.ne_of_lt X3.out.lt; have N_q1 := Nat.ne_of_lt X4.out.lt; have N_q2 := Nat.ne_of_lt X5.out.lt; have N_q3 := Nat.ne_of_lt X7.out.lt; have N_q4 := Nat.ne_of_lt X9.out.lt; have X3 := Lib.hid (Bx.step (Bx.alloc X3.out (.cells #[.int .i64 0, .int .i64 0] 26)) hb9); have X4 := Lib.hid (Bx.step (Bx.alloc X4.out (.cells #[.int .i64 0, .int .i64 0] 26)) hb9); have X5 := Lib.hid (Bx.step (Bx.alloc X5.out (.cells #[.int .i64 0, .int .i64 0] 26)) hb9); have X7 := Lib.hid (Bx.step (Bx.alloc X7.out (.cells #[.int .i64 0, .int .i64 0] 26)) hb9); have X9 := Lib.hid (Bx.step (Bx.alloc X9.out (.cells #[.int .i64 0, .int .i64 0] 26)) hb9); have HC := Lib.hid (bstep (Below.alloc HC.out HC.out.size (.cells #[.int .i64 0, .int .i64 0] 26)) hb9); have N_0 := HN.out.cell0; have N_1 := HN.out.cell1; have N_f0 := HN.out.frozen 0; have N_f1 := HN.out.frozen 1; have N_l := HN.out.lt)); clear X3_0 X3_1 X3_l X4_0 X4_1 X4_l X5_0 X5_1 X5_l X7_0 X7_1 X7_l X9_0 X9_1 X9_l; have X3_0 := X3.out.cell0; have X3_1 := X3.out.cell1; have X3_l := X3.out.lt; have X4_0 := X4.out.cell0; have X4_1 := X4.out.cell1; have X4_l := X4.out.lt; have X5_0 := X5.out.cell0; have X5_1 := X5.out.cell1; have X5_l := X5.out.lt; have X7_0 := X7.out.cell0; have X7_1 := X7.out.cell1; have X7_l := X7.out.lt; have X9_0 := X9.out.cell0; have X9_1 := X9.out.cell1; have X9_l := X9.out.lt; clear hb9) | (go_at_call 23; refine (l_minus u v _ u1 u2).mono ?_; rintro e yc ⟨rfl, hb9⟩; (try replace hb9 := undrew hb9); (first | ((with_reducible have hn9 := Bx.step HN.out hb9); have HN := Lib.hid hn9; clear hn9 N_0 N_1 N_f0 N_f1 N_l; (with_reducible have hq9 := bstep HC.out hb9); clear hq9; have X3 := Lib.hid (Bx.step X3.out hb9); have X4 := Lib.hid (Bx.step X4.out hb9); have X5 := Lib.hid (Bx.step X5.out hb9); have X7 := Lib.hid (Bx.step X7.out hb9); have X9 := Lib.hid (Bx.step X9.out hb9); have HC := Lib.hid (bstep HC.out hb9); have N_0 := HN.out.cell0; have N_1 := HN.out.cell1; have N_f0 := HN.out.frozen 0; have N_f1 := HN.out.frozen 1; have N_l := HN.out.lt) | ((with_reducible have hq9 := bstep HC.out hb9); clear hq9; have X3 := Lib.hid (Bx.step X3.out hb9); have X4 := Lib.hid (Bx.step X4.out hb9); have X5 := Lib.hid (Bx.step X5.out hb9); have X7 := Lib.hid (Bx.step X7.out hb9); have X9 := Lib.hid (Bx.step X9.out hb9); have HC := Lib.hid (bstep HC.out hb9)) | (have HN := Lib.hid (Bx.step (Bx.new 26 _ 0 (.int .i64 0)) hb9); have N_g := HC.out.size; have N_q0 := Nat.ne_of_lt X3.out.lt; have N_q1 := Nat.ne_of_lt X4.out.lt; have N_q2 := Nat.ne_of_lt X5.out.lt; have N_q3 := Nat.ne_of_lt X7.out.lt; have N_q4 := Nat.ne_of_lt X9.out.lt; have X3 := Lib.hid (Bx.step (Bx.alloc X3.out (.cells #[.int .i64 0, .int .i64 0] 26)) hb9); have X4 := Lib.hid (Bx.step (Bx.alloc X4.out (.cells #[.int .i64 0, .int .i64 0] 26)) hb9); have X5 := Lib.hid (Bx.step (Bx.alloc X5.out (.cells #[.int .i64 0, .int .i64 0] 26)) hb9); have X7 := Lib.hid (Bx.step (Bx.alloc X7.out (.cells #[.int .i64 0, .int .i64 0] 26)) hb9); have X9 := Lib.hid (Bx.step (Bx.alloc X9.out (.cells #[.int .i64 0, .int .i64 0] 26)) hb9); have HC := Lib.hid (bstep (Below.alloc HC.out HC.out.size (.cells #[.int .i64 0, .int .i64 0] 26)) hb9); have N_0 := HN.out.cell0; have N_1 := HN.out.cell1; have N_f0 := HN.out.frozen 0; have N_f1 := HN.out.frozen 1; have N_l := HN.out.lt)); clear X3_0 X3_1 X3_l X4_0 X4_1 X4_l X5_0 X5_1 X5_l X7_0 X7_1 X7_l X9_0 X9_1 X9_l; have X3_0 := X3.out.cell0; have X3_1 := X3.out.cell1; have X3_l := X3.out.lt; have X4_0 := X4.out.cell0; have X4_1 := X4.out.cell1; have X4_l := X4.out.lt; have X5_0 := X5.out.cell0; have X5_1 := X5.out.cell1; have X5_l := X5.out.lt; have X7_0 := X7.out.cell0; have X7_1 := X7.out.cell1; have X7_l := X7.out.lt; have X9_0 := X9.out.cell0; have X9_1 := X9.out.cell1; have X9_l := X9.out.lt; clear hb9))
        all_goals go_wp2_with fail
        all_goals go_meet
        all_goals first | exact ⟨NewBx.make HC.out, rfl⟩ | exact ⟨NewBx.late HN.out HC.out (by omega), rfl⟩ | exact ⟨NewBx.late2 HC.out, rfl⟩
      case rest =>
        clear HC
        obtain ⟨⟨gq237, rfl, Q236_g, Q236_h, hb235⟩, rfl⟩ := hcut
        clear X3_0 X3_1 X3_l X4_0 X4_1 X4_l X5_0 X5_1 X5_l X7_0 X7_1 X7_l X9_0 X9_1 X9_l
        have X3 := Lib.hid (X3.out.step hb235)
        have X4 := Lib.hid (X4.out.step hb235)
        have X5 := Lib.hid (X5.out.step hb235)
        have X7 := Lib.hid (X7.out.step hb235)
        have X9 := Lib.hid (X9.out.step hb235)
        have HB := Lib.hid (bstep HB.out hb235)
        have Q236 := Lib.hid Q236_h
        clear Q236_h hb235
        have X3_0 := X3.out.cell0
        have X3_1 := X3.out.cell1
        have X3_l := X3.out.lt
        have X4_0 := X4.out.cell0
        have X4_1 := X4.out.cell1
        have X4_l := X4.out.lt
        have X5_0 := X5.out.cell0
        have X5_1 := X5.out.cell1
        have X5_l := X5.out.lt
        have X7_0 := X7.out.cell0
        have X7_1 := X7.out.cell1
        have X7_l := X7.out.lt
        have X9_0 := X9.out.cell0
        have X9_1 := X9.out.cell1
        have X9_l := X9.out.lt
        have Q236_0 := Q236.out.cell0
        have Q236_1 := Q236.out.cell1
        have Q236_l := Q236.out.lt
        go_wp2_with fail
        go_ret
        exact ⟨rfl, HB.out⟩


set_option maxRecDepth 100000 in
theorem lifted (os : Os) (started : os.Started) (H : Type) (enc : TypeId × Value → H) :
    ReturnsInHanded {} Try.checked os 4 .any (Rows.fnAddDyadicSpec.pre6 enc Try.prog Try.f4 Rows.fnAddDyadicRow.domain false) (Rows.fnAddDyadicSpec.post enc Try.prog Try.f4 false true false false) := by
  refine returnsInHanded_of_change (C := Try.checked) own started (by kernel_rfl) Try.func4
    (ChangeSpec.witness6 (enc := enc) (C := Try.checked) false ⟨#[], #[.slice none 0 0], []⟩ 8 (by kernel_rfl) (by kernel_rfl) (by kernel_rfl) (by kernel_rfl)) ?_
  intro W base args ds gs before hval0 hW hcnd _
  have hval : ∀ (j : Nat) t v, Try.f4.params[j]? = some t → args[j]? = some v → Value.okWide Try.prog W .any base t v := hval0
  have hW' := hW
  obtain ⟨p, q, hA0, hV, rfl, hfz, hnd⟩ := hW
  have hA : DataW.TrodAll enc Try.prog W 0 (fun _ => true) true Try.f4.params.toList args.toList ds p := hA0
  rw [Try.params4] at hA hval
  obtain ⟨v0, vs0, d0, ds0, p0, q0, hargs, rfl, rfl, h0, r0⟩ := trodAll_cons hA
  obtain ⟨rfl, rfl, rfl⟩ := trodAll_nil r0
  obtain rfl : args = #[v0] := by cases args; simp_all
  obtain ⟨rfl, rfl⟩ := trodVars_none hV
  obtain ⟨a0, len0, cap0, rfl⟩ := okWide_slice Try.underlying22 (hval 0 22 v0 rfl rfl)
  have k0 := h0
  have lt0 : ∀ x ∈ p0, x.block < W.heap.size := by obtain ⟨m, hm⟩ := k0; exact DataW.trod_lt m _ _ _ hm
  obtain ⟨z0, w0⟩ : ∃ zs, IsRow .u8 W a0 len0 cap0 zs := by
    obtain ⟨fuel, hf⟩ := h0
    rcases open_ints Try.underlying22 Try.underlying5 (by kernel_rfl) hf with ⟨hcs, _⟩ | ⟨x, l, c, zs, hcs, _, hl, hm, hz, _, hcell, hwz⟩
    · simp [Value.cells] at hcs
      obtain ⟨rfl, rfl, rfl⟩ := hcs
      exact ⟨[], .inl ⟨rfl, rfl, rfl, rfl⟩⟩
    · simp [Value.cells] at hcs
      obtain ⟨rfl, rfl, rfl⟩ := hcs
      exact ⟨zs, .inr ⟨_, rfl, hl, hm, by simpa using hz, hcell, hwz⟩⟩
  clear hA0 hval0
  refine (walk a0 len0 cap0 z0 W w0).mono fun e W' ⟨he, bel⟩ => ?_
  subst he
  exact ⟨_, rfl, _, _, _, [], _, [], hW', trodAll_mk1 (shut_bool Try.underlying4 _), (trodAll_cons_mk (Below.trod laidOut (by kernel_rfl) (of_decide_eq_true (by kernel_rfl)) k0 bel lt0) trodAll_mk0), rfl, bel.frame _, fun h => by cases h⟩

theorem over : Rows.fnAddDyadicRow.holds Try.pinned (OpenSpec.ofChange Rows.fnAddDyadicSpec) :=
  OpenClaim.holds_of_wide 4 Try.f4 rfl rfl rfl rfl rfl rfl rfl ⟨rfl, rfl, rfl, rfl, rfl⟩ rfl rfl rfl rfl rfl (by kernel_rfl) Try.func4 (by kernel_rfl)
    (of_decide_eq_true (by kernel_rfl)) (by unfold Func.isWrapper; first | (rw [if_pos (by decide +kernel)]; kernel_rfl) | (rw [if_neg (by decide +kernel)]; exact ⟨rfl, rfl⟩))
    (fun os started H enc _ => lifted os started H enc)

theorem proved : Rows.FnAddDyadicSaid := over
end Go.Proofs.Ytocjlhlohlkkmaa.fnAddDyadic
