/-
  SimplestBetween answers as its model, for every two numbers. No condition.
-/
import Derived.Test.YtocjlhlohlkkmaaRows
import Derived.Test.YtocjlhlohlkkmaaDyW
import Derived.Test.YtocjlhlohlkkmaaOpenY
import Derived.Test.YtocjlhlohlkkmaaDraw
import Derived.Deep.RegionHeld3
import Derived.Deep.DeepCutAuto
import Derived.Test.YtocjlhlohlkkmaaDyX
import Derived.Test.YtocjlhlohlkkmaaDyB
import Derived.WalkKit
import Derived.ProofKit
import Derived.OpenShut
import Derived.ShutString
import Derived.ChangeOld
import Derived.Below
namespace Go.Proofs.Ytocjlhlohlkkmaa.fnExactSimplestBetween
set_option maxRecDepth 100000
open Go.ChangeShapes Go.WideShapes Go.ChangeAt Go.RowKit
open Go.ChangeMaps (open_string shut_string)
set_option linter.unusedVariables false

theorem own : ownKnob Try.prog.godebug = none := by kernel_rfl
theorem laidOut : laidOutB Try.prog = true := by kernel_rfl


set_option maxRecDepth 100000 in
set_option maxHeartbeats 16000000 in
theorem walk (a0 e0 : Int) (a1 e1 : Int) (w : World)  :
    Calls Try.prog 14 #[.agg #[.int .i64 a0, .int .i64 e0], .agg #[.int .i64 a1, .int .i64 e1]] w fun e w' => e = .returned (.bool true) ∧ Below w.heap.size w w' := by
  obtain ⟨p, q, b, hp, h0⟩ := Dy.simP a0 e0 a1 e1
  have Hp := Lib.hid hp
  have H0 := Lib.hid h0
  have hbb : (b != b) = false := by simp
  clear hp h0
  have HB := Lib.hid (Below.refl w.heap.size w)
  go_enter Try.func14, Try.ntmps14
  go_wp2_with fail
  obtain ⟨x1, hy3, hb2, z4, z5⟩ := new_box w (.cells #[.int .i64 a0, .int .i64 e0] 42)
  have X0 : Hid (Bx 42 x1 w.heap.size a0 (.int .i64 e0)) := Lib.hid (by rw [hy3]; exact Bx.new _ _ _ _)
  rw [← hy3]
  clear hy3
  have HB := Lib.hid (bstep HB.out hb2)
  clear hb2
  have X0_0 := X0.out.cell0
  have X0_1 := X0.out.cell1
  have X0_l := X0.out.lt
  obtain ⟨x6, hy8, hb7, z9, z10⟩ := new_box x1 (.cells #[.int .i64 a1, .int .i64 e1] 42)
  have X1 : Hid (Bx 42 x6 x1.heap.size a1 (.int .i64 e1)) := Lib.hid (by rw [hy8]; exact Bx.new _ _ _ _)
  rw [← hy8]
  clear hy8
  clear X0_0 X0_1 X0_l
  have X0 := Lib.hid (X0.out.step hb7)
  have HB := Lib.hid (bstep HB.out hb7)
  clear hb7
  have X0_0 := X0.out.cell0
  have X0_1 := X0.out.cell1
  have X0_l := X0.out.lt
  have X1_0 := X1.out.cell0
  have X1_1 := X1.out.cell1
  have X1_l := X1.out.lt
  clear X1_0 X1_1 X1_l
  have X1 : Hid (Bx 42 x6 (w.heap.size + 1) a1 (.int .i64 e1)) := Lib.hid (by have h := X1.out; rw [show x1.heap.size = w.heap.size + 1 by omega] at h; exact h)
  have X1_0 := X1.out.cell0
  have X1_1 := X1.out.cell1
  have X1_l := X1.out.lt
  go_wp2_with fail
  have HC := Lib.hid (Below.refl x6.heap.size x6)
  go_cut [5, 6] (fun v u wx => (NewBx 26 x6 (p) (q) v wx) ∧ u = .bool b)
  case first =>
    go_region_held3 (fun w' => w'.cell? ⟨w.heap.size, 0, none⟩ = some (.int .i64 a0) ∧ w'.cell? ⟨w.heap.size, 1, none⟩ = some (.int .i64 e0) ∧ w'.cell? ⟨w.heap.size + 1, 0, none⟩ = some (.int .i64 a1) ∧ w'.cell? ⟨w.heap.size + 1, 1, none⟩ = some (.int .i64 e1)) (first | exact ⟨X0_0, X0_1, X1_0, X1_1⟩ | go_keep | exact ⟨cell_far (cell_far X0_0 N_q0) N_q0, cell_far (cell_far X0_1 N_q0) N_q0, cell_far (cell_far X1_0 N_q1) N_q1, cell_far (cell_far X1_1 N_q1) N_q1⟩) (first | (go_at_call 29; refine (s_simW a0 e0 a1 e1 p q b _ Hp H0).mono ?_; rintro e yc ⟨rfl, hb9⟩; (try replace hb9 := undrew hb9); (first | ((with_reducible have hn9 := Bx.step HN.out hb9); have HN := Lib.hid hn9; clear hn9 N_0 N_1 N_f0 N_f1 N_l; (with_reducible have hq9 := bstep HC.out hb9); clear hq9; have X0 := Lib.hid (Bx.step X0.out hb9); have X1 := Lib.hid (Bx.step X1.out hb9); have HC := Lib.hid (bstep HC.out hb9); have N_0 := HN.out.cell0; have N_1 := HN.out.cell1; have N_f0 := HN.out.frozen 0; have N_f1 := HN.out.frozen 1; have N_l := HN.out.lt) | ((with_reducible have hq9 := bstep HC.out hb9); clear hq9; have X0 := Lib.hid (Bx.step X0.out hb9); have X1 := Lib.hid (Bx.step X1.out hb9); have HC := Lib.hid (bstep HC.out hb9)) | (have HN := Lib.hid (Bx.step (Bx.new 26 _ 0 (.int .i64 0)) hb9); have N_g := HC.out.size; have N_q0 := Nat.ne_of_lt X0.out.lt; have N_q1 := Nat.ne_of_lt X1.out.lt; have X0 := Lib.hid (Bx.step (Bx.alloc X0.out (.cells #[.int .i64 0, .int .i64 0] 26)) hb9); have X1 := Lib.hid (Bx.step (Bx.alloc X1.out (.cells #[.int .i64 0, .int .i64 0] 26)) hb9); have HC := Lib.hid (bstep (Below.alloc HC.out HC.out.size (.cells #[.int .i64 0, .int .i64 0] 26)) hb9); have N_0 := HN.out.cell0; have N_1 := HN.out.cell1; have N_f0 := HN.out.frozen 0; have N_f1 := HN.out.frozen 1; have N_l := HN.out.lt)); clear X0_0 X0_1 X0_l X1_0 X1_1 X1_l; have X0_0 := X0.out.cell0; have X0_1 := X0.out.cell1; have X0_l := X0.out.lt; have X1_0 := X1.out.cell0; have X1_1 := X1.out.cell1; have X1_l := X1.out.lt; clear hb9) | (go_at_call 37; with_reducible show Calls _ _ #[.agg #[.int .i64 a0, .int .i64 e0]] _ _; refine (l_toDy a0 e0 _).mono ?_; rintro e yc ⟨rfl, hb9⟩; (try replace hb9 := undrew hb9); (first | ((with_reducible have hn9 := Bx.step HN.out hb9); have HN := Lib.hid hn9; clear hn9 N_0 N_1 N_f0 N_f1 N_l; (with_reducible have hq9 := bstep HC.out hb9); clear hq9; have X0 := Lib.hid (Bx.step X0.out hb9); have X1 := Lib.hid (Bx.step X1.out hb9); have HC := Lib.hid (bstep HC.out hb9); have N_0 := HN.out.cell0; have N_1 := HN.out.cell1; have N_f0 := HN.out.frozen 0; have N_f1 := HN.out.frozen 1; have N_l := HN.out.lt) | ((with_reducible have hq9 := bstep HC.out hb9); clear hq9; have X0 := Lib.hid (Bx.step X0.out hb9); have X1 := Lib.hid (Bx.step X1.out hb9); have HC := Lib.hid (bstep HC.out hb9)) | (have HN := Lib.hid (Bx.step (Bx.new 26 _ 0 (.int .i64 0)) hb9); have N_g := HC.out.size; have N_q0 := Nat.ne_of_lt X0.out.lt; have N_q1 := Nat.ne_of_lt X1.out.lt; have X0 := Lib.hid (Bx.step (Bx.alloc X0.out (.cells #[.int .i64 0, .int .i64 0] 26)) hb9); have X1 := Lib.hid (Bx.step (Bx.alloc X1.out (.cells #[.int .i64 0, .int .i64 0] 26)) hb9); have HC := Lib.hid (bstep (Below.alloc HC.out HC.out.size (.cells #[.int .i64 0, .int .i64 0] 26)) hb9); have N_0 := HN.out.cell0; have N_1 := HN.out.cell1; have N_f0 := HN.out.frozen 0; have N_f1 := HN.out.frozen 1; have N_l := HN.out.lt)); clear X0_0 X0_1 X0_l X1_0 X1_1 X1_l; have X0_0 := X0.out.cell0; have X0_1 := X0.out.cell1; have X0_l := X0.out.lt; have X1_0 := X1.out.cell0; have X1_1 := X1.out.cell1; have X1_l := X1.out.lt; clear hb9) | (go_at_call 37; with_reducible show Calls _ _ #[.agg #[.int .i64 a1, .int .i64 e1]] _ _; refine (l_toDy a1 e1 _).mono ?_; rintro e yc ⟨rfl, hb9⟩; (try replace hb9 := undrew hb9); (first | ((with_reducible have hn9 := Bx.step HN.out hb9); have HN := Lib.hid hn9; clear hn9 N_0 N_1 N_f0 N_f1 N_l; (with_reducible have hq9 := bstep HC.out hb9); clear hq9; have X0 := Lib.hid (Bx.step X0.out hb9); have X1 := Lib.hid (Bx.step X1.out hb9); have HC := Lib.hid (bstep HC.out hb9); have N_0 := HN.out.cell0; have N_1 := HN.out.cell1; have N_f0 := HN.out.frozen 0; have N_f1 := HN.out.frozen 1; have N_l := HN.out.lt) | ((with_reducible have hq9 := bstep HC.out hb9); clear hq9; have X0 := Lib.hid (Bx.step X0.out hb9); have X1 := Lib.hid (Bx.step X1.out hb9); have HC := Lib.hid (bstep HC.out hb9)) | (have HN := Lib.hid (Bx.step (Bx.new 26 _ 0 (.int .i64 0)) hb9); have N_g := HC.out.size; have N_q0 := Nat.ne_of_lt X0.out.lt; have N_q1 := Nat.ne_of_lt X1.out.lt; have X0 := Lib.hid (Bx.step (Bx.alloc X0.out (.cells #[.int .i64 0, .int .i64 0] 26)) hb9); have X1 := Lib.hid (Bx.step (Bx.alloc X1.out (.cells #[.int .i64 0, .int .i64 0] 26)) hb9); have HC := Lib.hid (bstep (Below.alloc HC.out HC.out.size (.cells #[.int .i64 0, .int .i64 0] 26)) hb9); have N_0 := HN.out.cell0; have N_1 := HN.out.cell1; have N_f0 := HN.out.frozen 0; have N_f1 := HN.out.frozen 1; have N_l := HN.out.lt)); clear X0_0 X0_1 X0_l X1_0 X1_1 X1_l; have X0_0 := X0.out.cell0; have X0_1 := X0.out.cell1; have X0_l := X0.out.lt; have X1_0 := X1.out.cell0; have X1_1 := X1.out.cell1; have X1_l := X1.out.lt; clear hb9))
    all_goals go_wp2_with fail
    all_goals go_meet
    all_goals first | exact ⟨NewBx.make HC.out, rfl⟩ | exact ⟨NewBx.late HN.out HC.out (by omega), rfl⟩ | exact ⟨NewBx.late2 HC.out, rfl⟩
  case rest =>
    clear HC
    obtain ⟨⟨gq13, rfl, Q12_g, Q12_h, hb11⟩, rfl⟩ := hcut
    clear X0_0 X0_1 X0_l X1_0 X1_1 X1_l
    have X0 := Lib.hid (X0.out.step hb11)
    have X1 := Lib.hid (X1.out.step hb11)
    have HB := Lib.hid (bstep HB.out hb11)
    have Q12 := Lib.hid Q12_h
    clear Q12_h hb11
    have X0_0 := X0.out.cell0
    have X0_1 := X0.out.cell1
    have X0_l := X0.out.lt
    have X1_0 := X1.out.cell0
    have X1_1 := X1.out.cell1
    have X1_l := X1.out.lt
    have Q12_0 := Q12.out.cell0
    have Q12_1 := Q12.out.cell1
    have Q12_l := Q12.out.lt
    go_wp2_with fail
    have HC := Lib.hid (Below.refl wc.heap.size wc)
    go_cut [7, 8] (fun v u wx => (NewBx 26 wc (p) (q) v wx) ∧ u = .bool b)
    case first =>
      go_region_held3 (fun w' => w'.cell? ⟨w.heap.size, 0, none⟩ = some (.int .i64 a0) ∧ w'.cell? ⟨w.heap.size, 1, none⟩ = some (.int .i64 e0) ∧ w'.cell? ⟨w.heap.size + 1, 0, none⟩ = some (.int .i64 a1) ∧ w'.cell? ⟨w.heap.size + 1, 1, none⟩ = some (.int .i64 e1) ∧ w'.cell? ⟨gq13, 0, none⟩ = some (.int .i64 p) ∧ w'.cell? ⟨gq13, 1, none⟩ = some (.int .i64 (q))) (first | exact ⟨X0_0, X0_1, X1_0, X1_1, Q12_0, Q12_1⟩ | go_keep | exact ⟨cell_far (cell_far X0_0 N_q0) N_q0, cell_far (cell_far X0_1 N_q0) N_q0, cell_far (cell_far X1_0 N_q1) N_q1, cell_far (cell_far X1_1 N_q1) N_q1, cell_far (cell_far Q12_0 N_q2) N_q2, cell_far (cell_far Q12_1 N_q2) N_q2⟩) (first | (go_at_call 28; refine (i_simW a0 e0 a1 e1 p q b _ Hp H0).mono ?_; rintro e yc ⟨rfl, hb9⟩; (try replace hb9 := undrew hb9); (first | ((with_reducible have hn9 := Bx.step HN.out hb9); have HN := Lib.hid hn9; clear hn9 N_0 N_1 N_f0 N_f1 N_l; (with_reducible have hq9 := bstep HC.out hb9); clear hq9; have X0 := Lib.hid (Bx.step X0.out hb9); have X1 := Lib.hid (Bx.step X1.out hb9); have Q12 := Lib.hid (Bx.step Q12.out hb9); have HC := Lib.hid (bstep HC.out hb9); have N_0 := HN.out.cell0; have N_1 := HN.out.cell1; have N_f0 := HN.out.frozen 0; have N_f1 := HN.out.frozen 1; have N_l := HN.out.lt) | ((with_reducible have hq9 := bstep HC.out hb9); clear hq9; have X0 := Lib.hid (Bx.step X0.out hb9); have X1 := Lib.hid (Bx.step X1.out hb9); have Q12 := Lib.hid (Bx.step Q12.out hb9); have HC := Lib.hid (bstep HC.out hb9)) | (have HN := Lib.hid (Bx.step (Bx.new 26 _ 0 (.int .i64 0)) hb9); have N_g := HC.out.size; have N_q0 := Nat.ne_of_lt X0.out.lt; have N_q1 := Nat.ne_of_lt X1.out.lt; have N_q2 := Nat.ne_of_lt Q12.out.lt; have X0 := Lib.hid (Bx.step (Bx.alloc X0.out (.cells #[.int .i64 0, .int .i64 0] 26)) hb9); have X1 := Lib.hid (Bx.step (Bx.alloc X1.out (.cells #[.int .i64 0, .int .i64 0] 26)) hb9); have Q12 := Lib.hid (Bx.step (Bx.alloc Q12.out (.cells #[.int .i64 0, .int .i64 0] 26)) hb9); have HC := Lib.hid (bstep (Below.alloc HC.out HC.out.size (.cells #[.int .i64 0, .int .i64 0] 26)) hb9); have N_0 := HN.out.cell0; have N_1 := HN.out.cell1; have N_f0 := HN.out.frozen 0; have N_f1 := HN.out.frozen 1; have N_l := HN.out.lt)); clear X0_0 X0_1 X0_l X1_0 X1_1 X1_l Q12_0 Q12_1 Q12_l; have X0_0 := X0.out.cell0; have X0_1 := X0.out.cell1; have X0_l := X0.out.lt; have X1_0 := X1.out.cell0; have X1_1 := X1.out.cell1; have X1_l := X1.out.lt; have Q12_0 := Q12.out.cell0; have Q12_1 := Q12.out.cell1; have Q12_l := Q12.out.lt; clear hb9) | (go_at_call 37; with_reducible show Calls _ _ #[.agg #[.int .i64 a0, .int .i64 e0]] _ _; refine (l_toDy a0 e0 _).mono ?_; rintro e yc ⟨rfl, hb9⟩; (try replace hb9 := undrew hb9); (first | ((with_reducible have hn9 := Bx.step HN.out hb9); have HN := Lib.hid hn9; clear hn9 N_0 N_1 N_f0 N_f1 N_l; (with_reducible have hq9 := bstep HC.out hb9); clear hq9; have X0 := Lib.hid (Bx.step X0.out hb9); have X1 := Lib.hid (Bx.step X1.out hb9); have Q12 := Lib.hid (Bx.step Q12.out hb9); have HC := Lib.hid (bstep HC.out hb9); have N_0 := HN.out.cell0; have N_1 := HN.out.cell1; have N_f0 := HN.out.frozen 0; have N_f1 := HN.out.frozen 1; have N_l := HN.out.lt) | ((with_reducible have hq9 := bstep HC.out hb9); clear hq9; have X0 := Lib.hid (Bx.step X0.out hb9); have X1 := Lib.hid (Bx.step X1.out hb9); have Q12 := Lib.hid (Bx.step Q12.out hb9); have HC := Lib.hid (bstep HC.out hb9)) | (have HN := Lib.hid (Bx.step (Bx.new 26 _ 0 (.int .i64 0)) hb9); have N_g := HC.out.size; have N_q0 := Nat.ne_of_lt X0.out.lt; have N_q1 := Nat.ne_of_lt X1.out.lt; have N_q2 := Nat.ne_of_lt Q12.out.lt; have X0 := Lib.hid (Bx.step (Bx.alloc X0.out (.cells #[.int .i64 0, .int .i64 0] 26)) hb9); have X1 := Lib.hid (Bx.step (Bx.alloc X1.out (.cells #[.int .i64 0, .int .i64 0] 26)) hb9); have Q12 := Lib.hid (Bx.step (Bx.alloc Q12.out (.cells #[.int .i64 0, .int .i64 0] 26)) hb9); have HC := Lib.hid (bstep (Below.alloc HC.out HC.out.size (.cells #[.int .i64 0, .int .i64 0] 26)) hb9); have N_0 := HN.out.cell0; have N_1 := HN.out.cell1; have N_f0 := HN.out.frozen 0; have N_f1 := HN.out.frozen 1; have N_l := HN.out.lt)); clear X0_0 X0_1 X0_l X1_0 X1_1 X1_l Q12_0 Q12_1 Q12_l; have X0_0 := X0.out.cell0; have X0_1 := X0.out.cell1; have X0_l := X0.out.lt; have X1_0 := X1.out.cell0; have X1_1 := X1.out.cell1; have X1_l := X1.out.lt; have Q12_0 := Q12.out.cell0; have Q12_1 := Q12.out.cell1; have Q12_l := Q12.out.lt; clear hb9) | (go_at_call 37; with_reducible show Calls _ _ #[.agg #[.int .i64 a1, .int .i64 e1]] _ _; refine (l_toDy a1 e1 _).mono ?_; rintro e yc ⟨rfl, hb9⟩; (try replace hb9 := undrew hb9); (first | ((with_reducible have hn9 := Bx.step HN.out hb9); have HN := Lib.hid hn9; clear hn9 N_0 N_1 N_f0 N_f1 N_l; (with_reducible have hq9 := bstep HC.out hb9); clear hq9; have X0 := Lib.hid (Bx.step X0.out hb9); have X1 := Lib.hid (Bx.step X1.out hb9); have Q12 := Lib.hid (Bx.step Q12.out hb9); have HC := Lib.hid (bstep HC.out hb9); have N_0 := HN.out.cell0; have N_1 := HN.out.cell1; have N_f0 := HN.out.frozen 0; have N_f1 := HN.out.frozen 1; have N_l := HN.out.lt) | ((with_reducible have hq9 := bstep HC.out hb9); clear hq9; have X0 := Lib.hid (Bx.step X0.out hb9); have X1 := Lib.hid (Bx.step X1.out hb9); have Q12 := Lib.hid (Bx.step Q12.out hb9); have HC := Lib.hid (bstep HC.out hb9)) | (have HN := Lib.hid (Bx.step (Bx.new 26 _ 0 (.int .i64 0)) hb9); have N_g := HC.out.size; have N_q0 := Nat.ne_of_lt X0.out.lt; have N_q1 := Nat.ne_of_lt X1.out.lt; have N_q2 := Nat.ne_of_lt Q12.out.lt; have X0 := Lib.hid (Bx.step (Bx.alloc X0.out (.cells #[.int .i64 0, .int .i64 0] 26)) hb9); have X1 := Lib.hid (Bx.step (Bx.alloc X1.out (.cells #[.int .i64 0, .int .i64 0] 26)) hb9); have Q12 := Lib.hid (Bx.step (Bx.alloc Q12.out (.cells #[.int .i64 0, .int .i64 0] 26)) hb9); have HC := Lib.hid (bstep (Below.alloc HC.out HC.out.size (.cells #[.int .i64 0, .int .i64 0] 26)) hb9); have N_0 := HN.out.cell0; have N_1 := HN.out.cell1; have N_f0 := HN.out.frozen 0; have N_f1 := HN.out.frozen 1; have N_l := HN.out.lt)); clear X0_0 X0_1 X0_l X1_0 X1_1 X1_l Q12_0 Q12_1 Q12_l; have X0_0 := X0.out.cell0; have X0_1 := X0.out.cell1; have X0_l := X0.out.lt; have X1_0 := X1.out.cell0; have X1_1 := X1.out.cell1; have X1_l := X1.out.lt; have Q12_0 := Q12.out.cell0; have Q12_1 := Q12.out.cell1; have Q12_l := Q12.out.lt; clear hb9))
      all_goals go_wp2_with fail
      all_goals go_meet
      all_goals first | exact ⟨NewBx.make HC.out, rfl⟩ | exact ⟨NewBx.late HN.out HC.out (by omega), rfl⟩ | exact ⟨NewBx.late2 HC.out, rfl⟩
    case rest =>
      clear HC
      obtain ⟨⟨gq16, rfl, Q15_g, Q15_h, hb14⟩, rfl⟩ := hcut
      clear X0_0 X0_1 X0_l X1_0 X1_1 X1_l Q12_0 Q12_1 Q12_l
      have X0 := Lib.hid (X0.out.step hb14)
      have X1 := Lib.hid (X1.out.step hb14)
      have Q12 := Lib.hid (Q12.out.step hb14)
      have HB := Lib.hid (bstep HB.out hb14)
      have Q15 := Lib.hid Q15_h
      clear Q15_h hb14
      have X0_0 := X0.out.cell0
      have X0_1 := X0.out.cell1
      have X0_l := X0.out.lt
      have X1_0 := X1.out.cell0
      have X1_1 := X1.out.cell1
      have X1_l := X1.out.lt
      have Q12_0 := Q12.out.cell0
      have Q12_1 := Q12.out.cell1
      have Q12_l := Q12.out.lt
      have Q15_0 := Q15.out.cell0
      have Q15_1 := Q15.out.cell1
      have Q15_l := Q15.out.lt
      go_wp2_with fail
      refine (l_eqDy p q _).mono ?_
      rintro e x17 ⟨rfl, hb18⟩
      clear X0_0 X0_1 X0_l X1_0 X1_1 X1_l Q12_0 Q12_1 Q12_l Q15_0 Q15_1 Q15_l
      have X0 := Lib.hid (X0.out.step hb18)
      have X1 := Lib.hid (X1.out.step hb18)
      have Q12 := Lib.hid (Q12.out.step hb18)
      have Q15 := Lib.hid (Q15.out.step hb18)
      have HB := Lib.hid (bstep HB.out hb18)
      clear hb18
      have X0_0 := X0.out.cell0
      have X0_1 := X0.out.cell1
      have X0_l := X0.out.lt
      have X1_0 := X1.out.cell0
      have X1_1 := X1.out.cell1
      have X1_l := X1.out.lt
      have Q12_0 := Q12.out.cell0
      have Q12_1 := Q12.out.cell1
      have Q12_l := Q12.out.lt
      have Q15_0 := Q15.out.cell0
      have Q15_1 := Q15.out.cell1
      have Q15_l := Q15.out.lt
      go_wp2_with fail
      go_ret
      exact ⟨rfl, HB.out⟩

set_option maxRecDepth 100000 in
theorem lifted (os : Os) (started : os.Started) (H : Type) (enc : TypeId × Value → H) :
    ReturnsInHanded {} Try.checked os 14 .any (Rows.fnExactSimplestBetweenSpec.pre6 enc Try.prog Try.f14 Rows.fnExactSimplestBetweenRow.domain false) (Rows.fnExactSimplestBetweenSpec.post enc Try.prog Try.f14 false true false false) := by
  refine returnsInHanded_of_change (C := Try.checked) own started (by kernel_rfl) Try.func14
    (ChangeSpec.witness6 (enc := enc) (C := Try.checked) false ⟨#[], #[.agg #[.int .i64 0, .int .i64 0], .agg #[.int .i64 0, .int .i64 0]], []⟩ 8 (by kernel_rfl) (by kernel_rfl) (by kernel_rfl) (by kernel_rfl)) ?_
  intro W base args ds gs before hval0 hW hcnd _
  have hval : ∀ (j : Nat) t v, Try.f14.params[j]? = some t → args[j]? = some v → Value.okWide Try.prog W .any base t v := hval0
  have hW' := hW
  obtain ⟨p, q, hA0, hV, rfl, hfz, hnd⟩ := hW
  have hA : DataW.TrodAll enc Try.prog W 0 (fun _ => true) true Try.f14.params.toList args.toList ds p := hA0
  rw [Try.params14] at hA hval
  obtain ⟨v0, vs0, d0, ds0, p0, q0, hargs, rfl, rfl, h0, r0⟩ := trodAll_cons hA
  obtain ⟨v1, vs1, d1, ds1, p1, q1, rfl, rfl, rfl, h1, r1⟩ := trodAll_cons r0
  obtain ⟨rfl, rfl, rfl⟩ := trodAll_nil r1
  obtain rfl : args = #[v0, v1] := by cases args; simp_all
  obtain ⟨rfl, rfl⟩ := trodVars_none hV
  have k0 := h0
  have lt0 : ∀ x ∈ p0, x.block < W.heap.size := by obtain ⟨m, hm⟩ := k0; exact DataW.trod_lt m _ _ _ hm
  obtain ⟨a0, e0, rfl⟩ := open_dy (hval 0 42 v0 rfl rfl) h0
  have k1 := h1
  have lt1 : ∀ x ∈ p1, x.block < W.heap.size := by obtain ⟨m, hm⟩ := k1; exact DataW.trod_lt m _ _ _ hm
  obtain ⟨a1, e1, rfl⟩ := open_dy (hval 1 42 v1 rfl rfl) h1
  clear hA0 hval0
  refine (walk a0 e0 a1 e1 W ).mono fun e W' ⟨he, bel⟩ => ?_
  subst he
  exact ⟨_, rfl, _, _, _, [], _, [], hW', trodAll_mk1 (shut_bool Try.underlying4 _), (trodAll_cons_mk (Below.trod laidOut (by kernel_rfl) (of_decide_eq_true (by kernel_rfl)) k0 bel lt0) (trodAll_cons_mk (Below.trod laidOut (by kernel_rfl) (of_decide_eq_true (by kernel_rfl)) k1 bel lt1) trodAll_mk0)), rfl, bel.frame _, fun h => by cases h⟩

theorem over : Rows.fnExactSimplestBetweenRow.holds Try.pinned (OpenSpec.ofChange Rows.fnExactSimplestBetweenSpec) :=
  OpenClaim.holds_of_wide 14 Try.f14 rfl rfl rfl rfl rfl rfl rfl ⟨rfl, rfl, rfl, rfl, rfl⟩ rfl rfl rfl rfl rfl (by kernel_rfl) Try.func14 (by kernel_rfl)
    (of_decide_eq_true (by kernel_rfl)) (by unfold Func.isWrapper; first | (rw [if_pos (by decide +kernel)]; kernel_rfl) | (rw [if_neg (by decide +kernel)]; exact ⟨rfl, rfl⟩))
    (fun os started H enc _ => lifted os started H enc)

theorem proved : Rows.FnExactSimplestBetweenSaid := over
end Go.Proofs.Ytocjlhlohlkkmaa.fnExactSimplestBetween
