/-
  The order is total: the law of CompareDyadic holds for every code. No condition.
-/
import Derived.Test.YtocjlhlohlkkmaaRows
import Derived.Test.YtocjlhlohlkkmaaDyL
import Derived.Test.YtocjlhlohlkkmaaDyF
import Derived.Test.YtocjlhlohlkkmaaDyB
import Derived.Deep.RegionHeld3
import Derived.Deep.DeepCutAuto
import Derived.BigQuiet
import Derived.WalkKit
import Derived.ProofKit
import Derived.OpenShut
import Derived.ShutString
import Derived.ChangeOld
import Derived.Below
namespace Go.Proofs.Ytocjlhlohlkkmaa.fnCompareDyadic
set_option maxRecDepth 100000
open Go.ChangeShapes Go.WideShapes Go.ChangeAt Go.RowKit
open Go.ChangeMaps (open_string shut_string)
set_option linter.unusedVariables false

theorem own : ownKnob Try.prog.godebug = none := by kernel_rfl
theorem laidOut : laidOutB Try.prog = true := by kernel_rfl


set_option maxRecDepth 100000 in
set_option maxHeartbeats 32000000 in
theorem walk (a0 : Option Addr) (len0 cap0 : Nat) (z0 : List Int) (w : World) (w0 : IsRow .u8 w a0 len0 cap0 z0) :
    Calls Try.prog 5 #[.slice a0 len0 cap0] w fun e w' => e = .returned (.bool true) ∧ Below w.heap.size w w' := by
  by_cases hl : 1048576 < len0
  · go_enter Try.func5, Try.ntmps5
    go_wp2_with fail
    go_ret
    exact ⟨rfl, Below.refl _ _⟩
  · have hl' : decide ((1048576 : Int) < (len0 : Int)) = false := by rw [decide_eq_false_iff_not]; omega
    go_enter Try.func5, Try.ntmps5
    go_wp2_with fail
    refine (d_cm w a0 len0 cap0 z0 w0).mono ?_
    rintro e0 y0 ⟨x, y, u, v, rfl, hb⟩
    have HB := Lib.hid hb
    clear hb w0 hl'
    obtain ⟨c, hc⟩ : ∃ c, Dy.cmp x y u v = c := ⟨_, rfl⟩
    have Hc := Lib.hid hc
    go_wp2_with fail
    obtain ⟨x1, hy3, hb2, z4, z5⟩ := new_box y0 (.cells #[.int .i64 x, .int .i64 y] 26)
    have X3 : Hid (Bx 26 x1 y0.heap.size x (.int .i64 y)) := Lib.hid (by rw [hy3]; exact Bx.new _ _ _ _)
    rw [← hy3]
    clear hy3
    have HB := Lib.hid (bstep HB.out hb2)
    clear hb2
    have X3_0 := X3.out.cell0
    have X3_1 := X3.out.cell1
    have X3_l := X3.out.lt
    obtain ⟨x6, hy8, hb7, z9, z10⟩ := new_box x1 (.cells #[.int .i64 u, .int .i64 v] 26)
    have X4 : Hid (Bx 26 x6 x1.heap.size u (.int .i64 v)) := Lib.hid (by rw [hy8]; exact Bx.new _ _ _ _)
    rw [← hy8]
    clear hy8
    clear X3_0 X3_1 X3_l
    have X3 := Lib.hid (X3.out.step hb7)
    have HB := Lib.hid (bstep HB.out hb7)
    clear hb7
    have X3_0 := X3.out.cell0
    have X3_1 := X3.out.cell1
    have X3_l := X3.out.lt
    have X4_0 := X4.out.cell0
    have X4_1 := X4.out.cell1
    have X4_l := X4.out.lt
    clear X4_0 X4_1 X4_l
    have X4 : Hid (Bx 26 x6 (y0.heap.size + 1) u (.int .i64 v)) := Lib.hid (by have h := X4.out; rw [show x1.heap.size = y0.heap.size + 1 by omega] at h; exact h)
    have X4_0 := X4.out.cell0
    have X4_1 := X4.out.cell1
    have X4_l := X4.out.lt
    go_wp2_with fail
    refine (i_cmpW x y u v c _ Hc).mono ?_
    rintro e x11 ⟨rfl, hb12⟩
    clear X3_0 X3_1 X3_l X4_0 X4_1 X4_l
    have X3 := Lib.hid (X3.out.step hb12)
    have X4 := Lib.hid (X4.out.step hb12)
    have HB := Lib.hid (bstep HB.out hb12)
    clear hb12
    have X3_0 := X3.out.cell0
    have X3_1 := X3.out.cell1
    have X3_l := X3.out.lt
    have X4_0 := X4.out.cell0
    have X4_1 := X4.out.cell1
    have X4_l := X4.out.lt
    go_wp2_with fail
    refine (s_cmpW x y u v c _ Hc).mono ?_
    rintro e x14 ⟨rfl, hb15⟩
    clear X3_0 X3_1 X3_l X4_0 X4_1 X4_l
    have X3 := Lib.hid (X3.out.step hb15)
    have X4 := Lib.hid (X4.out.step hb15)
    have HB := Lib.hid (bstep HB.out hb15)
    clear hb15
    have X3_0 := X3.out.cell0
    have X3_1 := X3.out.cell1
    have X3_l := X3.out.lt
    have X4_0 := X4.out.cell0
    have X4_1 := X4.out.cell1
    have X4_l := X4.out.lt
    by_cases h2 : c = 2
    · have hcb : (c == 2) = true := by simpa using h2
      clear h2 hc
      go_wp2_with fail
      refine (s_cmpW x y u v c _ Hc).mono ?_
      rintro e x117 ⟨rfl, hb118⟩
      clear X3_0 X3_1 X3_l X4_0 X4_1 X4_l
      have X3 := Lib.hid (X3.out.step hb118)
      have X4 := Lib.hid (X4.out.step hb118)
      have HB := Lib.hid (bstep HB.out hb118)
      clear hb118
      have X3_0 := X3.out.cell0
      have X3_1 := X3.out.cell1
      have X3_l := X3.out.lt
      have X4_0 := X4.out.cell0
      have X4_1 := X4.out.cell1
      have X4_l := X4.out.lt
      go_wp2_with fail
      go_ret
      exact ⟨rfl, HB.out⟩
    · obtain ⟨o1, o2, hcc⟩ := Dy.cmp_cases hc h2
      have hz0 := Dy.cmp_zero o1 o2
      rw [hc] at hz0
      have Hsw := Lib.hid ((Dy.cmp_swap o1 o2).trans (by rw [hc]))
      clear hc
      obtain ⟨⟨u1, u2, _, _⟩, _⟩ := Dy.ok_iff.1 o2
      obtain ⟨⟨⟨p, q⟩, b⟩, hp⟩ : ∃ r, Dy.ad x y (-u) v = r := ⟨_, rfl⟩
      have Hp := Lib.hid hp
      have hz : b = true → Dy.cmp p q 0 0 = c := fun h1 => by
        subst h1
        obtain ⟨a1, a2⟩ := Dy.ad_true hp
        have := Dy.cmp_diff o1 o2 a1
        rw [a2] at this
        exact this.trans Hc.out
      have Hz := Lib.hid hz
      clear hz hp o1 o2
      have hcase : (c = 0 ∧ x = u ∧ y = v) ∨ ((c = -1 ∨ c = 1) ∧ x ≠ u) ∨ ((c = -1 ∨ c = 1) ∧ x = u ∧ y ≠ v) := by
        by_cases hxu : x = u
        · by_cases hyv : y = v
          · exact .inl ⟨hz0.2 ⟨hxu, hyv⟩, hxu, hyv⟩
          · exact .inr (.inr ⟨by have : c ≠ 0 := fun h => hyv (hz0.1 h).2; omega, hxu, hyv⟩)
        · exact .inr (.inl ⟨by have : c ≠ 0 := fun h => hxu (hz0.1 h).1; omega, hxu⟩)
      clear hz0 hcc h2
      rcases hcase with ⟨rfl, rfl, rfl⟩ | ⟨rfl | rfl, hne⟩ | ⟨rfl | rfl, rfl, hne⟩
      · have Hs2 : Hid (Dy.cmp x y x y = 0) := Lib.hid (by have := Hsw.out; simpa using this)
        clear Hsw
        go_wp2_with fail
        have HC := Lib.hid (Below.refl x14.heap.size x14)
        go_cut [6, 7] (fun v u wx => (NewBx 26 x14 (p) (q) v wx) ∧ u = .bool b)
        case first =>
          go_region_held3 (fun w' => w'.cell? ⟨y0.heap.size, 0, none⟩ = some (.int .i64 x) ∧ w'.cell? ⟨y0.heap.size, 1, none⟩ = some (.int .i64 y) ∧ w'.cell? ⟨y0.heap.size + 1, 0, none⟩ = some (.int .i64 x) ∧ w'.cell? ⟨y0.heap.size + 1, 1, none⟩ = some (.int .i64 y)) (first | exact ⟨X3_0, X3_1, X4_0, X4_1⟩ | go_keep | exact ⟨cell_far (cell_far X3_0 N_q0) N_q0, cell_far (cell_far X3_1 N_q0) N_q0, cell_far (cell_far X4_0 N_q1) N_q1, cell_far (cell_far X4_1 N_q1) N_q1⟩) (first | (go_at_call 21; refine (i_addW x y (-x) y p q b _ Hp).mono ?_; rintro e yc ⟨rfl, hb9⟩; (try replace hb9 := undrew hb9); (first | ((with_reducible have hn9 := Bx.step HN.out hb9); have HN := Lib.hid hn9; clear hn9 N_0 N_1 N_f0 N_f1 N_l; (with_reducible have hq9 := bstep HC.out hb9); clear hq9; have X3 := Lib.hid (Bx.step X3.out hb9); have X4 := Lib.hid (Bx.step X4.out hb9); have HC := Lib.hid (bstep HC.out hb9); have N_0 := HN.out.cell0; have N_1 := HN.out.cell1; have N_f0 := HN.out.frozen 0; have N_f1 := HN.out.frozen 1; have N_l := HN.out.lt) | ((with_reducible have hq9 := bstep HC.out hb9); clear hq9; have X3 := Lib.hid (Bx.step X3.out hb9); have X4 := Lib.hid (Bx.step X4.out hb9); have HC := Lib.hid (bstep HC.out hb9)) | (have HN := Lib.hid (Bx.step (Bx.new 26 _ 0 (.int .i64 0)) hb9); have N_g := HC.out.size; have N_q0 := Nat.ne_of_lt X3.out.lt; have N_q1 := Nat.ne_of_lt X4.out.lt; have X3 := Lib.hid (Bx.step (Bx.alloc X3.out (.cells #[.int .i64 0, .int .i64 0] 26)) hb9); have X4 := Lib.hid (Bx.step (Bx.alloc X4.out (.cells #[.int .i64 0, .int .i64 0] 26)) hb9); have HC := Lib.hid (bstep (Below.alloc HC.out HC.out.size (.cells #[.int .i64 0, .int .i64 0] 26)) hb9); have N_0 := HN.out.cell0; have N_1 := HN.out.cell1; have N_f0 := HN.out.frozen 0; have N_f1 := HN.out.frozen 1; have N_l := HN.out.lt)); clear X3_0 X3_1 X3_l X4_0 X4_1 X4_l; have X3_0 := X3.out.cell0; have X3_1 := X3.out.cell1; have X3_l := X3.out.lt; have X4_0 := X4.out.cell0; have X4_1 := X4.out.cell1; have X4_l := X4.out.lt; clear hb9) | (go_at_call 23; refine (l_minus x y _ u1 u2).mono ?_; rintro e yc ⟨rfl, hb9⟩; (try replace hb9 := undrew hb9); (first | ((with_reducible have hn9 := Bx.step HN.out hb9); have HN := Lib.hid hn9; clear hn9 N_0 N_1 N_f0 N_f1 N_l; (with_reducible have hq9 := bstep HC.out hb9); clear hq9; have X3 := Lib.hid (Bx.step X3.out hb9); have X4 := Lib.hid (Bx.step X4.out hb9); have HC := Lib.hid (bstep HC.out hb9); have N_0 := HN.out.cell0; have N_1 := HN.out.cell1; have N_f0 := HN.out.frozen 0; have N_f1 := HN.out.frozen 1; have N_l := HN.out.lt) | ((with_reducible have hq9 := bstep HC.out hb9); clear hq9; have X3 := Lib.hid (Bx.step X3.out hb9); have X4 := Lib.hid (Bx.step X4.out hb9); have HC := Lib.hid (bstep HC.out hb9)) | (have HN := Lib.hid (Bx.step (Bx.new 26 _ 0 (.int .i64 0)) hb9); have N_g := HC.out.size; have N_q0 := Nat.ne_of_lt X3.out.lt; have N_q1 := Nat.ne_of_lt X4.out.lt; have X3 := Lib.hid (Bx.step (Bx.alloc X3.out (.cells #[.int .i64 0, .int .i64 0] 26)) hb9); have X4 := Lib.hid (Bx.step (Bx.alloc X4.out (.cells #[.int .i64 0, .int .i64 0] 26)) hb9); have HC := Lib.hid (bstep (Below.alloc HC.out HC.out.size (.cells #[.int .i64 0, .int .i64 0] 26)) hb9); have N_0 := HN.out.cell0; have N_1 := HN.out.cell1; have N_f0 := HN.out.frozen 0; have N_f1 := HN.out.frozen 1; have N_l := HN.out.lt)); clear X3_0 X3_1 X3_l X4_0 X4_1 X4_l; have X3_0 := X3.out.cell0; have X3_1 := X3.out.cell1; have X3_l := X3.out.lt; have X4_0 := X4.out.cell0; have X4_1 := X4.out.cell1; have X4_l := X4.out.lt; clear hb9))
          all_goals go_wp2_with fail
          all_goals go_meet
          all_goals first | exact ⟨NewBx.make HC.out, rfl⟩ | exact ⟨NewBx.late HN.out HC.out (by omega), rfl⟩ | exact ⟨NewBx.late2 HC.out, rfl⟩
        case rest =>
          clear HC
          obtain ⟨⟨gq519, rfl, Q518_g, Q518_h, hb517⟩, rfl⟩ := hcut
          clear X3_0 X3_1 X3_l X4_0 X4_1 X4_l
          have X3 := Lib.hid (X3.out.step hb517)
          have X4 := Lib.hid (X4.out.step hb517)
          have HB := Lib.hid (bstep HB.out hb517)
          have Q518 := Lib.hid Q518_h
          clear Q518_h hb517
          have X3_0 := X3.out.cell0
          have X3_1 := X3.out.cell1
          have X3_l := X3.out.lt
          have X4_0 := X4.out.cell0
          have X4_1 := X4.out.cell1
          have X4_l := X4.out.lt
          have Q518_0 := Q518.out.cell0
          have Q518_1 := Q518.out.cell1
          have Q518_l := Q518.out.lt
          go_wp2_with fail
          refine (i_cmpW x y x y 0 _ Hs2).mono ?_
          rintro e x520 ⟨rfl, hb521⟩
          clear X3_0 X3_1 X3_l X4_0 X4_1 X4_l Q518_0 Q518_1 Q518_l
          have X3 := Lib.hid (X3.out.step hb521)
          have X4 := Lib.hid (X4.out.step hb521)
          have Q518 := Lib.hid (Q518.out.step hb521)
          have HB := Lib.hid (bstep HB.out hb521)
          clear hb521
          have X3_0 := X3.out.cell0
          have X3_1 := X3.out.cell1
          have X3_l := X3.out.lt
          have X4_0 := X4.out.cell0
          have X4_1 := X4.out.cell1
          have X4_l := X4.out.lt
          have Q518_0 := Q518.out.cell0
          have Q518_1 := Q518.out.cell1
          have Q518_l := Q518.out.lt
          cases b with
          | false =>
            clear Hz
            go_wp2_with fail
            go_ret
            exact ⟨rfl, HB.out⟩
          | true =>
            have Hw := Lib.hid (Hz.out rfl)
            clear Hz
            go_wp2_with fail
            refine (i_cmpW p q 0 0 0 _ Hw).mono ?_
            rintro e x723 ⟨rfl, hb724⟩
            clear X3_0 X3_1 X3_l X4_0 X4_1 X4_l Q518_0 Q518_1 Q518_l
            have X3 := Lib.hid (X3.out.step hb724)
            have X4 := Lib.hid (X4.out.step hb724)
            have Q518 := Lib.hid (Q518.out.step hb724)
            have HB := Lib.hid (bstep HB.out hb724)
            clear hb724
            have X3_0 := X3.out.cell0
            have X3_1 := X3.out.cell1
            have X3_l := X3.out.lt
            have X4_0 := X4.out.cell0
            have X4_1 := X4.out.cell1
            have X4_l := X4.out.lt
            have Q518_0 := Q518.out.cell0
            have Q518_1 := Q518.out.cell1
            have Q518_l := Q518.out.lt
            go_wp2_with fail
            go_ret
            exact ⟨rfl, HB.out⟩
      · have hq : (x == u) = false := by simpa using hne
        clear hne
        have Hs2 : Hid (Dy.cmp u v x y = 1) := Lib.hid (by have := Hsw.out; simpa using this)
        clear Hsw
        go_wp2_with fail
        have HC := Lib.hid (Below.refl x14.heap.size x14)
        go_cut [6, 7] (fun v u wx => (NewBx 26 x14 (p) (q) v wx) ∧ u = .bool b)
        case first =>
          go_region_held3 (fun w' => w'.cell? ⟨y0.heap.size, 0, none⟩ = some (.int .i64 x) ∧ w'.cell? ⟨y0.heap.size, 1, none⟩ = some (.int .i64 y) ∧ w'.cell? ⟨y0.heap.size + 1, 0, none⟩ = some (.int .i64 u) ∧ w'.cell? ⟨y0.heap.size + 1, 1, none⟩ = some (.int .i64 v)) (first | exact ⟨X3_0, X3_1, X4_0, X4_1⟩ | go_keep | exact ⟨cell_far (cell_far X3_0 N_q0) N_q0, cell_far (cell_far X3_1 N_q0) N_q0, cell_far (cell_far X4_0 N_q1) N_q1, cell_far (cell_far X4_1 N_q1) N_q1⟩) (first | (go_at_call 21; refine (i_addW x y (-u) v p q b _ Hp).mono ?_; rintro e yc ⟨rfl, hb9⟩; (try replace hb9 := undrew hb9); (first | ((with_reducible have hn9 := Bx.step HN.out hb9); have HN := Lib.hid hn9; clear hn9 N_0 N_1 N_f0 N_f1 N_l; (with_reducible have hq9 := bstep HC.out hb9); clear hq9; have X3 := Lib.hid (Bx.step X3.out hb9); have X4 := Lib.hid (Bx.step X4.out hb9); have HC := Lib.hid (bstep HC.out hb9); have N_0 := HN.out.cell0; have N_1 := HN.out.cell1; have N_f0 := HN.out.frozen 0; have N_f1 := HN.out.frozen 1; have N_l := HN.out.lt) | ((with_reducible have hq9 := bstep HC.out hb9); clear hq9; have X3 := Lib.hid (Bx.step X3.out hb9); have X4 := Lib.hid (Bx.step X4.out hb9); have HC := Lib.hid (bstep HC.out hb9)) | (have HN := Lib.hid (Bx.step (Bx.new 26 _ 0 (.int .i64 0)) hb9); have N_g := HC.out.size; have N_q0 := Nat.ne_of_lt X3.out.lt; have N_q1 := Nat.ne_of_lt X4.out.lt; have X3 := Lib.hid (Bx.step (Bx.alloc X3.out (.cells #[.int .i64 0, .int .i64 0] 26)) hb9); have X4 := Lib.hid (Bx.step (Bx.alloc X4.out (.cells #[.int .i64 0, .int .i64 0] 26)) hb9); have HC := Lib.hid (bstep (Below.alloc HC.out HC.out.size (.cells #[.int .i64 0, .int .i64 0] 26)) hb9); have N_0 := HN.out.cell0; have N_1 := HN.out.cell1; have N_f0 := HN.out.frozen 0; have N_f1 := HN.out.frozen 1; have N_l := HN.out.lt)); clear X3_0 X3_1 X3_l X4_0 X4_1 X4_l; have X3_0 := X3.out.cell0; have X3_1 := X3.out.cell1; have X3_l := X3.out.lt; have X4_0 := X4.out.cell0; have X4_1 := X4.out.cell1; have X4_l := X4.out.lt; clear hb9) | (go_at_call 23; refine (l_minus u v _ u1 u2).mono ?_; rintro e yc ⟨rfl, hb9⟩; (try replace hb9 := undrew hb9); (first | ((with_reducible have hn9 := Bx.step HN.out hb9); have HN := Lib.hid hn9; clear hn9 N_0 N_1 N_f0 N_f1 N_l; (with_reducible have hq9 := bstep HC.out hb9); clear hq9; have X3 := Lib.hid (Bx.step X3.out hb9); have X4 := Lib.hid (Bx.step X4.out hb9); have HC := Lib.hid (bstep HC.out hb9); have N_0 := HN.out.cell0; have N_1 := HN.out.cell1; have N_f0 := HN.out.frozen 0; have N_f1 := HN.out.frozen 1; have N_l := HN.out.lt) | ((with_reducible have hq9 := bstep HC.out hb9); clear hq9; have X3 := Lib.hid (Bx.step X3.out hb9); have X4 := Lib.hid (Bx.step X4.out hb9); have HC := Lib.hid (bstep HC.out hb9)) | (have HN := Lib.hid (Bx.step (Bx.new 26 _ 0 (.int .i64 0)) hb9); have N_g := HC.out.size; have N_q0 := Nat.ne_of_lt X3.out.lt; have N_q1 := Nat.ne_of_lt X4.out.lt; have X3 := Lib.hid (Bx.step (Bx.alloc X3.out (.cells #[.int .i64 0, .int .i64 0] 26)) hb9); have X4 := Lib.hid (Bx.step (Bx.alloc X4.out (.cells #[.int .i64 0, .int .i64 0] 26)) hb9); have HC := Lib.hid (bstep (Below.alloc HC.out HC.out.size (.cells #[.int .i64 0, .int .i64 0] 26)) hb9); have N_0 := HN.out.cell0; have N_1 := HN.out.cell1; have N_f0 := HN.out.frozen 0; have N_f1 := HN.out.frozen 1; have N_l := HN.out.lt)); clear X3_0 X3_1 X3_l X4_0 X4_1 X4_l; have X3_0 := X3.out.cell0; have X3_1 := X3.out.cell1; have X3_l := X3.out.lt; have X4_0 := X4.out.cell0; have X4_1 := X4.out.cell1; have X4_l := X4.out.lt; clear hb9))
          all_goals go_wp2_with fail
          all_goals go_meet
          all_goals first | exact ⟨NewBx.make HC.out, rfl⟩ | exact ⟨NewBx.late HN.out HC.out (by omega), rfl⟩ | exact ⟨NewBx.late2 HC.out, rfl⟩
        case rest =>
          clear HC
          obtain ⟨⟨gq819, rfl, Q818_g, Q818_h, hb817⟩, rfl⟩ := hcut
          clear X3_0 X3_1 X3_l X4_0 X4_1 X4_l
          have X3 := Lib.hid (X3.out.step hb817)
          have X4 := Lib.hid (X4.out.step hb817)
          have HB := Lib.hid (bstep HB.out hb817)
          have Q818 := Lib.hid Q818_h
          clear Q818_h hb817
          have X3_0 := X3.out.cell0
          have X3_1 := X3.out.cell1
          have X3_l := X3.out.lt
          have X4_0 := X4.out.cell0
          have X4_1 := X4.out.cell1
          have X4_l := X4.out.lt
          have Q818_0 := Q818.out.cell0
          have Q818_1 := Q818.out.cell1
          have Q818_l := Q818.out.lt
          go_wp2_with fail
          refine (i_cmpW u v x y 1 _ Hs2).mono ?_
          rintro e x820 ⟨rfl, hb821⟩
          clear X3_0 X3_1 X3_l X4_0 X4_1 X4_l Q818_0 Q818_1 Q818_l
          have X3 := Lib.hid (X3.out.step hb821)
          have X4 := Lib.hid (X4.out.step hb821)
          have Q818 := Lib.hid (Q818.out.step hb821)
          have HB := Lib.hid (bstep HB.out hb821)
          clear hb821
          have X3_0 := X3.out.cell0
          have X3_1 := X3.out.cell1
          have X3_l := X3.out.lt
          have X4_0 := X4.out.cell0
          have X4_1 := X4.out.cell1
          have X4_l := X4.out.lt
          have Q818_0 := Q818.out.cell0
          have Q818_1 := Q818.out.cell1
          have Q818_l := Q818.out.lt
          cases b with
          | false =>
            clear Hz
            go_wp2_with fail
            go_ret
            exact ⟨rfl, HB.out⟩
          | true =>
            have Hw := Lib.hid (Hz.out rfl)
            clear Hz
            go_wp2_with fail
            refine (i_cmpW p q 0 0 (-1) _ Hw).mono ?_
            rintro e x1023 ⟨rfl, hb1024⟩
            clear X3_0 X3_1 X3_l X4_0 X4_1 X4_l Q818_0 Q818_1 Q818_l
            have X3 := Lib.hid (X3.out.step hb1024)
            have X4 := Lib.hid (X4.out.step hb1024)
            have Q818 := Lib.hid (Q818.out.step hb1024)
            have HB := Lib.hid (bstep HB.out hb1024)
            clear hb1024
            have X3_0 := X3.out.cell0
            have X3_1 := X3.out.cell1
            have X3_l := X3.out.lt
            have X4_0 := X4.out.cell0
            have X4_1 := X4.out.cell1
            have X4_l := X4.out.lt
            have Q818_0 := Q818.out.cell0
            have Q818_1 := Q818.out.cell1
            have Q818_l := Q818.out.lt
            go_wp2_with fail
            go_ret
            exact ⟨rfl, HB.out⟩
      · have hq : (x == u) = false := by simpa using hne
        clear hne
        have Hs2 : Hid (Dy.cmp u v x y = (-1)) := Lib.hid (by have := Hsw.out; simpa using this)
        clear Hsw
        go_wp2_with fail
        have HC := Lib.hid (Below.refl x14.heap.size x14)
        go_cut [6, 7] (fun v u wx => (NewBx 26 x14 (p) (q) v wx) ∧ u = .bool b)
        case first =>
          go_region_held3 (fun w' => w'.cell? ⟨y0.heap.size, 0, none⟩ = some (.int .i64 x) ∧ w'.cell? ⟨y0.heap.size, 1, none⟩ = some (.int .i64 y) ∧ w'.cell? ⟨y0.heap.size + 1, 0, none⟩ = some (.int .i64 u) ∧ w'.cell? ⟨y0.heap.size + 1, 1, none⟩ = some (.int .i64 v)) (first | exact ⟨X3_0, X3_1, X4_0, X4_1⟩ | go_keep | exact ⟨cell_far (cell_far X3_0 N_q0) N_q0, cell_far (cell_far X3_1 N_q0) N_q0, cell_far (cell_far X4_0 N_q1) N_q1, cell_far (cell_far X4_1 N_q1) N_q1⟩) (first | (go_at_call 21; refine (i_addW x y (-u) v p q b _ Hp).mono ?_; rintro e yc ⟨rfl, hb9⟩; (try replace hb9 := undrew hb9); (first | ((with_reducible have hn9 := Bx.step HN.out hb9); have HN := Lib.hid hn9; clear hn9 N_0 N_1 N_f0 N_f1 N_l; (with_reducible have hq9 := bstep HC.out hb9); clear hq9; have X3 := Lib.hid (Bx.step X3.out hb9); have X4 := Lib.hid (Bx.step X4.out hb9); have HC := Lib.hid (bstep HC.out hb9); have N_0 := HN.out.cell0; have N_1 := HN.out.cell1; have N_f0 := HN.out.frozen 0; have N_f1 := HN.out.frozen 1; have N_l := HN.out.lt) | ((with_reducible have hq9 := bstep HC.out hb9); clear hq9; have X3 := Lib.hid (Bx.step X3.out hb9); have X4 := Lib.hid (Bx.step X4.out hb9); have HC := Lib.hid (bstep HC.out hb9)) | (have HN := Lib.hid (Bx.step (Bx.new 26 _ 0 (.int .i64 0)) hb9); have N_g := HC.out.size; have N_q0 := Nat.ne_of_lt X3.out.lt; have N_q1 := Nat.ne_of_lt X4.out.lt; have X3 := Lib.hid (Bx.step (Bx.alloc X3.out (.cells #[.int .i64 0, .int .i64 0] 26)) hb9); have X4 := Lib.hid (Bx.step (Bx.alloc X4.out (.cells #[.int .i64 0, .int .i64 0] 26)) hb9); have HC := Lib.hid (bstep (Below.alloc HC.out HC.out.size (.cells #[.int .i64 0, .int .i64 0] 26)) hb9); have N_0 := HN.out.cell0; have N_1 := HN.out.cell1; have N_f0 := HN.out.frozen 0; have N_f1 := HN.out.frozen 1; have N_l := HN.out.lt)); clear X3_0 X3_1 X3_l X4_0 X4_1 X4_l; have X3_0 := X3.out.cell0; have X3_1 := X3.out.cell1; have X3_l := X3.out.lt; have X4_0 := X4.out.cell0; have X4_1 := X4.out.cell1; have X4_l := X4.out.lt; clear hb9) | (go_at_call 23; refine (l_minus u v _ u1 u2).mono ?_; rintro e yc ⟨rfl, hb9⟩; (try replace hb9 := undrew hb9); (first | ((with_reducible have hn9 := Bx.step HN.out hb9); have HN := Lib.hid hn9; clear hn9 N_0 N_1 N_f0 N_f1 N_l; (with_reducible have hq9 := bstep HC.out hb9); clear hq9; have X3 := Lib.hid (Bx.step X3.out hb9); have X4 := Lib.hid (Bx.step X4.out hb9); have HC := Lib.hid (bstep HC.out hb9); have N_0 := HN.out.cell0; have N_1 := HN.out.cell1; have N_f0 := HN.out.frozen 0; have N_f1 := HN.out.frozen 1; have N_l := HN.out.lt) | ((with_reducible have hq9 := bstep HC.out hb9); clear hq9; have X3 := Lib.hid (Bx.step X3.out hb9); have X4 := Lib.hid (Bx.step X4.out hb9); have HC := Lib.hid (bstep HC.out hb9)) | (have HN := Lib.hid (Bx.step (Bx.new 26 _ 0 (.int .i64 0)) hb9); have N_g := HC.out.size; have N_q0 := Nat.ne_of_lt X3.out.lt; have N_q1 := Nat.ne_of_lt X4.out.lt; have X3 := Lib.hid (Bx.step (Bx.alloc X3.out (.cells #[.int .i64 0, .int .i64 0] 26)) hb9); have X4 := Lib.hid (Bx.step (Bx.alloc X4.out (.cells #[.int .i64 0, .int .i64 0] 26)) hb9); have HC := Lib.hid (bstep (Below.alloc HC.out HC.out.size (.cells #[.int .i64 0, .int .i64 0] 26)) hb9); have N_0 := HN.out.cell0; have N_1 := HN.out.cell1; have N_f0 := HN.out.frozen 0; have N_f1 := HN.out.frozen 1; have N_l := HN.out.lt)); clear X3_0 X3_1 X3_l X4_0 X4_1 X4_l; have X3_0 := X3.out.cell0; have X3_1 := X3.out.cell1; have X3_l := X3.out.lt; have X4_0 := X4.out.cell0; have X4_1 := X4.out.cell1; have X4_l := X4.out.lt; clear hb9))
          all_goals go_wp2_with fail
          all_goals go_meet
          all_goals first | exact ⟨NewBx.make HC.out, rfl⟩ | exact ⟨NewBx.late HN.out HC.out (by omega), rfl⟩ | exact ⟨NewBx.late2 HC.out, rfl⟩
        case rest =>
          clear HC
          obtain ⟨⟨gq1119, rfl, Q1118_g, Q1118_h, hb1117⟩, rfl⟩ := hcut
          clear X3_0 X3_1 X3_l X4_0 X4_1 X4_l
          have X3 := Lib.hid (X3.out.step hb1117)
          have X4 := Lib.hid (X4.out.step hb1117)
          have HB := Lib.hid (bstep HB.out hb1117)
          have Q1118 := Lib.hid Q1118_h
          clear Q1118_h hb1117
          have X3_0 := X3.out.cell0
          have X3_1 := X3.out.cell1
          have X3_l := X3.out.lt
          have X4_0 := X4.out.cell0
          have X4_1 := X4.out.cell1
          have X4_l := X4.out.lt
          have Q1118_0 := Q1118.out.cell0
          have Q1118_1 := Q1118.out.cell1
          have Q1118_l := Q1118.out.lt
          go_wp2_with fail
          refine (i_cmpW u v x y (-1) _ Hs2).mono ?_
          rintro e x1120 ⟨rfl, hb1121⟩
          clear X3_0 X3_1 X3_l X4_0 X4_1 X4_l Q1118_0 Q1118_1 Q1118_l
          have X3 := Lib.hid (X3.out.step hb1121)
          have X4 := Lib.hid (X4.out.step hb1121)
          have Q1118 := Lib.hid (Q1118.out.step hb1121)
          have HB := Lib.hid (bstep HB.out hb1121)
          clear hb1121
          have X3_0 := X3.out.cell0
          have X3_1 := X3.out.cell1
          have X3_l := X3.out.lt
          have X4_0 := X4.out.cell0
          have X4_1 := X4.out.cell1
          have X4_l := X4.out.lt
          have Q1118_0 := Q1118.out.cell0
          have Q1118_1 := Q1118.out.cell1
          have Q1118_l := Q1118.out.lt
          cases b with
          | false =>
            clear Hz
            go_wp2_with fail
            go_ret
            exact ⟨rfl, HB.out⟩
          | true =>
            have Hw := Lib.hid (Hz.out rfl)
            clear Hz
            go_wp2_with fail
            refine (i_cmpW p q 0 0 1 _ Hw).mono ?_
            rintro e x1323 ⟨rfl, hb1324⟩
            clear X3_0 X3_1 X3_l X4_0 X4_1 X4_l Q1118_0 Q1118_1 Q1118_l
            have X3 := Lib.hid (X3.out.step hb1324)
            have X4 := Lib.hid (X4.out.step hb1324)
            have Q1118 := Lib.hid (Q1118.out.step hb1324)
            have HB := Lib.hid (bstep HB.out hb1324)
            clear hb1324
            have X3_0 := X3.out.cell0
            have X3_1 := X3.out.cell1
            have X3_l := X3.out.lt
            have X4_0 := X4.out.cell0
            have X4_1 := X4.out.cell1
            have X4_l := X4.out.lt
            have Q1118_0 := Q1118.out.cell0
            have Q1118_1 := Q1118.out.cell1
            have Q1118_l := Q1118.out.lt
            go_wp2_with fail
            go_ret
            exact ⟨rfl, HB.out⟩
      · have hq : (y == v) = false := by simpa using hne
        clear hne
        have Hs2 : Hid (Dy.cmp x v x y = 1) := Lib.hid (by have := Hsw.out; simpa using this)
        clear Hsw
        go_wp2_with fail
        have HC := Lib.hid (Below.refl x14.heap.size x14)
        go_cut [6, 7] (fun v u wx => (NewBx 26 x14 (p) (q) v wx) ∧ u = .bool b)
        case first =>
          go_region_held3 (fun w' => w'.cell? ⟨y0.heap.size, 0, none⟩ = some (.int .i64 x) ∧ w'.cell? ⟨y0.heap.size, 1, none⟩ = some (.int .i64 y) ∧ w'.cell? ⟨y0.heap.size + 1, 0, none⟩ = some (.int .i64 x) ∧ w'.cell? ⟨y0.heap.size + 1, 1, none⟩ = some (.int .i64 v)) (first | exact ⟨X3_0, X3_1, X4_0, X4_1⟩ | go_keep | exact ⟨cell_far (cell_far X3_0 N_q0) N_q0, cell_far (cell_far X3_1 N_q0) N_q0, cell_far (cell_far X4_0 N_q1) N_q1, cell_far (cell_far X4_1 N_q1) N_q1⟩) (first | (go_at_call 21; refine (i_addW x y (-x) v p q b _ Hp).mono ?_; rintro e yc ⟨rfl, hb9⟩; (try replace hb9 := undrew hb9); (first | ((with_reducible have hn9 := Bx.step HN.out hb9); have HN := Lib.hid hn9; clear hn9 N_0 N_1 N_f0 N_f1 N_l; (with_reducible have hq9 := bstep HC.out hb9); clear hq9; have X3 := Lib.hid (Bx.step X3.out hb9); have X4 := Lib.hid (Bx.step X4.out hb9); have HC := Lib.hid (bstep HC.out hb9); have N_0 := HN.out.cell0; have N_1 := HN.out.cell1; have N_f0 := HN.out.frozen 0; have N_f1 := HN.out.frozen 1; have N_l := HN.out.lt) | ((with_reducible have hq9 := bstep HC.out hb9); clear hq9; have X3 := Lib.hid (Bx.step X3.out hb9); have X4 := Lib.hid (Bx.step X4.out hb9); have HC := Lib.hid (bstep HC.out hb9)) | (have HN := Lib.hid (Bx.step (Bx.new 26 _ 0 (.int .i64 0)) hb9); have N_g := HC.out.size; have N_q0 := Nat.ne_of_lt X3.out.lt; have N_q1 := Nat.ne_of_lt X4.out.lt; have X3 := Lib.hid (Bx.step (Bx.alloc X3.out (.cells #[.int .i64 0, .int .i64 0] 26)) hb9); have X4 := Lib.hid (Bx.step (Bx.alloc X4.out (.cells #[.int .i64 0, .int .i64 0] 26)) hb9); have HC := Lib.hid (bstep (Below.alloc HC.out HC.out.size (.cells #[.int .i64 0, .int .i64 0] 26)) hb9); have N_0 := HN.out.cell0; have N_1 := HN.out.cell1; have N_f0 := HN.out.frozen 0; have N_f1 := HN.out.frozen 1; have N_l := HN.out.lt)); clear X3_0 X3_1 X3_l X4_0 X4_1 X4_l; have X3_0 := X3.out.cell0; have X3_1 := X3.out.cell1; have X3_l := X3.out.lt; have X4_0 := X4.out.cell0; have X4_1 := X4.out.cell1; have X4_l := X4.out.lt; clear hb9) | (go_at_call 23; refine (l_minus x v _ u1 u2).mono ?_; rintro e yc ⟨rfl, hb9⟩; (try replace hb9 := undrew hb9); (first | ((with_reducible have hn9 := Bx.step HN.out hb9); have HN := Lib.hid hn9; clear hn9 N_0 N_1 N_f0 N_f1 N_l; (with_reducible have hq9 := bstep HC.out hb9); clear hq9; have X3 := Lib.hid (Bx.step X3.out hb9); have X4 := Lib.hid (Bx.step X4.out hb9); have HC := Lib.hid (bstep HC.out hb9); have N_0 := HN.out.cell0; have N_1 := HN.out.cell1; have N_f0 := HN.out.frozen 0; have N_f1 := HN.out.frozen 1; have N_l := HN.out.lt) | ((with_reducible have hq9 := bstep HC.out hb9); clear hq9; have X3 := Lib.hid (Bx.step X3.out hb9); have X4 := Lib.hid (Bx.step X4.out hb9); have HC := Lib.hid (bstep HC.out hb9)) | (have HN := Lib.hid (Bx.step (Bx.new 26 _ 0 (.int .i64 0)) hb9); have N_g := HC.out.size; have N_q0 := Nat.ne_of_lt X3.out.lt; have N_q1 := Nat.ne_of_lt X4.out.lt; have X3 := Lib.hid (Bx.step (Bx.alloc X3.out (.cells #[.int .i64 0, .int .i64 0] 26)) hb9); have X4 := Lib.hid (Bx.step (Bx.alloc X4.out (.cells #[.int .i64 0, .int .i64 0] 26)) hb9); have HC := Lib.hid (bstep (Below.alloc HC.out HC.out.size (.cells #[.int .i64 0, .int .i64 0] 26)) hb9); have N_0 := HN.out.cell0; have N_1 := HN.out.cell1; have N_f0 := HN.out.frozen 0; have N_f1 := HN.out.frozen 1; have N_l := HN.out.lt)); clear X3_0 X3_1 X3_l X4_0 X4_1 X4_l; have X3_0 := X3.out.cell0; have X3_1 := X3.out.cell1; have X3_l := X3.out.lt; have X4_0 := X4.out.cell0; have X4_1 := X4.out.cell1; have X4_l := X4.out.lt; clear hb9))
          all_goals go_wp2_with fail
          all_goals go_meet
          all_goals first | exact ⟨NewBx.make HC.out, rfl⟩ | exact ⟨NewBx.late HN.out HC.out (by omega), rfl⟩ | exact ⟨NewBx.late2 HC.out, rfl⟩
        case rest =>
          clear HC
          obtain ⟨⟨gq1419, rfl, Q1418_g, Q1418_h, hb1417⟩, rfl⟩ := hcut
          clear X3_0 X3_1 X3_l X4_0 X4_1 X4_l
          have X3 := Lib.hid (X3.out.step hb1417)
          have X4 := Lib.hid (X4.out.step hb1417)
          have HB := Lib.hid (bstep HB.out hb1417)
          have Q1418 := Lib.hid Q1418_h
          clear Q1418_h hb1417
          have X3_0 := X3.out.cell0
          have X3_1 := X3.out.cell1
          have X3_l := X3.out.lt
          have X4_0 := X4.out.cell0
          have X4_1 := X4.out.cell1
          have X4_l := X4.out.lt
          have Q1418_0 := Q1418.out.cell0
          have Q1418_1 := Q1418.out.cell1
          have Q1418_l := Q1418.out.lt
          go_wp2_with fail
          refine (i_cmpW x v x y 1 _ Hs2).mono ?_
          rintro e x1420 ⟨rfl, hb1421⟩
          clear X3_0 X3_1 X3_l X4_0 X4_1 X4_l Q1418_0 Q1418_1 Q1418_l
          have X3 := Lib.hid (X3.out.step hb1421)
          have X4 := Lib.hid (X4.out.step hb1421)
          have Q1418 := Lib.hid (Q1418.out.step hb1421)
          have HB := Lib.hid (bstep HB.out hb1421)
          clear hb1421
          have X3_0 := X3.out.cell0
          have X3_1 := X3.out.cell1
          have X3_l := X3.out.lt
          have X4_0 := X4.out.cell0
          have X4_1 := X4.out.cell1
          have X4_l := X4.out.lt
          have Q1418_0 := Q1418.out.cell0
          have Q1418_1 := Q1418.out.cell1
          have Q1418_l := Q1418.out.lt
          cases b with
          | false =>
            clear Hz
            go_wp2_with fail
            go_ret
            exact ⟨rfl, HB.out⟩
          | true =>
            have Hw := Lib.hid (Hz.out rfl)
            clear Hz
            go_wp2_with fail
            refine (i_cmpW p q 0 0 (-1) _ Hw).mono ?_
            rintro e x1623 ⟨rfl, hb1624⟩
            clear X3_0 X3_1 X3_l X4_0 X4_1 X4_l Q1418_0 Q1418_1 Q1418_l
            have X3 := Lib.hid (X3.out.step hb1624)
            have X4 := Lib.hid (X4.out.step hb1624)
            have Q1418 := Lib.hid (Q1418.out.step hb1624)
            have HB := Lib.hid (bstep HB.out hb1624)
            clear hb1624
            have X3_0 := X3.out.cell0
            have X3_1 := X3.out.cell1
            have X3_l := X3.out.lt
            have X4_0 := X4.out.cell0
            have X4_1 := X4.out.cell1
            have X4_l := X4.out.lt
            have Q1418_0 := Q1418.out.cell0
            have Q1418_1 := Q1418.out.cell1
            have Q1418_l := Q1418.out.lt
            go_wp2_with fail
            go_ret
            exact ⟨rfl, HB.out⟩
      · have hq : (y == v) = false := by simpa using hne
        clear hne
        have Hs2 : Hid (Dy.cmp x v x y = (-1)) := Lib.hid (by have := Hsw.out; simpa using this)
        clear Hsw
        go_wp2_with fail
        have HC := Lib.hid (Below.refl x14.heap.size x14)
        go_cut [6, 7] (fun v u wx => (NewBx 26 x14 (p) (q) v wx) ∧ u = .bool b)
        case first =>
          go_region_held3 (fun w' => w'.cell? ⟨y0.heap.size, 0, none⟩ = some (.int .i64 x) ∧ w'.cell? ⟨y0.heap.size, 1, none⟩ = some (.int .i64 y) ∧ w'.cell? ⟨y0.heap.size + 1, 0, none⟩ = some (.int .i64 x) ∧ w'.cell? ⟨y0.heap.size + 1, 1, none⟩ = some (.int .i64 v)) (first | exact ⟨X3_0, X3_1, X4_0, X4_1⟩ | go_keep | exact ⟨cell_far (cell_far X3_0 N_q0) N_q0, cell_far (cell_far X3_1 N_q0) N_q0, cell_far (cell_far X4_0 N_q1) N_q1, cell_far (cell_far X4_1 N_q1) N_q1⟩) (first | (go_at_call 21; refine (i_addW x y (-x) v p q b _ Hp).mono ?_; rintro e yc ⟨rfl, hb9⟩; (try replace hb9 := undrew hb9); (first | ((with_reducible have hn9 := Bx.step HN.out hb9); have HN := Lib.hid hn9; clear hn9 N_0 N_1 N_f0 N_f1 N_l; (with_reducible have hq9 := bstep HC.out hb9); clear hq9; have X3 := Lib.hid (Bx.step X3.out hb9); have X4 := Lib.hid (Bx.step X4.out hb9); have HC := Lib.hid (bstep HC.out hb9); have N_0 := HN.out.cell0; have N_1 := HN.out.cell1; have N_f0 := HN.out.frozen 0; have N_f1 := HN.out.frozen 1; have N_l := HN.out.lt) | ((with_reducible have hq9 := bstep HC.out hb9); clear hq9; have X3 := Lib.hid (Bx.step X3.out hb9); have X4 := Lib.hid (Bx.step X4.out hb9); have HC := Lib.hid (bstep HC.out hb9)) | (have HN := Lib.hid (Bx.step (Bx.new 26 _ 0 (.int .i64 0)) hb9); have N_g := HC.out.size; have N_q0 := Nat.ne_of_lt X3.out.lt; have N_q1 := Nat.ne_of_lt X4.out.lt; have X3 := Lib.hid (Bx.step (Bx.alloc X3.out (.cells #[.int .i64 0, .int .i64 0] 26)) hb9); have X4 := Lib.hid (Bx.step (Bx.alloc X4.out (.cells #[.int .i64 0, .int .i64 0] 26)) hb9); have HC := Lib.hid (bstep (Below.alloc HC.out HC.out.size (.cells #[.int .i64 0, .int .i64 0] 26)) hb9); have N_0 := HN.out.cell0; have N_1 := HN.out.cell1; have N_f0 := HN.out.frozen 0; have N_f1 := HN.out.frozen 1; have N_l := HN.out.lt)); clear X3_0 X3_1 X3_l X4_0 X4_1 X4_l; have X3_0 := X3.out.cell0; have X3_1 := X3.out.cell1; have X3_l := X3.out.lt; have X4_0 := X4.out.cell0; have X4_1 := X4.out.cell1; have X4_l := X4.out.lt; clear hb9) | (go_at_call 23; refine (l_minus x v _ u1 u2).mono ?_; rintro e yc ⟨rfl, hb9⟩; (try replace hb9 := undrew hb9); (first | ((with_reducible have hn9 := Bx.step HN.out hb9); have HN := Lib.hid hn9; clear hn9 N_0 N_1 N_f0 N_f1 N_l; (with_reducible have hq9 := bstep HC.out hb9); clear hq9; have X3 := Lib.hid (Bx.step X3.out hb9); have X4 := Lib.hid (Bx.step X4.out hb9); have HC := Lib.hid (bstep HC.out hb9); have N_0 := HN.out.cell0; have N_1 := HN.out.cell1; have N_f0 := HN.out.frozen 0; have N_f1 := HN.out.frozen 1; have N_l := HN.out.lt) | ((with_reducible have hq9 := bstep HC.out hb9); clear hq9; have X3 := Lib.hid (Bx.step X3.out hb9); have X4 := Lib.hid (Bx.step X4.out hb9); have HC := Lib.hid (bstep HC.out hb9)) | (have HN := Lib.hid (Bx.step (Bx.new 26 _ 0 (.int .i64 0)) hb9); have N_g := HC.out.size; have N_q0 := Nat.ne_of_lt X3.out.lt; have N_q1 := Nat.ne_of_lt X4.out.lt; have X3 := Lib.hid (Bx.step (Bx.alloc X3.out (.cells #[.int .i64 0, .int .i64 0] 26)) hb9); have X4 := Lib.hid (Bx.step (Bx.alloc X4.out (.cells #[.int .i64 0, .int .i64 0] 26)) hb9); have HC := Lib.hid (bstep (Below.alloc HC.out HC.out.size (.cells #[.int .i64 0, .int .i64 0] 26)) hb9); have N_0 := HN.out.cell0; have N_1 := HN.out.cell1; have N_f0 := HN.out.frozen 0; have N_f1 := HN.out.frozen 1; have N_l := HN.out.lt)); clear X3_0 X3_1 X3_l X4_0 X4_1 X4_l; have X3_0 := X3.out.cell0; have X3_1 := X3.out.cell1; have X3_l := X3.out.lt; have X4_0 := X4.out.cell0; have X4_1 := X4.out.cell1; have X4_l := X4.out.lt; clear hb9))
          all_goals go_wp2_with fail
          all_goals go_meet
          all_goals first | exact ⟨NewBx.make HC.out, rfl⟩ | exact ⟨NewBx.late HN.out HC.out (by omega), rfl⟩ | exact ⟨NewBx.late2 HC.out, rfl⟩
        case rest =>
          clear HC
          obtain ⟨⟨gq1719, rfl, Q1718_g, Q1718_h, hb1717⟩, rfl⟩ := hcut
          clear X3_0 X3_1 X3_l X4_0 X4_1 X4_l
          have X3 := Lib.hid (X3.out.step hb1717)
          have X4 := Lib.hid (X4.out.step hb1717)
          have HB := Lib.hid (bstep HB.out hb1717)
          have Q1718 := Lib.hid Q1718_h
          clear Q1718_h hb1717
          have X3_0 := X3.out.cell0
          have X3_1 := X3.out.cell1
          have X3_l := X3.out.lt
          have X4_0 := X4.out.cell0
          have X4_1 := X4.out.cell1
          have X4_l := X4.out.lt
          have Q1718_0 := Q1718.out.cell0
          have Q1718_1 := Q1718.out.cell1
          have Q1718_l := Q1718.out.lt
          go_wp2_with fail
          refine (i_cmpW x v x y (-1) _ Hs2).mono ?_
          rintro e x1720 ⟨rfl, hb1721⟩
          clear X3_0 X3_1 X3_l X4_0 X4_1 X4_l Q1718_0 Q1718_1 Q1718_l
          have X3 := Lib.hid (X3.out.step hb1721)
          have X4 := Lib.hid (X4.out.step hb1721)
          have Q1718 := Lib.hid (Q1718.out.step hb1721)
          have HB := Lib.hid (bstep HB.out hb1721)
          clear hb1721
          have X3_0 := X3.out.cell0
          have X3_1 := X3.out.cell1
          have X3_l := X3.out.lt
          have X4_0 := X4.out.cell0
          have X4_1 := X4.out.cell1
          have X4_l := X4.out.lt
          have Q1718_0 := Q1718.out.cell0
          have Q1718_1 := Q1718.out.cell1
          have Q1718_l := Q1718.out.lt
          cases b with
          | false =>
            clear Hz
            go_wp2_with fail
            go_ret
            exact ⟨rfl, HB.out⟩
          | true =>
            have Hw := Lib.hid (Hz.out rfl)
            clear Hz
            go_wp2_with fail
            refine (i_cmpW p q 0 0 1 _ Hw).mono ?_
            rintro e x1923 ⟨rfl, hb1924⟩
            clear X3_0 X3_1 X3_l X4_0 X4_1 X4_l Q1718_0 Q1718_1 Q1718_l
            have X3 := Lib.hid (X3.out.step hb1924)
            have X4 := Lib.hid (X4.out.step hb1924)
            have Q1718 := Lib.hid (Q1718.out.step hb1924)
            have HB := Lib.hid (bstep HB.out hb1924)
            clear hb1924
            have X3_0 := X3.out.cell0
            have X3_1 := X3.out.cell1
            have X3_l := X3.out.lt
            have X4_0 := X4.out.cell0
            have X4_1 := X4.out.cell1
            have X4_l := X4.out.lt
            have Q1718_0 := Q1718.out.cell0
            have Q1718_1 := Q1718.out.cell1
            have Q1718_l := Q1718.out.lt
            go_wp2_with fail
            go_ret
            exact ⟨rfl, HB.out⟩


set_option maxRecDepth 100000 in
theorem lifted (os : Os) (started : os.Started) (H : Type) (enc : TypeId × Value → H) :
    ReturnsInHanded {} Try.checked os 5 .any (Rows.fnCompareDyadicSpec.pre6 enc Try.prog Try.f5 Rows.fnCompareDyadicRow.domain false) (Rows.fnCompareDyadicSpec.post enc Try.prog Try.f5 false true false false) := by
  refine returnsInHanded_of_change (C := Try.checked) own started (by kernel_rfl) Try.func5
    (ChangeSpec.witness6 (enc := enc) (C := Try.checked) false ⟨#[], #[.slice none 0 0], []⟩ 8 (by kernel_rfl) (by kernel_rfl) (by kernel_rfl) (by kernel_rfl)) ?_
  intro W base args ds gs before hval0 hW hcnd _
  have hval : ∀ (j : Nat) t v, Try.f5.params[j]? = some t → args[j]? = some v → Value.okWide Try.prog W .any base t v := hval0
  have hW' := hW
  obtain ⟨p, q, hA0, hV, rfl, hfz, hnd⟩ := hW
  have hA : DataW.TrodAll enc Try.prog W 0 (fun _ => true) true Try.f5.params.toList args.toList ds p := hA0
  rw [Try.params5] at hA hval
  obtain ⟨v0, vs0, d0, ds0, p0, q0, hargs, rfl, rfl, h0, r0⟩ := trodAll_cons hA
  obtain ⟨rfl, rfl, rfl⟩ := trodAll_nil r0
  obtain rfl : args = #[v0] := by cases args; simp_all
  obtain ⟨rfl, rfl⟩ := trodVars_none hV
  obtain ⟨a0, len0, cap0, rfl⟩ := okWide_slice Try.underlying22 (hval 0 22 v0 rfl rfl)
  have k0 := h0
  have lt0 : ∀ x ∈ p0, x.block < W.heap.size := by obtain ⟨m, hm⟩ := k0; exact DataW.trod_lt m _ _ _ hm
  obtain ⟨z0, w0⟩ : ∃ zs, IsRow .u8 W a0 len0 cap0 zs := by
    obtain ⟨fuel, hf⟩ := h0
    rcases open_ints Try.underlying22 Try.underlying5 (by kernel_rfl) hf with ⟨hcs, _⟩ | ⟨x, l, c, zs, hcs, _, hl, hm, hz, _, hcell, hwz⟩
    · simp [Value.cells] at hcs
      obtain ⟨rfl, rfl, rfl⟩ := hcs
      exact ⟨[], .inl ⟨rfl, rfl, rfl, rfl⟩⟩
    · simp [Value.cells] at hcs
      obtain ⟨rfl, rfl, rfl⟩ := hcs
      exact ⟨zs, .inr ⟨_, rfl, hl, hm, by simpa using hz, hcell, hwz⟩⟩
  clear hA0 hval0
  refine (walk a0 len0 cap0 z0 W w0).mono fun e W' ⟨he, bel⟩ => ?_
  subst he
  exact ⟨_, rfl, _, _, _, [], _, [], hW', trodAll_mk1 (shut_bool Try.underlying4 _), (trodAll_cons_mk (Below.trod laidOut (by kernel_rfl) (of_decide_eq_true (by kernel_rfl)) k0 bel lt0) trodAll_mk0), rfl, bel.frame _, fun h => by cases h⟩

theorem over : Rows.fnCompareDyadicRow.holds Try.pinned (OpenSpec.ofChange Rows.fnCompareDyadicSpec) :=
  OpenClaim.holds_of_wide 5 Try.f5 rfl rfl rfl rfl rfl rfl rfl ⟨rfl, rfl, rfl, rfl, rfl⟩ rfl rfl rfl rfl rfl (by kernel_rfl) Try.func5 (by kernel_rfl)
    (of_decide_eq_true (by kernel_rfl)) (by unfold Func.isWrapper; first | (rw [if_pos (by decide +kernel)]; kernel_rfl) | (rw [if_neg (by decide +kernel)]; exact ⟨rfl, rfl⟩))
    (fun os started H enc _ => lifted os started H enc)

theorem proved : Rows.FnCompareDyadicSaid := over
end Go.Proofs.Ytocjlhlohlkkmaa.fnCompareDyadic
