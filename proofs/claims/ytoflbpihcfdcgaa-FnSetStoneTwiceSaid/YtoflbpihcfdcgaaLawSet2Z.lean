/-
  The law of two stones at one point: for every drawn board, point and color, the last stone counts. For every code. No condition.
-/
import Derived.Test.YtoflbpihcfdcgaaLawKitD
import Derived.Test.YtoflbpihcfdcgaaRows
import Derived.Deep.RegionHeld3
import Derived.Deep.RegionWith
import Derived.Deep.DeepCutAuto
import Derived.WalkKit
import Derived.ProofKit
import Derived.OpenShut
import Derived.ShutString
import Derived.ChangeOld
import Derived.Below
namespace Go.Proofs.Ytoflbpihcfdcgaa.fnSetStoneTwice
open Go.ChangeShapes Go.WideShapes Go.ChangeAt Go.RowKit
open Go.ChangeMaps (open_string shut_string)
set_option linter.unusedVariables false

theorem own : ownKnob Try.prog.godebug = none := by kernel_rfl
theorem laidOut : laidOutB Try.prog = true := by kernel_rfl


set_option maxRecDepth 100000 in
set_option maxHeartbeats 16000000 in
theorem walk (a0 : Option Addr) (len0 cap0 : Nat) (z0 : List Int) (w : World) (w0 : IsRow .u8 w a0 len0 cap0 z0) :
    Calls Try.prog 6 #[.slice a0 len0 cap0] w fun e w' => e = .returned (.bool true) ∧ Below w.heap.size w w' := by
  by_cases hl : 1048576 < len0
  · go_enter Try.func6, Try.ntmps6
    go_wp2_with fail
    go_ret
    exact ⟨rfl, Below.refl _ _⟩
  · have hl' : decide ((1048576 : Int) < (len0 : Int)) = false := by rw [decide_eq_false_iff_not]; omega
    go_enter Try.func6, Try.ntmps6
    go_wp2_with fail
    refine (d_set w a0 len0 cap0 z0 w0).mono ?_
    rintro e y0 ⟨s, A, n, c, cs, p, x, rfl, hi, hn49, s0, s8, hp9, hx9, hb⟩
    have I0 := Lib.hid hi
    have HB := Lib.hid hb
    clear hi hb w0 hl'
    go_wp2_with fail
    obtain ⟨x1, hy3, hb2, z4, z5⟩ := new_box y0 (.cells #[.int .i64 s, .slice A n c] 25)
    have X3 : Hid (Bx 25 x1 y0.heap.size s (.slice A n c)) := Lib.hid (by rw [hy3]; exact Bx.new _ _ _ _)
    rw [← hy3]
    clear hy3
    have I0 := Lib.hid (I0.out.step hb2)
    have HB := Lib.hid (bstep HB.out hb2)
    clear hb2
    have X3_0 := X3.out.cell0
    have X3_1 := X3.out.cell1
    have X3_l := X3.out.lt
    by_cases hv : setB s cs p x = true
    · have Hv := Lib.hid hv
      obtain ⟨cs1, hc1⟩ : ∃ l, cs.set p.toNat x = l := ⟨_, rfl⟩
      have Hc1 := Lib.hid hc1
      clear hv hc1
      go_wp2_with fail
      refine (i_setW s p x _ _ _ _ cs cs1 I0.out hn49 Hv.out Hc1.out).mono ?_
      rintro e x56 ⟨A1, c1, rfl, ho58, hb57⟩
      clear X3_0 X3_1 X3_l
      have X3 := Lib.hid (X3.out.step hb57)
      have I0 := Lib.hid (I0.out.step hb57)
      have HB := Lib.hid (bstep HB.out hb57)
      have I1 := Lib.hid ho58.ints
      have lenI1 := ho58.1
      clear lenI1
      clear hb57 ho58
      have X3_0 := X3.out.cell0
      have X3_1 := X3.out.cell1
      have X3_l := X3.out.lt
      go_wp2_with fail
      obtain ⟨x59, hy61, hb60, z62, z63⟩ := new_box x56 (.cells #[.int .i64 s, .slice A1 n c1] 25)
      have X4 : Hid (Bx 25 x59 x56.heap.size s (.slice A1 n c1)) := Lib.hid (by rw [hy61]; exact Bx.new _ _ _ _)
      rw [← hy61]
      clear hy61
      clear X3_0 X3_1 X3_l
      have X3 := Lib.hid (X3.out.step hb60)
      have I0 := Lib.hid (I0.out.step hb60)
      have I1 := Lib.hid (I1.out.step hb60)
      have HB := Lib.hid (bstep HB.out hb60)
      clear hb60
      have X3_0 := X3.out.cell0
      have X3_1 := X3.out.cell1
      have X3_l := X3.out.lt
      have X4_0 := X4.out.cell0
      have X4_1 := X4.out.cell1
      have X4_l := X4.out.lt
      go_wp2_with fail
      refine (s_setW s p x _ _ _ _ cs cs1 I0.out hn49 Hv.out Hc1.out).mono ?_
      rintro e x64 ⟨A2, c2, rfl, ho66, hb65⟩
      clear X3_0 X3_1 X3_l X4_0 X4_1 X4_l
      have X3 := Lib.hid (X3.out.step hb65)
      have X4 := Lib.hid (X4.out.step hb65)
      have I0 := Lib.hid (I0.out.step hb65)
      have I1 := Lib.hid (I1.out.step hb65)
      have HB := Lib.hid (bstep HB.out hb65)
      have I2 := Lib.hid ho66.ints
      have lenI2 := ho66.1
      clear lenI2
      clear hb65 ho66
      have X3_0 := X3.out.cell0
      have X3_1 := X3.out.cell1
      have X3_l := X3.out.lt
      have X4_0 := X4.out.cell0
      have X4_1 := X4.out.cell1
      have X4_l := X4.out.lt
      go_wp2_with fail
      obtain ⟨x67, hy69, hb68, z70, z71⟩ := new_box x64 (.cells #[.int .i64 s, .slice A2 n c2] 25)
      have X5 : Hid (Bx 25 x67 x64.heap.size s (.slice A2 n c2)) := Lib.hid (by rw [hy69]; exact Bx.new _ _ _ _)
      rw [← hy69]
      clear hy69
      clear X3_0 X3_1 X3_l X4_0 X4_1 X4_l
      have X3 := Lib.hid (X3.out.step hb68)
      have X4 := Lib.hid (X4.out.step hb68)
      have I0 := Lib.hid (I0.out.step hb68)
      have I1 := Lib.hid (I1.out.step hb68)
      have I2 := Lib.hid (I2.out.step hb68)
      have HB := Lib.hid (bstep HB.out hb68)
      clear hb68
      have X3_0 := X3.out.cell0
      have X3_1 := X3.out.cell1
      have X3_l := X3.out.lt
      have X4_0 := X4.out.cell0
      have X4_1 := X4.out.cell1
      have X4_l := X4.out.lt
      have X5_0 := X5.out.cell0
      have X5_1 := X5.out.cell1
      have X5_l := X5.out.lt
      go_wp2_with fail
      refine (l_eqB s _ _ _ _ _ _ cs1 I1.out I2.out (by omega)).mono ?_
      rintro e x72 ⟨rfl, hb73⟩
      clear X3_0 X3_1 X3_l X4_0 X4_1 X4_l X5_0 X5_1 X5_l
      have X3 := Lib.hid (X3.out.step hb73)
      have X4 := Lib.hid (X4.out.step hb73)
      have X5 := Lib.hid (X5.out.step hb73)
      have I0 := Lib.hid (I0.out.step hb73)
      have I1 := Lib.hid (I1.out.step hb73)
      have I2 := Lib.hid (I2.out.step hb73)
      have HB := Lib.hid (bstep HB.out hb73)
      clear hb73
      have X3_0 := X3.out.cell0
      have X3_1 := X3.out.cell1
      have X3_l := X3.out.lt
      have X4_0 := X4.out.cell0
      have X4_1 := X4.out.cell1
      have X4_l := X4.out.lt
      have X5_0 := X5.out.cell0
      have X5_1 := X5.out.cell1
      have X5_l := X5.out.lt
      obtain ⟨cs2, hc2⟩ : ∃ l, cs.set p.toNat 2 = l := ⟨_, rfl⟩
      have Hc2 := Lib.hid hc2
      have Hc3 : Hid (cs1.set p.toNat 2 = cs2) := Lib.hid (by rw [← Hc1.out, List.set_set]; exact hc2)
      have Hv1 : Hid (setB s cs1 p 2 = true) := Lib.hid (by rw [← Hc1.out]; exact setB_set Hv.out (by decide))
      have Hv2 : Hid (setB s cs p 2 = true) := Lib.hid (setB_iff.2 ⟨(setB_iff.1 Hv.out).1, (setB_iff.1 Hv.out).2.1, by decide⟩)
      clear hc2
      go_wp2_with fail
      refine (i_setW s p 2 _ _ _ _ cs1 cs2 I1.out hn49 Hv1.out Hc3.out).mono ?_
      rintro e x75 ⟨A6, c6, rfl, ho77, hb76⟩
      clear X3_0 X3_1 X3_l X4_0 X4_1 X4_l X5_0 X5_1 X5_l
      have X3 := Lib.hid (X3.out.step hb76)
      have X4 := Lib.hid (X4.out.step hb76)
      have X5 := Lib.hid (X5.out.step hb76)
      have I0 := Lib.hid (I0.out.step hb76)
      have I1 := Lib.hid (I1.out.step hb76)
      have I2 := Lib.hid (I2.out.step hb76)
      have HB := Lib.hid (bstep HB.out hb76)
      have I6 := Lib.hid ho77.ints
      have lenI6 := ho77.1
      clear lenI6
      clear hb76 ho77
      have X3_0 := X3.out.cell0
      have X3_1 := X3.out.cell1
      have X3_l := X3.out.lt
      have X4_0 := X4.out.cell0
      have X4_1 := X4.out.cell1
      have X4_l := X4.out.lt
      have X5_0 := X5.out.cell0
      have X5_1 := X5.out.cell1
      have X5_l := X5.out.lt
      go_wp2_with fail
      obtain ⟨x78, hy80, hb79, z81, z82⟩ := new_box x75 (.cells #[.int .i64 s, .slice A6 n c6] 25)
      have X6 : Hid (Bx 25 x78 x75.heap.size s (.slice A6 n c6)) := Lib.hid (by rw [hy80]; exact Bx.new _ _ _ _)
      rw [← hy80]
      clear hy80
      clear X3_0 X3_1 X3_l X4_0 X4_1 X4_l X5_0 X5_1 X5_l
      have X3 := Lib.hid (X3.out.step hb79)
      have X4 := Lib.hid (X4.out.step hb79)
      have X5 := Lib.hid (X5.out.step hb79)
      have I0 := Lib.hid (I0.out.step hb79)
      have I1 := Lib.hid (I1.out.step hb79)
      have I2 := Lib.hid (I2.out.step hb79)
      have I6 := Lib.hid (I6.out.step hb79)
      have HB := Lib.hid (bstep HB.out hb79)
      clear hb79
      have X3_0 := X3.out.cell0
      have X3_1 := X3.out.cell1
      have X3_l := X3.out.lt
      have X4_0 := X4.out.cell0
      have X4_1 := X4.out.cell1
      have X4_l := X4.out.lt
      have X5_0 := X5.out.cell0
      have X5_1 := X5.out.cell1
      have X5_l := X5.out.lt
      have X6_0 := X6.out.cell0
      have X6_1 := X6.out.cell1
      have X6_l := X6.out.lt
      go_wp2_with fail
      refine (i_setW s p 2 _ _ _ _ cs cs2 I0.out hn49 Hv2.out Hc2.out).mono ?_
      rintro e x83 ⟨A7, c7, rfl, ho85, hb84⟩
      clear X3_0 X3_1 X3_l X4_0 X4_1 X4_l X5_0 X5_1 X5_l X6_0 X6_1 X6_l
      have X3 := Lib.hid (X3.out.step hb84)
      have X4 := Lib.hid (X4.out.step hb84)
      have X5 := Lib.hid (X5.out.step hb84)
      have X6 := Lib.hid (X6.out.step hb84)
      have I0 := Lib.hid (I0.out.step hb84)
      have I1 := Lib.hid (I1.out.step hb84)
      have I2 := Lib.hid (I2.out.step hb84)
      have I6 := Lib.hid (I6.out.step hb84)
      have HB := Lib.hid (bstep HB.out hb84)
      have I7 := Lib.hid ho85.ints
      have lenI7 := ho85.1
      clear lenI7
      clear hb84 ho85
      have X3_0 := X3.out.cell0
      have X3_1 := X3.out.cell1
      have X3_l := X3.out.lt
      have X4_0 := X4.out.cell0
      have X4_1 := X4.out.cell1
      have X4_l := X4.out.lt
      have X5_0 := X5.out.cell0
      have X5_1 := X5.out.cell1
      have X5_l := X5.out.lt
      have X6_0 := X6.out.cell0
      have X6_1 := X6.out.cell1
      have X6_l := X6.out.lt
      go_wp2_with fail
      obtain ⟨x86, hy88, hb87, z89, z90⟩ := new_box x83 (.cells #[.int .i64 s, .slice A7 n c7] 25)
      have X7 : Hid (Bx 25 x86 x83.heap.size s (.slice A7 n c7)) := Lib.hid (by rw [hy88]; exact Bx.new _ _ _ _)
      rw [← hy88]
      clear hy88
      clear X3_0 X3_1 X3_l X4_0 X4_1 X4_l X5_0 X5_1 X5_l X6_0 X6_1 X6_l
      have X3 := Lib.hid (X3.out.step hb87)
      have X4 := Lib.hid (X4.out.step hb87)
      have X5 := Lib.hid (X5.out.step hb87)
      have X6 := Lib.hid (X6.out.step hb87)
      have I0 := Lib.hid (I0.out.step hb87)
      have I1 := Lib.hid (I1.out.step hb87)
      have I2 := Lib.hid (I2.out.step hb87)
      have I6 := Lib.hid (I6.out.step hb87)
      have I7 := Lib.hid (I7.out.step hb87)
      have HB := Lib.hid (bstep HB.out hb87)
      clear hb87
      have X3_0 := X3.out.cell0
      have X3_1 := X3.out.cell1
      have X3_l := X3.out.lt
      have X4_0 := X4.out.cell0
      have X4_1 := X4.out.cell1
      have X4_l := X4.out.lt
      have X5_0 := X5.out.cell0
      have X5_1 := X5.out.cell1
      have X5_l := X5.out.lt
      have X6_0 := X6.out.cell0
      have X6_1 := X6.out.cell1
      have X6_l := X6.out.lt
      have X7_0 := X7.out.cell0
      have X7_1 := X7.out.cell1
      have X7_l := X7.out.lt
      go_wp2_with fail
      refine (l_eqB s _ _ _ _ _ _ cs2 I6.out I7.out (by omega)).mono ?_
      rintro e x91 ⟨rfl, hb92⟩
      clear X3_0 X3_1 X3_l X4_0 X4_1 X4_l X5_0 X5_1 X5_l X6_0 X6_1 X6_l X7_0 X7_1 X7_l
      have X3 := Lib.hid (X3.out.step hb92)
      have X4 := Lib.hid (X4.out.step hb92)
      have X5 := Lib.hid (X5.out.step hb92)
      have X6 := Lib.hid (X6.out.step hb92)
      have X7 := Lib.hid (X7.out.step hb92)
      have I0 := Lib.hid (I0.out.step hb92)
      have I1 := Lib.hid (I1.out.step hb92)
      have I2 := Lib.hid (I2.out.step hb92)
      have I6 := Lib.hid (I6.out.step hb92)
      have I7 := Lib.hid (I7.out.step hb92)
      have HB := Lib.hid (bstep HB.out hb92)
      clear hb92
      have X3_0 := X3.out.cell0
      have X3_1 := X3.out.cell1
      have X3_l := X3.out.lt
      have X4_0 := X4.out.cell0
      have X4_1 := X4.out.cell1
      have X4_l := X4.out.lt
      have X5_0 := X5.out.cell0
      have X5_1 := X5.out.cell1
      have X5_l := X5.out.lt
      have X6_0 := X6.out.cell0
      have X6_1 := X6.out.cell1
      have X6_l := X6.out.lt
      have X7_0 := X7.out.cell0
      have X7_1 := X7.out.cell1
      have X7_l := X7.out.lt
      go_wp2_with fail
      go_ret
      exact ⟨rfl, HB.out⟩
    · have hv0 : setB s cs p x = false := by simpa using hv
      have Hv := Lib.hid hv0
      clear hv hv0
      go_wp2_with fail
      refine (i_setN s p x _ _ _ _ cs I0.out hn49 Hv.out).mono ?_
      rintro e x706 ⟨A1, c1, rfl, ho708, hb707⟩
      clear X3_0 X3_1 X3_l
      have X3 := Lib.hid (X3.out.step hb707)
      have I0 := Lib.hid (I0.out.step hb707)
      have HB := Lib.hid (bstep HB.out hb707)
      have I1 := Lib.hid ho708.ints
      have lenI1 := ho708.1
      clear lenI1
      clear hb707 ho708
      have X3_0 := X3.out.cell0
      have X3_1 := X3.out.cell1
      have X3_l := X3.out.lt
      go_wp2_with fail
      obtain ⟨x709, hy711, hb710, z712, z713⟩ := new_box x706 (.cells #[.int .i64 0, .slice A1 0 c1] 25)
      have X4 : Hid (Bx 25 x709 x706.heap.size 0 (.slice A1 0 c1)) := Lib.hid (by rw [hy711]; exact Bx.new _ _ _ _)
      rw [← hy711]
      clear hy711
      clear X3_0 X3_1 X3_l
      have X3 := Lib.hid (X3.out.step hb710)
      have I0 := Lib.hid (I0.out.step hb710)
      have I1 := Lib.hid (I1.out.step hb710)
      have HB := Lib.hid (bstep HB.out hb710)
      clear hb710
      have X3_0 := X3.out.cell0
      have X3_1 := X3.out.cell1
      have X3_l := X3.out.lt
      have X4_0 := X4.out.cell0
      have X4_1 := X4.out.cell1
      have X4_l := X4.out.lt
      go_wp2_with fail
      refine (s_setN s p x _ _ _ _ cs I0.out hn49 Hv.out).mono ?_
      rintro e x714 ⟨A2, c2, rfl, ho716, hb715⟩
      clear X3_0 X3_1 X3_l X4_0 X4_1 X4_l
      have X3 := Lib.hid (X3.out.step hb715)
      have X4 := Lib.hid (X4.out.step hb715)
      have I0 := Lib.hid (I0.out.step hb715)
      have I1 := Lib.hid (I1.out.step hb715)
      have HB := Lib.hid (bstep HB.out hb715)
      have I2 := Lib.hid ho716.ints
      have lenI2 := ho716.1
      clear lenI2
      clear hb715 ho716
      have X3_0 := X3.out.cell0
      have X3_1 := X3.out.cell1
      have X3_l := X3.out.lt
      have X4_0 := X4.out.cell0
      have X4_1 := X4.out.cell1
      have X4_l := X4.out.lt
      go_wp2_with fail
      obtain ⟨x717, hy719, hb718, z720, z721⟩ := new_box x714 (.cells #[.int .i64 0, .slice A2 0 c2] 25)
      have X5 : Hid (Bx 25 x717 x714.heap.size 0 (.slice A2 0 c2)) := Lib.hid (by rw [hy719]; exact Bx.new _ _ _ _)
      rw [← hy719]
      clear hy719
      clear X3_0 X3_1 X3_l X4_0 X4_1 X4_l
      have X3 := Lib.hid (X3.out.step hb718)
      have X4 := Lib.hid (X4.out.step hb718)
      have I0 := Lib.hid (I0.out.step hb718)
      have I1 := Lib.hid (I1.out.step hb718)
      have I2 := Lib.hid (I2.out.step hb718)
      have HB := Lib.hid (bstep HB.out hb718)
      clear hb718
      have X3_0 := X3.out.cell0
      have X3_1 := X3.out.cell1
      have X3_l := X3.out.lt
      have X4_0 := X4.out.cell0
      have X4_1 := X4.out.cell1
      have X4_l := X4.out.lt
      have X5_0 := X5.out.cell0
      have X5_1 := X5.out.cell1
      have X5_l := X5.out.lt
      go_wp2_with fail
      refine (l_eqB 0 _ _ _ _ _ _ [] I1.out I2.out (by omega)).mono ?_
      rintro e x722 ⟨rfl, hb723⟩
      clear X3_0 X3_1 X3_l X4_0 X4_1 X4_l X5_0 X5_1 X5_l
      have X3 := Lib.hid (X3.out.step hb723)
      have X4 := Lib.hid (X4.out.step hb723)
      have X5 := Lib.hid (X5.out.step hb723)
      have I0 := Lib.hid (I0.out.step hb723)
      have I1 := Lib.hid (I1.out.step hb723)
      have I2 := Lib.hid (I2.out.step hb723)
      have HB := Lib.hid (bstep HB.out hb723)
      clear hb723
      have X3_0 := X3.out.cell0
      have X3_1 := X3.out.cell1
      have X3_l := X3.out.lt
      have X4_0 := X4.out.cell0
      have X4_1 := X4.out.cell1
      have X4_l := X4.out.lt
      have X5_0 := X5.out.cell0
      have X5_1 := X5.out.cell1
      have X5_l := X5.out.lt
      go_wp2_with fail
      refine (l_eqB 0 _ _ _ _ _ _ [] I1.out I2.out (by omega)).mono ?_
      rintro e x725 ⟨rfl, hb726⟩
      clear X3_0 X3_1 X3_l X4_0 X4_1 X4_l X5_0 X5_1 X5_l
      have X3 := Lib.hid (X3.out.step hb726)
      have X4 := Lib.hid (X4.out.step hb726)
      have X5 := Lib.hid (X5.out.step hb726)
      have I0 := Lib.hid (I0.out.step hb726)
      have I1 := Lib.hid (I1.out.step hb726)
      have I2 := Lib.hid (I2.out.step hb726)
      have HB := Lib.hid (bstep HB.out hb726)
      clear hb726
      have X3_0 := X3.out.cell0
      have X3_1 := X3.out.cell1
      have X3_l := X3.out.lt
      have X4_0 := X4.out.cell0
      have X4_1 := X4.out.cell1
      have X4_l := X4.out.lt
      have X5_0 := X5.out.cell0
      have X5_1 := X5.out.cell1
      have X5_l := X5.out.lt
      go_wp2_with fail
      go_ret
      exact ⟨rfl, HB.out⟩


set_option maxRecDepth 100000 in
theorem lifted (os : Os) (started : os.Started) (H : Type) (enc : TypeId × Value → H) :
    ReturnsInHanded {} Try.checked os 6 .any (Rows.fnSetStoneTwiceSpec.pre6 enc Try.prog Try.f6 Rows.fnSetStoneTwiceRow.domain false) (Rows.fnSetStoneTwiceSpec.post enc Try.prog Try.f6 false true false false) := by
  refine returnsInHanded_of_change (C := Try.checked) own started (by kernel_rfl) Try.func6
    (ChangeSpec.witness6 (enc := enc) (C := Try.checked) false ⟨#[], #[.slice none 0 0], []⟩ 8 (by kernel_rfl) (by kernel_rfl) (by kernel_rfl) (by kernel_rfl)) ?_
  intro W base args ds gs before hval0 hW hcnd _
  have hval : ∀ (j : Nat) t v, Try.f6.params[j]? = some t → args[j]? = some v → Value.okWide Try.prog W .any base t v := hval0
  have hW' := hW
  obtain ⟨p, q, hA0, hV, rfl, hfz, hnd⟩ := hW
  have hA : DataW.TrodAll enc Try.prog W 0 (fun _ => true) true Try.f6.params.toList args.toList ds p := hA0
  rw [Try.params6] at hA hval
  obtain ⟨v0, vs0, d0, ds0, p0, q0, hargs, rfl, rfl, h0, r0⟩ := trodAll_cons hA
  obtain ⟨rfl, rfl, rfl⟩ := trodAll_nil r0
  obtain rfl : args = #[v0] := by cases args; simp_all
  obtain ⟨rfl, rfl⟩ := trodVars_none hV
  obtain ⟨a0, len0, cap0, rfl⟩ := okWide_slice Try.underlying22 (hval 0 22 v0 rfl rfl)
  have k0 := h0
  have lt0 : ∀ x ∈ p0, x.block < W.heap.size := by obtain ⟨m, hm⟩ := k0; exact DataW.trod_lt m _ _ _ hm
  obtain ⟨z0, w0⟩ : ∃ zs, IsRow .u8 W a0 len0 cap0 zs := by
    obtain ⟨fuel, hf⟩ := h0
    rcases open_ints Try.underlying22 Try.underlying5 (by kernel_rfl) hf with ⟨hcs, _⟩ | ⟨x, l, c, zs, hcs, _, hl, hm, hz, _, hcell, hwz⟩
    · simp [Value.cells] at hcs
      obtain ⟨rfl, rfl, rfl⟩ := hcs
      exact ⟨[], .inl ⟨rfl, rfl, rfl, rfl⟩⟩
    · simp [Value.cells] at hcs
      obtain ⟨rfl, rfl, rfl⟩ := hcs
      exact ⟨zs, .inr ⟨_, rfl, hl, hm, by simpa using hz, hcell, hwz⟩⟩
  clear hA0 hval0
  refine (walk a0 len0 cap0 z0 W w0).mono fun e W' ⟨he, bel⟩ => ?_
  subst he
  exact ⟨_, rfl, _, _, _, [], _, [], hW', trodAll_mk1 (shut_bool Try.underlying4 _), (trodAll_cons_mk (Below.trod laidOut (by kernel_rfl) (of_decide_eq_true (by kernel_rfl)) k0 bel lt0) trodAll_mk0), rfl, bel.frame _, fun h => by cases h⟩

theorem over : Rows.fnSetStoneTwiceRow.holds Try.pinned (OpenSpec.ofChange Rows.fnSetStoneTwiceSpec) :=
  OpenClaim.holds_of_wide 6 Try.f6 rfl rfl rfl rfl rfl rfl rfl ⟨rfl, rfl, rfl, rfl, rfl⟩ rfl rfl rfl rfl rfl (by kernel_rfl) Try.func6 (by kernel_rfl)
    (of_decide_eq_true (by kernel_rfl)) (by unfold Func.isWrapper; first | (rw [if_pos (by decide +kernel)]; kernel_rfl) | (rw [if_neg (by decide +kernel)]; exact ⟨rfl, rfl⟩))
    (fun os started H enc _ => lifted os started H enc)

theorem proved : Rows.FnSetStoneTwiceSaid := over
end Go.Proofs.Ytoflbpihcfdcgaa.fnSetStoneTwice
