/-
  The law of the exact RemoveDead: for every board and every list the program answers as its model does, leaves its arguments as they were, and its answer owns its memory. No condition.
-/
import Derived.Test.YtmokpaofljdehaaRows
import Derived.Test.YtmokpaofljdehaaRows2
import Derived.Test.YtmokpaofljdehaaOpenB
import Derived.Test.YtmokpaofljdehaaOpenL
import Derived.Test.YtmokpaofljdehaaRdX
import Derived.Deep.RegionWith
import Derived.Deep.DeepCutAuto
import Derived.WalkKit
import Derived.ProofKit
import Derived.OpenShut
import Derived.ShutString
import Derived.ChangeOld
import Derived.Below
namespace Go.Proofs.Ytmokpaofljdehaa.fnExactRemoveDead
set_option maxRecDepth 100000
open Go.ChangeShapes Go.WideShapes Go.ChangeAt Go.RowKit
open Go.ChangeMaps (open_string shut_string)
set_option linter.unusedVariables false

theorem own : ownKnob Try.prog.godebug = none := by kernel_rfl
theorem laidOut : laidOutB Try.prog = true := by kernel_rfl


theorem eqs_b (w : World) (B B' : Nat) (A A' : Option Addr) (n c c' : Nat) (xs : List Int) (h : Ints w B A n xs) (h' : Ints w B' A' n xs) (hn : n ≤ 1000000000) :
    Calls Try.prog 23 #[.slice A n c, .slice A' n c'] w fun e w' => e = .returned (.bool true) ∧ Below w.heap.size w w' := by
  refine (eqs_t w B B' A A' n c c' xs h h' hn).mono ?_
  rintro e w' ⟨k, rfl, rfl⟩
  exact ⟨rfl, ⟨rfl, rfl, rfl, Nat.le_refl _, fun _ _ => rfl⟩⟩
theorem held_b (w : World) (B : Nat) (A : Option Addr) (n c : Nat) (k : Int) (h : Ints w B A n (marks k n)) (hn : n ≤ 1000000000) (k1 : 0 ≤ k) (k2 : k ≤ 1000000000) :
    Calls Try.prog 55 #[.slice A n c, .int .i64 k] w fun e w' => e = .returned (.int .i64 (k + n)) ∧ Below w.heap.size w w' := by
  refine (held_t w B A n c k h hn k1 k2).mono ?_
  rintro e w' ⟨rfl, rfl⟩
  exact ⟨rfl, Below.refl _ _⟩

set_option maxRecDepth 100000 in
set_option maxHeartbeats 8000000 in
theorem walk (a0 : Int) (A0 : Option Addr) (n0 c0 : Nat) (cs0 : List Int) (A1 : Option Addr) (n1 c1 : Nat) (cs1 : List Int) (w : World) (w0 : Ints w w.heap.size A0 n0 cs0) (m0 : n0 ≤ 9223372036854775807) (w1 : Ints w w.heap.size A1 n1 cs1) (m1 : n1 ≤ 9223372036854775807) :
    Calls Try.prog 5 #[.agg #[.int .i64 a0, .slice A0 n0 c0], .slice A1 n1 c1] w fun e w' => e = .returned (.bool true) ∧ Below w.heap.size w w' := by
  by_cases hsd : 1048576 < n1
  · have Hb := Lib.hid ((Below.refl w.heap.size w).alloc (Nat.le_refl _) (.cells #[.int .i64 a0, .slice A0 n0 c0] 24))
    go_enter Try.func5, Try.ntmps5
    go_wp2_with fail
    go_ret
    exact ⟨rfl, Hb.out⟩
  · by_cases hsz : 1048576 < n0
    · go_enter Try.func5, Try.ntmps5
      go_wp2_with fail
      refine (x_szB_no _ _ _ _ _ hsz m0).mono ?_
      rintro e x ⟨rfl, hb⟩
      have Hb := Lib.hid (((Below.refl w.heap.size w).alloc (Nat.le_refl _) (.cells #[.int .i64 a0, .slice A0 n0 c0] 24)).trans (hb.mono (by simp)))
      clear hb
      go_wp2_with fail
      go_ret
      exact ⟨rfl, Hb.out⟩
    · have HB := Lib.hid (Below.refl w.heap.size w)
      have I0 := Lib.hid w0
      have I1 := Lib.hid w1
      obtain ⟨ok, s, cs, hR⟩ := Rmv.ex a0 cs0 cs1
      have hlen := hR.len
      have HR := Lib.hid hR
      clear w0 w1 hR
      go_enter Try.func5, Try.ntmps5
      go_wp2_with fail
      obtain ⟨x1, hy2, hb1, z3, z4⟩ := new_box w (.cells #[.int .i64 a0, .slice A0 n0 c0] 24)
      have V0 : Hid (Bx 24 x1 w.heap.size a0 (.slice A0 n0 c0)) := Lib.hid (by rw [hy2]; exact Bx.new _ _ _ _)
      rw [← hy2]
      clear hy2
      have I0 := Lib.hid (I0.out.below hb1 (by omega))
      have I1 := Lib.hid (I1.out.below hb1 (by omega))
      have HB := Lib.hid (HB.out.trans (hb1.mono (by omega)))
      have z5 := hb1.size
      clear hb1
      have V0_0 := V0.out.cell0
      have V0_1 := V0.out.cell1
      have V0_l := V0.out.lt
      go_wp2_with fail
      refine (x_szB _ _ _ _ _ (by omega)).mono ?_
      rintro e x2 ⟨rfl, hb6⟩
      clear V0_0 V0_1 V0_l
      have V0 := Lib.hid (V0.out.below hb6 V0.out.lt)
      have I0 := Lib.hid (I0.out.below hb6 (by omega))
      have I1 := Lib.hid (I1.out.below hb6 (by omega))
      have HB := Lib.hid (HB.out.trans (hb6.mono (by omega)))
      have z7 := hb6.size
      clear hb6 
      have V0_0 := V0.out.cell0
      have V0_1 := V0.out.cell1
      have V0_l := V0.out.lt
      go_wp2_with fail
      refine (x_toB _ _ _ _ _ _ _ I0.out (by omega) (by omega)).mono ?_
      rintro e x3 ⟨Ax, cx, rfl, ho9, hb8⟩
      have hnRx := ho9.1
      clear V0_0 V0_1 V0_l
      have V0 := Lib.hid (V0.out.below hb8 V0.out.lt)
      have I0 := Lib.hid (I0.out.below hb8 (by omega))
      have I1 := Lib.hid (I1.out.below hb8 (by omega))
      have HB := Lib.hid (HB.out.trans (hb8.mono (by omega)))
      have z10 := hb8.size
      have Rx := Lib.hid (Row.of ho9)
      clear hb8 ho9
      have V0_0 := V0.out.cell0
      have V0_1 := V0.out.cell1
      have V0_l := V0.out.lt
      go_wp2_with fail
      refine (x_copy _ _ _ _ _ _ I1.out (by omega) (by omega)).mono ?_
      rintro e x4 ⟨Al, cl, rfl, ho12, hb11⟩
      have hnRl := ho12.1
      clear V0_0 V0_1 V0_l
      have V0 := Lib.hid (V0.out.below hb11 V0.out.lt)
      have I0 := Lib.hid (I0.out.below hb11 (by omega))
      have I1 := Lib.hid (I1.out.below hb11 (by omega))
      have Rx := Lib.hid (Rx.out.below hb11)
      have HB := Lib.hid (HB.out.trans (hb11.mono (by omega)))
      have z13 := hb11.size
      have Rl := Lib.hid (Row.of ho12)
      clear hb11 ho12
      have V0_0 := V0.out.cell0
      have V0_1 := V0.out.cell1
      have V0_l := V0.out.lt
      go_wp2_with fail
      refine (s_RmvX _ _ _ _ _ _ _ _ _ _ cs0 cs1 ok s cs Rx.out.ints Rl.out.ints (Nat.le_refl _) (Nat.le_refl _) (by omega) (by omega) HR).mono ?_
      rintro e x5 ⟨A1, nr, cr, rfl, ho15, hb14⟩
      have hnR1 := ho15.1
      clear V0_0 V0_1 V0_l
      have V0 := Lib.hid (V0.out.below hb14 V0.out.lt)
      have I0 := Lib.hid (I0.out.below hb14 (by omega))
      have I1 := Lib.hid (I1.out.below hb14 (by omega))
      have Rx := Lib.hid (Rx.out.below hb14)
      have Rl := Lib.hid (Rl.out.below hb14)
      have HB := Lib.hid (HB.out.trans (hb14.mono (by omega)))
      have z16 := hb14.size
      have R1 := Lib.hid (Row.of ho15)
      clear hb14 ho15
      have V0_0 := V0.out.cell0
      have V0_1 := V0.out.cell1
      have V0_l := V0.out.lt
      go_wp2_with fail
      obtain ⟨x6, hy18, hb17, z19, z20⟩ := new_box x5 (.cells #[.int .i64 s, .slice A1 nr cr] 29)
      have V1 : Hid (Bx 29 x6 x5.heap.size s (.slice A1 nr cr)) := Lib.hid (by rw [hy18]; exact Bx.new _ _ _ _)
      rw [← hy18]
      clear hy18
      clear V0_0 V0_1 V0_l
      have V0 := Lib.hid (V0.out.below hb17 V0.out.lt)
      have I0 := Lib.hid (I0.out.below hb17 (by omega))
      have I1 := Lib.hid (I1.out.below hb17 (by omega))
      have Rx := Lib.hid (Rx.out.below hb17)
      have Rl := Lib.hid (Rl.out.below hb17)
      have R1 := Lib.hid (R1.out.below hb17)
      have HB := Lib.hid (HB.out.trans (hb17.mono (by omega)))
      have z21 := hb17.size
      clear hb17
      have V0_0 := V0.out.cell0
      have V0_1 := V0.out.cell1
      have V0_l := V0.out.lt
      have V1_0 := V1.out.cell0
      have V1_1 := V1.out.cell1
      have V1_l := V1.out.lt
      go_wp2_with fail
      refine (x_toB _ _ _ _ _ _ _ I0.out (by omega) (by omega)).mono ?_
      rintro e x7 ⟨A2, c2, rfl, ho23, hb22⟩
      have hnR2 := ho23.1
      clear V0_0 V0_1 V0_l V1_0 V1_1 V1_l
      have V0 := Lib.hid (V0.out.below hb22 V0.out.lt)
      have V1 := Lib.hid (V1.out.below hb22 V1.out.lt)
      have I0 := Lib.hid (I0.out.below hb22 (by omega))
      have I1 := Lib.hid (I1.out.below hb22 (by omega))
      have Rx := Lib.hid (Rx.out.below hb22)
      have Rl := Lib.hid (Rl.out.below hb22)
      have R1 := Lib.hid (R1.out.below hb22)
      have HB := Lib.hid (HB.out.trans (hb22.mono (by omega)))
      have z24 := hb22.size
      have R2 := Lib.hid (Row.of ho23)
      clear hb22 ho23
      have V0_0 := V0.out.cell0
      have V0_1 := V0.out.cell1
      have V0_l := V0.out.lt
      have V1_0 := V1.out.cell0
      have V1_1 := V1.out.cell1
      have V1_l := V1.out.lt
      go_wp2_with fail
      obtain ⟨x8, hy26, hb25, z27, z28⟩ := new_box x7 (.cells #[.int .i64 a0, .slice A2 n0 c2] 29)
      have V2 : Hid (Bx 29 x8 x7.heap.size a0 (.slice A2 n0 c2)) := Lib.hid (by rw [hy26]; exact Bx.new _ _ _ _)
      rw [← hy26]
      clear hy26
      clear V0_0 V0_1 V0_l V1_0 V1_1 V1_l
      have V0 := Lib.hid (V0.out.below hb25 V0.out.lt)
      have V1 := Lib.hid (V1.out.below hb25 V1.out.lt)
      have I0 := Lib.hid (I0.out.below hb25 (by omega))
      have I1 := Lib.hid (I1.out.below hb25 (by omega))
      have Rx := Lib.hid (Rx.out.below hb25)
      have Rl := Lib.hid (Rl.out.below hb25)
      have R1 := Lib.hid (R1.out.below hb25)
      have R2 := Lib.hid (R2.out.below hb25)
      have HB := Lib.hid (HB.out.trans (hb25.mono (by omega)))
      have z29 := hb25.size
      clear hb25
      have V0_0 := V0.out.cell0
      have V0_1 := V0.out.cell1
      have V0_l := V0.out.lt
      have V1_0 := V1.out.cell0
      have V1_1 := V1.out.cell1
      have V1_l := V1.out.lt
      have V2_0 := V2.out.cell0
      have V2_1 := V2.out.cell1
      have V2_l := V2.out.lt
      go_wp2_with fail
      refine (x_copy _ _ _ _ _ _ I1.out (by omega) (by omega)).mono ?_
      rintro e x9 ⟨A5, c5, rfl, ho31, hb30⟩
      have hnR5 := ho31.1
      clear V0_0 V0_1 V0_l V1_0 V1_1 V1_l V2_0 V2_1 V2_l
      have V0 := Lib.hid (V0.out.below hb30 V0.out.lt)
      have V1 := Lib.hid (V1.out.below hb30 V1.out.lt)
      have V2 := Lib.hid (V2.out.below hb30 V2.out.lt)
      have I0 := Lib.hid (I0.out.below hb30 (by omega))
      have I1 := Lib.hid (I1.out.below hb30 (by omega))
      have Rx := Lib.hid (Rx.out.below hb30)
      have Rl := Lib.hid (Rl.out.below hb30)
      have R1 := Lib.hid (R1.out.below hb30)
      have R2 := Lib.hid (R2.out.below hb30)
      have HB := Lib.hid (HB.out.trans (hb30.mono (by omega)))
      have z32 := hb30.size
      have R5 := Lib.hid (Row.of ho31)
      clear hb30 ho31
      have V0_0 := V0.out.cell0
      have V0_1 := V0.out.cell1
      have V0_l := V0.out.lt
      have V1_0 := V1.out.cell0
      have V1_1 := V1.out.cell1
      have V1_l := V1.out.lt
      have V2_0 := V2.out.cell0
      have V2_1 := V2.out.cell1
      have V2_l := V2.out.lt
      go_wp2_with fail
      refine (i_RmvX _ _ _ _ _ _ _ _ _ _ cs0 cs1 ok s cs R2.out.ints R5.out.ints (Nat.le_refl _) (Nat.le_refl _) (by omega) (by omega) HR).mono ?_
      rintro e x10 ⟨A3, n3, c3, rfl, ho34, hb33⟩
      have hnR3 := ho34.1
      clear V0_0 V0_1 V0_l V1_0 V1_1 V1_l V2_0 V2_1 V2_l
      have V0 := Lib.hid (V0.out.below hb33 V0.out.lt)
      have V1 := Lib.hid (V1.out.below hb33 V1.out.lt)
      have V2 := Lib.hid (V2.out.below hb33 V2.out.lt)
      have I0 := Lib.hid (I0.out.below hb33 (by omega))
      have I1 := Lib.hid (I1.out.below hb33 (by omega))
      have Rx := Lib.hid (Rx.out.below hb33)
      have Rl := Lib.hid (Rl.out.below hb33)
      have R1 := Lib.hid (R1.out.below hb33)
      have R2 := Lib.hid (R2.out.below hb33)
      have R5 := Lib.hid (R5.out.below hb33)
      have HB := Lib.hid (HB.out.trans (hb33.mono (by omega)))
      have z35 := hb33.size
      have R3 := Lib.hid (Row.of ho34)
      clear hb33 ho34
      have V0_0 := V0.out.cell0
      have V0_1 := V0.out.cell1
      have V0_l := V0.out.lt
      have V1_0 := V1.out.cell0
      have V1_1 := V1.out.cell1
      have V1_l := V1.out.lt
      have V2_0 := V2.out.cell0
      have V2_1 := V2.out.cell1
      have V2_l := V2.out.lt
      obtain rfl : n3 = nr := by omega
      go_wp2_with fail
      obtain ⟨x11, hy37, hb36, z38, z39⟩ := new_box x10 (.cells #[.int .i64 s, .slice A3 n3 c3] 29)
      have V3 : Hid (Bx 29 x11 x10.heap.size s (.slice A3 n3 c3)) := Lib.hid (by rw [hy37]; exact Bx.new _ _ _ _)
      rw [← hy37]
      clear hy37
      clear V0_0 V0_1 V0_l V1_0 V1_1 V1_l V2_0 V2_1 V2_l
      have V0 := Lib.hid (V0.out.below hb36 V0.out.lt)
      have V1 := Lib.hid (V1.out.below hb36 V1.out.lt)
      have V2 := Lib.hid (V2.out.below hb36 V2.out.lt)
      have I0 := Lib.hid (I0.out.below hb36 (by omega))
      have I1 := Lib.hid (I1.out.below hb36 (by omega))
      have Rx := Lib.hid (Rx.out.below hb36)
      have Rl := Lib.hid (Rl.out.below hb36)
      have R1 := Lib.hid (R1.out.below hb36)
      have R2 := Lib.hid (R2.out.below hb36)
      have R5 := Lib.hid (R5.out.below hb36)
      have R3 := Lib.hid (R3.out.below hb36)
      have HB := Lib.hid (HB.out.trans (hb36.mono (by omega)))
      have z40 := hb36.size
      clear hb36
      have V0_0 := V0.out.cell0
      have V0_1 := V0.out.cell1
      have V0_l := V0.out.lt
      have V1_0 := V1.out.cell0
      have V1_1 := V1.out.cell1
      have V1_l := V1.out.lt
      have V2_0 := V2.out.cell0
      have V2_1 := V2.out.cell1
      have V2_l := V2.out.lt
      have V3_0 := V3.out.cell0
      have V3_1 := V3.out.cell1
      have V3_l := V3.out.lt
      go_wp2_with fail
      refine (b_eq _ _ _ _ _ _ _ _ _ _ R3.out.ints R1.out.ints (Nat.le_refl _) (Nat.le_refl _) (by omega)).mono ?_
      rintro e x12 ⟨rfl, hb41⟩
      clear V0_0 V0_1 V0_l V1_0 V1_1 V1_l V2_0 V2_1 V2_l V3_0 V3_1 V3_l
      have V0 := Lib.hid (V0.out.below hb41 V0.out.lt)
      have V1 := Lib.hid (V1.out.below hb41 V1.out.lt)
      have V2 := Lib.hid (V2.out.below hb41 V2.out.lt)
      have V3 := Lib.hid (V3.out.below hb41 V3.out.lt)
      have I0 := Lib.hid (I0.out.below hb41 (by omega))
      have I1 := Lib.hid (I1.out.below hb41 (by omega))
      have Rx := Lib.hid (Rx.out.below hb41)
      have Rl := Lib.hid (Rl.out.below hb41)
      have R1 := Lib.hid (R1.out.below hb41)
      have R2 := Lib.hid (R2.out.below hb41)
      have R5 := Lib.hid (R5.out.below hb41)
      have R3 := Lib.hid (R3.out.below hb41)
      have HB := Lib.hid (HB.out.trans (hb41.mono (by omega)))
      have z42 := hb41.size
      clear hb41 
      have V0_0 := V0.out.cell0
      have V0_1 := V0.out.cell1
      have V0_l := V0.out.lt
      have V1_0 := V1.out.cell0
      have V1_1 := V1.out.cell1
      have V1_l := V1.out.lt
      have V2_0 := V2.out.cell0
      have V2_1 := V2.out.cell1
      have V2_l := V2.out.lt
      have V3_0 := V3.out.cell0
      have V3_1 := V3.out.cell1
      have V3_l := V3.out.lt
      go_upto_region 13 with (fail)
      go_cut [56] (fun v wx => v = .bool false ∧ Below x12.heap.size x12 wx)
      case first =>
        go_region_with (first | (go_at_call 19; refine (x_toB _ _ w.heap.size _ _ _ cs0 (by exact I0.out) ?_ (by omega)).mono ?_; (show w.heap.size ≤ x12.heap.size; omega); rintro e y ⟨A9, c9, rfl, ho9, hb9⟩; have hb9w : Below x12.heap.size x12 y := ⟨hb9.os, hb9.tape, hb9.output, hb9.size, hb9.block⟩; have hz9 := hb9w.size; have u0 := (V2.out.below hb9w V2.out.lt).cell0; have u1 := (V2.out.below hb9w V2.out.lt).cell1; have Ho9 := Lib.hid ho9; have Hb9 := Lib.hid hb9w; clear ho9 hb9 hb9w) | (go_at_call 22; refine (b_eq _ _ x12.heap.size y.heap.size _ _ _ _ _ cs0 (by exact R2.out.ints.below Hb9.out (Nat.le_refl _)) (by exact Ho9.out.ints) (by exact Hb9.out.size) (by exact Nat.le_refl _) (by omega)).mono ?_; rintro e y2 ⟨rfl, hb10⟩; have Hb10 : Hid (Below x12.heap.size x12 y2) := Lib.hid (Hb9.out.trans ((show Below y.heap.size y y2 from ⟨hb10.os, hb10.tape, hb10.output, hb10.size, hb10.block⟩).mono Hb9.out.size)); clear hb10))
        all_goals go_wp2_with fail
        all_goals go_meet
        all_goals exact ⟨rfl, Hb10.out⟩
      case rest =>
        obtain ⟨rfl, hb43⟩ := hcut
        clear V0_0 V0_1 V0_l V1_0 V1_1 V1_l V2_0 V2_1 V2_l V3_0 V3_1 V3_l
        have V0 := Lib.hid (V0.out.below hb43 V0.out.lt)
        have V1 := Lib.hid (V1.out.below hb43 V1.out.lt)
        have V2 := Lib.hid (V2.out.below hb43 V2.out.lt)
        have V3 := Lib.hid (V3.out.below hb43 V3.out.lt)
        have I0 := Lib.hid (I0.out.below hb43 (by omega))
        have I1 := Lib.hid (I1.out.below hb43 (by omega))
        have Rx := Lib.hid (Rx.out.below hb43)
        have Rl := Lib.hid (Rl.out.below hb43)
        have R1 := Lib.hid (R1.out.below hb43)
        have R2 := Lib.hid (R2.out.below hb43)
        have R5 := Lib.hid (R5.out.below hb43)
        have R3 := Lib.hid (R3.out.below hb43)
        have HB := Lib.hid (HB.out.trans (hb43.mono (by omega)))
        have z44 := hb43.size
        clear hb43
        have V0_0 := V0.out.cell0
        have V0_1 := V0.out.cell1
        have V0_l := V0.out.lt
        have V1_0 := V1.out.cell0
        have V1_1 := V1.out.cell1
        have V1_l := V1.out.lt
        have V2_0 := V2.out.cell0
        have V2_1 := V2.out.cell1
        have V2_l := V2.out.lt
        have V3_0 := V3.out.cell0
        have V3_1 := V3.out.cell1
        have V3_l := V3.out.lt
        go_wp2_with fail
        refine (x_copy _ _ _ _ _ _ I1.out (by omega) (by omega)).mono ?_
        rintro e x14 ⟨A6, c6, rfl, ho46, hb45⟩
        have hnR6 := ho46.1
        clear V0_0 V0_1 V0_l V1_0 V1_1 V1_l V2_0 V2_1 V2_l V3_0 V3_1 V3_l
        have V0 := Lib.hid (V0.out.below hb45 V0.out.lt)
        have V1 := Lib.hid (V1.out.below hb45 V1.out.lt)
        have V2 := Lib.hid (V2.out.below hb45 V2.out.lt)
        have V3 := Lib.hid (V3.out.below hb45 V3.out.lt)
        have I0 := Lib.hid (I0.out.below hb45 (by omega))
        have I1 := Lib.hid (I1.out.below hb45 (by omega))
        have Rx := Lib.hid (Rx.out.below hb45)
        have Rl := Lib.hid (Rl.out.below hb45)
        have R1 := Lib.hid (R1.out.below hb45)
        have R2 := Lib.hid (R2.out.below hb45)
        have R5 := Lib.hid (R5.out.below hb45)
        have R3 := Lib.hid (R3.out.below hb45)
        have HB := Lib.hid (HB.out.trans (hb45.mono (by omega)))
        have z47 := hb45.size
        have R6 := Lib.hid (Row.of ho46)
        clear hb45 ho46
        have V0_0 := V0.out.cell0
        have V0_1 := V0.out.cell1
        have V0_l := V0.out.lt
        have V1_0 := V1.out.cell0
        have V1_1 := V1.out.cell1
        have V1_l := V1.out.lt
        have V2_0 := V2.out.cell0
        have V2_1 := V2.out.cell1
        have V2_l := V2.out.lt
        have V3_0 := V3.out.cell0
        have V3_1 := V3.out.cell1
        have V3_l := V3.out.lt
        go_wp2_with fail
        refine (eqs_b _ _ _ _ _ _ _ _ _ R5.out.ints R6.out.ints (by omega)).mono ?_
        rintro e x15 ⟨rfl, hb48⟩
        clear V0_0 V0_1 V0_l V1_0 V1_1 V1_l V2_0 V2_1 V2_l V3_0 V3_1 V3_l
        have V0 := Lib.hid (V0.out.below hb48 V0.out.lt)
        have V1 := Lib.hid (V1.out.below hb48 V1.out.lt)
        have V2 := Lib.hid (V2.out.below hb48 V2.out.lt)
        have V3 := Lib.hid (V3.out.below hb48 V3.out.lt)
        have I0 := Lib.hid (I0.out.below hb48 (by omega))
        have I1 := Lib.hid (I1.out.below hb48 (by omega))
        have Rx := Lib.hid (Rx.out.below hb48)
        have Rl := Lib.hid (Rl.out.below hb48)
        have R1 := Lib.hid (R1.out.below hb48)
        have R2 := Lib.hid (R2.out.below hb48)
        have R5 := Lib.hid (R5.out.below hb48)
        have R3 := Lib.hid (R3.out.below hb48)
        have R6 := Lib.hid (R6.out.below hb48)
        have HB := Lib.hid (HB.out.trans (hb48.mono (by omega)))
        have z49 := hb48.size
        clear hb48 
        have V0_0 := V0.out.cell0
        have V0_1 := V0.out.cell1
        have V0_l := V0.out.lt
        have V1_0 := V1.out.cell0
        have V1_1 := V1.out.cell1
        have V1_l := V1.out.lt
        have V2_0 := V2.out.cell0
        have V2_1 := V2.out.cell1
        have V2_l := V2.out.lt
        have V3_0 := V3.out.cell0
        have V3_1 := V3.out.cell1
        have V3_l := V3.out.lt
        go_wp2_with fail
        refine (b_mark _ _ _ _ _ _ _ 1 R2.out.own (by omega) (by omega) (by omega)).mono ?_
        rintro e x16 ⟨rfl, ho50, hg51⟩
        clear V0_0 V0_1 V0_l V1_0 V1_1 V1_l V2_0 V2_1 V2_l V3_0 V3_1 V3_l
        have V0 := Lib.hid (R2.out.boxKept V0.out hg51 (by omega))
        have V1 := Lib.hid (R2.out.boxKept V1.out hg51 (by omega))
        have V2 := Lib.hid (R2.out.boxKept V2.out hg51 (by omega))
        have V3 := Lib.hid (R2.out.boxKept V3.out hg51 (by omega))
        have I0 := Lib.hid (R2.out.intsKept I0.out hg51 (by omega) (by omega))
        have I1 := Lib.hid (R2.out.intsKept I1.out hg51 (by omega) (by omega))
        have Rx := Lib.hid (R2.out.other Rx.out hg51 (by omega))
        have Rl := Lib.hid (R2.out.other Rl.out hg51 (by omega))
        have R1 := Lib.hid (R2.out.other R1.out hg51 (by omega))
        have R5 := Lib.hid (R2.out.other R5.out hg51 (by omega))
        have R3 := Lib.hid (R2.out.other R3.out hg51 (by omega))
        have R6 := Lib.hid (R2.out.other R6.out hg51 (by omega))
        have HB := Lib.hid (R2.out.belowKept HB.out hg51 (by omega) (by omega))
        have z52 := hg51.size
        have R2 := Lib.hid (Row.mk ho50 R2.out.top (by have := R2.out.le; omega))
        clear ho50 hg51 
        have V0_0 := V0.out.cell0
        have V0_1 := V0.out.cell1
        have V0_l := V0.out.lt
        have V1_0 := V1.out.cell0
        have V1_1 := V1.out.cell1
        have V1_l := V1.out.lt
        have V2_0 := V2.out.cell0
        have V2_1 := V2.out.cell1
        have V2_l := V2.out.lt
        have V3_0 := V3.out.cell0
        have V3_1 := V3.out.cell1
        have V3_l := V3.out.lt
        go_wp2_with fail
        refine (mark_any _ _ _ _ _ _ (1 + n0) R5.out.own (by omega) (by omega) (by omega)).mono ?_
        rintro e x17 ⟨rfl, ho53, hg54⟩
        clear V0_0 V0_1 V0_l V1_0 V1_1 V1_l V2_0 V2_1 V2_l V3_0 V3_1 V3_l
        have V0 := Lib.hid (R5.out.boxKept V0.out hg54 (by omega))
        have V1 := Lib.hid (R5.out.boxKept V1.out hg54 (by omega))
        have V2 := Lib.hid (R5.out.boxKept V2.out hg54 (by omega))
        have V3 := Lib.hid (R5.out.boxKept V3.out hg54 (by omega))
        have I0 := Lib.hid (R5.out.intsKept I0.out hg54 (by omega) (by omega))
        have I1 := Lib.hid (R5.out.intsKept I1.out hg54 (by omega) (by omega))
        have Rx := Lib.hid (R5.out.other Rx.out hg54 (by omega))
        have Rl := Lib.hid (R5.out.other Rl.out hg54 (by omega))
        have R1 := Lib.hid (R5.out.other R1.out hg54 (by omega))
        have R2 := Lib.hid (R5.out.other R2.out hg54 (by omega))
        have R3 := Lib.hid (R5.out.other R3.out hg54 (by omega))
        have R6 := Lib.hid (R5.out.other R6.out hg54 (by omega))
        have HB := Lib.hid (R5.out.belowKept HB.out hg54 (by omega) (by omega))
        have z55 := hg54.size
        have R5 := Lib.hid (Row.mk ho53 R5.out.top (by have := R5.out.le; omega))
        clear ho53 hg54 
        have V0_0 := V0.out.cell0
        have V0_1 := V0.out.cell1
        have V0_l := V0.out.lt
        have V1_0 := V1.out.cell0
        have V1_1 := V1.out.cell1
        have V1_l := V1.out.lt
        have V2_0 := V2.out.cell0
        have V2_1 := V2.out.cell1
        have V2_l := V2.out.lt
        have V3_0 := V3.out.cell0
        have V3_1 := V3.out.cell1
        have V3_l := V3.out.lt
        go_wp2_with fail
        refine (b_eq _ _ _ _ _ _ _ _ _ _ R3.out.ints R1.out.ints (Nat.le_refl _) (Nat.le_refl _) (by omega)).mono ?_
        rintro e x18 ⟨rfl, hb56⟩
        clear V0_0 V0_1 V0_l V1_0 V1_1 V1_l V2_0 V2_1 V2_l V3_0 V3_1 V3_l
        have V0 := Lib.hid (V0.out.below hb56 V0.out.lt)
        have V1 := Lib.hid (V1.out.below hb56 V1.out.lt)
        have V2 := Lib.hid (V2.out.below hb56 V2.out.lt)
        have V3 := Lib.hid (V3.out.below hb56 V3.out.lt)
        have I0 := Lib.hid (I0.out.below hb56 (by omega))
        have I1 := Lib.hid (I1.out.below hb56 (by omega))
        have Rx := Lib.hid (Rx.out.below hb56)
        have Rl := Lib.hid (Rl.out.below hb56)
        have R1 := Lib.hid (R1.out.below hb56)
        have R2 := Lib.hid (R2.out.below hb56)
        have R5 := Lib.hid (R5.out.below hb56)
        have R3 := Lib.hid (R3.out.below hb56)
        have R6 := Lib.hid (R6.out.below hb56)
        have HB := Lib.hid (HB.out.trans (hb56.mono (by omega)))
        have z57 := hb56.size
        clear hb56 
        have V0_0 := V0.out.cell0
        have V0_1 := V0.out.cell1
        have V0_l := V0.out.lt
        have V1_0 := V1.out.cell0
        have V1_1 := V1.out.cell1
        have V1_l := V1.out.lt
        have V2_0 := V2.out.cell0
        have V2_1 := V2.out.cell1
        have V2_l := V2.out.lt
        have V3_0 := V3.out.cell0
        have V3_1 := V3.out.cell1
        have V3_l := V3.out.lt
        go_wp2_with fail
        refine (b_mark _ _ _ _ _ _ _ 1 R3.out.own (by omega) (by omega) (by omega)).mono ?_
        rintro e x19 ⟨rfl, ho58, hg59⟩
        clear V0_0 V0_1 V0_l V1_0 V1_1 V1_l V2_0 V2_1 V2_l V3_0 V3_1 V3_l
        have V0 := Lib.hid (R3.out.boxKept V0.out hg59 (by omega))
        have V1 := Lib.hid (R3.out.boxKept V1.out hg59 (by omega))
        have V2 := Lib.hid (R3.out.boxKept V2.out hg59 (by omega))
        have V3 := Lib.hid (R3.out.boxKept V3.out hg59 (by omega))
        have I0 := Lib.hid (R3.out.intsKept I0.out hg59 (by omega) (by omega))
        have I1 := Lib.hid (R3.out.intsKept I1.out hg59 (by omega) (by omega))
        have Rx := Lib.hid (R3.out.other Rx.out hg59 (by omega))
        have Rl := Lib.hid (R3.out.other Rl.out hg59 (by omega))
        have R1 := Lib.hid (R3.out.other R1.out hg59 (by omega))
        have R2 := Lib.hid (R3.out.other R2.out hg59 (by omega))
        have R5 := Lib.hid (R3.out.other R5.out hg59 (by omega))
        have R6 := Lib.hid (R3.out.other R6.out hg59 (by omega))
        have HB := Lib.hid (R3.out.belowKept HB.out hg59 (by omega) (by omega))
        have z60 := hg59.size
        have R3 := Lib.hid (Row.mk ho58 R3.out.top (by have := R3.out.le; omega))
        clear ho58 hg59 
        have V0_0 := V0.out.cell0
        have V0_1 := V0.out.cell1
        have V0_l := V0.out.lt
        have V1_0 := V1.out.cell0
        have V1_1 := V1.out.cell1
        have V1_l := V1.out.lt
        have V2_0 := V2.out.cell0
        have V2_1 := V2.out.cell1
        have V2_l := V2.out.lt
        have V3_0 := V3.out.cell0
        have V3_1 := V3.out.cell1
        have V3_l := V3.out.lt
        go_wp2_with fail
        refine (b_held _ _ _ _ _ _ 1 R3.out.ints (Nat.le_refl _) (by omega) (by omega) (by omega)).mono ?_
        rintro e x20 ⟨rfl, hb61⟩
        clear V0_0 V0_1 V0_l V1_0 V1_1 V1_l V2_0 V2_1 V2_l V3_0 V3_1 V3_l
        have V0 := Lib.hid (V0.out.below hb61 V0.out.lt)
        have V1 := Lib.hid (V1.out.below hb61 V1.out.lt)
        have V2 := Lib.hid (V2.out.below hb61 V2.out.lt)
        have V3 := Lib.hid (V3.out.below hb61 V3.out.lt)
        have I0 := Lib.hid (I0.out.below hb61 (by omega))
        have I1 := Lib.hid (I1.out.below hb61 (by omega))
        have Rx := Lib.hid (Rx.out.below hb61)
        have Rl := Lib.hid (Rl.out.below hb61)
        have R1 := Lib.hid (R1.out.below hb61)
        have R2 := Lib.hid (R2.out.below hb61)
        have R5 := Lib.hid (R5.out.below hb61)
        have R3 := Lib.hid (R3.out.below hb61)
        have R6 := Lib.hid (R6.out.below hb61)
        have HB := Lib.hid (HB.out.trans (hb61.mono (by omega)))
        have z62 := hb61.size
        clear hb61 
        have V0_0 := V0.out.cell0
        have V0_1 := V0.out.cell1
        have V0_l := V0.out.lt
        have V1_0 := V1.out.cell0
        have V1_1 := V1.out.cell1
        have V1_l := V1.out.lt
        have V2_0 := V2.out.cell0
        have V2_1 := V2.out.cell1
        have V2_l := V2.out.lt
        have V3_0 := V3.out.cell0
        have V3_1 := V3.out.cell1
        have V3_l := V3.out.lt
        go_wp2_with fail
        refine (x_toB _ _ _ _ _ _ _ I0.out (by omega) (by omega)).mono ?_
        rintro e x21 ⟨Ay, cy, rfl, ho64, hb63⟩
        have hnRy := ho64.1
        clear V0_0 V0_1 V0_l V1_0 V1_1 V1_l V2_0 V2_1 V2_l V3_0 V3_1 V3_l
        have V0 := Lib.hid (V0.out.below hb63 V0.out.lt)
        have V1 := Lib.hid (V1.out.below hb63 V1.out.lt)
        have V2 := Lib.hid (V2.out.below hb63 V2.out.lt)
        have V3 := Lib.hid (V3.out.below hb63 V3.out.lt)
        have I0 := Lib.hid (I0.out.below hb63 (by omega))
        have I1 := Lib.hid (I1.out.below hb63 (by omega))
        have Rx := Lib.hid (Rx.out.below hb63)
        have Rl := Lib.hid (Rl.out.below hb63)
        have R1 := Lib.hid (R1.out.below hb63)
        have R2 := Lib.hid (R2.out.below hb63)
        have R5 := Lib.hid (R5.out.below hb63)
        have R3 := Lib.hid (R3.out.below hb63)
        have R6 := Lib.hid (R6.out.below hb63)
        have HB := Lib.hid (HB.out.trans (hb63.mono (by omega)))
        have z65 := hb63.size
        have Ry := Lib.hid (Row.of ho64)
        clear hb63 ho64
        have V0_0 := V0.out.cell0
        have V0_1 := V0.out.cell1
        have V0_l := V0.out.lt
        have V1_0 := V1.out.cell0
        have V1_1 := V1.out.cell1
        have V1_l := V1.out.lt
        have V2_0 := V2.out.cell0
        have V2_1 := V2.out.cell1
        have V2_l := V2.out.lt
        have V3_0 := V3.out.cell0
        have V3_1 := V3.out.cell1
        have V3_l := V3.out.lt
        go_wp2_with fail
        refine (x_copy _ _ _ _ _ _ I1.out (by omega) (by omega)).mono ?_
        rintro e x22 ⟨Az, cz, rfl, ho67, hb66⟩
        have hnRz := ho67.1
        clear V0_0 V0_1 V0_l V1_0 V1_1 V1_l V2_0 V2_1 V2_l V3_0 V3_1 V3_l
        have V0 := Lib.hid (V0.out.below hb66 V0.out.lt)
        have V1 := Lib.hid (V1.out.below hb66 V1.out.lt)
        have V2 := Lib.hid (V2.out.below hb66 V2.out.lt)
        have V3 := Lib.hid (V3.out.below hb66 V3.out.lt)
        have I0 := Lib.hid (I0.out.below hb66 (by omega))
        have I1 := Lib.hid (I1.out.below hb66 (by omega))
        have Rx := Lib.hid (Rx.out.below hb66)
        have Rl := Lib.hid (Rl.out.below hb66)
        have R1 := Lib.hid (R1.out.below hb66)
        have R2 := Lib.hid (R2.out.below hb66)
        have R5 := Lib.hid (R5.out.below hb66)
        have R3 := Lib.hid (R3.out.below hb66)
        have R6 := Lib.hid (R6.out.below hb66)
        have Ry := Lib.hid (Ry.out.below hb66)
        have HB := Lib.hid (HB.out.trans (hb66.mono (by omega)))
        have z68 := hb66.size
        have Rz := Lib.hid (Row.of ho67)
        clear hb66 ho67
        have V0_0 := V0.out.cell0
        have V0_1 := V0.out.cell1
        have V0_l := V0.out.lt
        have V1_0 := V1.out.cell0
        have V1_1 := V1.out.cell1
        have V1_l := V1.out.lt
        have V2_0 := V2.out.cell0
        have V2_1 := V2.out.cell1
        have V2_l := V2.out.lt
        have V3_0 := V3.out.cell0
        have V3_1 := V3.out.cell1
        have V3_l := V3.out.lt
        go_wp2_with fail
        refine (i_RmvX _ _ _ _ _ _ _ _ _ _ cs0 cs1 ok s cs Ry.out.ints Rz.out.ints (Nat.le_refl _) (Nat.le_refl _) (by omega) (by omega) HR).mono ?_
        rintro e x23 ⟨A4, n4, c4, rfl, ho70, hb69⟩
        have hnR4 := ho70.1
        clear V0_0 V0_1 V0_l V1_0 V1_1 V1_l V2_0 V2_1 V2_l V3_0 V3_1 V3_l
        have V0 := Lib.hid (V0.out.below hb69 V0.out.lt)
        have V1 := Lib.hid (V1.out.below hb69 V1.out.lt)
        have V2 := Lib.hid (V2.out.below hb69 V2.out.lt)
        have V3 := Lib.hid (V3.out.below hb69 V3.out.lt)
        have I0 := Lib.hid (I0.out.below hb69 (by omega))
        have I1 := Lib.hid (I1.out.below hb69 (by omega))
        have Rx := Lib.hid (Rx.out.below hb69)
        have Rl := Lib.hid (Rl.out.below hb69)
        have R1 := Lib.hid (R1.out.below hb69)
        have R2 := Lib.hid (R2.out.below hb69)
        have R5 := Lib.hid (R5.out.below hb69)
        have R3 := Lib.hid (R3.out.below hb69)
        have R6 := Lib.hid (R6.out.below hb69)
        have Ry := Lib.hid (Ry.out.below hb69)
        have Rz := Lib.hid (Rz.out.below hb69)
        have HB := Lib.hid (HB.out.trans (hb69.mono (by omega)))
        have z71 := hb69.size
        have R4 := Lib.hid (Row.of ho70)
        clear hb69 ho70
        have V0_0 := V0.out.cell0
        have V0_1 := V0.out.cell1
        have V0_l := V0.out.lt
        have V1_0 := V1.out.cell0
        have V1_1 := V1.out.cell1
        have V1_l := V1.out.lt
        have V2_0 := V2.out.cell0
        have V2_1 := V2.out.cell1
        have V2_l := V2.out.lt
        have V3_0 := V3.out.cell0
        have V3_1 := V3.out.cell1
        have V3_l := V3.out.lt
        obtain rfl : n4 = n3 := by omega
        go_wp2_with fail
        obtain ⟨x24, hy73, hb72, z74, z75⟩ := new_box x23 (.cells #[.int .i64 s, .slice A4 n4 c4] 29)
        have V4 : Hid (Bx 29 x24 x23.heap.size s (.slice A4 n4 c4)) := Lib.hid (by rw [hy73]; exact Bx.new _ _ _ _)
        rw [← hy73]
        clear hy73
        clear V0_0 V0_1 V0_l V1_0 V1_1 V1_l V2_0 V2_1 V2_l V3_0 V3_1 V3_l
        have V0 := Lib.hid (V0.out.below hb72 V0.out.lt)
        have V1 := Lib.hid (V1.out.below hb72 V1.out.lt)
        have V2 := Lib.hid (V2.out.below hb72 V2.out.lt)
        have V3 := Lib.hid (V3.out.below hb72 V3.out.lt)
        have I0 := Lib.hid (I0.out.below hb72 (by omega))
        have I1 := Lib.hid (I1.out.below hb72 (by omega))
        have Rx := Lib.hid (Rx.out.below hb72)
        have Rl := Lib.hid (Rl.out.below hb72)
        have R1 := Lib.hid (R1.out.below hb72)
        have R2 := Lib.hid (R2.out.below hb72)
        have R5 := Lib.hid (R5.out.below hb72)
        have R3 := Lib.hid (R3.out.below hb72)
        have R6 := Lib.hid (R6.out.below hb72)
        have Ry := Lib.hid (Ry.out.below hb72)
        have Rz := Lib.hid (Rz.out.below hb72)
        have R4 := Lib.hid (R4.out.below hb72)
        have HB := Lib.hid (HB.out.trans (hb72.mono (by omega)))
        have z76 := hb72.size
        clear hb72
        have V0_0 := V0.out.cell0
        have V0_1 := V0.out.cell1
        have V0_l := V0.out.lt
        have V1_0 := V1.out.cell0
        have V1_1 := V1.out.cell1
        have V1_l := V1.out.lt
        have V2_0 := V2.out.cell0
        have V2_1 := V2.out.cell1
        have V2_l := V2.out.lt
        have V3_0 := V3.out.cell0
        have V3_1 := V3.out.cell1
        have V3_l := V3.out.lt
        have V4_0 := V4.out.cell0
        have V4_1 := V4.out.cell1
        have V4_l := V4.out.lt
        go_wp2_with fail
        refine (b_eq _ _ _ _ _ _ _ _ _ _ R4.out.ints R1.out.ints (Nat.le_refl _) (Nat.le_refl _) (by omega)).mono ?_
        rintro e x25 ⟨rfl, hb77⟩
        clear V0_0 V0_1 V0_l V1_0 V1_1 V1_l V2_0 V2_1 V2_l V3_0 V3_1 V3_l V4_0 V4_1 V4_l
        have V0 := Lib.hid (V0.out.below hb77 V0.out.lt)
        have V1 := Lib.hid (V1.out.below hb77 V1.out.lt)
        have V2 := Lib.hid (V2.out.below hb77 V2.out.lt)
        have V3 := Lib.hid (V3.out.below hb77 V3.out.lt)
        have V4 := Lib.hid (V4.out.below hb77 V4.out.lt)
        have I0 := Lib.hid (I0.out.below hb77 (by omega))
        have I1 := Lib.hid (I1.out.below hb77 (by omega))
        have Rx := Lib.hid (Rx.out.below hb77)
        have Rl := Lib.hid (Rl.out.below hb77)
        have R1 := Lib.hid (R1.out.below hb77)
        have R2 := Lib.hid (R2.out.below hb77)
        have R5 := Lib.hid (R5.out.below hb77)
        have R3 := Lib.hid (R3.out.below hb77)
        have R6 := Lib.hid (R6.out.below hb77)
        have Ry := Lib.hid (Ry.out.below hb77)
        have Rz := Lib.hid (Rz.out.below hb77)
        have R4 := Lib.hid (R4.out.below hb77)
        have HB := Lib.hid (HB.out.trans (hb77.mono (by omega)))
        have z78 := hb77.size
        clear hb77 
        have V0_0 := V0.out.cell0
        have V0_1 := V0.out.cell1
        have V0_l := V0.out.lt
        have V1_0 := V1.out.cell0
        have V1_1 := V1.out.cell1
        have V1_l := V1.out.lt
        have V2_0 := V2.out.cell0
        have V2_1 := V2.out.cell1
        have V2_l := V2.out.lt
        have V3_0 := V3.out.cell0
        have V3_1 := V3.out.cell1
        have V3_l := V3.out.lt
        have V4_0 := V4.out.cell0
        have V4_1 := V4.out.cell1
        have V4_l := V4.out.lt
        go_wp2_with fail
        refine (b_held _ _ _ _ _ _ 1 R3.out.ints (Nat.le_refl _) (by omega) (by omega) (by omega)).mono ?_
        rintro e x26 ⟨rfl, hb79⟩
        clear V0_0 V0_1 V0_l V1_0 V1_1 V1_l V2_0 V2_1 V2_l V3_0 V3_1 V3_l V4_0 V4_1 V4_l
        have V0 := Lib.hid (V0.out.below hb79 V0.out.lt)
        have V1 := Lib.hid (V1.out.below hb79 V1.out.lt)
        have V2 := Lib.hid (V2.out.below hb79 V2.out.lt)
        have V3 := Lib.hid (V3.out.below hb79 V3.out.lt)
        have V4 := Lib.hid (V4.out.below hb79 V4.out.lt)
        have I0 := Lib.hid (I0.out.below hb79 (by omega))
        have I1 := Lib.hid (I1.out.below hb79 (by omega))
        have Rx := Lib.hid (Rx.out.below hb79)
        have Rl := Lib.hid (Rl.out.below hb79)
        have R1 := Lib.hid (R1.out.below hb79)
        have R2 := Lib.hid (R2.out.below hb79)
        have R5 := Lib.hid (R5.out.below hb79)
        have R3 := Lib.hid (R3.out.below hb79)
        have R6 := Lib.hid (R6.out.below hb79)
        have Ry := Lib.hid (Ry.out.below hb79)
        have Rz := Lib.hid (Rz.out.below hb79)
        have R4 := Lib.hid (R4.out.below hb79)
        have HB := Lib.hid (HB.out.trans (hb79.mono (by omega)))
        have z80 := hb79.size
        clear hb79 
        have V0_0 := V0.out.cell0
        have V0_1 := V0.out.cell1
        have V0_l := V0.out.lt
        have V1_0 := V1.out.cell0
        have V1_1 := V1.out.cell1
        have V1_l := V1.out.lt
        have V2_0 := V2.out.cell0
        have V2_1 := V2.out.cell1
        have V2_l := V2.out.lt
        have V3_0 := V3.out.cell0
        have V3_1 := V3.out.cell1
        have V3_l := V3.out.lt
        have V4_0 := V4.out.cell0
        have V4_1 := V4.out.cell1
        have V4_l := V4.out.lt
        go_wp2_with fail
        go_ret
        exact ⟨rfl, HB.out⟩

set_option maxRecDepth 100000 in
theorem lifted (os : Os) (started : os.Started) (H : Type) (enc : TypeId × Value → H) :
    ReturnsInHanded {} Try.checked os 5 .any (Rows.fnExactRemoveDeadSpec.pre6 enc Try.prog Try.f5 Rows.fnExactRemoveDeadRow.domain false) (Rows.fnExactRemoveDeadSpec.post enc Try.prog Try.f5 false true false false) := by
  refine returnsInHanded_of_change (C := Try.checked) own started (by kernel_rfl) Try.func5
    (ChangeSpec.witness6 (enc := enc) (C := Try.checked) false ⟨#[], #[.agg #[.int .i64 0, .slice none 0 0], .slice none 0 0], []⟩ 8 (by kernel_rfl) (by kernel_rfl) (by kernel_rfl) (by kernel_rfl)) ?_
  intro W base args ds gs before hval0 hW hcnd _
  have hval : ∀ (j : Nat) t v, Try.f5.params[j]? = some t → args[j]? = some v → Value.okWide Try.prog W .any base t v := hval0
  have hW' := hW
  obtain ⟨p, q, hA0, hV, rfl, hfz, hnd⟩ := hW
  have hA : DataW.TrodAll enc Try.prog W 0 (fun _ => true) true Try.f5.params.toList args.toList ds p := hA0
  rw [Try.params5] at hA hval
  obtain ⟨v0, vs0, d0, ds0, p0, q0, hargs, rfl, rfl, h0, r0⟩ := trodAll_cons hA
  obtain ⟨v1, vs1, d1, ds1, p1, q1, rfl, rfl, rfl, h1, r1⟩ := trodAll_cons r0
  obtain ⟨rfl, rfl, rfl⟩ := trodAll_nil r1
  obtain rfl : args = #[v0, v1] := by cases args; simp_all
  obtain ⟨rfl, rfl⟩ := trodVars_none hV
  have k0 := h0
  have lt0 : ∀ x ∈ p0, x.block < W.heap.size := by obtain ⟨m, hm⟩ := k0; exact DataW.trod_lt m _ _ _ hm
  obtain ⟨a0, A0, n0, c0, cs0, rfl, w0, m0⟩ := open_board (hval 0 24 v0 rfl rfl) h0
  have k1 := h1
  have lt1 : ∀ x ∈ p1, x.block < W.heap.size := by obtain ⟨m, hm⟩ := k1; exact DataW.trod_lt m _ _ _ hm
  obtain ⟨A1, n1, c1, cs1, rfl, w1, m1⟩ := open_list (hval 1 22 v1 rfl rfl) h1
  clear hA0 hval0
  refine (walk a0 A0 n0 c0 cs0 A1 n1 c1 cs1 W w0 m0 w1 m1).mono fun e W' ⟨he, bel⟩ => ?_
  subst he
  exact ⟨_, rfl, _, _, _, [], _, [], hW', trodAll_mk1 (shut_bool Try.underlying4 _), (trodAll_cons_mk (Below.trod laidOut (by kernel_rfl) (of_decide_eq_true (by kernel_rfl)) k0 bel lt0) (trodAll_cons_mk (Below.trod laidOut (by kernel_rfl) (of_decide_eq_true (by kernel_rfl)) k1 bel lt1) trodAll_mk0)), rfl, bel.frame _, fun h => by cases h⟩

theorem over : Rows.fnExactRemoveDeadRow.holds Try.pinned (OpenSpec.ofChange Rows.fnExactRemoveDeadSpec) :=
  OpenClaim.holds_of_wide 5 Try.f5 rfl rfl rfl rfl rfl rfl rfl ⟨rfl, rfl, rfl, rfl, rfl⟩ rfl rfl rfl rfl rfl (by kernel_rfl) Try.func5 (by kernel_rfl)
    (of_decide_eq_true (by kernel_rfl)) (by unfold Func.isWrapper; first | (rw [if_pos (by decide +kernel)]; kernel_rfl) | (rw [if_neg (by decide +kernel)]; exact ⟨rfl, rfl⟩))
    (fun os started H enc _ => lifted os started H enc)

theorem proved : Rows.FnExactRemoveDeadSaid := over
end Go.Proofs.Ytmokpaofljdehaa.fnExactRemoveDead
