/-
  The law of the exact FindPattern: for every board and every int the program answers as its model does, leaves its argument as it was, and its answer owns its memory. No condition.
-/
import Derived.Test.YtpopbcmfbcmojaaExFdKit
import Derived.Test.YtpopbcmfbcmojaaRows
import Derived.Test.YtpopbcmfbcmojaaRows2
import Derived.Deep.RegionWith
import Derived.Deep.DeepCutAuto
import Derived.WalkKit
import Derived.ProofKit
import Derived.OpenShut
import Derived.ShutString
import Derived.ChangeOld
import Derived.Below
namespace Go.Proofs.Ytpopbcmfbcmojaa.fnExactFindPattern
set_option maxRecDepth 100000
open Go.ChangeShapes Go.WideShapes Go.ChangeAt Go.RowKit
open Go.ChangeMaps (open_string shut_string)
set_option linter.unusedVariables false

theorem own : ownKnob Try.prog.godebug = none := by kernel_rfl
theorem laidOut : laidOutB Try.prog = true := by kernel_rfl


theorem eqs_b (w : World) (B B' : Nat) (A A' : Option Addr) (n c c' : Nat) (xs : List Int) (h : Ints w B A n xs) (h' : Ints w B' A' n xs) (hn : n ≤ 1000000000) :
    Calls Try.prog 28 #[.slice A n c, .slice A' n c'] w fun e w' => e = .returned (.bool true) ∧ Below w.heap.size w w' := by
  refine (eqs_t w B B' A A' n c c' xs h h' hn).mono ?_
  rintro e w' ⟨k, rfl, rfl⟩
  exact ⟨rfl, ⟨rfl, rfl, rfl, Nat.le_refl _, fun _ _ => rfl⟩⟩
theorem held_b (w : World) (B : Nat) (A : Option Addr) (n c : Nat) (k : Int) (h : Ints w B A n (marks k n)) (hn : n ≤ 1000000000) (k1 : 0 ≤ k) (k2 : k ≤ 1000000000) :
    Calls Try.prog 31 #[.slice A n c, .int .i64 k] w fun e w' => e = .returned (.int .i64 (k + n)) ∧ Below w.heap.size w w' := by
  refine (held_t w B A n c k h hn k1 k2).mono ?_
  rintro e w' ⟨rfl, rfl⟩
  exact ⟨rfl, Below.refl _ _⟩

set_option maxRecDepth 100000 in
set_option maxHeartbeats 4000000 in
theorem walk (a0 : Int) (A0 : Option Addr) (n0 c0 : Nat) (cs0 : List Int) (a1 : Int) (w : World) (w0 : Ints w w.heap.size A0 n0 cs0) (m0 : n0 ≤ 9223372036854775807) (w1 : (Lit.int .i64 a1).wf = true) :
    Calls Try.prog 6 #[.agg #[.int .i64 a0, .slice A0 n0 c0], .int .i64 a1] w fun e w' => e = .returned (.bool true) ∧ Below w.heap.size w w' := by
  by_cases hsz : 1048576 < n0
  · go_enter Try.func6, Try.ntmps6
    go_wp2_with fail
    refine (x_szB_no _ _ _ _ _ hsz m0).mono ?_
    rintro e x ⟨rfl, hb⟩
    have Hb := Lib.hid (((Below.refl w.heap.size w).alloc (Nat.le_refl _) (.cells #[.int .i64 a0, .slice A0 n0 c0] 34)).trans (hb.mono (by simp)))
    clear hb
    go_wp2_with fail
    go_ret
    exact ⟨rfl, Hb.out⟩
  · have HB := Lib.hid (Below.refl w.heap.size w)
    have I0 := Lib.hid w0
    obtain ⟨lr, hl⟩ : ∃ lr, Fd.ans a0 cs0 a1 = lr := ⟨_, rfl⟩
    have Hl := Lib.hid hl
    have hlen : lr.length ≤ 1048576 := (by have h1 := Fd.ans_few a0 cs0 a1; rw [hl] at h1; have h2 := w0.1; omega)
    clear w0 hl
    go_enter Try.func6, Try.ntmps6
    go_wp2_with fail
    obtain ⟨x1, hy2, hb1, z3, z4⟩ := new_box w (.cells #[.int .i64 a0, .slice A0 n0 c0] 34)
    have V0 : Hid (Bx 34 x1 w.heap.size a0 (.slice A0 n0 c0)) := Lib.hid (by rw [hy2]; exact Bx.new _ _ _ _)
    rw [← hy2]
    clear hy2
    have I0 := Lib.hid (I0.out.below hb1 (by omega))
    have HB := Lib.hid (HB.out.trans (hb1.mono (by omega)))
    have z5 := hb1.size
    clear hb1
    have V0_0 := V0.out.cell0
    have V0_1 := V0.out.cell1
    have V0_l := V0.out.lt
    go_wp2_with fail
    refine (x_szB _ _ _ _ _ (by omega)).mono ?_
    rintro e x2 ⟨rfl, hb6⟩
    clear V0_0 V0_1 V0_l
    have V0 := Lib.hid (V0.out.below hb6 V0.out.lt)
    have I0 := Lib.hid (I0.out.below hb6 (by omega))
    have HB := Lib.hid (HB.out.trans (hb6.mono (by omega)))
    have z7 := hb6.size
    clear hb6 
    have V0_0 := V0.out.cell0
    have V0_1 := V0.out.cell1
    have V0_l := V0.out.lt
    go_wp2_with fail
    refine (x_toB _ _ _ _ _ _ _ I0.out (by omega) (by omega)).mono ?_
    rintro e x3 ⟨Ax, cx, rfl, ho9, hb8⟩
    have hnRx := ho9.1
    clear V0_0 V0_1 V0_l
    have V0 := Lib.hid (V0.out.below hb8 V0.out.lt)
    have I0 := Lib.hid (I0.out.below hb8 (by omega))
    have HB := Lib.hid (HB.out.trans (hb8.mono (by omega)))
    have z10 := hb8.size
    have Rx := Lib.hid (Row.of ho9)
    clear hb8 ho9
    have V0_0 := V0.out.cell0
    have V0_1 := V0.out.cell1
    have V0_l := V0.out.lt
    go_wp2_with fail
    refine (s_findN _ _ _ _ _ _ _ Rx.out.ints (by omega) lr Hl).mono ?_
    rintro e x4 ⟨A1, nr, c1, rfl, ho12, hb11⟩
    have hnR1 := ho12.1
    clear V0_0 V0_1 V0_l
    have V0 := Lib.hid (V0.out.below hb11 V0.out.lt)
    have I0 := Lib.hid (I0.out.below hb11 (by omega))
    have Rx := Lib.hid (Rx.out.below hb11)
    have HB := Lib.hid (HB.out.trans (hb11.mono (by omega)))
    have z13 := hb11.size
    have R1 := Lib.hid (Row.of ho12)
    clear hb11 ho12
    have V0_0 := V0.out.cell0
    have V0_1 := V0.out.cell1
    have V0_l := V0.out.lt
    go_wp2_with fail
    refine (x_toB _ _ _ _ _ _ _ I0.out (by omega) (by omega)).mono ?_
    rintro e x5 ⟨A2, c2, rfl, ho15, hb14⟩
    have hnR2 := ho15.1
    clear V0_0 V0_1 V0_l
    have V0 := Lib.hid (V0.out.below hb14 V0.out.lt)
    have I0 := Lib.hid (I0.out.below hb14 (by omega))
    have Rx := Lib.hid (Rx.out.below hb14)
    have R1 := Lib.hid (R1.out.below hb14)
    have HB := Lib.hid (HB.out.trans (hb14.mono (by omega)))
    have z16 := hb14.size
    have R2 := Lib.hid (Row.of ho15)
    clear hb14 ho15
    have V0_0 := V0.out.cell0
    have V0_1 := V0.out.cell1
    have V0_l := V0.out.lt
    go_wp2_with fail
    obtain ⟨x6, hy18, hb17, z19, z20⟩ := new_box x5 (.cells #[.int .i64 a0, .slice A2 n0 c2] 25)
    have V2 : Hid (Bx 25 x6 x5.heap.size a0 (.slice A2 n0 c2)) := Lib.hid (by rw [hy18]; exact Bx.new _ _ _ _)
    rw [← hy18]
    clear hy18
    clear V0_0 V0_1 V0_l
    have V0 := Lib.hid (V0.out.below hb17 V0.out.lt)
    have I0 := Lib.hid (I0.out.below hb17 (by omega))
    have Rx := Lib.hid (Rx.out.below hb17)
    have R1 := Lib.hid (R1.out.below hb17)
    have R2 := Lib.hid (R2.out.below hb17)
    have HB := Lib.hid (HB.out.trans (hb17.mono (by omega)))
    have z21 := hb17.size
    clear hb17
    have V0_0 := V0.out.cell0
    have V0_1 := V0.out.cell1
    have V0_l := V0.out.lt
    have V2_0 := V2.out.cell0
    have V2_1 := V2.out.cell1
    have V2_l := V2.out.lt
    go_wp2_with fail
    refine (i_findN _ _ _ _ _ _ _ R2.out.ints (by omega) lr Hl).mono ?_
    rintro e x7 ⟨A3, n3, c3, rfl, ho23, hb22⟩
    have hnR3 := ho23.1
    clear V0_0 V0_1 V0_l V2_0 V2_1 V2_l
    have V0 := Lib.hid (V0.out.below hb22 V0.out.lt)
    have V2 := Lib.hid (V2.out.below hb22 V2.out.lt)
    have I0 := Lib.hid (I0.out.below hb22 (by omega))
    have Rx := Lib.hid (Rx.out.below hb22)
    have R1 := Lib.hid (R1.out.below hb22)
    have R2 := Lib.hid (R2.out.below hb22)
    have HB := Lib.hid (HB.out.trans (hb22.mono (by omega)))
    have z24 := hb22.size
    have R3 := Lib.hid (Row.of ho23)
    clear hb22 ho23
    have V0_0 := V0.out.cell0
    have V0_1 := V0.out.cell1
    have V0_l := V0.out.lt
    have V2_0 := V2.out.cell0
    have V2_1 := V2.out.cell1
    have V2_l := V2.out.lt
    obtain rfl : n3 = nr := by omega
    go_wp2_with fail
    refine (eqs_b _ _ _ _ _ _ _ _ _ R3.out.ints R1.out.ints (by omega)).mono ?_
    rintro e x8 ⟨rfl, hb25⟩
    clear V0_0 V0_1 V0_l V2_0 V2_1 V2_l
    have V0 := Lib.hid (V0.out.below hb25 V0.out.lt)
    have V2 := Lib.hid (V2.out.below hb25 V2.out.lt)
    have I0 := Lib.hid (I0.out.below hb25 (by omega))
    have Rx := Lib.hid (Rx.out.below hb25)
    have R1 := Lib.hid (R1.out.below hb25)
    have R2 := Lib.hid (R2.out.below hb25)
    have R3 := Lib.hid (R3.out.below hb25)
    have HB := Lib.hid (HB.out.trans (hb25.mono (by omega)))
    have z26 := hb25.size
    clear hb25 
    have V0_0 := V0.out.cell0
    have V0_1 := V0.out.cell1
    have V0_l := V0.out.lt
    have V2_0 := V2.out.cell0
    have V2_1 := V2.out.cell1
    have V2_l := V2.out.lt
    go_upto_region 10 with (fail)
    go_cut [35] (fun v wx => v = .bool false ∧ Below x8.heap.size x8 wx)
    case first =>
      go_region_with (first | (go_at_call 19; refine (x_toB _ _ w.heap.size _ _ _ cs0 (by exact I0.out) ?_ (by omega)).mono ?_; (show w.heap.size ≤ x8.heap.size; omega); rintro e y ⟨A9, c9, rfl, ho9, hb9⟩; have hb9w : Below x8.heap.size x8 y := ⟨hb9.os, hb9.tape, hb9.output, hb9.size, hb9.block⟩; have hz9 := hb9w.size; have u0 := (V2.out.below hb9w V2.out.lt).cell0; have u1 := (V2.out.below hb9w V2.out.lt).cell1; have Ho9 := Lib.hid ho9; have Hb9 := Lib.hid hb9w; clear ho9 hb9 hb9w) | (go_at_call 20; refine (b_eq _ _ x8.heap.size y.heap.size _ _ _ _ _ cs0 (by exact R2.out.ints.below Hb9.out (Nat.le_refl _)) (by exact Ho9.out.ints) (by exact Hb9.out.size) (by exact Nat.le_refl _) (by omega)).mono ?_; rintro e y2 ⟨rfl, hb10⟩; have Hb10 : Hid (Below x8.heap.size x8 y2) := Lib.hid (Hb9.out.trans ((show Below y.heap.size y y2 from ⟨hb10.os, hb10.tape, hb10.output, hb10.size, hb10.block⟩).mono Hb9.out.size)); clear hb10))
      all_goals go_wp2_with fail
      all_goals go_meet
      all_goals exact ⟨rfl, Hb10.out⟩
    case rest =>
      obtain ⟨rfl, hb27⟩ := hcut
      clear V0_0 V0_1 V0_l V2_0 V2_1 V2_l
      have V0 := Lib.hid (V0.out.below hb27 V0.out.lt)
      have V2 := Lib.hid (V2.out.below hb27 V2.out.lt)
      have I0 := Lib.hid (I0.out.below hb27 (by omega))
      have Rx := Lib.hid (Rx.out.below hb27)
      have R1 := Lib.hid (R1.out.below hb27)
      have R2 := Lib.hid (R2.out.below hb27)
      have R3 := Lib.hid (R3.out.below hb27)
      have HB := Lib.hid (HB.out.trans (hb27.mono (by omega)))
      have z28 := hb27.size
      clear hb27
      have V0_0 := V0.out.cell0
      have V0_1 := V0.out.cell1
      have V0_l := V0.out.lt
      have V2_0 := V2.out.cell0
      have V2_1 := V2.out.cell1
      have V2_l := V2.out.lt
      go_wp2_with fail
      refine (b_mark _ _ _ _ _ _ _ 1 R2.out.own (by omega) (by omega) (by omega)).mono ?_
      rintro e x10 ⟨rfl, ho29, hg30⟩
      clear V0_0 V0_1 V0_l V2_0 V2_1 V2_l
      have V0 := Lib.hid (R2.out.boxKept V0.out hg30 (by omega))
      have V2 := Lib.hid (R2.out.boxKept V2.out hg30 (by omega))
      have I0 := Lib.hid (R2.out.intsKept I0.out hg30 (by omega) (by omega))
      have Rx := Lib.hid (R2.out.other Rx.out hg30 (by omega))
      have R1 := Lib.hid (R2.out.other R1.out hg30 (by omega))
      have R3 := Lib.hid (R2.out.other R3.out hg30 (by omega))
      have HB := Lib.hid (R2.out.belowKept HB.out hg30 (by omega) (by omega))
      have z31 := hg30.size
      have R2 := Lib.hid (Row.mk ho29 R2.out.top (by have := R2.out.le; omega))
      clear ho29 hg30 
      have V0_0 := V0.out.cell0
      have V0_1 := V0.out.cell1
      have V0_l := V0.out.lt
      have V2_0 := V2.out.cell0
      have V2_1 := V2.out.cell1
      have V2_l := V2.out.lt
      go_wp2_with fail
      refine (eqs_b _ _ _ _ _ _ _ _ _ R3.out.ints R1.out.ints (by omega)).mono ?_
      rintro e x11 ⟨rfl, hb32⟩
      clear V0_0 V0_1 V0_l V2_0 V2_1 V2_l
      have V0 := Lib.hid (V0.out.below hb32 V0.out.lt)
      have V2 := Lib.hid (V2.out.below hb32 V2.out.lt)
      have I0 := Lib.hid (I0.out.below hb32 (by omega))
      have Rx := Lib.hid (Rx.out.below hb32)
      have R1 := Lib.hid (R1.out.below hb32)
      have R2 := Lib.hid (R2.out.below hb32)
      have R3 := Lib.hid (R3.out.below hb32)
      have HB := Lib.hid (HB.out.trans (hb32.mono (by omega)))
      have z33 := hb32.size
      clear hb32 
      have V0_0 := V0.out.cell0
      have V0_1 := V0.out.cell1
      have V0_l := V0.out.lt
      have V2_0 := V2.out.cell0
      have V2_1 := V2.out.cell1
      have V2_l := V2.out.lt
      go_wp2_with fail
      refine (mark_any _ _ _ _ _ _ 1 R3.out.own (by omega) (by omega) (by omega)).mono ?_
      rintro e x12 ⟨rfl, ho34, hg35⟩
      clear V0_0 V0_1 V0_l V2_0 V2_1 V2_l
      have V0 := Lib.hid (R3.out.boxKept V0.out hg35 (by omega))
      have V2 := Lib.hid (R3.out.boxKept V2.out hg35 (by omega))
      have I0 := Lib.hid (R3.out.intsKept I0.out hg35 (by omega) (by omega))
      have Rx := Lib.hid (R3.out.other Rx.out hg35 (by omega))
      have R1 := Lib.hid (R3.out.other R1.out hg35 (by omega))
      have R2 := Lib.hid (R3.out.other R2.out hg35 (by omega))
      have HB := Lib.hid (R3.out.belowKept HB.out hg35 (by omega) (by omega))
      have z36 := hg35.size
      have R3 := Lib.hid (Row.mk ho34 R3.out.top (by have := R3.out.le; omega))
      clear ho34 hg35 
      have V0_0 := V0.out.cell0
      have V0_1 := V0.out.cell1
      have V0_l := V0.out.lt
      have V2_0 := V2.out.cell0
      have V2_1 := V2.out.cell1
      have V2_l := V2.out.lt
      go_wp2_with fail
      refine (held_b _ _ _ _ _ 1 R3.out.ints (by omega) (by omega) (by omega)).mono ?_
      rintro e x13 ⟨rfl, hb37⟩
      clear V0_0 V0_1 V0_l V2_0 V2_1 V2_l
      have V0 := Lib.hid (V0.out.below hb37 V0.out.lt)
      have V2 := Lib.hid (V2.out.below hb37 V2.out.lt)
      have I0 := Lib.hid (I0.out.below hb37 (by omega))
      have Rx := Lib.hid (Rx.out.below hb37)
      have R1 := Lib.hid (R1.out.below hb37)
      have R2 := Lib.hid (R2.out.below hb37)
      have R3 := Lib.hid (R3.out.below hb37)
      have HB := Lib.hid (HB.out.trans (hb37.mono (by omega)))
      have z38 := hb37.size
      clear hb37 
      have V0_0 := V0.out.cell0
      have V0_1 := V0.out.cell1
      have V0_l := V0.out.lt
      have V2_0 := V2.out.cell0
      have V2_1 := V2.out.cell1
      have V2_l := V2.out.lt
      go_wp2_with fail
      refine (x_toB _ _ _ _ _ _ _ I0.out (by omega) (by omega)).mono ?_
      rintro e x14 ⟨Ay, cy, rfl, ho40, hb39⟩
      have hnRy := ho40.1
      clear V0_0 V0_1 V0_l V2_0 V2_1 V2_l
      have V0 := Lib.hid (V0.out.below hb39 V0.out.lt)
      have V2 := Lib.hid (V2.out.below hb39 V2.out.lt)
      have I0 := Lib.hid (I0.out.below hb39 (by omega))
      have Rx := Lib.hid (Rx.out.below hb39)
      have R1 := Lib.hid (R1.out.below hb39)
      have R2 := Lib.hid (R2.out.below hb39)
      have R3 := Lib.hid (R3.out.below hb39)
      have HB := Lib.hid (HB.out.trans (hb39.mono (by omega)))
      have z41 := hb39.size
      have Ry := Lib.hid (Row.of ho40)
      clear hb39 ho40
      have V0_0 := V0.out.cell0
      have V0_1 := V0.out.cell1
      have V0_l := V0.out.lt
      have V2_0 := V2.out.cell0
      have V2_1 := V2.out.cell1
      have V2_l := V2.out.lt
      go_wp2_with fail
      refine (i_findN _ _ _ _ _ _ _ Ry.out.ints (by omega) lr Hl).mono ?_
      rintro e x15 ⟨A4, n4, c4, rfl, ho43, hb42⟩
      have hnR4 := ho43.1
      clear V0_0 V0_1 V0_l V2_0 V2_1 V2_l
      have V0 := Lib.hid (V0.out.below hb42 V0.out.lt)
      have V2 := Lib.hid (V2.out.below hb42 V2.out.lt)
      have I0 := Lib.hid (I0.out.below hb42 (by omega))
      have Rx := Lib.hid (Rx.out.below hb42)
      have R1 := Lib.hid (R1.out.below hb42)
      have R2 := Lib.hid (R2.out.below hb42)
      have R3 := Lib.hid (R3.out.below hb42)
      have Ry := Lib.hid (Ry.out.below hb42)
      have HB := Lib.hid (HB.out.trans (hb42.mono (by omega)))
      have z44 := hb42.size
      have R4 := Lib.hid (Row.of ho43)
      clear hb42 ho43
      have V0_0 := V0.out.cell0
      have V0_1 := V0.out.cell1
      have V0_l := V0.out.lt
      have V2_0 := V2.out.cell0
      have V2_1 := V2.out.cell1
      have V2_l := V2.out.lt
      obtain rfl : n4 = n3 := by omega
      go_wp2_with fail
      refine (eqs_b _ _ _ _ _ _ _ _ _ R4.out.ints R1.out.ints (by omega)).mono ?_
      rintro e x16 ⟨rfl, hb45⟩
      clear V0_0 V0_1 V0_l V2_0 V2_1 V2_l
      have V0 := Lib.hid (V0.out.below hb45 V0.out.lt)
      have V2 := Lib.hid (V2.out.below hb45 V2.out.lt)
      have I0 := Lib.hid (I0.out.below hb45 (by omega))
      have Rx := Lib.hid (Rx.out.below hb45)
      have R1 := Lib.hid (R1.out.below hb45)
      have R2 := Lib.hid (R2.out.below hb45)
      have R3 := Lib.hid (R3.out.below hb45)
      have Ry := Lib.hid (Ry.out.below hb45)
      have R4 := Lib.hid (R4.out.below hb45)
      have HB := Lib.hid (HB.out.trans (hb45.mono (by omega)))
      have z46 := hb45.size
      clear hb45 
      have V0_0 := V0.out.cell0
      have V0_1 := V0.out.cell1
      have V0_l := V0.out.lt
      have V2_0 := V2.out.cell0
      have V2_1 := V2.out.cell1
      have V2_l := V2.out.lt
      go_wp2_with fail
      refine (held_b _ _ _ _ _ 1 R3.out.ints (by omega) (by omega) (by omega)).mono ?_
      rintro e x17 ⟨rfl, hb47⟩
      clear V0_0 V0_1 V0_l V2_0 V2_1 V2_l
      have V0 := Lib.hid (V0.out.below hb47 V0.out.lt)
      have V2 := Lib.hid (V2.out.below hb47 V2.out.lt)
      have I0 := Lib.hid (I0.out.below hb47 (by omega))
      have Rx := Lib.hid (Rx.out.below hb47)
      have R1 := Lib.hid (R1.out.below hb47)
      have R2 := Lib.hid (R2.out.below hb47)
      have R3 := Lib.hid (R3.out.below hb47)
      have Ry := Lib.hid (Ry.out.below hb47)
      have R4 := Lib.hid (R4.out.below hb47)
      have HB := Lib.hid (HB.out.trans (hb47.mono (by omega)))
      have z48 := hb47.size
      clear hb47 
      have V0_0 := V0.out.cell0
      have V0_1 := V0.out.cell1
      have V0_l := V0.out.lt
      have V2_0 := V2.out.cell0
      have V2_1 := V2.out.cell1
      have V2_l := V2.out.lt
      go_wp2_with fail
      go_ret
      exact ⟨rfl, HB.out⟩

set_option maxRecDepth 100000 in
theorem lifted (os : Os) (started : os.Started) (H : Type) (enc : TypeId × Value → H) :
    ReturnsInHanded {} Try.checked os 6 .any (Rows.fnExactFindPatternSpec.pre6 enc Try.prog Try.f6 Rows.fnExactFindPatternRow.domain false) (Rows.fnExactFindPatternSpec.post enc Try.prog Try.f6 false true false false) := by
  refine returnsInHanded_of_change (C := Try.checked) own started (by kernel_rfl) Try.func6
    (ChangeSpec.witness6 (enc := enc) (C := Try.checked) false ⟨#[], #[.agg #[.int .i64 0, .slice none 0 0], .int .i64 0], []⟩ 8 (by kernel_rfl) (by kernel_rfl) (by kernel_rfl) (by kernel_rfl)) ?_
  intro W base args ds gs before hval0 hW hcnd _
  have hval : ∀ (j : Nat) t v, Try.f6.params[j]? = some t → args[j]? = some v → Value.okWide Try.prog W .any base t v := hval0
  have hW' := hW
  obtain ⟨p, q, hA0, hV, rfl, hfz, hnd⟩ := hW
  have hA : DataW.TrodAll enc Try.prog W 0 (fun _ => true) true Try.f6.params.toList args.toList ds p := hA0
  rw [Try.params6] at hA hval
  obtain ⟨v0, vs0, d0, ds0, p0, q0, hargs, rfl, rfl, h0, r0⟩ := trodAll_cons hA
  obtain ⟨v1, vs1, d1, ds1, p1, q1, rfl, rfl, rfl, h1, r1⟩ := trodAll_cons r0
  obtain ⟨rfl, rfl, rfl⟩ := trodAll_nil r1
  obtain rfl : args = #[v0, v1] := by cases args; simp_all
  obtain ⟨rfl, rfl⟩ := trodVars_none hV
  have k0 := h0
  have lt0 : ∀ x ∈ p0, x.block < W.heap.size := by obtain ⟨m, hm⟩ := k0; exact DataW.trod_lt m _ _ _ hm
  obtain ⟨a0, A0, n0, c0, cs0, rfl, w0, m0⟩ := open_board (hval 0 34 v0 rfl rfl) h0
  obtain ⟨a1, rfl, rfl, rfl, w1⟩ := open_int Try.underlying3 (hval 1 3 v1 rfl rfl) h1
  clear hA0 hval0
  refine (walk a0 A0 n0 c0 cs0 a1 W w0 m0 w1).mono fun e W' ⟨he, bel⟩ => ?_
  subst he
  exact ⟨_, rfl, _, _, _, [], _, [], hW', trodAll_mk1 (shut_bool Try.underlying4 _), (trodAll_cons_mk (Below.trod laidOut (by kernel_rfl) (of_decide_eq_true (by kernel_rfl)) k0 bel lt0) (trodAll_cons_mk (shut_int Try.underlying3 w1) trodAll_mk0)), rfl, bel.frame _, fun h => by cases h⟩

theorem over : Rows.fnExactFindPatternRow.holds Try.pinned (OpenSpec.ofChange Rows.fnExactFindPatternSpec) :=
  OpenClaim.holds_of_wide 6 Try.f6 rfl rfl rfl rfl rfl rfl rfl ⟨rfl, rfl, rfl, rfl, rfl⟩ rfl rfl rfl rfl rfl (by kernel_rfl) Try.func6 (by kernel_rfl)
    (of_decide_eq_true (by kernel_rfl)) (by unfold Func.isWrapper; first | (rw [if_pos (by decide +kernel)]; kernel_rfl) | (rw [if_neg (by decide +kernel)]; exact ⟨rfl, rfl⟩))
    (fun os started H enc _ => lifted os started H enc)

theorem proved : Rows.FnExactFindPatternSaid := over
end Go.Proofs.Ytpopbcmfbcmojaa.fnExactFindPattern
