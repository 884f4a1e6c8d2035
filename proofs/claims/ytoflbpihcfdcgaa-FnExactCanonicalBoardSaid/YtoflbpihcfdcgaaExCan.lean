/-
  The law of the exact CanonicalBoard: for every board the program answers as its model does, leaves its argument as it was, and its answer owns its memory. No condition.
-/
import Derived.Test.YtoflbpihcfdcgaaRows
import Derived.Test.YtoflbpihcfdcgaaRows2
import Derived.Test.YtoflbpihcfdcgaaOpenB
import Derived.Deep.RegionWith
import Derived.Deep.DeepCutAuto
import Derived.Test.YtoflbpihcfdcgaaCanB
import Derived.WalkKit
import Derived.ProofKit
import Derived.OpenShut
import Derived.ShutString
import Derived.ChangeOld
import Derived.Below
namespace Go.Proofs.Ytoflbpihcfdcgaa.fnExactCanonicalBoard
open Go.ChangeShapes Go.WideShapes Go.ChangeAt Go.RowKit
open Go.ChangeMaps (open_string shut_string)
set_option linter.unusedVariables false

theorem own : ownKnob Try.prog.godebug = none := by kernel_rfl
theorem laidOut : laidOutB Try.prog = true := by kernel_rfl


set_option maxRecDepth 100000 in
set_option maxHeartbeats 4000000 in
theorem walk (a0 : Int) (A0 : Option Addr) (n0 c0 : Nat) (cs0 : List Int) (w : World) (w0 : Ints w w.heap.size A0 n0 cs0) (m0 : n0 ≤ 9223372036854775807) :
    Calls Try.prog 7 #[.agg #[.int .i64 a0, .slice A0 n0 c0]] w fun e w' => e = .returned (.bool true) ∧ Below w.heap.size w w' := by
  by_cases hsz : 1048576 < n0
  · go_enter Try.func7, Try.ntmps7
    go_wp2_with fail
    refine (x_szB_no _ _ _ _ _ hsz m0).mono ?_
    rintro e x ⟨rfl, hb⟩
    have Hb := Lib.hid (((Below.refl w.heap.size w).alloc (Nat.le_refl _) (.cells #[.int .i64 a0, .slice A0 n0 c0] 38)).trans (hb.mono (by simp)))
    clear hb
    go_wp2_with fail
    go_ret
    exact ⟨rfl, Hb.out⟩
  · have HB := Lib.hid (Below.refl w.heap.size w)
    have I0 := Lib.hid w0
    obtain ⟨sr, dr, ar, hc⟩ := CanIs.make a0 n0 cs0
    have hlen : (dr).length ≤ 1048576 := (by have := hc.few w0.1; omega)
    have Hc := Lib.hid hc
    clear w0 hc
    go_enter Try.func7, Try.ntmps7
    go_wp2_with fail
    obtain ⟨x1, hy2, hb1, z3, z4⟩ := new_box w (.cells #[.int .i64 a0, .slice A0 n0 c0] 38)
    have V0 : Hid (Bx 38 x1 w.heap.size a0 (.slice A0 n0 c0)) := Lib.hid (by rw [hy2]; exact Bx.new _ _ _ _)
    rw [← hy2]
    clear hy2
    have I0 := Lib.hid (I0.out.below hb1 (by omega))
    have HB := Lib.hid (HB.out.trans (hb1.mono (by omega)))
    have z5 := hb1.size
    clear hb1
    have V0_0 := V0.out.cell0
    have V0_1 := V0.out.cell1
    have V0_l := V0.out.lt
    go_wp2_with fail
    refine (x_szB _ _ _ _ _ (by omega)).mono ?_
    rintro e x2 ⟨rfl, hb6⟩
    clear V0_0 V0_1 V0_l
    have V0 := Lib.hid (V0.out.below hb6 V0.out.lt)
    have I0 := Lib.hid (I0.out.below hb6 (by omega))
    have HB := Lib.hid (HB.out.trans (hb6.mono (by omega)))
    have z7 := hb6.size
    clear hb6 
    have V0_0 := V0.out.cell0
    have V0_1 := V0.out.cell1
    have V0_l := V0.out.lt
    go_wp2_with fail
    refine (x_toB _ _ _ _ _ _ _ I0.out (by omega) (by omega)).mono ?_
    rintro e x3 ⟨Ax, cx, rfl, ho9, hb8⟩
    have hnRx := ho9.1
    clear V0_0 V0_1 V0_l
    have V0 := Lib.hid (V0.out.below hb8 V0.out.lt)
    have I0 := Lib.hid (I0.out.below hb8 (by omega))
    have HB := Lib.hid (HB.out.trans (hb8.mono (by omega)))
    have z10 := hb8.size
    have Rx := Lib.hid (Row.of ho9)
    clear hb8 ho9
    have V0_0 := V0.out.cell0
    have V0_1 := V0.out.cell1
    have V0_l := V0.out.lt
    go_wp2_with fail
    refine (s_Can _ _ _ _ _ _ _ Rx.out.ints (Nat.le_refl _) (by omega) sr dr ar Hc).mono ?_
    rintro e x4 ⟨A1, nr, c1, rfl, ho12, hb11⟩
    have hnR1 := ho12.1
    clear V0_0 V0_1 V0_l
    have V0 := Lib.hid (V0.out.below hb11 V0.out.lt)
    have I0 := Lib.hid (I0.out.below hb11 (by omega))
    have Rx := Lib.hid (Rx.out.below hb11)
    have HB := Lib.hid (HB.out.trans (hb11.mono (by omega)))
    have z13 := hb11.size
    have R1 := Lib.hid (Row.of ho12)
    clear hb11 ho12
    have V0_0 := V0.out.cell0
    have V0_1 := V0.out.cell1
    have V0_l := V0.out.lt
    go_wp2_with fail
    obtain ⟨x5, hy15, hb14, z16, z17⟩ := new_box x4 (.cells #[.int .i64 sr, .slice A1 nr c1] 25)
    have V1 : Hid (Bx 25 x5 x4.heap.size sr (.slice A1 nr c1)) := Lib.hid (by rw [hy15]; exact Bx.new _ _ _ _)
    rw [← hy15]
    clear hy15
    clear V0_0 V0_1 V0_l
    have V0 := Lib.hid (V0.out.below hb14 V0.out.lt)
    have I0 := Lib.hid (I0.out.below hb14 (by omega))
    have Rx := Lib.hid (Rx.out.below hb14)
    have R1 := Lib.hid (R1.out.below hb14)
    have HB := Lib.hid (HB.out.trans (hb14.mono (by omega)))
    have z18 := hb14.size
    clear hb14
    have V0_0 := V0.out.cell0
    have V0_1 := V0.out.cell1
    have V0_l := V0.out.lt
    have V1_0 := V1.out.cell0
    have V1_1 := V1.out.cell1
    have V1_l := V1.out.lt
    go_wp2_with fail
    refine (x_toB _ _ _ _ _ _ _ I0.out (by omega) (by omega)).mono ?_
    rintro e x6 ⟨A2, c2, rfl, ho20, hb19⟩
    have hnR2 := ho20.1
    clear V0_0 V0_1 V0_l V1_0 V1_1 V1_l
    have V0 := Lib.hid (V0.out.below hb19 V0.out.lt)
    have V1 := Lib.hid (V1.out.below hb19 V1.out.lt)
    have I0 := Lib.hid (I0.out.below hb19 (by omega))
    have Rx := Lib.hid (Rx.out.below hb19)
    have R1 := Lib.hid (R1.out.below hb19)
    have HB := Lib.hid (HB.out.trans (hb19.mono (by omega)))
    have z21 := hb19.size
    have R2 := Lib.hid (Row.of ho20)
    clear hb19 ho20
    have V0_0 := V0.out.cell0
    have V0_1 := V0.out.cell1
    have V0_l := V0.out.lt
    have V1_0 := V1.out.cell0
    have V1_1 := V1.out.cell1
    have V1_l := V1.out.lt
    go_wp2_with fail
    obtain ⟨x7, hy23, hb22, z24, z25⟩ := new_box x6 (.cells #[.int .i64 a0, .slice A2 n0 c2] 25)
    have V2 : Hid (Bx 25 x7 x6.heap.size a0 (.slice A2 n0 c2)) := Lib.hid (by rw [hy23]; exact Bx.new _ _ _ _)
    rw [← hy23]
    clear hy23
    clear V0_0 V0_1 V0_l V1_0 V1_1 V1_l
    have V0 := Lib.hid (V0.out.below hb22 V0.out.lt)
    have V1 := Lib.hid (V1.out.below hb22 V1.out.lt)
    have I0 := Lib.hid (I0.out.below hb22 (by omega))
    have Rx := Lib.hid (Rx.out.below hb22)
    have R1 := Lib.hid (R1.out.below hb22)
    have R2 := Lib.hid (R2.out.below hb22)
    have HB := Lib.hid (HB.out.trans (hb22.mono (by omega)))
    have z26 := hb22.size
    clear hb22
    have V0_0 := V0.out.cell0
    have V0_1 := V0.out.cell1
    have V0_l := V0.out.lt
    have V1_0 := V1.out.cell0
    have V1_1 := V1.out.cell1
    have V1_l := V1.out.lt
    have V2_0 := V2.out.cell0
    have V2_1 := V2.out.cell1
    have V2_l := V2.out.lt
    go_wp2_with fail
    refine (i_Can _ _ _ _ _ _ _ R2.out.ints (Nat.le_refl _) (by omega) sr dr ar Hc).mono ?_
    rintro e x8 ⟨A3, n3, c3, rfl, ho28, hb27⟩
    have hnR3 := ho28.1
    clear V0_0 V0_1 V0_l V1_0 V1_1 V1_l V2_0 V2_1 V2_l
    have V0 := Lib.hid (V0.out.below hb27 V0.out.lt)
    have V1 := Lib.hid (V1.out.below hb27 V1.out.lt)
    have V2 := Lib.hid (V2.out.below hb27 V2.out.lt)
    have I0 := Lib.hid (I0.out.below hb27 (by omega))
    have Rx := Lib.hid (Rx.out.below hb27)
    have R1 := Lib.hid (R1.out.below hb27)
    have R2 := Lib.hid (R2.out.below hb27)
    have HB := Lib.hid (HB.out.trans (hb27.mono (by omega)))
    have z29 := hb27.size
    have R3 := Lib.hid (Row.of ho28)
    clear hb27 ho28
    have V0_0 := V0.out.cell0
    have V0_1 := V0.out.cell1
    have V0_l := V0.out.lt
    have V1_0 := V1.out.cell0
    have V1_1 := V1.out.cell1
    have V1_l := V1.out.lt
    have V2_0 := V2.out.cell0
    have V2_1 := V2.out.cell1
    have V2_l := V2.out.lt
    obtain rfl : n3 = nr := by omega
    go_wp2_with fail
    obtain ⟨x9, hy31, hb30, z32, z33⟩ := new_box x8 (.cells #[.int .i64 sr, .slice A3 n3 c3] 25)
    have V3 : Hid (Bx 25 x9 x8.heap.size sr (.slice A3 n3 c3)) := Lib.hid (by rw [hy31]; exact Bx.new _ _ _ _)
    rw [← hy31]
    clear hy31
    clear V0_0 V0_1 V0_l V1_0 V1_1 V1_l V2_0 V2_1 V2_l
    have V0 := Lib.hid (V0.out.below hb30 V0.out.lt)
    have V1 := Lib.hid (V1.out.below hb30 V1.out.lt)
    have V2 := Lib.hid (V2.out.below hb30 V2.out.lt)
    have I0 := Lib.hid (I0.out.below hb30 (by omega))
    have Rx := Lib.hid (Rx.out.below hb30)
    have R1 := Lib.hid (R1.out.below hb30)
    have R2 := Lib.hid (R2.out.below hb30)
    have R3 := Lib.hid (R3.out.below hb30)
    have HB := Lib.hid (HB.out.trans (hb30.mono (by omega)))
    have z34 := hb30.size
    clear hb30
    have V0_0 := V0.out.cell0
    have V0_1 := V0.out.cell1
    have V0_l := V0.out.lt
    have V1_0 := V1.out.cell0
    have V1_1 := V1.out.cell1
    have V1_l := V1.out.lt
    have V2_0 := V2.out.cell0
    have V2_1 := V2.out.cell1
    have V2_l := V2.out.lt
    have V3_0 := V3.out.cell0
    have V3_1 := V3.out.cell1
    have V3_l := V3.out.lt
    go_wp2_with fail
    refine (b_eq _ _ _ _ _ _ _ _ _ _ R3.out.ints R1.out.ints (Nat.le_refl _) (Nat.le_refl _) (by omega)).mono ?_
    rintro e x10 ⟨rfl, hb35⟩
    clear V0_0 V0_1 V0_l V1_0 V1_1 V1_l V2_0 V2_1 V2_l V3_0 V3_1 V3_l
    have V0 := Lib.hid (V0.out.below hb35 V0.out.lt)
    have V1 := Lib.hid (V1.out.below hb35 V1.out.lt)
    have V2 := Lib.hid (V2.out.below hb35 V2.out.lt)
    have V3 := Lib.hid (V3.out.below hb35 V3.out.lt)
    have I0 := Lib.hid (I0.out.below hb35 (by omega))
    have Rx := Lib.hid (Rx.out.below hb35)
    have R1 := Lib.hid (R1.out.below hb35)
    have R2 := Lib.hid (R2.out.below hb35)
    have R3 := Lib.hid (R3.out.below hb35)
    have HB := Lib.hid (HB.out.trans (hb35.mono (by omega)))
    have z36 := hb35.size
    clear hb35 
    have V0_0 := V0.out.cell0
    have V0_1 := V0.out.cell1
    have V0_l := V0.out.lt
    have V1_0 := V1.out.cell0
    have V1_1 := V1.out.cell1
    have V1_l := V1.out.lt
    have V2_0 := V2.out.cell0
    have V2_1 := V2.out.cell1
    have V2_l := V2.out.lt
    have V3_0 := V3.out.cell0
    have V3_1 := V3.out.cell1
    have V3_l := V3.out.lt
    go_upto_region 10 with (fail)
    go_cut [45] (fun v wx => v = .bool false ∧ Below x10.heap.size x10 wx)
    case first =>
      go_region_with (first | (go_at_call 27; refine (x_toB _ _ w.heap.size _ _ _ cs0 (by exact I0.out) ?_ (by omega)).mono ?_; (show w.heap.size ≤ x10.heap.size; omega); rintro e y ⟨A9, c9, rfl, ho9, hb9⟩; have hb9w : Below x10.heap.size x10 y := ⟨hb9.os, hb9.tape, hb9.output, hb9.size, hb9.block⟩; have hz9 := hb9w.size; have u0 := (V2.out.below hb9w V2.out.lt).cell0; have u1 := (V2.out.below hb9w V2.out.lt).cell1; have Ho9 := Lib.hid ho9; have Hb9 := Lib.hid hb9w; clear ho9 hb9 hb9w) | (go_at_call 29; refine (b_eq _ _ x10.heap.size y.heap.size _ _ _ _ _ cs0 (by exact R2.out.ints.below Hb9.out (Nat.le_refl _)) (by exact Ho9.out.ints) (by exact Hb9.out.size) (by exact Nat.le_refl _) (by omega)).mono ?_; rintro e y2 ⟨rfl, hb10⟩; have Hb10 : Hid (Below x10.heap.size x10 y2) := Lib.hid (Hb9.out.trans ((show Below y.heap.size y y2 from ⟨hb10.os, hb10.tape, hb10.output, hb10.size, hb10.block⟩).mono Hb9.out.size)); clear hb10))
      all_goals go_wp2_with fail
      all_goals go_meet
      all_goals exact ⟨rfl, Hb10.out⟩
    case rest =>
      obtain ⟨rfl, hb37⟩ := hcut
      clear V0_0 V0_1 V0_l V1_0 V1_1 V1_l V2_0 V2_1 V2_l V3_0 V3_1 V3_l
      have V0 := Lib.hid (V0.out.below hb37 V0.out.lt)
      have V1 := Lib.hid (V1.out.below hb37 V1.out.lt)
      have V2 := Lib.hid (V2.out.below hb37 V2.out.lt)
      have V3 := Lib.hid (V3.out.below hb37 V3.out.lt)
      have I0 := Lib.hid (I0.out.below hb37 (by omega))
      have Rx := Lib.hid (Rx.out.below hb37)
      have R1 := Lib.hid (R1.out.below hb37)
      have R2 := Lib.hid (R2.out.below hb37)
      have R3 := Lib.hid (R3.out.below hb37)
      have HB := Lib.hid (HB.out.trans (hb37.mono (by omega)))
      have z38 := hb37.size
      clear hb37
      have V0_0 := V0.out.cell0
      have V0_1 := V0.out.cell1
      have V0_l := V0.out.lt
      have V1_0 := V1.out.cell0
      have V1_1 := V1.out.cell1
      have V1_l := V1.out.lt
      have V2_0 := V2.out.cell0
      have V2_1 := V2.out.cell1
      have V2_l := V2.out.lt
      have V3_0 := V3.out.cell0
      have V3_1 := V3.out.cell1
      have V3_l := V3.out.lt
      go_wp2_with fail
      refine (b_mark _ _ _ _ _ _ _ 1 R2.out.own (by omega) (by omega) (by omega)).mono ?_
      rintro e x12 ⟨rfl, ho39, hg40⟩
      clear V0_0 V0_1 V0_l V1_0 V1_1 V1_l V2_0 V2_1 V2_l V3_0 V3_1 V3_l
      have V0 := Lib.hid (R2.out.boxKept V0.out hg40 (by omega))
      have V1 := Lib.hid (R2.out.boxKept V1.out hg40 (by omega))
      have V2 := Lib.hid (R2.out.boxKept V2.out hg40 (by omega))
      have V3 := Lib.hid (R2.out.boxKept V3.out hg40 (by omega))
      have I0 := Lib.hid (R2.out.intsKept I0.out hg40 (by omega) (by omega))
      have Rx := Lib.hid (R2.out.other Rx.out hg40 (by omega))
      have R1 := Lib.hid (R2.out.other R1.out hg40 (by omega))
      have R3 := Lib.hid (R2.out.other R3.out hg40 (by omega))
      have HB := Lib.hid (R2.out.belowKept HB.out hg40 (by omega) (by omega))
      have z41 := hg40.size
      have R2 := Lib.hid (Row.mk ho39 R2.out.top (by have := R2.out.le; omega))
      clear ho39 hg40 
      have V0_0 := V0.out.cell0
      have V0_1 := V0.out.cell1
      have V0_l := V0.out.lt
      have V1_0 := V1.out.cell0
      have V1_1 := V1.out.cell1
      have V1_l := V1.out.lt
      have V2_0 := V2.out.cell0
      have V2_1 := V2.out.cell1
      have V2_l := V2.out.lt
      have V3_0 := V3.out.cell0
      have V3_1 := V3.out.cell1
      have V3_l := V3.out.lt
      go_wp2_with fail
      refine (b_eq _ _ _ _ _ _ _ _ _ _ R3.out.ints R1.out.ints (Nat.le_refl _) (Nat.le_refl _) (by omega)).mono ?_
      rintro e x13 ⟨rfl, hb42⟩
      clear V0_0 V0_1 V0_l V1_0 V1_1 V1_l V2_0 V2_1 V2_l V3_0 V3_1 V3_l
      have V0 := Lib.hid (V0.out.below hb42 V0.out.lt)
      have V1 := Lib.hid (V1.out.below hb42 V1.out.lt)
      have V2 := Lib.hid (V2.out.below hb42 V2.out.lt)
      have V3 := Lib.hid (V3.out.below hb42 V3.out.lt)
      have I0 := Lib.hid (I0.out.below hb42 (by omega))
      have Rx := Lib.hid (Rx.out.below hb42)
      have R1 := Lib.hid (R1.out.below hb42)
      have R2 := Lib.hid (R2.out.below hb42)
      have R3 := Lib.hid (R3.out.below hb42)
      have HB := Lib.hid (HB.out.trans (hb42.mono (by omega)))
      have z43 := hb42.size
      clear hb42 
      have V0_0 := V0.out.cell0
      have V0_1 := V0.out.cell1
      have V0_l := V0.out.lt
      have V1_0 := V1.out.cell0
      have V1_1 := V1.out.cell1
      have V1_l := V1.out.lt
      have V2_0 := V2.out.cell0
      have V2_1 := V2.out.cell1
      have V2_l := V2.out.lt
      have V3_0 := V3.out.cell0
      have V3_1 := V3.out.cell1
      have V3_l := V3.out.lt
      go_wp2_with fail
      refine (b_mark _ _ _ _ _ _ _ 1 R3.out.own (by omega) (by omega) (by omega)).mono ?_
      rintro e x14 ⟨rfl, ho44, hg45⟩
      clear V0_0 V0_1 V0_l V1_0 V1_1 V1_l V2_0 V2_1 V2_l V3_0 V3_1 V3_l
      have V0 := Lib.hid (R3.out.boxKept V0.out hg45 (by omega))
      have V1 := Lib.hid (R3.out.boxKept V1.out hg45 (by omega))
      have V2 := Lib.hid (R3.out.boxKept V2.out hg45 (by omega))
      have V3 := Lib.hid (R3.out.boxKept V3.out hg45 (by omega))
      have I0 := Lib.hid (R3.out.intsKept I0.out hg45 (by omega) (by omega))
      have Rx := Lib.hid (R3.out.other Rx.out hg45 (by omega))
      have R1 := Lib.hid (R3.out.other R1.out hg45 (by omega))
      have R2 := Lib.hid (R3.out.other R2.out hg45 (by omega))
      have HB := Lib.hid (R3.out.belowKept HB.out hg45 (by omega) (by omega))
      have z46 := hg45.size
      have R3 := Lib.hid (Row.mk ho44 R3.out.top (by have := R3.out.le; omega))
      clear ho44 hg45 
      have V0_0 := V0.out.cell0
      have V0_1 := V0.out.cell1
      have V0_l := V0.out.lt
      have V1_0 := V1.out.cell0
      have V1_1 := V1.out.cell1
      have V1_l := V1.out.lt
      have V2_0 := V2.out.cell0
      have V2_1 := V2.out.cell1
      have V2_l := V2.out.lt
      have V3_0 := V3.out.cell0
      have V3_1 := V3.out.cell1
      have V3_l := V3.out.lt
      go_wp2_with fail
      refine (b_held _ _ _ _ _ _ 1 R3.out.ints (Nat.le_refl _) (by omega) (by omega) (by omega)).mono ?_
      rintro e x15 ⟨rfl, hb47⟩
      clear V0_0 V0_1 V0_l V1_0 V1_1 V1_l V2_0 V2_1 V2_l V3_0 V3_1 V3_l
      have V0 := Lib.hid (V0.out.below hb47 V0.out.lt)
      have V1 := Lib.hid (V1.out.below hb47 V1.out.lt)
      have V2 := Lib.hid (V2.out.below hb47 V2.out.lt)
      have V3 := Lib.hid (V3.out.below hb47 V3.out.lt)
      have I0 := Lib.hid (I0.out.below hb47 (by omega))
      have Rx := Lib.hid (Rx.out.below hb47)
      have R1 := Lib.hid (R1.out.below hb47)
      have R2 := Lib.hid (R2.out.below hb47)
      have R3 := Lib.hid (R3.out.below hb47)
      have HB := Lib.hid (HB.out.trans (hb47.mono (by omega)))
      have z48 := hb47.size
      clear hb47 
      have V0_0 := V0.out.cell0
      have V0_1 := V0.out.cell1
      have V0_l := V0.out.lt
      have V1_0 := V1.out.cell0
      have V1_1 := V1.out.cell1
      have V1_l := V1.out.lt
      have V2_0 := V2.out.cell0
      have V2_1 := V2.out.cell1
      have V2_l := V2.out.lt
      have V3_0 := V3.out.cell0
      have V3_1 := V3.out.cell1
      have V3_l := V3.out.lt
      go_wp2_with fail
      refine (x_toB _ _ _ _ _ _ _ I0.out (by omega) (by omega)).mono ?_
      rintro e x16 ⟨Ay, cy, rfl, ho50, hb49⟩
      have hnRy := ho50.1
      clear V0_0 V0_1 V0_l V1_0 V1_1 V1_l V2_0 V2_1 V2_l V3_0 V3_1 V3_l
      have V0 := Lib.hid (V0.out.below hb49 V0.out.lt)
      have V1 := Lib.hid (V1.out.below hb49 V1.out.lt)
      have V2 := Lib.hid (V2.out.below hb49 V2.out.lt)
      have V3 := Lib.hid (V3.out.below hb49 V3.out.lt)
      have I0 := Lib.hid (I0.out.below hb49 (by omega))
      have Rx := Lib.hid (Rx.out.below hb49)
      have R1 := Lib.hid (R1.out.below hb49)
      have R2 := Lib.hid (R2.out.below hb49)
      have R3 := Lib.hid (R3.out.below hb49)
      have HB := Lib.hid (HB.out.trans (hb49.mono (by omega)))
      have z51 := hb49.size
      have Ry := Lib.hid (Row.of ho50)
      clear hb49 ho50
      have V0_0 := V0.out.cell0
      have V0_1 := V0.out.cell1
      have V0_l := V0.out.lt
      have V1_0 := V1.out.cell0
      have V1_1 := V1.out.cell1
      have V1_l := V1.out.lt
      have V2_0 := V2.out.cell0
      have V2_1 := V2.out.cell1
      have V2_l := V2.out.lt
      have V3_0 := V3.out.cell0
      have V3_1 := V3.out.cell1
      have V3_l := V3.out.lt
      go_wp2_with fail
      refine (i_Can _ _ _ _ _ _ _ Ry.out.ints (Nat.le_refl _) (by omega) sr dr ar Hc).mono ?_
      rintro e x17 ⟨A4, n4, c4, rfl, ho53, hb52⟩
      have hnR4 := ho53.1
      clear V0_0 V0_1 V0_l V1_0 V1_1 V1_l V2_0 V2_1 V2_l V3_0 V3_1 V3_l
      have V0 := Lib.hid (V0.out.below hb52 V0.out.lt)
      have V1 := Lib.hid (V1.out.below hb52 V1.out.lt)
      have V2 := Lib.hid (V2.out.below hb52 V2.out.lt)
      have V3 := Lib.hid (V3.out.below hb52 V3.out.lt)
      have I0 := Lib.hid (I0.out.below hb52 (by omega))
      have Rx := Lib.hid (Rx.out.below hb52)
      have R1 := Lib.hid (R1.out.below hb52)
      have R2 := Lib.hid (R2.out.below hb52)
      have R3 := Lib.hid (R3.out.below hb52)
      have Ry := Lib.hid (Ry.out.below hb52)
      have HB := Lib.hid (HB.out.trans (hb52.mono (by omega)))
      have z54 := hb52.size
      have R4 := Lib.hid (Row.of ho53)
      clear hb52 ho53
      have V0_0 := V0.out.cell0
      have V0_1 := V0.out.cell1
      have V0_l := V0.out.lt
      have V1_0 := V1.out.cell0
      have V1_1 := V1.out.cell1
      have V1_l := V1.out.lt
      have V2_0 := V2.out.cell0
      have V2_1 := V2.out.cell1
      have V2_l := V2.out.lt
      have V3_0 := V3.out.cell0
      have V3_1 := V3.out.cell1
      have V3_l := V3.out.lt
      obtain rfl : n4 = n3 := by omega
      go_wp2_with fail
      obtain ⟨x18, hy56, hb55, z57, z58⟩ := new_box x17 (.cells #[.int .i64 sr, .slice A4 n4 c4] 25)
      have V4 : Hid (Bx 25 x18 x17.heap.size sr (.slice A4 n4 c4)) := Lib.hid (by rw [hy56]; exact Bx.new _ _ _ _)
      rw [← hy56]
      clear hy56
      clear V0_0 V0_1 V0_l V1_0 V1_1 V1_l V2_0 V2_1 V2_l V3_0 V3_1 V3_l
      have V0 := Lib.hid (V0.out.below hb55 V0.out.lt)
      have V1 := Lib.hid (V1.out.below hb55 V1.out.lt)
      have V2 := Lib.hid (V2.out.below hb55 V2.out.lt)
      have V3 := Lib.hid (V3.out.below hb55 V3.out.lt)
      have I0 := Lib.hid (I0.out.below hb55 (by omega))
      have Rx := Lib.hid (Rx.out.below hb55)
      have R1 := Lib.hid (R1.out.below hb55)
      have R2 := Lib.hid (R2.out.below hb55)
      have R3 := Lib.hid (R3.out.below hb55)
      have Ry := Lib.hid (Ry.out.below hb55)
      have R4 := Lib.hid (R4.out.below hb55)
      have HB := Lib.hid (HB.out.trans (hb55.mono (by omega)))
      have z59 := hb55.size
      clear hb55
      have V0_0 := V0.out.cell0
      have V0_1 := V0.out.cell1
      have V0_l := V0.out.lt
      have V1_0 := V1.out.cell0
      have V1_1 := V1.out.cell1
      have V1_l := V1.out.lt
      have V2_0 := V2.out.cell0
      have V2_1 := V2.out.cell1
      have V2_l := V2.out.lt
      have V3_0 := V3.out.cell0
      have V3_1 := V3.out.cell1
      have V3_l := V3.out.lt
      have V4_0 := V4.out.cell0
      have V4_1 := V4.out.cell1
      have V4_l := V4.out.lt
      go_wp2_with fail
      refine (b_eq _ _ _ _ _ _ _ _ _ _ R4.out.ints R1.out.ints (Nat.le_refl _) (Nat.le_refl _) (by omega)).mono ?_
      rintro e x19 ⟨rfl, hb60⟩
      clear V0_0 V0_1 V0_l V1_0 V1_1 V1_l V2_0 V2_1 V2_l V3_0 V3_1 V3_l V4_0 V4_1 V4_l
      have V0 := Lib.hid (V0.out.below hb60 V0.out.lt)
      have V1 := Lib.hid (V1.out.below hb60 V1.out.lt)
      have V2 := Lib.hid (V2.out.below hb60 V2.out.lt)
      have V3 := Lib.hid (V3.out.below hb60 V3.out.lt)
      have V4 := Lib.hid (V4.out.below hb60 V4.out.lt)
      have I0 := Lib.hid (I0.out.below hb60 (by omega))
      have Rx := Lib.hid (Rx.out.below hb60)
      have R1 := Lib.hid (R1.out.below hb60)
      have R2 := Lib.hid (R2.out.below hb60)
      have R3 := Lib.hid (R3.out.below hb60)
      have Ry := Lib.hid (Ry.out.below hb60)
      have R4 := Lib.hid (R4.out.below hb60)
      have HB := Lib.hid (HB.out.trans (hb60.mono (by omega)))
      have z61 := hb60.size
      clear hb60 
      have V0_0 := V0.out.cell0
      have V0_1 := V0.out.cell1
      have V0_l := V0.out.lt
      have V1_0 := V1.out.cell0
      have V1_1 := V1.out.cell1
      have V1_l := V1.out.lt
      have V2_0 := V2.out.cell0
      have V2_1 := V2.out.cell1
      have V2_l := V2.out.lt
      have V3_0 := V3.out.cell0
      have V3_1 := V3.out.cell1
      have V3_l := V3.out.lt
      have V4_0 := V4.out.cell0
      have V4_1 := V4.out.cell1
      have V4_l := V4.out.lt
      go_wp2_with fail
      refine (b_held _ _ _ _ _ _ 1 R3.out.ints (Nat.le_refl _) (by omega) (by omega) (by omega)).mono ?_
      rintro e x20 ⟨rfl, hb62⟩
      clear V0_0 V0_1 V0_l V1_0 V1_1 V1_l V2_0 V2_1 V2_l V3_0 V3_1 V3_l V4_0 V4_1 V4_l
      have V0 := Lib.hid (V0.out.below hb62 V0.out.lt)
      have V1 := Lib.hid (V1.out.below hb62 V1.out.lt)
      have V2 := Lib.hid (V2.out.below hb62 V2.out.lt)
      have V3 := Lib.hid (V3.out.below hb62 V3.out.lt)
      have V4 := Lib.hid (V4.out.below hb62 V4.out.lt)
      have I0 := Lib.hid (I0.out.below hb62 (by omega))
      have Rx := Lib.hid (Rx.out.below hb62)
      have R1 := Lib.hid (R1.out.below hb62)
      have R2 := Lib.hid (R2.out.below hb62)
      have R3 := Lib.hid (R3.out.below hb62)
      have Ry := Lib.hid (Ry.out.below hb62)
      have R4 := Lib.hid (R4.out.below hb62)
      have HB := Lib.hid (HB.out.trans (hb62.mono (by omega)))
      have z63 := hb62.size
      clear hb62 
      have V0_0 := V0.out.cell0
      have V0_1 := V0.out.cell1
      have V0_l := V0.out.lt
      have V1_0 := V1.out.cell0
      have V1_1 := V1.out.cell1
      have V1_l := V1.out.lt
      have V2_0 := V2.out.cell0
      have V2_1 := V2.out.cell1
      have V2_l := V2.out.lt
      have V3_0 := V3.out.cell0
      have V3_1 := V3.out.cell1
      have V3_l := V3.out.lt
      have V4_0 := V4.out.cell0
      have V4_1 := V4.out.cell1
      have V4_l := V4.out.lt
      go_wp2_with fail
      go_ret
      exact ⟨rfl, HB.out⟩

set_option maxRecDepth 100000 in
theorem lifted (os : Os) (started : os.Started) (H : Type) (enc : TypeId × Value → H) :
    ReturnsInHanded {} Try.checked os 7 .any (Rows.fnExactCanonicalBoardSpec.pre6 enc Try.prog Try.f7 Rows.fnExactCanonicalBoardRow.domain false) (Rows.fnExactCanonicalBoardSpec.post enc Try.prog Try.f7 false true false false) := by
  refine returnsInHanded_of_change (C := Try.checked) own started (by kernel_rfl) Try.func7
    (ChangeSpec.witness6 (enc := enc) (C := Try.checked) false ⟨#[], #[.agg #[.int .i64 0, .slice none 0 0]], []⟩ 8 (by kernel_rfl) (by kernel_rfl) (by kernel_rfl) (by kernel_rfl)) ?_
  intro W base args ds gs before hval0 hW hcnd _
  have hval : ∀ (j : Nat) t v, Try.f7.params[j]? = some t → args[j]? = some v → Value.okWide Try.prog W .any base t v := hval0
  have hW' := hW
  obtain ⟨p, q, hA0, hV, rfl, hfz, hnd⟩ := hW
  have hA : DataW.TrodAll enc Try.prog W 0 (fun _ => true) true Try.f7.params.toList args.toList ds p := hA0
  rw [Try.params7] at hA hval
  obtain ⟨v0, vs0, d0, ds0, p0, q0, hargs, rfl, rfl, h0, r0⟩ := trodAll_cons hA
  obtain ⟨rfl, rfl, rfl⟩ := trodAll_nil r0
  obtain rfl : args = #[v0] := by cases args; simp_all
  obtain ⟨rfl, rfl⟩ := trodVars_none hV
  have k0 := h0
  have lt0 : ∀ x ∈ p0, x.block < W.heap.size := by obtain ⟨m, hm⟩ := k0; exact DataW.trod_lt m _ _ _ hm
  obtain ⟨a0, A0, n0, c0, cs0, rfl, w0, m0⟩ := open_board (hval 0 38 v0 rfl rfl) h0
  clear hA0 hval0
  refine (walk a0 A0 n0 c0 cs0 W w0 m0).mono fun e W' ⟨he, bel⟩ => ?_
  subst he
  exact ⟨_, rfl, _, _, _, [], _, [], hW', trodAll_mk1 (shut_bool Try.underlying4 _), (trodAll_cons_mk (Below.trod laidOut (by kernel_rfl) (of_decide_eq_true (by kernel_rfl)) k0 bel lt0) trodAll_mk0), rfl, bel.frame _, fun h => by cases h⟩

theorem over : Rows.fnExactCanonicalBoardRow.holds Try.pinned (OpenSpec.ofChange Rows.fnExactCanonicalBoardSpec) :=
  OpenClaim.holds_of_wide 7 Try.f7 rfl rfl rfl rfl rfl rfl rfl ⟨rfl, rfl, rfl, rfl, rfl⟩ rfl rfl rfl rfl rfl (by kernel_rfl) Try.func7 (by kernel_rfl)
    (of_decide_eq_true (by kernel_rfl)) (by unfold Func.isWrapper; first | (rw [if_pos (by decide +kernel)]; kernel_rfl) | (rw [if_neg (by decide +kernel)]; exact ⟨rfl, rfl⟩))
    (fun os started H enc _ => lifted os started H enc)

theorem proved : Rows.FnExactCanonicalBoardSaid := over
end Go.Proofs.Ytoflbpihcfdcgaa.fnExactCanonicalBoard
