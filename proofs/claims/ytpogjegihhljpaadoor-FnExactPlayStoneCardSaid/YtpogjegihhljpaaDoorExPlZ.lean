/-
  The law of the exact PlayStone: for every board, every two ints and every bool the program answers as its model does, leaves its argument as it was, and its answer owns its memory. No condition but the laid variables.
-/
import Derived.Test.YtpogjegihhljpaaDoorExPlKit
import Derived.Test.YtpogjegihhljpaaDoorRows
import Derived.Test.YtpogjegihhljpaaDoorRows2
import Derived.Deep.RegionWith
import Derived.Deep.DeepCutAuto
import Derived.Test.YtpogjegihhljpaaDoorCards
import Derived.Test.YtpogjegihhljpaaDoorTie
import Derived.Test.YtpogjegihhljpaaDoorTz
import Derived.LaidMore
import Derived.Stop.Joined
import Derived.Stop.LaidErr
import Derived.SevenTiedAt
import Derived.RowKitTokens
import Derived.LaidLaws
import Derived.ChangeVars
import Derived.ChangeSame
import Derived.WalkKit
import Derived.ProofKit
import Derived.OpenShut
import Derived.ShutString
import Derived.ChangeOld
import Derived.Below
namespace Go.Proofs.YtpogjegihhljpaaDoor.fnExactPlayStone
set_option maxRecDepth 100000
open Go.WideMaps Go.WideElems
open Go.ChangeShapes Go.WideShapes Go.ChangeAt Go.RowKit
open Go.ChangeMaps (open_string shut_string)
set_option linter.unusedVariables false

theorem own : ownKnob Tryd.prog.godebug = none := by kernel_rfl
theorem laidOut : laidOutB Tryd.prog = true := by kernel_rfl


theorem eqs_b (w : World) (B B' : Nat) (A A' : Option Addr) (n c c' : Nat) (xs : List Int) (h : Ints w B A n xs) (h' : Ints w B' A' n xs) (hn : n ≤ 1000000000) :
    Calls Tryd.prog 36 #[.slice A n c, .slice A' n c'] w fun e w' => e = .returned (.bool true) ∧ Below w.heap.size w w' := by
  refine (eqs_t w B B' A A' n c c' xs h h' hn).mono ?_
  rintro e w' ⟨k, rfl, rfl⟩
  exact ⟨rfl, ⟨rfl, rfl, rfl, Nat.le_refl _, fun _ _ => rfl⟩⟩
theorem held_b (w : World) (B : Nat) (A : Option Addr) (n c : Nat) (k : Int) (h : Ints w B A n (marks k n)) (hn : n ≤ 1000000000) (k1 : 0 ≤ k) (k2 : k ≤ 1000000000) :
    Calls Tryd.prog 40 #[.slice A n c, .int .i64 k] w fun e w' => e = .returned (.int .i64 (k + n)) ∧ Below w.heap.size w w' := by
  refine (held_t w B A n c k h hn k1 k2).mono ?_
  rintro e w' ⟨rfl, rfl⟩
  exact ⟨rfl, Below.refl _ _⟩

set_option maxRecDepth 100000 in
set_option maxHeartbeats 8000000 in
theorem walk (a0 : Int) (A0 : Option Addr) (n0 c0 : Nat) (cs0 : List Int) (a1 : Int) (a2 : Int) (a3 : Bool) (w : World) (ht : Tab w) (hE : ErrW w) (w0 : Ints w w.heap.size A0 n0 cs0) (m0 : n0 ≤ 9223372036854775807) (w1 : (Lit.int .i64 a1).wf = true) (w2 : (Lit.int .i64 a2).wf = true) :
    Calls Tryd.prog 9 #[.agg #[.int .i64 a0, .slice A0 n0 c0], .int .i64 a1, .int .i64 a2, .bool a3] w fun e w' => e = .returned (.bool true) ∧ Below w.heap.size w w' := by
  by_cases hsz : 1048576 < n0
  · go_enter Tryd.func9, Tryd.ntmps9
    go_wp2_with fail
    refine (x_szB_no _ _ _ _ _ hsz m0).mono ?_
    rintro e x ⟨rfl, hb⟩
    have Hb := Lib.hid (((Below.refl w.heap.size w).alloc (Nat.le_refl _) (.cells #[.int .i64 a0, .slice A0 n0 c0] 48)).trans (hb.mono (by simp)))
    clear hb
    go_wp2_with fail
    go_ret
    exact ⟨rfl, Hb.out⟩
  · have HB := Lib.hid (Below.refl w.heap.size w)
    have I0 := Lib.hid w0
    have HT := Lib.hid ht
    have HE := Lib.hid hE
    have hl0 := w0.1
    obtain ⟨R, hR⟩ := PlB.make a0 n0 cs0 a1 a2 a3 hl0
    have hlen := hR.len (by omega)
    obtain ⟨rs, h1⟩ : ∃ l, vS a0 R = l := ⟨_, rfl⟩
    obtain ⟨rc, h2⟩ : ∃ l, vC R = l := ⟨_, rfl⟩
    obtain ⟨rg, h3⟩ : ∃ l, vG R = l := ⟨_, rfl⟩
    obtain ⟨ok, h4⟩ : ∃ l, R.isSome = l := ⟨_, rfl⟩
    obtain ⟨hlen1, hlen2⟩ := hlen
    rw [h2] at hlen1
    rw [h3] at hlen2
    have HV := Lib.hid (View.mk h1 h2 h3 h4)
    have HR := Lib.hid hR
    clear w0 ht hE hR h1 h2 h3 h4
    go_enter Tryd.func9, Tryd.ntmps9
    go_wp2_with fail
    obtain ⟨x1, hy2, hb1, z3, z4⟩ := new_box w (.cells #[.int .i64 a0, .slice A0 n0 c0] 48)
    have V0 : Hid (Bx 48 x1 w.heap.size a0 (.slice A0 n0 c0)) := Lib.hid (by rw [hy2]; exact Bx.new _ _ _ _)
    rw [← hy2]
    clear hy2
    have I0 := Lib.hid (I0.out.below hb1 (by omega))
    have HB := Lib.hid (HB.out.trans (hb1.mono (by omega)))
    have z5 := hb1.size
    clear hb1
    have V0_0 := V0.out.cell0
    have V0_1 := V0.out.cell1
    have V0_l := V0.out.lt
    go_wp2_with fail
    refine (x_szB _ _ _ _ _ (by omega)).mono ?_
    rintro e x2 ⟨rfl, hb6⟩
    clear V0_0 V0_1 V0_l
    have V0 := Lib.hid (V0.out.below hb6 V0.out.lt)
    have I0 := Lib.hid (I0.out.below hb6 (by omega))
    have HB := Lib.hid (HB.out.trans (hb6.mono (by omega)))
    have z7 := hb6.size
    clear hb6 
    have V0_0 := V0.out.cell0
    have V0_1 := V0.out.cell1
    have V0_l := V0.out.lt
    go_wp2_with fail
    refine (x_toB _ _ _ _ _ _ _ I0.out (by omega) (by omega)).mono ?_
    rintro e x3 ⟨Ax, cx, rfl, ho9, hb8⟩
    have hnRx := ho9.1
    clear V0_0 V0_1 V0_l
    have V0 := Lib.hid (V0.out.below hb8 V0.out.lt)
    have I0 := Lib.hid (I0.out.below hb8 (by omega))
    have HB := Lib.hid (HB.out.trans (hb8.mono (by omega)))
    have z10 := hb8.size
    have Rx := Lib.hid (Row.of ho9)
    clear hb8 ho9
    have V0_0 := V0.out.cell0
    have V0_1 := V0.out.cell1
    have V0_l := V0.out.lt
    go_wp2_with fail
    refine (s_PlV _ _ _ _ _ _ _ _ _ _ R rs rc rg ok Rx.out.ints (Nat.le_refl _) (by omega) HR HV).mono ?_
    rintro e x4 ⟨A1, na, c1, B1, nb, d1, rfl, ho12, hb11⟩
    have hnRa := ho12.1.1
    have hnRb := ho12.2.1
    clear V0_0 V0_1 V0_l
    have V0 := Lib.hid (V0.out.below hb11 V0.out.lt)
    have I0 := Lib.hid (I0.out.below hb11 (by omega))
    have Rx := Lib.hid (Rx.out.below hb11)
    have HB := Lib.hid (HB.out.trans (hb11.mono (by omega)))
    have z13 := hb11.size
    have Ra := Lib.hid (Row.of ho12.1)
    have Rb := Lib.hid (Row.of ho12.2)
    clear hb11 ho12
    have V0_0 := V0.out.cell0
    have V0_1 := V0.out.cell1
    have V0_l := V0.out.lt
    go_wp2_with fail
    obtain ⟨x5, hy15, hb14, z16, z17⟩ := new_box x4 (.cells #[.int .i64 rs, .slice A1 na c1] 25)
    have V1 : Hid (Bx 25 x5 x4.heap.size rs (.slice A1 na c1)) := Lib.hid (by rw [hy15]; exact Bx.new _ _ _ _)
    rw [← hy15]
    clear hy15
    clear V0_0 V0_1 V0_l
    have V0 := Lib.hid (V0.out.below hb14 V0.out.lt)
    have I0 := Lib.hid (I0.out.below hb14 (by omega))
    have Rx := Lib.hid (Rx.out.below hb14)
    have Ra := Lib.hid (Ra.out.below hb14)
    have Rb := Lib.hid (Rb.out.below hb14)
    have HB := Lib.hid (HB.out.trans (hb14.mono (by omega)))
    have z18 := hb14.size
    clear hb14
    have V0_0 := V0.out.cell0
    have V0_1 := V0.out.cell1
    have V0_l := V0.out.lt
    have V1_0 := V1.out.cell0
    have V1_1 := V1.out.cell1
    have V1_l := V1.out.lt
    go_wp2_with fail
    refine (x_toB _ _ _ _ _ _ _ I0.out (by omega) (by omega)).mono ?_
    rintro e x6 ⟨A2, c2, rfl, ho20, hb19⟩
    have hnR2 := ho20.1
    clear V0_0 V0_1 V0_l V1_0 V1_1 V1_l
    have V0 := Lib.hid (V0.out.below hb19 V0.out.lt)
    have V1 := Lib.hid (V1.out.below hb19 V1.out.lt)
    have I0 := Lib.hid (I0.out.below hb19 (by omega))
    have Rx := Lib.hid (Rx.out.below hb19)
    have Ra := Lib.hid (Ra.out.below hb19)
    have Rb := Lib.hid (Rb.out.below hb19)
    have HB := Lib.hid (HB.out.trans (hb19.mono (by omega)))
    have z21 := hb19.size
    have R2 := Lib.hid (Row.of ho20)
    clear hb19 ho20
    have V0_0 := V0.out.cell0
    have V0_1 := V0.out.cell1
    have V0_l := V0.out.lt
    have V1_0 := V1.out.cell0
    have V1_1 := V1.out.cell1
    have V1_l := V1.out.lt
    go_wp2_with fail
    obtain ⟨x7, hy23, hb22, z24, z25⟩ := new_box x6 (.cells #[.int .i64 a0, .slice A2 n0 c2] 25)
    have V2 : Hid (Bx 25 x7 x6.heap.size a0 (.slice A2 n0 c2)) := Lib.hid (by rw [hy23]; exact Bx.new _ _ _ _)
    rw [← hy23]
    clear hy23
    clear V0_0 V0_1 V0_l V1_0 V1_1 V1_l
    have V0 := Lib.hid (V0.out.below hb22 V0.out.lt)
    have V1 := Lib.hid (V1.out.below hb22 V1.out.lt)
    have I0 := Lib.hid (I0.out.below hb22 (by omega))
    have Rx := Lib.hid (Rx.out.below hb22)
    have Ra := Lib.hid (Ra.out.below hb22)
    have Rb := Lib.hid (Rb.out.below hb22)
    have R2 := Lib.hid (R2.out.below hb22)
    have HB := Lib.hid (HB.out.trans (hb22.mono (by omega)))
    have z26 := hb22.size
    clear hb22
    have V0_0 := V0.out.cell0
    have V0_1 := V0.out.cell1
    have V0_l := V0.out.lt
    have V1_0 := V1.out.cell0
    have V1_1 := V1.out.cell1
    have V1_l := V1.out.lt
    have V2_0 := V2.out.cell0
    have V2_1 := V2.out.cell1
    have V2_l := V2.out.lt
    go_wp2_with fail
    refine (i_PlV _ _ _ _ _ _ _ _ _ _ R rs rc rg ok R2.out.ints (Nat.le_refl _) (by omega) HR HV (HT.out.below HB.out) (HE.out.below HB.out)).mono ?_
    rintro e x8 ⟨A3, n3, c3, B3, m3, d3, mid, rfl, ho28, ho29, ho30, ho31, ho32, hb27⟩
    have hnPa := ho28.1
    have hnPb := ho30.1
    clear V0_0 V0_1 V0_l V1_0 V1_1 V1_l V2_0 V2_1 V2_l
    have V0 := Lib.hid (V0.out.below hb27 V0.out.lt)
    have V1 := Lib.hid (V1.out.below hb27 V1.out.lt)
    have V2 := Lib.hid (V2.out.below hb27 V2.out.lt)
    have I0 := Lib.hid (I0.out.below hb27 (by omega))
    have Rx := Lib.hid (Rx.out.below hb27)
    have Ra := Lib.hid (Ra.out.below hb27)
    have Rb := Lib.hid (Rb.out.below hb27)
    have R2 := Lib.hid (R2.out.below hb27)
    have HB := Lib.hid (HB.out.trans (hb27.mono (by omega)))
    have z33 := hb27.size
    have Pa := Lib.hid (Row.mk ho28 ho29 ho32)
    have Pb := Lib.hid (Row.of ho30)
    clear hb27 ho28 ho29 ho30
    have V0_0 := V0.out.cell0
    have V0_1 := V0.out.cell1
    have V0_l := V0.out.lt
    have V1_0 := V1.out.cell0
    have V1_1 := V1.out.cell1
    have V1_l := V1.out.lt
    have V2_0 := V2.out.cell0
    have V2_1 := V2.out.cell1
    have V2_l := V2.out.lt
    obtain rfl : n3 = na := by omega
    obtain rfl : m3 = nb := by omega
    go_wp2_with fail
    obtain ⟨x9, hy35, hb34, z36, z37⟩ := new_box x8 (.cells #[.int .i64 rs, .slice A3 n3 c3] 25)
    have V3 : Hid (Bx 25 x9 x8.heap.size rs (.slice A3 n3 c3)) := Lib.hid (by rw [hy35]; exact Bx.new _ _ _ _)
    rw [← hy35]
    clear hy35
    clear V0_0 V0_1 V0_l V1_0 V1_1 V1_l V2_0 V2_1 V2_l
    have V0 := Lib.hid (V0.out.below hb34 V0.out.lt)
    have V1 := Lib.hid (V1.out.below hb34 V1.out.lt)
    have V2 := Lib.hid (V2.out.below hb34 V2.out.lt)
    have I0 := Lib.hid (I0.out.below hb34 (by omega))
    have Rx := Lib.hid (Rx.out.below hb34)
    have Ra := Lib.hid (Ra.out.below hb34)
    have Rb := Lib.hid (Rb.out.below hb34)
    have R2 := Lib.hid (R2.out.below hb34)
    have Pa := Lib.hid (Pa.out.below hb34)
    have Pb := Lib.hid (Pb.out.below hb34)
    have HB := Lib.hid (HB.out.trans (hb34.mono (by omega)))
    have z38 := hb34.size
    clear hb34
    have V0_0 := V0.out.cell0
    have V0_1 := V0.out.cell1
    have V0_l := V0.out.lt
    have V1_0 := V1.out.cell0
    have V1_1 := V1.out.cell1
    have V1_l := V1.out.lt
    have V2_0 := V2.out.cell0
    have V2_1 := V2.out.cell1
    have V2_l := V2.out.lt
    have V3_0 := V3.out.cell0
    have V3_1 := V3.out.cell1
    have V3_l := V3.out.lt
    go_wp2_with fail
    refine (b_eq _ _ _ _ _ _ _ _ _ _ Pa.out.ints Ra.out.ints (Nat.le_refl _) (Nat.le_refl _) (by omega)).mono ?_
    rintro e x10 ⟨rfl, hb39⟩
    clear V0_0 V0_1 V0_l V1_0 V1_1 V1_l V2_0 V2_1 V2_l V3_0 V3_1 V3_l
    have V0 := Lib.hid (V0.out.below hb39 V0.out.lt)
    have V1 := Lib.hid (V1.out.below hb39 V1.out.lt)
    have V2 := Lib.hid (V2.out.below hb39 V2.out.lt)
    have V3 := Lib.hid (V3.out.below hb39 V3.out.lt)
    have I0 := Lib.hid (I0.out.below hb39 (by omega))
    have Rx := Lib.hid (Rx.out.below hb39)
    have Ra := Lib.hid (Ra.out.below hb39)
    have Rb := Lib.hid (Rb.out.below hb39)
    have R2 := Lib.hid (R2.out.below hb39)
    have Pa := Lib.hid (Pa.out.below hb39)
    have Pb := Lib.hid (Pb.out.below hb39)
    have HB := Lib.hid (HB.out.trans (hb39.mono (by omega)))
    have z40 := hb39.size
    clear hb39 
    have V0_0 := V0.out.cell0
    have V0_1 := V0.out.cell1
    have V0_l := V0.out.lt
    have V1_0 := V1.out.cell0
    have V1_1 := V1.out.cell1
    have V1_l := V1.out.lt
    have V2_0 := V2.out.cell0
    have V2_1 := V2.out.cell1
    have V2_l := V2.out.lt
    have V3_0 := V3.out.cell0
    have V3_1 := V3.out.cell1
    have V3_l := V3.out.lt
    go_wp2_with fail
    refine (eqs_b _ _ _ _ _ _ _ _ _ Pb.out.ints Rb.out.ints (by omega)).mono ?_
    rintro e x11 ⟨rfl, hb41⟩
    clear V0_0 V0_1 V0_l V1_0 V1_1 V1_l V2_0 V2_1 V2_l V3_0 V3_1 V3_l
    have V0 := Lib.hid (V0.out.below hb41 V0.out.lt)
    have V1 := Lib.hid (V1.out.below hb41 V1.out.lt)
    have V2 := Lib.hid (V2.out.below hb41 V2.out.lt)
    have V3 := Lib.hid (V3.out.below hb41 V3.out.lt)
    have I0 := Lib.hid (I0.out.below hb41 (by omega))
    have Rx := Lib.hid (Rx.out.below hb41)
    have Ra := Lib.hid (Ra.out.below hb41)
    have Rb := Lib.hid (Rb.out.below hb41)
    have R2 := Lib.hid (R2.out.below hb41)
    have Pa := Lib.hid (Pa.out.below hb41)
    have Pb := Lib.hid (Pb.out.below hb41)
    have HB := Lib.hid (HB.out.trans (hb41.mono (by omega)))
    have z42 := hb41.size
    clear hb41 
    have V0_0 := V0.out.cell0
    have V0_1 := V0.out.cell1
    have V0_l := V0.out.lt
    have V1_0 := V1.out.cell0
    have V1_1 := V1.out.cell1
    have V1_l := V1.out.lt
    have V2_0 := V2.out.cell0
    have V2_1 := V2.out.cell1
    have V2_l := V2.out.lt
    have V3_0 := V3.out.cell0
    have V3_1 := V3.out.cell1
    have V3_l := V3.out.lt
    go_upto_region 10 with (fail)
    go_cut [68] (fun v wx => v = .bool false ∧ Below x11.heap.size x11 wx)
    case first =>
      go_region_with (first | (go_at_call 34; refine (x_toB _ _ w.heap.size _ _ _ cs0 (by exact I0.out) ?_ (by omega)).mono ?_; (show w.heap.size ≤ x11.heap.size; omega); rintro e y ⟨A9, c9, rfl, ho9, hb9⟩; have hb9w : Below x11.heap.size x11 y := ⟨hb9.os, hb9.tape, hb9.output, hb9.size, hb9.block⟩; have hz9 := hb9w.size; have u0 := (V2.out.below hb9w V2.out.lt).cell0; have u1 := (V2.out.below hb9w V2.out.lt).cell1; have Ho9 := Lib.hid ho9; have Hb9 := Lib.hid hb9w; clear ho9 hb9 hb9w) | (go_at_call 35; refine (b_eq _ _ x11.heap.size y.heap.size _ _ _ _ _ cs0 (by exact R2.out.ints.below Hb9.out (Nat.le_refl _)) (by exact Ho9.out.ints) (by exact Hb9.out.size) (by exact Nat.le_refl _) (by omega)).mono ?_; rintro e y2 ⟨rfl, hb10⟩; have Hb10 : Hid (Below x11.heap.size x11 y2) := Lib.hid (Hb9.out.trans ((show Below y.heap.size y y2 from ⟨hb10.os, hb10.tape, hb10.output, hb10.size, hb10.block⟩).mono Hb9.out.size)); clear hb10))
      all_goals go_wp2_with fail
      all_goals go_meet
      all_goals exact ⟨rfl, Hb10.out⟩
    case rest =>
      obtain ⟨rfl, hb43⟩ := hcut
      clear V0_0 V0_1 V0_l V1_0 V1_1 V1_l V2_0 V2_1 V2_l V3_0 V3_1 V3_l
      have V0 := Lib.hid (V0.out.below hb43 V0.out.lt)
      have V1 := Lib.hid (V1.out.below hb43 V1.out.lt)
      have V2 := Lib.hid (V2.out.below hb43 V2.out.lt)
      have V3 := Lib.hid (V3.out.below hb43 V3.out.lt)
      have I0 := Lib.hid (I0.out.below hb43 (by omega))
      have Rx := Lib.hid (Rx.out.below hb43)
      have Ra := Lib.hid (Ra.out.below hb43)
      have Rb := Lib.hid (Rb.out.below hb43)
      have R2 := Lib.hid (R2.out.below hb43)
      have Pa := Lib.hid (Pa.out.below hb43)
      have Pb := Lib.hid (Pb.out.below hb43)
      have HB := Lib.hid (HB.out.trans (hb43.mono (by omega)))
      have z44 := hb43.size
      clear hb43
      have V0_0 := V0.out.cell0
      have V0_1 := V0.out.cell1
      have V0_l := V0.out.lt
      have V1_0 := V1.out.cell0
      have V1_1 := V1.out.cell1
      have V1_l := V1.out.lt
      have V2_0 := V2.out.cell0
      have V2_1 := V2.out.cell1
      have V2_l := V2.out.lt
      have V3_0 := V3.out.cell0
      have V3_1 := V3.out.cell1
      have V3_l := V3.out.lt
      go_wp2_with fail
      refine (b_mark _ _ _ _ _ _ _ 1 R2.out.own (by omega) (by omega) (by omega)).mono ?_
      rintro e x13 ⟨rfl, ho45, hg46⟩
      clear V0_0 V0_1 V0_l V1_0 V1_1 V1_l V2_0 V2_1 V2_l V3_0 V3_1 V3_l
      have V0 := Lib.hid (R2.out.boxKept V0.out hg46 (by omega))
      have V1 := Lib.hid (R2.out.boxKept V1.out hg46 (by omega))
      have V2 := Lib.hid (R2.out.boxKept V2.out hg46 (by omega))
      have V3 := Lib.hid (R2.out.boxKept V3.out hg46 (by omega))
      have I0 := Lib.hid (R2.out.intsKept I0.out hg46 (by omega) (by omega))
      have Rx := Lib.hid (R2.out.other Rx.out hg46 (by omega))
      have Ra := Lib.hid (R2.out.other Ra.out hg46 (by omega))
      have Rb := Lib.hid (R2.out.other Rb.out hg46 (by omega))
      have Pa := Lib.hid (R2.out.other Pa.out hg46 (by omega))
      have Pb := Lib.hid (R2.out.other Pb.out hg46 (by omega))
      have HB := Lib.hid (R2.out.belowKept HB.out hg46 (by omega) (by omega))
      have z47 := hg46.size
      have R2 := Lib.hid (Row.mk ho45 R2.out.top (by have := R2.out.le; omega))
      clear ho45 hg46 
      have V0_0 := V0.out.cell0
      have V0_1 := V0.out.cell1
      have V0_l := V0.out.lt
      have V1_0 := V1.out.cell0
      have V1_1 := V1.out.cell1
      have V1_l := V1.out.lt
      have V2_0 := V2.out.cell0
      have V2_1 := V2.out.cell1
      have V2_l := V2.out.lt
      have V3_0 := V3.out.cell0
      have V3_1 := V3.out.cell1
      have V3_l := V3.out.lt
      go_wp2_with fail
      refine (b_eq _ _ _ _ _ _ _ _ _ _ Pa.out.ints Ra.out.ints (Nat.le_refl _) (Nat.le_refl _) (by omega)).mono ?_
      rintro e x14 ⟨rfl, hb48⟩
      clear V0_0 V0_1 V0_l V1_0 V1_1 V1_l V2_0 V2_1 V2_l V3_0 V3_1 V3_l
      have V0 := Lib.hid (V0.out.below hb48 V0.out.lt)
      have V1 := Lib.hid (V1.out.below hb48 V1.out.lt)
      have V2 := Lib.hid (V2.out.below hb48 V2.out.lt)
      have V3 := Lib.hid (V3.out.below hb48 V3.out.lt)
      have I0 := Lib.hid (I0.out.below hb48 (by omega))
      have Rx := Lib.hid (Rx.out.below hb48)
      have Ra := Lib.hid (Ra.out.below hb48)
      have Rb := Lib.hid (Rb.out.below hb48)
      have R2 := Lib.hid (R2.out.below hb48)
      have Pa := Lib.hid (Pa.out.below hb48)
      have Pb := Lib.hid (Pb.out.below hb48)
      have HB := Lib.hid (HB.out.trans (hb48.mono (by omega)))
      have z49 := hb48.size
      clear hb48 
      have V0_0 := V0.out.cell0
      have V0_1 := V0.out.cell1
      have V0_l := V0.out.lt
      have V1_0 := V1.out.cell0
      have V1_1 := V1.out.cell1
      have V1_l := V1.out.lt
      have V2_0 := V2.out.cell0
      have V2_1 := V2.out.cell1
      have V2_l := V2.out.lt
      have V3_0 := V3.out.cell0
      have V3_1 := V3.out.cell1
      have V3_l := V3.out.lt
      go_wp2_with fail
      refine (eqs_b _ _ _ _ _ _ _ _ _ Pb.out.ints Rb.out.ints (by omega)).mono ?_
      rintro e x15 ⟨rfl, hb50⟩
      clear V0_0 V0_1 V0_l V1_0 V1_1 V1_l V2_0 V2_1 V2_l V3_0 V3_1 V3_l
      have V0 := Lib.hid (V0.out.below hb50 V0.out.lt)
      have V1 := Lib.hid (V1.out.below hb50 V1.out.lt)
      have V2 := Lib.hid (V2.out.below hb50 V2.out.lt)
      have V3 := Lib.hid (V3.out.below hb50 V3.out.lt)
      have I0 := Lib.hid (I0.out.below hb50 (by omega))
      have Rx := Lib.hid (Rx.out.below hb50)
      have Ra := Lib.hid (Ra.out.below hb50)
      have Rb := Lib.hid (Rb.out.below hb50)
      have R2 := Lib.hid (R2.out.below hb50)
      have Pa := Lib.hid (Pa.out.below hb50)
      have Pb := Lib.hid (Pb.out.below hb50)
      have HB := Lib.hid (HB.out.trans (hb50.mono (by omega)))
      have z51 := hb50.size
      clear hb50 
      have V0_0 := V0.out.cell0
      have V0_1 := V0.out.cell1
      have V0_l := V0.out.lt
      have V1_0 := V1.out.cell0
      have V1_1 := V1.out.cell1
      have V1_l := V1.out.lt
      have V2_0 := V2.out.cell0
      have V2_1 := V2.out.cell1
      have V2_l := V2.out.lt
      have V3_0 := V3.out.cell0
      have V3_1 := V3.out.cell1
      have V3_l := V3.out.lt
      go_wp2_with fail
      refine (b_mark _ _ _ _ _ _ _ 1 Pa.out.own (by omega) (by omega) (by omega)).mono ?_
      rintro e x16 ⟨rfl, ho52, hg53⟩
      clear V0_0 V0_1 V0_l V1_0 V1_1 V1_l V2_0 V2_1 V2_l V3_0 V3_1 V3_l
      have V0 := Lib.hid (Pa.out.boxKept V0.out hg53 (by omega))
      have V1 := Lib.hid (Pa.out.boxKept V1.out hg53 (by omega))
      have V2 := Lib.hid (Pa.out.boxKept V2.out hg53 (by omega))
      have V3 := Lib.hid (Pa.out.boxKept V3.out hg53 (by omega))
      have I0 := Lib.hid (Pa.out.intsKept I0.out hg53 (by omega) (by omega))
      have Rx := Lib.hid (Pa.out.other Rx.out hg53 (by omega))
      have Ra := Lib.hid (Pa.out.other Ra.out hg53 (by omega))
      have Rb := Lib.hid (Pa.out.other Rb.out hg53 (by omega))
      have R2 := Lib.hid (Pa.out.other R2.out hg53 (by omega))
      have Pb := Lib.hid (Pa.out.other Pb.out hg53 (by omega))
      have HB := Lib.hid (Pa.out.belowKept HB.out hg53 (by omega) (by omega))
      have z54 := hg53.size
      have Pa := Lib.hid (Row.mk ho52 Pa.out.top (by have := Pa.out.le; omega))
      clear ho52 hg53 
      have V0_0 := V0.out.cell0
      have V0_1 := V0.out.cell1
      have V0_l := V0.out.lt
      have V1_0 := V1.out.cell0
      have V1_1 := V1.out.cell1
      have V1_l := V1.out.lt
      have V2_0 := V2.out.cell0
      have V2_1 := V2.out.cell1
      have V2_l := V2.out.lt
      have V3_0 := V3.out.cell0
      have V3_1 := V3.out.cell1
      have V3_l := V3.out.lt
      go_wp2_with fail
      refine (mark_any _ _ _ _ _ _ (1 + (n3 : Int)) Pb.out.own (by omega) (by omega) (by omega)).mono ?_
      rintro e x17 ⟨rfl, ho55, hg56⟩
      clear V0_0 V0_1 V0_l V1_0 V1_1 V1_l V2_0 V2_1 V2_l V3_0 V3_1 V3_l
      have V0 := Lib.hid (Pb.out.boxKept V0.out hg56 (by omega))
      have V1 := Lib.hid (Pb.out.boxKept V1.out hg56 (by omega))
      have V2 := Lib.hid (Pb.out.boxKept V2.out hg56 (by omega))
      have V3 := Lib.hid (Pb.out.boxKept V3.out hg56 (by omega))
      have I0 := Lib.hid (Pb.out.intsKept I0.out hg56 (by omega) (by omega))
      have Rx := Lib.hid (Pb.out.other Rx.out hg56 (by omega))
      have Ra := Lib.hid (Pb.out.other Ra.out hg56 (by omega))
      have Rb := Lib.hid (Pb.out.other Rb.out hg56 (by omega))
      have R2 := Lib.hid (Pb.out.other R2.out hg56 (by omega))
      have Pa := Lib.hid (Pb.out.other Pa.out hg56 (by omega))
      have HB := Lib.hid (Pb.out.belowKept HB.out hg56 (by omega) (by omega))
      have z57 := hg56.size
      have Pb := Lib.hid (Row.mk ho55 Pb.out.top (by have := Pb.out.le; omega))
      clear ho55 hg56 
      have V0_0 := V0.out.cell0
      have V0_1 := V0.out.cell1
      have V0_l := V0.out.lt
      have V1_0 := V1.out.cell0
      have V1_1 := V1.out.cell1
      have V1_l := V1.out.lt
      have V2_0 := V2.out.cell0
      have V2_1 := V2.out.cell1
      have V2_l := V2.out.lt
      have V3_0 := V3.out.cell0
      have V3_1 := V3.out.cell1
      have V3_l := V3.out.lt
      go_wp2_with fail
      refine (b_held _ _ _ _ _ _ 1 Pa.out.ints (Nat.le_refl _) (by omega) (by omega) (by omega)).mono ?_
      rintro e x18 ⟨rfl, hb58⟩
      clear V0_0 V0_1 V0_l V1_0 V1_1 V1_l V2_0 V2_1 V2_l V3_0 V3_1 V3_l
      have V0 := Lib.hid (V0.out.below hb58 V0.out.lt)
      have V1 := Lib.hid (V1.out.below hb58 V1.out.lt)
      have V2 := Lib.hid (V2.out.below hb58 V2.out.lt)
      have V3 := Lib.hid (V3.out.below hb58 V3.out.lt)
      have I0 := Lib.hid (I0.out.below hb58 (by omega))
      have Rx := Lib.hid (Rx.out.below hb58)
      have Ra := Lib.hid (Ra.out.below hb58)
      have Rb := Lib.hid (Rb.out.below hb58)
      have R2 := Lib.hid (R2.out.below hb58)
      have Pa := Lib.hid (Pa.out.below hb58)
      have Pb := Lib.hid (Pb.out.below hb58)
      have HB := Lib.hid (HB.out.trans (hb58.mono (by omega)))
      have z59 := hb58.size
      clear hb58 
      have V0_0 := V0.out.cell0
      have V0_1 := V0.out.cell1
      have V0_l := V0.out.lt
      have V1_0 := V1.out.cell0
      have V1_1 := V1.out.cell1
      have V1_l := V1.out.lt
      have V2_0 := V2.out.cell0
      have V2_1 := V2.out.cell1
      have V2_l := V2.out.lt
      have V3_0 := V3.out.cell0
      have V3_1 := V3.out.cell1
      have V3_l := V3.out.lt
      go_wp2_with fail
      refine (held_b _ _ _ _ _ (1 + (n3 : Int)) Pb.out.ints (by omega) (by omega) (by omega)).mono ?_
      rintro e x19 ⟨rfl, hb60⟩
      clear V0_0 V0_1 V0_l V1_0 V1_1 V1_l V2_0 V2_1 V2_l V3_0 V3_1 V3_l
      have V0 := Lib.hid (V0.out.below hb60 V0.out.lt)
      have V1 := Lib.hid (V1.out.below hb60 V1.out.lt)
      have V2 := Lib.hid (V2.out.below hb60 V2.out.lt)
      have V3 := Lib.hid (V3.out.below hb60 V3.out.lt)
      have I0 := Lib.hid (I0.out.below hb60 (by omega))
      have Rx := Lib.hid (Rx.out.below hb60)
      have Ra := Lib.hid (Ra.out.below hb60)
      have Rb := Lib.hid (Rb.out.below hb60)
      have R2 := Lib.hid (R2.out.below hb60)
      have Pa := Lib.hid (Pa.out.below hb60)
      have Pb := Lib.hid (Pb.out.below hb60)
      have HB := Lib.hid (HB.out.trans (hb60.mono (by omega)))
      have z61 := hb60.size
      clear hb60 
      have V0_0 := V0.out.cell0
      have V0_1 := V0.out.cell1
      have V0_l := V0.out.lt
      have V1_0 := V1.out.cell0
      have V1_1 := V1.out.cell1
      have V1_l := V1.out.lt
      have V2_0 := V2.out.cell0
      have V2_1 := V2.out.cell1
      have V2_l := V2.out.lt
      have V3_0 := V3.out.cell0
      have V3_1 := V3.out.cell1
      have V3_l := V3.out.lt
      go_wp2_with fail
      refine (x_toB _ _ _ _ _ _ _ I0.out (by omega) (by omega)).mono ?_
      rintro e x20 ⟨Ay, cy, rfl, ho63, hb62⟩
      have hnRy := ho63.1
      clear V0_0 V0_1 V0_l V1_0 V1_1 V1_l V2_0 V2_1 V2_l V3_0 V3_1 V3_l
      have V0 := Lib.hid (V0.out.below hb62 V0.out.lt)
      have V1 := Lib.hid (V1.out.below hb62 V1.out.lt)
      have V2 := Lib.hid (V2.out.below hb62 V2.out.lt)
      have V3 := Lib.hid (V3.out.below hb62 V3.out.lt)
      have I0 := Lib.hid (I0.out.below hb62 (by omega))
      have Rx := Lib.hid (Rx.out.below hb62)
      have Ra := Lib.hid (Ra.out.below hb62)
      have Rb := Lib.hid (Rb.out.below hb62)
      have R2 := Lib.hid (R2.out.below hb62)
      have Pa := Lib.hid (Pa.out.below hb62)
      have Pb := Lib.hid (Pb.out.below hb62)
      have HB := Lib.hid (HB.out.trans (hb62.mono (by omega)))
      have z64 := hb62.size
      have Ry := Lib.hid (Row.of ho63)
      clear hb62 ho63
      have V0_0 := V0.out.cell0
      have V0_1 := V0.out.cell1
      have V0_l := V0.out.lt
      have V1_0 := V1.out.cell0
      have V1_1 := V1.out.cell1
      have V1_l := V1.out.lt
      have V2_0 := V2.out.cell0
      have V2_1 := V2.out.cell1
      have V2_l := V2.out.lt
      have V3_0 := V3.out.cell0
      have V3_1 := V3.out.cell1
      have V3_l := V3.out.lt
      go_wp2_with fail
      refine (i_PlV _ _ _ _ _ _ _ _ _ _ R rs rc rg ok Ry.out.ints (Nat.le_refl _) (by omega) HR HV (HT.out.below HB.out) (HE.out.below HB.out)).mono ?_
      rintro e x21 ⟨A4, n4, c4, B4, m4, d4, mid2, rfl, ho66, ho67, ho68, ho69, ho70, hb65⟩
      have hnQa := ho66.1
      have hnQb := ho68.1
      clear V0_0 V0_1 V0_l V1_0 V1_1 V1_l V2_0 V2_1 V2_l V3_0 V3_1 V3_l
      have V0 := Lib.hid (V0.out.below hb65 V0.out.lt)
      have V1 := Lib.hid (V1.out.below hb65 V1.out.lt)
      have V2 := Lib.hid (V2.out.below hb65 V2.out.lt)
      have V3 := Lib.hid (V3.out.below hb65 V3.out.lt)
      have I0 := Lib.hid (I0.out.below hb65 (by omega))
      have Rx := Lib.hid (Rx.out.below hb65)
      have Ra := Lib.hid (Ra.out.below hb65)
      have Rb := Lib.hid (Rb.out.below hb65)
      have R2 := Lib.hid (R2.out.below hb65)
      have Pa := Lib.hid (Pa.out.below hb65)
      have Pb := Lib.hid (Pb.out.below hb65)
      have Ry := Lib.hid (Ry.out.below hb65)
      have HB := Lib.hid (HB.out.trans (hb65.mono (by omega)))
      have z71 := hb65.size
      have Qa := Lib.hid (Row.mk ho66 ho67 ho70)
      have Qb := Lib.hid (Row.of ho68)
      clear hb65 ho66 ho67 ho68
      have V0_0 := V0.out.cell0
      have V0_1 := V0.out.cell1
      have V0_l := V0.out.lt
      have V1_0 := V1.out.cell0
      have V1_1 := V1.out.cell1
      have V1_l := V1.out.lt
      have V2_0 := V2.out.cell0
      have V2_1 := V2.out.cell1
      have V2_l := V2.out.lt
      have V3_0 := V3.out.cell0
      have V3_1 := V3.out.cell1
      have V3_l := V3.out.lt
      obtain rfl : n4 = n3 := by omega
      obtain rfl : m4 = m3 := by omega
      go_wp2_with fail
      obtain ⟨x22, hy73, hb72, z74, z75⟩ := new_box x21 (.cells #[.int .i64 rs, .slice A4 n4 c4] 25)
      have V4 : Hid (Bx 25 x22 x21.heap.size rs (.slice A4 n4 c4)) := Lib.hid (by rw [hy73]; exact Bx.new _ _ _ _)
      rw [← hy73]
      clear hy73
      clear V0_0 V0_1 V0_l V1_0 V1_1 V1_l V2_0 V2_1 V2_l V3_0 V3_1 V3_l
      have V0 := Lib.hid (V0.out.below hb72 V0.out.lt)
      have V1 := Lib.hid (V1.out.below hb72 V1.out.lt)
      have V2 := Lib.hid (V2.out.below hb72 V2.out.lt)
      have V3 := Lib.hid (V3.out.below hb72 V3.out.lt)
      have I0 := Lib.hid (I0.out.below hb72 (by omega))
      have Rx := Lib.hid (Rx.out.below hb72)
      have Ra := Lib.hid (Ra.out.below hb72)
      have Rb := Lib.hid (Rb.out.below hb72)
      have R2 := Lib.hid (R2.out.below hb72)
      have Pa := Lib.hid (Pa.out.below hb72)
      have Pb := Lib.hid (Pb.out.below hb72)
      have Ry := Lib.hid (Ry.out.below hb72)
      have Qa := Lib.hid (Qa.out.below hb72)
      have Qb := Lib.hid (Qb.out.below hb72)
      have HB := Lib.hid (HB.out.trans (hb72.mono (by omega)))
      have z76 := hb72.size
      clear hb72
      have V0_0 := V0.out.cell0
      have V0_1 := V0.out.cell1
      have V0_l := V0.out.lt
      have V1_0 := V1.out.cell0
      have V1_1 := V1.out.cell1
      have V1_l := V1.out.lt
      have V2_0 := V2.out.cell0
      have V2_1 := V2.out.cell1
      have V2_l := V2.out.lt
      have V3_0 := V3.out.cell0
      have V3_1 := V3.out.cell1
      have V3_l := V3.out.lt
      have V4_0 := V4.out.cell0
      have V4_1 := V4.out.cell1
      have V4_l := V4.out.lt
      go_wp2_with fail
      refine (b_eq _ _ _ _ _ _ _ _ _ _ Qa.out.ints Ra.out.ints (Nat.le_refl _) (Nat.le_refl _) (by omega)).mono ?_
      rintro e x23 ⟨rfl, hb77⟩
      clear V0_0 V0_1 V0_l V1_0 V1_1 V1_l V2_0 V2_1 V2_l V3_0 V3_1 V3_l V4_0 V4_1 V4_l
      have V0 := Lib.hid (V0.out.below hb77 V0.out.lt)
      have V1 := Lib.hid (V1.out.below hb77 V1.out.lt)
      have V2 := Lib.hid (V2.out.below hb77 V2.out.lt)
      have V3 := Lib.hid (V3.out.below hb77 V3.out.lt)
      have V4 := Lib.hid (V4.out.below hb77 V4.out.lt)
      have I0 := Lib.hid (I0.out.below hb77 (by omega))
      have Rx := Lib.hid (Rx.out.below hb77)
      have Ra := Lib.hid (Ra.out.below hb77)
      have Rb := Lib.hid (Rb.out.below hb77)
      have R2 := Lib.hid (R2.out.below hb77)
      have Pa := Lib.hid (Pa.out.below hb77)
      have Pb := Lib.hid (Pb.out.below hb77)
      have Ry := Lib.hid (Ry.out.below hb77)
      have Qa := Lib.hid (Qa.out.below hb77)
      have Qb := Lib.hid (Qb.out.below hb77)
      have HB := Lib.hid (HB.out.trans (hb77.mono (by omega)))
      have z78 := hb77.size
      clear hb77 
      have V0_0 := V0.out.cell0
      have V0_1 := V0.out.cell1
      have V0_l := V0.out.lt
      have V1_0 := V1.out.cell0
      have V1_1 := V1.out.cell1
      have V1_l := V1.out.lt
      have V2_0 := V2.out.cell0
      have V2_1 := V2.out.cell1
      have V2_l := V2.out.lt
      have V3_0 := V3.out.cell0
      have V3_1 := V3.out.cell1
      have V3_l := V3.out.lt
      have V4_0 := V4.out.cell0
      have V4_1 := V4.out.cell1
      have V4_l := V4.out.lt
      go_wp2_with fail
      refine (eqs_b _ _ _ _ _ _ _ _ _ Qb.out.ints Rb.out.ints (by omega)).mono ?_
      rintro e x24 ⟨rfl, hb79⟩
      clear V0_0 V0_1 V0_l V1_0 V1_1 V1_l V2_0 V2_1 V2_l V3_0 V3_1 V3_l V4_0 V4_1 V4_l
      have V0 := Lib.hid (V0.out.below hb79 V0.out.lt)
      have V1 := Lib.hid (V1.out.below hb79 V1.out.lt)
      have V2 := Lib.hid (V2.out.below hb79 V2.out.lt)
      have V3 := Lib.hid (V3.out.below hb79 V3.out.lt)
      have V4 := Lib.hid (V4.out.below hb79 V4.out.lt)
      have I0 := Lib.hid (I0.out.below hb79 (by omega))
      have Rx := Lib.hid (Rx.out.below hb79)
      have Ra := Lib.hid (Ra.out.below hb79)
      have Rb := Lib.hid (Rb.out.below hb79)
      have R2 := Lib.hid (R2.out.below hb79)
      have Pa := Lib.hid (Pa.out.below hb79)
      have Pb := Lib.hid (Pb.out.below hb79)
      have Ry := Lib.hid (Ry.out.below hb79)
      have Qa := Lib.hid (Qa.out.below hb79)
      have Qb := Lib.hid (Qb.out.below hb79)
      have HB := Lib.hid (HB.out.trans (hb79.mono (by omega)))
      have z80 := hb79.size
      clear hb79 
      have V0_0 := V0.out.cell0
      have V0_1 := V0.out.cell1
      have V0_l := V0.out.lt
      have V1_0 := V1.out.cell0
      have V1_1 := V1.out.cell1
      have V1_l := V1.out.lt
      have V2_0 := V2.out.cell0
      have V2_1 := V2.out.cell1
      have V2_l := V2.out.lt
      have V3_0 := V3.out.cell0
      have V3_1 := V3.out.cell1
      have V3_l := V3.out.lt
      have V4_0 := V4.out.cell0
      have V4_1 := V4.out.cell1
      have V4_l := V4.out.lt
      go_wp2_with fail
      refine (b_held _ _ _ _ _ _ 1 Pa.out.ints (Nat.le_refl _) (by omega) (by omega) (by omega)).mono ?_
      rintro e x25 ⟨rfl, hb81⟩
      clear V0_0 V0_1 V0_l V1_0 V1_1 V1_l V2_0 V2_1 V2_l V3_0 V3_1 V3_l V4_0 V4_1 V4_l
      have V0 := Lib.hid (V0.out.below hb81 V0.out.lt)
      have V1 := Lib.hid (V1.out.below hb81 V1.out.lt)
      have V2 := Lib.hid (V2.out.below hb81 V2.out.lt)
      have V3 := Lib.hid (V3.out.below hb81 V3.out.lt)
      have V4 := Lib.hid (V4.out.below hb81 V4.out.lt)
      have I0 := Lib.hid (I0.out.below hb81 (by omega))
      have Rx := Lib.hid (Rx.out.below hb81)
      have Ra := Lib.hid (Ra.out.below hb81)
      have Rb := Lib.hid (Rb.out.below hb81)
      have R2 := Lib.hid (R2.out.below hb81)
      have Pa := Lib.hid (Pa.out.below hb81)
      have Pb := Lib.hid (Pb.out.below hb81)
      have Ry := Lib.hid (Ry.out.below hb81)
      have Qa := Lib.hid (Qa.out.below hb81)
      have Qb := Lib.hid (Qb.out.below hb81)
      have HB := Lib.hid (HB.out.trans (hb81.mono (by omega)))
      have z82 := hb81.size
      clear hb81 
      have V0_0 := V0.out.cell0
      have V0_1 := V0.out.cell1
      have V0_l := V0.out.lt
      have V1_0 := V1.out.cell0
      have V1_1 := V1.out.cell1
      have V1_l := V1.out.lt
      have V2_0 := V2.out.cell0
      have V2_1 := V2.out.cell1
      have V2_l := V2.out.lt
      have V3_0 := V3.out.cell0
      have V3_1 := V3.out.cell1
      have V3_l := V3.out.lt
      have V4_0 := V4.out.cell0
      have V4_1 := V4.out.cell1
      have V4_l := V4.out.lt
      go_wp2_with fail
      refine (held_b _ _ _ _ _ (1 + (n4 : Int)) Pb.out.ints (by omega) (by omega) (by omega)).mono ?_
      rintro e x26 ⟨rfl, hb83⟩
      clear V0_0 V0_1 V0_l V1_0 V1_1 V1_l V2_0 V2_1 V2_l V3_0 V3_1 V3_l V4_0 V4_1 V4_l
      have V0 := Lib.hid (V0.out.below hb83 V0.out.lt)
      have V1 := Lib.hid (V1.out.below hb83 V1.out.lt)
      have V2 := Lib.hid (V2.out.below hb83 V2.out.lt)
      have V3 := Lib.hid (V3.out.below hb83 V3.out.lt)
      have V4 := Lib.hid (V4.out.below hb83 V4.out.lt)
      have I0 := Lib.hid (I0.out.below hb83 (by omega))
      have Rx := Lib.hid (Rx.out.below hb83)
      have Ra := Lib.hid (Ra.out.below hb83)
      have Rb := Lib.hid (Rb.out.below hb83)
      have R2 := Lib.hid (R2.out.below hb83)
      have Pa := Lib.hid (Pa.out.below hb83)
      have Pb := Lib.hid (Pb.out.below hb83)
      have Ry := Lib.hid (Ry.out.below hb83)
      have Qa := Lib.hid (Qa.out.below hb83)
      have Qb := Lib.hid (Qb.out.below hb83)
      have HB := Lib.hid (HB.out.trans (hb83.mono (by omega)))
      have z84 := hb83.size
      clear hb83 
      have V0_0 := V0.out.cell0
      have V0_1 := V0.out.cell1
      have V0_l := V0.out.lt
      have V1_0 := V1.out.cell0
      have V1_1 := V1.out.cell1
      have V1_l := V1.out.lt
      have V2_0 := V2.out.cell0
      have V2_1 := V2.out.cell1
      have V2_l := V2.out.lt
      have V3_0 := V3.out.cell0
      have V3_1 := V3.out.cell1
      have V3_l := V3.out.lt
      have V4_0 := V4.out.cell0
      have V4_1 := V4.out.cell1
      have V4_l := V4.out.lt
      go_wp2_with fail
      go_ret
      exact ⟨rfl, HB.out⟩

abbrev listed : List (String × DataW Unit) := [("math/bits.deBruijn64tab", Rows.laid_math_bits_deBruijn64tab), ("loop.example/goboard/impl.errOccupied", Rows.laid_loop_example_goboard_impl_errOccupied), ("loop.example/goboard/impl.errNoLiberty", Rows.laid_loop_example_goboard_impl_errNoLiberty)]
theorem door_met (os : Os) (args : Array Value) : laidMetH Tryd.prog listed ((World.doorLaid Tryd.prog 400 os).forCall (fun _ _ => 0) ⟨#[], args, []⟩).memory :=
  laidMetH_of_parts3 (fuel := 8) (laidMet_of_run' 8 (by kernel_rfl) (by kernel_rfl)) (by kernel_rfl) (by kernel_rfl)
theorem tabOf {W : World} (h : laidMetH Tryd.prog listed W) : Tab W := by
  rw [MakeChecks.laidMetH_plain _ _ _ (by kernel_rfl)] at h
  exact Tab.of (Lib.tabIs_of_head (g := 2) (t := 110) (e := 5) (n := 64) (by kernel_rfl) (by kernel_rfl) (by kernel_rfl) (by kernel_rfl) (by kernel_rfl) (by kernel_rfl) h) (by kernel_rfl)

theorem gv0 : Tryd.prog.globalNamed "loop.example/goboard/impl.errOccupied" = some 0 := by kernel_rfl
theorem gv1 : Tryd.prog.globalNamed "loop.example/goboard/impl.errNoLiberty" = some 1 := by kernel_rfl
theorem tv0 : (Tryd.prog.globals[0]?).map (·.type) = some 69 := by kernel_rfl
theorem tv1 : (Tryd.prog.globals[1]?).map (·.type) = some 69 := by kernel_rfl
theorem cellsE : Tryd.prog.cellsOf 139 = 1 := by kernel_rfl
theorem cellsS : Tryd.prog.cellsOf 9 = 1 := by kernel_rfl
theorem starE : "*" ++ "errors.errorString" = "*errors.errorString" := by decide
theorem rowE (u : TypeId) (h : Tryd.prog.typeName? 3 u = some "*errors.errorString") : u = 122 :=
  typeName_ptr_named (nm := "errors.errorString") (by rw [starE]; kernel_rfl) (by kernel_rfl) (by decide) u (by rw [starE]; exact h)
theorem sents {W : World} (h0 : laidMetH Tryd.prog listed W) : ∃ a0 a1 : Addr,
    W.var? Tryd.prog "loop.example/goboard/impl.errOccupied" = some #[.iface 122 (.pointer (some a0))] ∧ W.var? Tryd.prog "loop.example/goboard/impl.errNoLiberty" = some #[.iface 122 (.pointer (some a1))] := by
  rw [MakeChecks.laidMetH_plain _ _ _ (by kernel_rfl)] at h0
  obtain ⟨ps, ⟨g0, t0, cs0, f0, p0, q0, hg0, ht0, hv0, hd0, ⟨g1, t1, cs1, f1, p1, q1, hg1, ht1, hv1, hd1, hq1, e1⟩, e0⟩, hnd, hrows⟩ := h0.tail
  obtain rfl := Option.some.inj (gv0.symm.trans hg0)
  obtain rfl := Option.some.inj (gv1.symm.trans hg1)
  obtain rfl := Option.some.inj (tv0.symm.trans ht0)
  obtain rfl := Option.some.inj (tv1.symm.trans ht1)
  have hq1' : q1 = [] := hq1
  subst hq1'
  subst e1
  subst e0
  obtain ⟨l0⟩ := cs0
  obtain ⟨l1⟩ := cs1
  have ok0 : ∀ u v, l0 = [.iface u v] → Value.okWide Tryd.prog W .any 0 u v := fun u v e => by
    subst e
    exact (hrows 0 0 (by simp [MemPlace.row])).2 u v (by simpa using World.var?_cell hg0 hv0 0)
  have ok1 : ∀ u v, l1 = [.iface u v] → Value.okWide Tryd.prog W .any 0 u v := fun u v e => by
    subst e
    exact (hrows 1 0 (by simp [MemPlace.row])).2 u v (by simpa using World.var?_cell hg1 hv1 0)
  obtain ⟨a0, s0, rfl, hc0, hs0, hz0, rfl⟩ := errorString_of_trod Tryd.underlying69 rowE Tryd.underlying122 Tryd.underlying139 rfl rfl Tryd.underlying9 cellsE cellsS hd0 ok0
  obtain ⟨a1, s1, rfl, hc1, hs1, hz1, rfl⟩ := errorString_of_trod Tryd.underlying69 rowE Tryd.underlying122 Tryd.underlying139 rfl rfl Tryd.underlying9 cellsE cellsS hd1 ok1
  exact ⟨a0, a1, hv0, hv1⟩
theorem glt {W : World} {g : Nat} {v : Value} (h : W.cell? ⟨g, 0, none⟩ = some v) : g < W.heap.size := by
  rcases Nat.lt_or_ge g W.heap.size with hlt | hge
  · exact hlt
  · simp [World.cell?, Array.getElem?_eq_none hge] at h
theorem errs {W : World} {a0 a1 : Addr} (hv0 : W.var? Tryd.prog "loop.example/goboard/impl.errOccupied" = some #[.iface 122 (.pointer (some a0))]) (hv1 : W.var? Tryd.prog "loop.example/goboard/impl.errNoLiberty" = some #[.iface 122 (.pointer (some a1))]) : ErrW W := by
  have h0 : W.cell? ⟨0, 0, none⟩ = some (.iface 122 (.pointer (some a0))) := by simpa using World.var?_cell gv0 hv0 0
  have h1 : W.cell? ⟨1, 0, none⟩ = some (.iface 122 (.pointer (some a1))) := by simpa using World.var?_cell gv1 hv1 0
  exact ⟨a0, a1, h0, h1, glt h0, glt h1⟩
theorem vars_read {H : Type} (enc : TypeId × Value → H) {W : World} {x0 x1 : Value} (h0 : W.var? Tryd.prog "loop.example/goboard/impl.errOccupied" = some #[x0]) (h1 : W.var? Tryd.prog "loop.example/goboard/impl.errNoLiberty" = some #[x1]) (i0 : IsIface x0) (i1 : IsIface x1) (sp : Nat → Bool) :
    DataW.TrodVars enc Tryd.prog W sp ["loop.example/goboard/impl.errOccupied", "loop.example/goboard/impl.errNoLiberty"] [tok enc x0, tok enc x1] [.cell 0 0, .cell 1 0] :=
  ⟨_, _, #[x0], 1, [], [.cell 1 0], gv0, tv0, h0, trod_held Tryd.underlying69 i0 0, ⟨_, _, #[x1], 1, [], [], gv1, tv1, h1, trod_held Tryd.underlying69 i1 0, rfl, rfl⟩, rfl⟩
theorem var_below {W W' : World} {n : String} {g : Nat} {cs : Array Value} (hg : Tryd.prog.globalNamed n = some g) (h : W.var? Tryd.prog n = some cs) (hb : Below W.heap.size W W') : W'.var? Tryd.prog n = some cs := by
  unfold World.var? at h ⊢
  simp only [hg, Option.bind_some] at h ⊢
  have hlt : g < W.heap.size := by
    rcases Nat.lt_or_ge g W.heap.size with h' | h'
    · exact h'
    · simp [Array.getElem?_eq_none h'] at h
  rw [hb.block g hlt]
  exact h

set_option maxRecDepth 100000 in
theorem lifted (os : Os) (started : os.Started) (H : Type) (enc : TypeId × Value → H) :
    ReturnsInHanded {} Tryd.checked os 9 .any (fun w args => (Rows.fnExactPlayStoneSpec.pre enc Tryd.prog Tryd.f9 [] false w args ∧ laidMetH Tryd.prog listed w) ∧ sizedMet enc Tryd.prog Tryd.f9 (OpenSpec.ofChange Rows.fnExactPlayStoneSpec) false w args) (Rows.fnExactPlayStoneSpec.post enc Tryd.prog Tryd.f9 false true false false) := by
  refine returnsInHanded_of_change_and (C := Tryd.checked) (X := fun w _ => laidMetH Tryd.prog listed w) (fun _ _ _ hh h => h.of_heap hh) own started (by kernel_rfl) Tryd.func9
    (ChangeSpec.witness_shaped (enc := enc) (C := Tryd.checked) (os := os) (X := fun w _ => laidMetH Tryd.prog listed w) false (World.doorLaid Tryd.prog 400 os) #[.agg #[.int .i64 0, .slice none 0 0], .int .i64 0, .int .i64 0, .bool false] 8 rfl (World.shaped_of_RefB (by kernel_rfl) (by kernel_rfl)) (by kernel_rfl) (by kernel_rfl) (by kernel_rfl) (door_met os _)) ?_
  intro W base args ds gs before hval0 hW _ _ hL _
  have hval : ∀ (j : Nat) t v, Tryd.f9.params[j]? = some t → args[j]? = some v → Value.okWide Tryd.prog W .any base t v := hval0
  have hW' := hW
  obtain ⟨p, q, hA0, hV, rfl, hfz, hnd⟩ := hW
  have hA : DataW.TrodAll enc Tryd.prog W 0 (fun _ => true) true Tryd.f9.params.toList args.toList ds p := hA0
  rw [Tryd.params9] at hA hval
  obtain ⟨v0, vs0, d0, ds0, p0, q0, hargs, rfl, rfl, h0, r0⟩ := trodAll_cons hA
  obtain ⟨v1, vs1, d1, ds1, p1, q1, rfl, rfl, rfl, h1, r1⟩ := trodAll_cons r0
  obtain ⟨v2, vs2, d2, ds2, p2, q2, rfl, rfl, rfl, h2, r2⟩ := trodAll_cons r1
  obtain ⟨v3, vs3, d3, ds3, p3, q3, rfl, rfl, rfl, h3, r3⟩ := trodAll_cons r2
  obtain ⟨rfl, rfl, rfl⟩ := trodAll_nil r3
  obtain rfl : args = #[v0, v1, v2, v3] := by cases args; simp_all
  have hVv : DataW.TrodVars enc Tryd.prog W (fun _ => true) ["loop.example/goboard/impl.errOccupied", "loop.example/goboard/impl.errNoLiberty"] gs q := hV
  obtain ⟨er0, er1, hv0, hv1⟩ := sents hL
  obtain ⟨rfl, rfl⟩ := hVv.unique (vars_read enc hv0 hv1 trivial trivial _)
  have hE := errs hv0 hv1
  clear hVv hV
  have k0 := h0
  have lt0 : ∀ x ∈ p0, x.block < W.heap.size := by obtain ⟨m, hm⟩ := k0; exact DataW.trod_lt m _ _ _ hm
  obtain ⟨a0, A0, n0, c0, cs0, rfl, w0, m0⟩ := open_board (hval 0 48 v0 rfl rfl) h0
  obtain ⟨a1, rfl, rfl, rfl, w1⟩ := open_int Tryd.underlying3 (hval 1 3 v1 rfl rfl) h1
  obtain ⟨a2, rfl, rfl, rfl, w2⟩ := open_int Tryd.underlying3 (hval 2 3 v2 rfl rfl) h2
  obtain ⟨a3, rfl, rfl, rfl⟩ := open_bool Tryd.underlying4 (hval 3 4 v3 rfl rfl) h3
  clear hA0 hval0
  refine (walk a0 A0 n0 c0 cs0 a1 a2 a3 W (tabOf hL) hE w0 m0 w1 w2).mono fun e W' ⟨he, bel⟩ => ?_
  subst he
  exact ⟨_, rfl, _, _, _, [], _, [.cell 0 0, .cell 1 0], hW', trodAll_mk1 (shut_bool Tryd.underlying4 _), (trodAll_cons_mk (Below.trod laidOut (by kernel_rfl) (of_decide_eq_true (by kernel_rfl)) k0 bel lt0) (trodAll_cons_mk (shut_int Tryd.underlying3 w1) (trodAll_cons_mk (shut_int Tryd.underlying3 w2) (trodAll_cons_mk (shut_bool Tryd.underlying4 a3) trodAll_mk0)))), vars_read enc (var_below gv0 hv0 bel) (var_below gv1 hv1 bel) trivial trivial _, bel.frame _, fun h => by cases h⟩

theorem over : Rows.fnExactPlayStoneRow.holds Tryd.pinned (OpenSpec.ofChange Rows.fnExactPlayStoneSpec) :=
  OpenClaim.holds_of_wide 9 Tryd.f9 rfl rfl rfl rfl rfl rfl rfl ⟨rfl, rfl, rfl, rfl, rfl⟩ rfl rfl rfl rfl rfl (by kernel_rfl) Tryd.func9 (by kernel_rfl)
    (of_decide_eq_true (by kernel_rfl)) (by unfold Func.isWrapper; first | (rw [if_pos (by decide +kernel)]; kernel_rfl) | (rw [if_neg (by decide +kernel)]; exact ⟨rfl, rfl⟩))
    (fun os started H enc _ => lifted os started H enc)

theorem proved : Rows.FnExactPlayStoneCardSaid :=
  Claim7.holds_tied_plain_at .later [] [.data, .sentinel, .sentinel] true Rows.fnExactPlayStoneCard.stood.harness false
    over (fun _ h => by cases h) (by kernel_rfl) (fun _ h => by cases h) fnExactPlayStone_row_tie rfl ⟨rfl, rfl⟩ (by kernel_rfl) rfl
    (fun f fn hf hfn => by
      obtain rfl : f = 9 := Option.some.inj ((show Tryd.prog.funcNamed "loop.example/goboard/laws.FnExactPlayStone" = some 9 by kernel_rfl).symm.trans hf) |>.symm
      obtain rfl : fn = Tryd.f9 := (Option.some.inj (Tryd.func9.symm.trans hfn)).symm
      exact ⟨by kernel_rfl, fun j t ht => by
        have hm : t ∈ Tryd.f9.params.toList := by simpa using Array.mem_of_getElem? ht
        have hall : (Tryd.f9.params.toList.all fun u => !Tryd.prog.wantsStandIn u) = true := by kernel_rfl
        exact (show Tryd.prog.wantsStandIn t = false by simpa using List.all_eq_true.1 hall t hm)⟩)
    (by kernel_rfl)
end Go.Proofs.YtpogjegihhljpaaDoor.fnExactPlayStone
