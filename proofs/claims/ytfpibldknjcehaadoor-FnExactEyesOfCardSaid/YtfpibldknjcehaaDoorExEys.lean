/-
  FnExactEyesOf.
-/
import Derived.Test.YtfpibldknjcehaaDoorRows
import Derived.Test.YtfpibldknjcehaaDoorRows2
import Derived.Test.YtfpibldknjcehaaDoorOpenB
import Derived.Deep.RegionWith
import Derived.Deep.DeepCutAuto
import Derived.Test.YtfpibldknjcehaaDoorEyeY
import Derived.Test.YtfpibldknjcehaaDoorCards
import Derived.Test.YtfpibldknjcehaaDoorTie
import Derived.Test.YtfpibldknjcehaaDoorTz
import Derived.LaidMore
import Derived.Stop.Joined
import Derived.Stop.LaidErr
import Derived.SevenTiedAt
import Derived.WalkKit
import Derived.ProofKit
import Derived.OpenShut
import Derived.ShutString
import Derived.ChangeOld
import Derived.Below
namespace Go.Proofs.YtfpibldknjcehaaDoor.fnExactEyesOf
set_option maxRecDepth 100000
open Go.WideMaps Go.WideElems
open Go.ChangeShapes Go.WideShapes Go.ChangeAt Go.RowKit
open Go.ChangeMaps (open_string shut_string)
set_option linter.unusedVariables false

theorem own : ownKnob Tryd.prog.godebug = none := by kernel_rfl
theorem laidOut : laidOutB Tryd.prog = true := by kernel_rfl


theorem eqs_b (w : World) (B B' : Nat) (A A' : Option Addr) (n c c' : Nat) (xs : List Int) (h : Ints w B A n xs) (h' : Ints w B' A' n xs) (hn : n ≤ 1000000000) :
    Calls Tryd.prog 12 #[.slice A n c, .slice A' n c'] w fun e w' => e = .returned (.bool true) ∧ Below w.heap.size w w' := by
  refine (eqs_t w B B' A A' n c c' xs h h' hn).mono ?_
  rintro e w' ⟨k, rfl, rfl⟩
  exact ⟨rfl, ⟨rfl, rfl, rfl, Nat.le_refl _, fun _ _ => rfl⟩⟩
theorem held_b (w : World) (B : Nat) (A : Option Addr) (n c : Nat) (k : Int) (h : Ints w B A n (marks k n)) (hn : n ≤ 1000000000) (k1 : 0 ≤ k) (k2 : k ≤ 1000000000) :
    Calls Tryd.prog 15 #[.slice A n c, .int .i64 k] w fun e w' => e = .returned (.int .i64 (k + n)) ∧ Below w.heap.size w w' := by
  refine (held_t w B A n c k h hn k1 k2).mono ?_
  rintro e w' ⟨rfl, rfl⟩
  exact ⟨rfl, Below.refl _ _⟩

set_option maxRecDepth 100000 in
set_option maxHeartbeats 4000000 in
theorem walk (a0 : Int) (A0 : Option Addr) (n0 c0 : Nat) (cs0 : List Int) (a1 : Int) (w : World) (ht : Tab w) (w0 : Ints w w.heap.size A0 n0 cs0) (m0 : n0 ≤ 9223372036854775807) (w1 : (Lit.int .i64 a1).wf = true) :
    Calls Tryd.prog 4 #[.agg #[.int .i64 a0, .slice A0 n0 c0], .int .i64 a1] w fun e w' => e = .returned (.bool true) ∧ Below w.heap.size w w' := by
  by_cases hsz : 1048576 < n0
  · go_enter Tryd.func4, Tryd.ntmps4
    go_wp2_with fail
    refine (x_szB_no _ _ _ _ _ hsz m0).mono ?_
    rintro e x ⟨rfl, hb⟩
    have Hb := Lib.hid (((Below.refl w.heap.size w).alloc (Nat.le_refl _) (.cells #[.int .i64 a0, .slice A0 n0 c0] 24)).trans (hb.mono (by simp)))
    clear hb
    go_wp2_with fail
    go_ret
    exact ⟨rfl, Hb.out⟩
  · have HB := Lib.hid (Below.refl w.heap.size w)
    have I0 := Lib.hid w0
    have HT := Lib.hid ht
    have hlen1 := eyL_len a0 cs0 a1
    have hlen2 := eyW_len a0 cs0 a1
    have hl0 := w0.1
    obtain ⟨la, hla⟩ : ∃ l, eyL a0 cs0 a1 = l := ⟨_, rfl⟩
    obtain ⟨lb, hlb⟩ : ∃ l, eyW a0 cs0 a1 = l := ⟨_, rfl⟩
    rw [hla] at hlen1
    rw [hlb] at hlen2
    have Hla := Lib.hid hla
    have Hlb := Lib.hid hlb
    clear w0 ht hla hlb
    go_enter Tryd.func4, Tryd.ntmps4
    go_wp2_with fail
    obtain ⟨x1, hy2, hb1, z3, z4⟩ := new_box w (.cells #[.int .i64 a0, .slice A0 n0 c0] 24)
    have V0 : Hid (Bx 24 x1 w.heap.size a0 (.slice A0 n0 c0)) := Lib.hid (by rw [hy2]; exact Bx.new _ _ _ _)
    rw [← hy2]
    clear hy2
    have I0 := Lib.hid (I0.out.below hb1 (by omega))
    have HB := Lib.hid (HB.out.trans (hb1.mono (by omega)))
    have z5 := hb1.size
    clear hb1
    have V0_0 := V0.out.cell0
    have V0_1 := V0.out.cell1
    have V0_l := V0.out.lt
    go_wp2_with fail
    refine (x_szB _ _ _ _ _ (by omega)).mono ?_
    rintro e x2 ⟨rfl, hb6⟩
    clear V0_0 V0_1 V0_l
    have V0 := Lib.hid (V0.out.below hb6 V0.out.lt)
    have I0 := Lib.hid (I0.out.below hb6 (by omega))
    have HB := Lib.hid (HB.out.trans (hb6.mono (by omega)))
    have z7 := hb6.size
    clear hb6 
    have V0_0 := V0.out.cell0
    have V0_1 := V0.out.cell1
    have V0_l := V0.out.lt
    go_wp2_with fail
    refine (x_toB _ _ _ _ _ _ _ I0.out (by omega) (by omega)).mono ?_
    rintro e x3 ⟨Ax, cx, rfl, ho9, hb8⟩
    have hnRx := ho9.1
    clear V0_0 V0_1 V0_l
    have V0 := Lib.hid (V0.out.below hb8 V0.out.lt)
    have I0 := Lib.hid (I0.out.below hb8 (by omega))
    have HB := Lib.hid (HB.out.trans (hb8.mono (by omega)))
    have z10 := hb8.size
    have Rx := Lib.hid (Row.of ho9)
    clear hb8 ho9
    have V0_0 := V0.out.cell0
    have V0_1 := V0.out.cell1
    have V0_l := V0.out.lt
    go_wp2_with fail
    refine (s_EyL _ _ _ _ _ _ _ _ _ _ Hla Hlb Rx.out.ints (Nat.le_refl _) (by omega)).mono ?_
    rintro e x4 ⟨A1, na, c1, B1, nb, d1, rfl, ho12, hb11⟩
    have hnRa := ho12.one.1
    have hnRb := ho12.two.1
    clear V0_0 V0_1 V0_l
    have V0 := Lib.hid (V0.out.below hb11 V0.out.lt)
    have I0 := Lib.hid (I0.out.below hb11 (by omega))
    have Rx := Lib.hid (Rx.out.below hb11)
    have HB := Lib.hid (HB.out.trans (hb11.mono (by omega)))
    have z13 := hb11.size
    have Ra := Lib.hid (Row.of ho12.one)
    have Rb := Lib.hid (Row.of ho12.two)
    clear hb11 ho12
    have V0_0 := V0.out.cell0
    have V0_1 := V0.out.cell1
    have V0_l := V0.out.lt
    go_wp2_with fail
    refine (x_toB _ _ _ _ _ _ _ I0.out (by omega) (by omega)).mono ?_
    rintro e x5 ⟨A2, c2, rfl, ho15, hb14⟩
    have hnR2 := ho15.1
    clear V0_0 V0_1 V0_l
    have V0 := Lib.hid (V0.out.below hb14 V0.out.lt)
    have I0 := Lib.hid (I0.out.below hb14 (by omega))
    have Rx := Lib.hid (Rx.out.below hb14)
    have Ra := Lib.hid (Ra.out.below hb14)
    have Rb := Lib.hid (Rb.out.below hb14)
    have HB := Lib.hid (HB.out.trans (hb14.mono (by omega)))
    have z16 := hb14.size
    have R2 := Lib.hid (Row.of ho15)
    clear hb14 ho15
    have V0_0 := V0.out.cell0
    have V0_1 := V0.out.cell1
    have V0_l := V0.out.lt
    go_wp2_with fail
    obtain ⟨x6, hy18, hb17, z19, z20⟩ := new_box x5 (.cells #[.int .i64 a0, .slice A2 n0 c2] 27)
    have V2 : Hid (Bx 27 x6 x5.heap.size a0 (.slice A2 n0 c2)) := Lib.hid (by rw [hy18]; exact Bx.new _ _ _ _)
    rw [← hy18]
    clear hy18
    clear V0_0 V0_1 V0_l
    have V0 := Lib.hid (V0.out.below hb17 V0.out.lt)
    have I0 := Lib.hid (I0.out.below hb17 (by omega))
    have Rx := Lib.hid (Rx.out.below hb17)
    have Ra := Lib.hid (Ra.out.below hb17)
    have Rb := Lib.hid (Rb.out.below hb17)
    have R2 := Lib.hid (R2.out.below hb17)
    have HB := Lib.hid (HB.out.trans (hb17.mono (by omega)))
    have z21 := hb17.size
    clear hb17
    have V0_0 := V0.out.cell0
    have V0_1 := V0.out.cell1
    have V0_l := V0.out.lt
    have V2_0 := V2.out.cell0
    have V2_1 := V2.out.cell1
    have V2_l := V2.out.lt
    go_wp2_with fail
    refine (i_EyL _ _ _ _ _ _ _ _ _ _ Hla Hlb R2.out.ints (Nat.le_refl _) (by omega) (HT.out.below HB.out)).mono ?_
    rintro e x7 ⟨A3, n3, c3, B3, m3, d3, mid, rfl, ho23, ho24, ho25, ho26, ho27, hb22⟩
    have hnPa := ho23.1
    have hnPb := ho25.1
    clear V0_0 V0_1 V0_l V2_0 V2_1 V2_l
    have V0 := Lib.hid (V0.out.below hb22 V0.out.lt)
    have V2 := Lib.hid (V2.out.below hb22 V2.out.lt)
    have I0 := Lib.hid (I0.out.below hb22 (by omega))
    have Rx := Lib.hid (Rx.out.below hb22)
    have Ra := Lib.hid (Ra.out.below hb22)
    have Rb := Lib.hid (Rb.out.below hb22)
    have R2 := Lib.hid (R2.out.below hb22)
    have HB := Lib.hid (HB.out.trans (hb22.mono (by omega)))
    have z28 := hb22.size
    have Pa := Lib.hid (Row.mk ho23 ho24 ho27)
    have Pb := Lib.hid (Row.of ho25)
    clear hb22 ho23 ho24 ho25
    have V0_0 := V0.out.cell0
    have V0_1 := V0.out.cell1
    have V0_l := V0.out.lt
    have V2_0 := V2.out.cell0
    have V2_1 := V2.out.cell1
    have V2_l := V2.out.lt
    obtain rfl : n3 = na := by omega
    obtain rfl : m3 = nb := by omega
    go_wp2_with fail
    refine (eqs_b _ _ _ _ _ _ _ _ _ Pa.out.ints Ra.out.ints (by omega)).mono ?_
    rintro e x8 ⟨rfl, hb29⟩
    clear V0_0 V0_1 V0_l V2_0 V2_1 V2_l
    have V0 := Lib.hid (V0.out.below hb29 V0.out.lt)
    have V2 := Lib.hid (V2.out.below hb29 V2.out.lt)
    have I0 := Lib.hid (I0.out.below hb29 (by omega))
    have Rx := Lib.hid (Rx.out.below hb29)
    have Ra := Lib.hid (Ra.out.below hb29)
    have Rb := Lib.hid (Rb.out.below hb29)
    have R2 := Lib.hid (R2.out.below hb29)
    have Pa := Lib.hid (Pa.out.below hb29)
    have Pb := Lib.hid (Pb.out.below hb29)
    have HB := Lib.hid (HB.out.trans (hb29.mono (by omega)))
    have z30 := hb29.size
    clear hb29 
    have V0_0 := V0.out.cell0
    have V0_1 := V0.out.cell1
    have V0_l := V0.out.lt
    have V2_0 := V2.out.cell0
    have V2_1 := V2.out.cell1
    have V2_l := V2.out.lt
    go_wp2_with fail
    refine (eqs_b _ _ _ _ _ _ _ _ _ Pb.out.ints Rb.out.ints (by omega)).mono ?_
    rintro e x9 ⟨rfl, hb31⟩
    clear V0_0 V0_1 V0_l V2_0 V2_1 V2_l
    have V0 := Lib.hid (V0.out.below hb31 V0.out.lt)
    have V2 := Lib.hid (V2.out.below hb31 V2.out.lt)
    have I0 := Lib.hid (I0.out.below hb31 (by omega))
    have Rx := Lib.hid (Rx.out.below hb31)
    have Ra := Lib.hid (Ra.out.below hb31)
    have Rb := Lib.hid (Rb.out.below hb31)
    have R2 := Lib.hid (R2.out.below hb31)
    have Pa := Lib.hid (Pa.out.below hb31)
    have Pb := Lib.hid (Pb.out.below hb31)
    have HB := Lib.hid (HB.out.trans (hb31.mono (by omega)))
    have z32 := hb31.size
    clear hb31 
    have V0_0 := V0.out.cell0
    have V0_1 := V0.out.cell1
    have V0_l := V0.out.lt
    have V2_0 := V2.out.cell0
    have V2_1 := V2.out.cell1
    have V2_l := V2.out.lt
    go_upto_region 10 with (fail)
    go_cut [50] (fun v wx => v = .bool false ∧ Below x9.heap.size x9 wx)
    case first =>
      go_region_with (first | (go_at_call 7; refine (x_toB _ _ w.heap.size _ _ _ cs0 (by exact I0.out) ?_ (by omega)).mono ?_; (show w.heap.size ≤ x9.heap.size; omega); rintro e y ⟨A9, c9, rfl, ho9, hb9⟩; have hb9w : Below x9.heap.size x9 y := ⟨hb9.os, hb9.tape, hb9.output, hb9.size, hb9.block⟩; have hz9 := hb9w.size; have u0 := (V2.out.below hb9w V2.out.lt).cell0; have u1 := (V2.out.below hb9w V2.out.lt).cell1; have Ho9 := Lib.hid ho9; have Hb9 := Lib.hid hb9w; clear ho9 hb9 hb9w) | (go_at_call 9; refine (b_eq _ _ x9.heap.size y.heap.size _ _ _ _ _ cs0 (by exact R2.out.ints.below Hb9.out (Nat.le_refl _)) (by exact Ho9.out.ints) (by exact Hb9.out.size) (by exact Nat.le_refl _) (by omega)).mono ?_; rintro e y2 ⟨rfl, hb10⟩; have Hb10 : Hid (Below x9.heap.size x9 y2) := Lib.hid (Hb9.out.trans ((show Below y.heap.size y y2 from ⟨hb10.os, hb10.tape, hb10.output, hb10.size, hb10.block⟩).mono Hb9.out.size)); clear hb10))
      all_goals go_wp2_with fail
      all_goals go_meet
      all_goals exact ⟨rfl, Hb10.out⟩
    case rest =>
      obtain ⟨rfl, hb33⟩ := hcut
      clear V0_0 V0_1 V0_l V2_0 V2_1 V2_l
      have V0 := Lib.hid (V0.out.below hb33 V0.out.lt)
      have V2 := Lib.hid (V2.out.below hb33 V2.out.lt)
      have I0 := Lib.hid (I0.out.below hb33 (by omega))
      have Rx := Lib.hid (Rx.out.below hb33)
      have Ra := Lib.hid (Ra.out.below hb33)
      have Rb := Lib.hid (Rb.out.below hb33)
      have R2 := Lib.hid (R2.out.below hb33)
      have Pa := Lib.hid (Pa.out.below hb33)
      have Pb := Lib.hid (Pb.out.below hb33)
      have HB := Lib.hid (HB.out.trans (hb33.mono (by omega)))
      have z34 := hb33.size
      clear hb33
      have V0_0 := V0.out.cell0
      have V0_1 := V0.out.cell1
      have V0_l := V0.out.lt
      have V2_0 := V2.out.cell0
      have V2_1 := V2.out.cell1
      have V2_l := V2.out.lt
      go_wp2_with fail
      refine (b_mark _ _ _ _ _ _ _ 1 R2.out.own (by omega) (by omega) (by omega)).mono ?_
      rintro e x11 ⟨rfl, ho35, hg36⟩
      clear V0_0 V0_1 V0_l V2_0 V2_1 V2_l
      have V0 := Lib.hid (R2.out.boxKept V0.out hg36 (by omega))
      have V2 := Lib.hid (R2.out.boxKept V2.out hg36 (by omega))
      have I0 := Lib.hid (R2.out.intsKept I0.out hg36 (by omega) (by omega))
      have Rx := Lib.hid (R2.out.other Rx.out hg36 (by omega))
      have Ra := Lib.hid (R2.out.other Ra.out hg36 (by omega))
      have Rb := Lib.hid (R2.out.other Rb.out hg36 (by omega))
      have Pa := Lib.hid (R2.out.other Pa.out hg36 (by omega))
      have Pb := Lib.hid (R2.out.other Pb.out hg36 (by omega))
      have HB := Lib.hid (R2.out.belowKept HB.out hg36 (by omega) (by omega))
      have z37 := hg36.size
      have R2 := Lib.hid (Row.mk ho35 R2.out.top (by have := R2.out.le; omega))
      clear ho35 hg36 
      have V0_0 := V0.out.cell0
      have V0_1 := V0.out.cell1
      have V0_l := V0.out.lt
      have V2_0 := V2.out.cell0
      have V2_1 := V2.out.cell1
      have V2_l := V2.out.lt
      go_wp2_with fail
      refine (eqs_b _ _ _ _ _ _ _ _ _ Pa.out.ints Ra.out.ints (by omega)).mono ?_
      rintro e x12 ⟨rfl, hb38⟩
      clear V0_0 V0_1 V0_l V2_0 V2_1 V2_l
      have V0 := Lib.hid (V0.out.below hb38 V0.out.lt)
      have V2 := Lib.hid (V2.out.below hb38 V2.out.lt)
      have I0 := Lib.hid (I0.out.below hb38 (by omega))
      have Rx := Lib.hid (Rx.out.below hb38)
      have Ra := Lib.hid (Ra.out.below hb38)
      have Rb := Lib.hid (Rb.out.below hb38)
      have R2 := Lib.hid (R2.out.below hb38)
      have Pa := Lib.hid (Pa.out.below hb38)
      have Pb := Lib.hid (Pb.out.below hb38)
      have HB := Lib.hid (HB.out.trans (hb38.mono (by omega)))
      have z39 := hb38.size
      clear hb38 
      have V0_0 := V0.out.cell0
      have V0_1 := V0.out.cell1
      have V0_l := V0.out.lt
      have V2_0 := V2.out.cell0
      have V2_1 := V2.out.cell1
      have V2_l := V2.out.lt
      go_wp2_with fail
      refine (eqs_b _ _ _ _ _ _ _ _ _ Pb.out.ints Rb.out.ints (by omega)).mono ?_
      rintro e x13 ⟨rfl, hb40⟩
      clear V0_0 V0_1 V0_l V2_0 V2_1 V2_l
      have V0 := Lib.hid (V0.out.below hb40 V0.out.lt)
      have V2 := Lib.hid (V2.out.below hb40 V2.out.lt)
      have I0 := Lib.hid (I0.out.below hb40 (by omega))
      have Rx := Lib.hid (Rx.out.below hb40)
      have Ra := Lib.hid (Ra.out.below hb40)
      have Rb := Lib.hid (Rb.out.below hb40)
      have R2 := Lib.hid (R2.out.below hb40)
      have Pa := Lib.hid (Pa.out.below hb40)
      have Pb := Lib.hid (Pb.out.below hb40)
      have HB := Lib.hid (HB.out.trans (hb40.mono (by omega)))
      have z41 := hb40.size
      clear hb40 
      have V0_0 := V0.out.cell0
      have V0_1 := V0.out.cell1
      have V0_l := V0.out.lt
      have V2_0 := V2.out.cell0
      have V2_1 := V2.out.cell1
      have V2_l := V2.out.lt
      go_wp2_with fail
      refine (mark_any _ _ _ _ _ _ 1 Pa.out.own (by omega) (by omega) (by omega)).mono ?_
      rintro e x14 ⟨rfl, ho42, hg43⟩
      clear V0_0 V0_1 V0_l V2_0 V2_1 V2_l
      have V0 := Lib.hid (Pa.out.boxKept V0.out hg43 (by omega))
      have V2 := Lib.hid (Pa.out.boxKept V2.out hg43 (by omega))
      have I0 := Lib.hid (Pa.out.intsKept I0.out hg43 (by omega) (by omega))
      have Rx := Lib.hid (Pa.out.other Rx.out hg43 (by omega))
      have Ra := Lib.hid (Pa.out.other Ra.out hg43 (by omega))
      have Rb := Lib.hid (Pa.out.other Rb.out hg43 (by omega))
      have R2 := Lib.hid (Pa.out.other R2.out hg43 (by omega))
      have Pb := Lib.hid (Pa.out.other Pb.out hg43 (by omega))
      have HB := Lib.hid (Pa.out.belowKept HB.out hg43 (by omega) (by omega))
      have z44 := hg43.size
      have Pa := Lib.hid (Row.mk ho42 Pa.out.top (by have := Pa.out.le; omega))
      clear ho42 hg43 
      have V0_0 := V0.out.cell0
      have V0_1 := V0.out.cell1
      have V0_l := V0.out.lt
      have V2_0 := V2.out.cell0
      have V2_1 := V2.out.cell1
      have V2_l := V2.out.lt
      go_wp2_with fail
      refine (mark_any _ _ _ _ _ _ (1 + (n3 : Int)) Pb.out.own (by omega) (by omega) (by omega)).mono ?_
      rintro e x15 ⟨rfl, ho45, hg46⟩
      clear V0_0 V0_1 V0_l V2_0 V2_1 V2_l
      have V0 := Lib.hid (Pb.out.boxKept V0.out hg46 (by omega))
      have V2 := Lib.hid (Pb.out.boxKept V2.out hg46 (by omega))
      have I0 := Lib.hid (Pb.out.intsKept I0.out hg46 (by omega) (by omega))
      have Rx := Lib.hid (Pb.out.other Rx.out hg46 (by omega))
      have Ra := Lib.hid (Pb.out.other Ra.out hg46 (by omega))
      have Rb := Lib.hid (Pb.out.other Rb.out hg46 (by omega))
      have R2 := Lib.hid (Pb.out.other R2.out hg46 (by omega))
      have Pa := Lib.hid (Pb.out.other Pa.out hg46 (by omega))
      have HB := Lib.hid (Pb.out.belowKept HB.out hg46 (by omega) (by omega))
      have z47 := hg46.size
      have Pb := Lib.hid (Row.mk ho45 Pb.out.top (by have := Pb.out.le; omega))
      clear ho45 hg46 
      have V0_0 := V0.out.cell0
      have V0_1 := V0.out.cell1
      have V0_l := V0.out.lt
      have V2_0 := V2.out.cell0
      have V2_1 := V2.out.cell1
      have V2_l := V2.out.lt
      go_wp2_with fail
      refine (held_b _ _ _ _ _ 1 Pa.out.ints (by omega) (by omega) (by omega)).mono ?_
      rintro e x16 ⟨rfl, hb48⟩
      clear V0_0 V0_1 V0_l V2_0 V2_1 V2_l
      have V0 := Lib.hid (V0.out.below hb48 V0.out.lt)
      have V2 := Lib.hid (V2.out.below hb48 V2.out.lt)
      have I0 := Lib.hid (I0.out.below hb48 (by omega))
      have Rx := Lib.hid (Rx.out.below hb48)
      have Ra := Lib.hid (Ra.out.below hb48)
      have Rb := Lib.hid (Rb.out.below hb48)
      have R2 := Lib.hid (R2.out.below hb48)
      have Pa := Lib.hid (Pa.out.below hb48)
      have Pb := Lib.hid (Pb.out.below hb48)
      have HB := Lib.hid (HB.out.trans (hb48.mono (by omega)))
      have z49 := hb48.size
      clear hb48 
      have V0_0 := V0.out.cell0
      have V0_1 := V0.out.cell1
      have V0_l := V0.out.lt
      have V2_0 := V2.out.cell0
      have V2_1 := V2.out.cell1
      have V2_l := V2.out.lt
      go_wp2_with fail
      refine (held_b _ _ _ _ _ (1 + (n3 : Int)) Pb.out.ints (by omega) (by omega) (by omega)).mono ?_
      rintro e x17 ⟨rfl, hb50⟩
      clear V0_0 V0_1 V0_l V2_0 V2_1 V2_l
      have V0 := Lib.hid (V0.out.below hb50 V0.out.lt)
      have V2 := Lib.hid (V2.out.below hb50 V2.out.lt)
      have I0 := Lib.hid (I0.out.below hb50 (by omega))
      have Rx := Lib.hid (Rx.out.below hb50)
      have Ra := Lib.hid (Ra.out.below hb50)
      have Rb := Lib.hid (Rb.out.below hb50)
      have R2 := Lib.hid (R2.out.below hb50)
      have Pa := Lib.hid (Pa.out.below hb50)
      have Pb := Lib.hid (Pb.out.below hb50)
      have HB := Lib.hid (HB.out.trans (hb50.mono (by omega)))
      have z51 := hb50.size
      clear hb50 
      have V0_0 := V0.out.cell0
      have V0_1 := V0.out.cell1
      have V0_l := V0.out.lt
      have V2_0 := V2.out.cell0
      have V2_1 := V2.out.cell1
      have V2_l := V2.out.lt
      go_wp2_with fail
      refine (x_toB _ _ _ _ _ _ _ I0.out (by omega) (by omega)).mono ?_
      rintro e x18 ⟨Ay, cy, rfl, ho53, hb52⟩
      have hnRy := ho53.1
      clear V0_0 V0_1 V0_l V2_0 V2_1 V2_l
      have V0 := Lib.hid (V0.out.below hb52 V0.out.lt)
      have V2 := Lib.hid (V2.out.below hb52 V2.out.lt)
      have I0 := Lib.hid (I0.out.below hb52 (by omega))
      have Rx := Lib.hid (Rx.out.below hb52)
      have Ra := Lib.hid (Ra.out.below hb52)
      have Rb := Lib.hid (Rb.out.below hb52)
      have R2 := Lib.hid (R2.out.below hb52)
      have Pa := Lib.hid (Pa.out.below hb52)
      have Pb := Lib.hid (Pb.out.below hb52)
      have HB := Lib.hid (HB.out.trans (hb52.mono (by omega)))
      have z54 := hb52.size
      have Ry := Lib.hid (Row.of ho53)
      clear hb52 ho53
      have V0_0 := V0.out.cell0
      have V0_1 := V0.out.cell1
      have V0_l := V0.out.lt
      have V2_0 := V2.out.cell0
      have V2_1 := V2.out.cell1
      have V2_l := V2.out.lt
      go_wp2_with fail
      refine (i_EyL _ _ _ _ _ _ _ _ _ _ Hla Hlb Ry.out.ints (Nat.le_refl _) (by omega) (HT.out.below HB.out)).mono ?_
      rintro e x19 ⟨A4, n4, c4, B4, m4, d4, mid2, rfl, ho56, ho57, ho58, ho59, ho60, hb55⟩
      have hnQa := ho56.1
      have hnQb := ho58.1
      clear V0_0 V0_1 V0_l V2_0 V2_1 V2_l
      have V0 := Lib.hid (V0.out.below hb55 V0.out.lt)
      have V2 := Lib.hid (V2.out.below hb55 V2.out.lt)
      have I0 := Lib.hid (I0.out.below hb55 (by omega))
      have Rx := Lib.hid (Rx.out.below hb55)
      have Ra := Lib.hid (Ra.out.below hb55)
      have Rb := Lib.hid (Rb.out.below hb55)
      have R2 := Lib.hid (R2.out.below hb55)
      have Pa := Lib.hid (Pa.out.below hb55)
      have Pb := Lib.hid (Pb.out.below hb55)
      have Ry := Lib.hid (Ry.out.below hb55)
      have HB := Lib.hid (HB.out.trans (hb55.mono (by omega)))
      have z61 := hb55.size
      have Qa := Lib.hid (Row.mk ho56 ho57 ho60)
      have Qb := Lib.hid (Row.of ho58)
      clear hb55 ho56 ho57 ho58
      have V0_0 := V0.out.cell0
      have V0_1 := V0.out.cell1
      have V0_l := V0.out.lt
      have V2_0 := V2.out.cell0
      have V2_1 := V2.out.cell1
      have V2_l := V2.out.lt
      obtain rfl : n4 = n3 := by omega
      obtain rfl : m4 = m3 := by omega
      go_wp2_with fail
      refine (eqs_b _ _ _ _ _ _ _ _ _ Qa.out.ints Ra.out.ints (by omega)).mono ?_
      rintro e x20 ⟨rfl, hb62⟩
      clear V0_0 V0_1 V0_l V2_0 V2_1 V2_l
      have V0 := Lib.hid (V0.out.below hb62 V0.out.lt)
      have V2 := Lib.hid (V2.out.below hb62 V2.out.lt)
      have I0 := Lib.hid (I0.out.below hb62 (by omega))
      have Rx := Lib.hid (Rx.out.below hb62)
      have Ra := Lib.hid (Ra.out.below hb62)
      have Rb := Lib.hid (Rb.out.below hb62)
      have R2 := Lib.hid (R2.out.below hb62)
      have Pa := Lib.hid (Pa.out.below hb62)
      have Pb := Lib.hid (Pb.out.below hb62)
      have Ry := Lib.hid (Ry.out.below hb62)
      have Qa := Lib.hid (Qa.out.below hb62)
      have Qb := Lib.hid (Qb.out.below hb62)
      have HB := Lib.hid (HB.out.trans (hb62.mono (by omega)))
      have z63 := hb62.size
      clear hb62 
      have V0_0 := V0.out.cell0
      have V0_1 := V0.out.cell1
      have V0_l := V0.out.lt
      have V2_0 := V2.out.cell0
      have V2_1 := V2.out.cell1
      have V2_l := V2.out.lt
      go_wp2_with fail
      refine (eqs_b _ _ _ _ _ _ _ _ _ Qb.out.ints Rb.out.ints (by omega)).mono ?_
      rintro e x21 ⟨rfl, hb64⟩
      clear V0_0 V0_1 V0_l V2_0 V2_1 V2_l
      have V0 := Lib.hid (V0.out.below hb64 V0.out.lt)
      have V2 := Lib.hid (V2.out.below hb64 V2.out.lt)
      have I0 := Lib.hid (I0.out.below hb64 (by omega))
      have Rx := Lib.hid (Rx.out.below hb64)
      have Ra := Lib.hid (Ra.out.below hb64)
      have Rb := Lib.hid (Rb.out.below hb64)
      have R2 := Lib.hid (R2.out.below hb64)
      have Pa := Lib.hid (Pa.out.below hb64)
      have Pb := Lib.hid (Pb.out.below hb64)
      have Ry := Lib.hid (Ry.out.below hb64)
      have Qa := Lib.hid (Qa.out.below hb64)
      have Qb := Lib.hid (Qb.out.below hb64)
      have HB := Lib.hid (HB.out.trans (hb64.mono (by omega)))
      have z65 := hb64.size
      clear hb64 
      have V0_0 := V0.out.cell0
      have V0_1 := V0.out.cell1
      have V0_l := V0.out.lt
      have V2_0 := V2.out.cell0
      have V2_1 := V2.out.cell1
      have V2_l := V2.out.lt
      go_wp2_with fail
      refine (held_b _ _ _ _ _ 1 Pa.out.ints (by omega) (by omega) (by omega)).mono ?_
      rintro e x22 ⟨rfl, hb66⟩
      clear V0_0 V0_1 V0_l V2_0 V2_1 V2_l
      have V0 := Lib.hid (V0.out.below hb66 V0.out.lt)
      have V2 := Lib.hid (V2.out.below hb66 V2.out.lt)
      have I0 := Lib.hid (I0.out.below hb66 (by omega))
      have Rx := Lib.hid (Rx.out.below hb66)
      have Ra := Lib.hid (Ra.out.below hb66)
      have Rb := Lib.hid (Rb.out.below hb66)
      have R2 := Lib.hid (R2.out.below hb66)
      have Pa := Lib.hid (Pa.out.below hb66)
      have Pb := Lib.hid (Pb.out.below hb66)
      have Ry := Lib.hid (Ry.out.below hb66)
      have Qa := Lib.hid (Qa.out.below hb66)
      have Qb := Lib.hid (Qb.out.below hb66)
      have HB := Lib.hid (HB.out.trans (hb66.mono (by omega)))
      have z67 := hb66.size
      clear hb66 
      have V0_0 := V0.out.cell0
      have V0_1 := V0.out.cell1
      have V0_l := V0.out.lt
      have V2_0 := V2.out.cell0
      have V2_1 := V2.out.cell1
      have V2_l := V2.out.lt
      go_wp2_with fail
      refine (held_b _ _ _ _ _ (1 + (n4 : Int)) Pb.out.ints (by omega) (by omega) (by omega)).mono ?_
      rintro e x23 ⟨rfl, hb68⟩
      clear V0_0 V0_1 V0_l V2_0 V2_1 V2_l
      have V0 := Lib.hid (V0.out.below hb68 V0.out.lt)
      have V2 := Lib.hid (V2.out.below hb68 V2.out.lt)
      have I0 := Lib.hid (I0.out.below hb68 (by omega))
      have Rx := Lib.hid (Rx.out.below hb68)
      have Ra := Lib.hid (Ra.out.below hb68)
      have Rb := Lib.hid (Rb.out.below hb68)
      have R2 := Lib.hid (R2.out.below hb68)
      have Pa := Lib.hid (Pa.out.below hb68)
      have Pb := Lib.hid (Pb.out.below hb68)
      have Ry := Lib.hid (Ry.out.below hb68)
      have Qa := Lib.hid (Qa.out.below hb68)
      have Qb := Lib.hid (Qb.out.below hb68)
      have HB := Lib.hid (HB.out.trans (hb68.mono (by omega)))
      have z69 := hb68.size
      clear hb68 
      have V0_0 := V0.out.cell0
      have V0_1 := V0.out.cell1
      have V0_l := V0.out.lt
      have V2_0 := V2.out.cell0
      have V2_1 := V2.out.cell1
      have V2_l := V2.out.lt
      go_wp2_with fail
      go_ret
      exact ⟨rfl, HB.out⟩

abbrev listed : List (String × DataW Unit) := [("math/bits.deBruijn64tab", Rows.laid_math_bits_deBruijn64tab)]
theorem door_met (os : Os) (args : Array Value) : laidMetH Tryd.prog listed ((World.doorLaid Tryd.prog 400 os).forCall (fun _ _ => 0) ⟨#[], args, []⟩).memory :=
  laidMetH_of_parts3 (fuel := 8) (laidMet_of_run' 8 (by kernel_rfl) (by kernel_rfl)) (by kernel_rfl) (by kernel_rfl)
theorem tabOf {W : World} (h : laidMetH Tryd.prog listed W) : Tab W := by
  rw [MakeChecks.laidMetH_plain _ _ _ (by kernel_rfl)] at h
  exact Tab.of (Lib.tabIs_of_head (g := 0) (t := 61) (e := 5) (n := 64) (by kernel_rfl) (by kernel_rfl) (by kernel_rfl) (by kernel_rfl) (by kernel_rfl) (by kernel_rfl) h) (by kernel_rfl)

set_option maxRecDepth 100000 in
theorem lifted (os : Os) (started : os.Started) (H : Type) (enc : TypeId × Value → H) :
    ReturnsInHanded {} Tryd.checked os 4 .any (fun w args => (Rows.fnExactEyesOfSpec.pre enc Tryd.prog Tryd.f4 [] false w args ∧ laidMetH Tryd.prog listed w) ∧ sizedMet enc Tryd.prog Tryd.f4 (OpenSpec.ofChange Rows.fnExactEyesOfSpec) false w args) (Rows.fnExactEyesOfSpec.post enc Tryd.prog Tryd.f4 false true false false) := by
  refine returnsInHanded_of_change_and (C := Tryd.checked) (X := fun w _ => laidMetH Tryd.prog listed w) (fun _ _ _ hh h => h.of_heap hh) own started (by kernel_rfl) Tryd.func4
    (ChangeSpec.witness_shaped (enc := enc) (C := Tryd.checked) (os := os) (X := fun w _ => laidMetH Tryd.prog listed w) false (World.doorLaid Tryd.prog 400 os) #[.agg #[.int .i64 0, .slice none 0 0], .int .i64 0] 8 rfl (World.shaped_of_RefB (by kernel_rfl) (by kernel_rfl)) (by kernel_rfl) (by kernel_rfl) (by kernel_rfl) (door_met os _)) ?_
  intro W base args ds gs before hval0 hW _ _ hL _
  have hval : ∀ (j : Nat) t v, Tryd.f4.params[j]? = some t → args[j]? = some v → Value.okWide Tryd.prog W .any base t v := hval0
  have hW' := hW
  obtain ⟨p, q, hA0, hV, rfl, hfz, hnd⟩ := hW
  have hA : DataW.TrodAll enc Tryd.prog W 0 (fun _ => true) true Tryd.f4.params.toList args.toList ds p := hA0
  rw [Tryd.params4] at hA hval
  obtain ⟨v0, vs0, d0, ds0, p0, q0, hargs, rfl, rfl, h0, r0⟩ := trodAll_cons hA
  obtain ⟨v1, vs1, d1, ds1, p1, q1, rfl, rfl, rfl, h1, r1⟩ := trodAll_cons r0
  obtain ⟨rfl, rfl, rfl⟩ := trodAll_nil r1
  obtain rfl : args = #[v0, v1] := by cases args; simp_all
  obtain ⟨rfl, rfl⟩ := trodVars_none hV
  have k0 := h0
  have lt0 : ∀ x ∈ p0, x.block < W.heap.size := by obtain ⟨m, hm⟩ := k0; exact DataW.trod_lt m _ _ _ hm
  obtain ⟨a0, A0, n0, c0, cs0, rfl, w0, m0⟩ := open_board (hval 0 24 v0 rfl rfl) h0
  obtain ⟨a1, rfl, rfl, rfl, w1⟩ := open_int Tryd.underlying3 (hval 1 3 v1 rfl rfl) h1
  clear hA0 hval0
  refine (walk a0 A0 n0 c0 cs0 a1 W (tabOf hL) w0 m0 w1).mono fun e W' ⟨he, bel⟩ => ?_
  subst he
  exact ⟨_, rfl, _, _, _, [], _, [], hW', trodAll_mk1 (shut_bool Tryd.underlying4 _), (trodAll_cons_mk (Below.trod laidOut (by kernel_rfl) (of_decide_eq_true (by kernel_rfl)) k0 bel lt0) (trodAll_cons_mk (shut_int Tryd.underlying3 w1) trodAll_mk0)), rfl, bel.frame _, fun h => by cases h⟩

theorem over : Rows.fnExactEyesOfRow.holds Tryd.pinned (OpenSpec.ofChange Rows.fnExactEyesOfSpec) :=
  OpenClaim.holds_of_wide 4 Tryd.f4 rfl rfl rfl rfl rfl rfl rfl ⟨rfl, rfl, rfl, rfl, rfl⟩ rfl rfl rfl rfl rfl (by kernel_rfl) Tryd.func4 (by kernel_rfl)
    (of_decide_eq_true (by kernel_rfl)) (by unfold Func.isWrapper; first | (rw [if_pos (by decide +kernel)]; kernel_rfl) | (rw [if_neg (by decide +kernel)]; exact ⟨rfl, rfl⟩))
    (fun os started H enc _ => lifted os started H enc)

theorem proved : Rows.FnExactEyesOfCardSaid :=
  Claim7.holds_tied_plain_at .later [] [.data] true Rows.fnExactEyesOfCard.stood.harness false
    over (fun _ h => by cases h) (by kernel_rfl) (fun _ h => by cases h) fnExactEyesOf_row_tie rfl ⟨rfl, rfl⟩ (by kernel_rfl) rfl
    (fun f fn hf hfn => by
      obtain rfl : f = 4 := Option.some.inj ((show Tryd.prog.funcNamed "loop.example/goboard/laws.FnExactEyesOf" = some 4 by kernel_rfl).symm.trans hf) |>.symm
      obtain rfl : fn = Tryd.f4 := (Option.some.inj (Tryd.func4.symm.trans hfn)).symm
      exact ⟨by kernel_rfl, fun j t ht => by
        have hm : t ∈ Tryd.f4.params.toList := by simpa using Array.mem_of_getElem? ht
        have hall : (Tryd.f4.params.toList.all fun u => !Tryd.prog.wantsStandIn u) = true := by kernel_rfl
        exact (show Tryd.prog.wantsStandIn t = false by simpa using List.all_eq_true.1 hall t hm)⟩)
    (by kernel_rfl)
end Go.Proofs.YtfpibldknjcehaaDoor.fnExactEyesOf
