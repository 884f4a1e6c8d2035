/-
  The law of the exact TerritoryMargin: for every board, every list and every three ints the program answers as its model does, and leaves its arguments as they were. No condition.
-/
import Derived.Test.YtkjlcokbgpnejaaExTmKit
import Derived.Test.YtkjlcokbgpnejaaRows
import Derived.Test.YtkjlcokbgpnejaaRows2
import Derived.Deep.RegionWith
import Derived.Deep.DeepCutAuto
import Derived.WalkKit
import Derived.ProofKit
import Derived.OpenShut
import Derived.ShutString
import Derived.ChangeOld
import Derived.Below
namespace Go.Proofs.Ytkjlcokbgpnejaa.fnExactTerritoryMargin
set_option maxRecDepth 100000
open Go.ChangeShapes Go.WideShapes Go.ChangeAt Go.RowKit
open Go.ChangeMaps (open_string shut_string)
set_option linter.unusedVariables false

theorem own : ownKnob Try.prog.godebug = none := by kernel_rfl
theorem laidOut : laidOutB Try.prog = true := by kernel_rfl


theorem eqs_b (w : World) (B B' : Nat) (A A' : Option Addr) (n c c' : Nat) (xs : List Int) (h : Ints w B A n xs) (h' : Ints w B' A' n xs) (hn : n ≤ 1000000000) :
    Calls Try.prog 22 #[.slice A n c, .slice A' n c'] w fun e w' => e = .returned (.bool true) ∧ Below w.heap.size w w' := by
  refine (eqs_t w B B' A A' n c c' xs h h' hn).mono ?_
  rintro e w' ⟨k, rfl, rfl⟩
  exact ⟨rfl, ⟨rfl, rfl, rfl, Nat.le_refl _, fun _ _ => rfl⟩⟩
theorem held_b (w : World) (B : Nat) (A : Option Addr) (n c : Nat) (k : Int) (h : Ints w B A n (marks k n)) (hn : n ≤ 1000000000) (k1 : 0 ≤ k) (k2 : k ≤ 1000000000) :
    Calls Try.prog 24 #[.slice A n c, .int .i64 k] w fun e w' => e = .returned (.int .i64 (k + n)) ∧ Below w.heap.size w w' := by
  refine (held_t w B A n c k h hn k1 k2).mono ?_
  rintro e w' ⟨rfl, rfl⟩
  exact ⟨rfl, Below.refl _ _⟩

set_option maxRecDepth 100000 in
set_option maxHeartbeats 8000000 in
theorem walk (a0 : Int) (A0 : Option Addr) (n0 c0 : Nat) (cs0 : List Int) (A1 : Option Addr) (n1 c1 : Nat) (cs1 : List Int) (a2 : Int) (a3 : Int) (a4 : Int) (w : World) (w0 : Ints w w.heap.size A0 n0 cs0) (m0 : n0 ≤ 9223372036854775807) (w1 : Ints w w.heap.size A1 n1 cs1) (m1 : n1 ≤ 9223372036854775807) (w2 : (Lit.int .i64 a2).wf = true) (w3 : (Lit.int .i64 a3).wf = true) (w4 : (Lit.int .i64 a4).wf = true) :
    Calls Try.prog 7 #[.agg #[.int .i64 a0, .slice A0 n0 c0], .slice A1 n1 c1, .int .i64 a2, .int .i64 a3, .int .i64 a4] w fun e w' => e = .returned (.bool true) ∧ Below w.heap.size w w' := by
  by_cases hsd : 1048576 < n1
  · have Hb := Lib.hid ((Below.refl w.heap.size w).alloc (Nat.le_refl _) (.cells #[.int .i64 a0, .slice A0 n0 c0] 24))
    go_enter Try.func7, Try.ntmps7
    go_wp2_with fail
    go_ret
    exact ⟨rfl, Hb.out⟩
  · by_cases hsz : 1048576 < n0
    · go_enter Try.func7, Try.ntmps7
      go_wp2_with fail
      refine (x_szB_no _ _ _ _ _ hsz m0).mono ?_
      rintro e x ⟨rfl, hb⟩
      have Hb := Lib.hid (((Below.refl w.heap.size w).alloc (Nat.le_refl _) (.cells #[.int .i64 a0, .slice A0 n0 c0] 24)).trans (hb.mono (by simp)))
      clear hb
      go_wp2_with fail
      go_ret
      exact ⟨rfl, Hb.out⟩
    · have HB := Lib.hid (Below.refl w.heap.size w)
      have I0 := Lib.hid w0
      have I1 := Lib.hid w1
      obtain ⟨vr, ok, hR⟩ := TmIs.make a0 n0 cs0 cs1 a2 a3 a4 w0.1
      have HR := Lib.hid hR
      clear w0 w1 hR
      go_enter Try.func7, Try.ntmps7
      go_wp2_with fail
      obtain ⟨x1, hy2, hb1, z3, z4⟩ := new_box w (.cells #[.int .i64 a0, .slice A0 n0 c0] 24)
      have V0 : Hid (Bx 24 x1 w.heap.size a0 (.slice A0 n0 c0)) := Lib.hid (by rw [hy2]; exact Bx.new _ _ _ _)
      rw [← hy2]
      clear hy2
      have I0 := Lib.hid (I0.out.below hb1 (by omega))
      have I1 := Lib.hid (I1.out.below hb1 (by omega))
      have HB := Lib.hid (HB.out.trans (hb1.mono (by omega)))
      have z5 := hb1.size
      clear hb1
      have V0_0 := V0.out.cell0
      have V0_1 := V0.out.cell1
      have V0_l := V0.out.lt
      go_wp2_with fail
      refine (x_szB _ _ _ _ _ (by omega)).mono ?_
      rintro e x2 ⟨rfl, hb6⟩
      clear V0_0 V0_1 V0_l
      have V0 := Lib.hid (V0.out.below hb6 V0.out.lt)
      have I0 := Lib.hid (I0.out.below hb6 (by omega))
      have I1 := Lib.hid (I1.out.below hb6 (by omega))
      have HB := Lib.hid (HB.out.trans (hb6.mono (by omega)))
      have z7 := hb6.size
      clear hb6 
      have V0_0 := V0.out.cell0
      have V0_1 := V0.out.cell1
      have V0_l := V0.out.lt
      go_wp2_with fail
      refine (x_toB _ _ _ _ _ _ _ I0.out (by omega) (by omega)).mono ?_
      rintro e x3 ⟨Ax, cx, rfl, ho9, hb8⟩
      have hnRx := ho9.1
      clear V0_0 V0_1 V0_l
      have V0 := Lib.hid (V0.out.below hb8 V0.out.lt)
      have I0 := Lib.hid (I0.out.below hb8 (by omega))
      have I1 := Lib.hid (I1.out.below hb8 (by omega))
      have HB := Lib.hid (HB.out.trans (hb8.mono (by omega)))
      have z10 := hb8.size
      have Rx := Lib.hid (Row.of ho9)
      clear hb8 ho9
      have V0_0 := V0.out.cell0
      have V0_1 := V0.out.cell1
      have V0_l := V0.out.lt
      go_wp2_with fail
      refine (x_copy _ _ _ _ _ _ I1.out (by omega) (by omega)).mono ?_
      rintro e x4 ⟨Al, cl, rfl, ho12, hb11⟩
      have hnRl := ho12.1
      clear V0_0 V0_1 V0_l
      have V0 := Lib.hid (V0.out.below hb11 V0.out.lt)
      have I0 := Lib.hid (I0.out.below hb11 (by omega))
      have I1 := Lib.hid (I1.out.below hb11 (by omega))
      have Rx := Lib.hid (Rx.out.below hb11)
      have HB := Lib.hid (HB.out.trans (hb11.mono (by omega)))
      have z13 := hb11.size
      have Rl := Lib.hid (Row.of ho12)
      clear hb11 ho12
      have V0_0 := V0.out.cell0
      have V0_1 := V0.out.cell1
      have V0_l := V0.out.lt
      go_wp2_with fail
      refine (s_Tm _ _ _ _ _ _ _ _ _ _ cs0 cs1 a2 a3 a4 Rx.out.ints Rl.out.ints (Nat.le_refl _) (Nat.le_refl _) (by omega) (by omega) vr ok HR).mono ?_
      rintro e x5 ⟨rfl, hb14⟩
      clear V0_0 V0_1 V0_l
      have V0 := Lib.hid (V0.out.below hb14 V0.out.lt)
      have I0 := Lib.hid (I0.out.below hb14 (by omega))
      have I1 := Lib.hid (I1.out.below hb14 (by omega))
      have Rx := Lib.hid (Rx.out.below hb14)
      have Rl := Lib.hid (Rl.out.below hb14)
      have HB := Lib.hid (HB.out.trans (hb14.mono (by omega)))
      have z15 := hb14.size
      clear hb14 
      have V0_0 := V0.out.cell0
      have V0_1 := V0.out.cell1
      have V0_l := V0.out.lt
      go_wp2_with fail
      refine (x_toB _ _ _ _ _ _ _ I0.out (by omega) (by omega)).mono ?_
      rintro e x6 ⟨A2, c2, rfl, ho17, hb16⟩
      have hnR2 := ho17.1
      clear V0_0 V0_1 V0_l
      have V0 := Lib.hid (V0.out.below hb16 V0.out.lt)
      have I0 := Lib.hid (I0.out.below hb16 (by omega))
      have I1 := Lib.hid (I1.out.below hb16 (by omega))
      have Rx := Lib.hid (Rx.out.below hb16)
      have Rl := Lib.hid (Rl.out.below hb16)
      have HB := Lib.hid (HB.out.trans (hb16.mono (by omega)))
      have z18 := hb16.size
      have R2 := Lib.hid (Row.of ho17)
      clear hb16 ho17
      have V0_0 := V0.out.cell0
      have V0_1 := V0.out.cell1
      have V0_l := V0.out.lt
      go_wp2_with fail
      obtain ⟨x7, hy20, hb19, z21, z22⟩ := new_box x6 (.cells #[.int .i64 a0, .slice A2 n0 c2] 28)
      have V2 : Hid (Bx 28 x7 x6.heap.size a0 (.slice A2 n0 c2)) := Lib.hid (by rw [hy20]; exact Bx.new _ _ _ _)
      rw [← hy20]
      clear hy20
      clear V0_0 V0_1 V0_l
      have V0 := Lib.hid (V0.out.below hb19 V0.out.lt)
      have I0 := Lib.hid (I0.out.below hb19 (by omega))
      have I1 := Lib.hid (I1.out.below hb19 (by omega))
      have Rx := Lib.hid (Rx.out.below hb19)
      have Rl := Lib.hid (Rl.out.below hb19)
      have R2 := Lib.hid (R2.out.below hb19)
      have HB := Lib.hid (HB.out.trans (hb19.mono (by omega)))
      have z23 := hb19.size
      clear hb19
      have V0_0 := V0.out.cell0
      have V0_1 := V0.out.cell1
      have V0_l := V0.out.lt
      have V2_0 := V2.out.cell0
      have V2_1 := V2.out.cell1
      have V2_l := V2.out.lt
      go_wp2_with fail
      refine (x_copy _ _ _ _ _ _ I1.out (by omega) (by omega)).mono ?_
      rintro e x8 ⟨A5, c5, rfl, ho25, hb24⟩
      have hnR5 := ho25.1
      clear V0_0 V0_1 V0_l V2_0 V2_1 V2_l
      have V0 := Lib.hid (V0.out.below hb24 V0.out.lt)
      have V2 := Lib.hid (V2.out.below hb24 V2.out.lt)
      have I0 := Lib.hid (I0.out.below hb24 (by omega))
      have I1 := Lib.hid (I1.out.below hb24 (by omega))
      have Rx := Lib.hid (Rx.out.below hb24)
      have Rl := Lib.hid (Rl.out.below hb24)
      have R2 := Lib.hid (R2.out.below hb24)
      have HB := Lib.hid (HB.out.trans (hb24.mono (by omega)))
      have z26 := hb24.size
      have R5 := Lib.hid (Row.of ho25)
      clear hb24 ho25
      have V0_0 := V0.out.cell0
      have V0_1 := V0.out.cell1
      have V0_l := V0.out.lt
      have V2_0 := V2.out.cell0
      have V2_1 := V2.out.cell1
      have V2_l := V2.out.lt
      go_wp2_with fail
      refine (i_Tm _ _ _ _ _ _ _ _ _ _ cs0 cs1 a2 a3 a4 R2.out.ints R5.out.ints (Nat.le_refl _) (Nat.le_refl _) (by omega) (by omega) vr ok HR).mono ?_
      rintro e x9 ⟨rfl, hb27⟩
      clear V0_0 V0_1 V0_l V2_0 V2_1 V2_l
      have V0 := Lib.hid (V0.out.below hb27 V0.out.lt)
      have V2 := Lib.hid (V2.out.below hb27 V2.out.lt)
      have I0 := Lib.hid (I0.out.below hb27 (by omega))
      have I1 := Lib.hid (I1.out.below hb27 (by omega))
      have Rx := Lib.hid (Rx.out.below hb27)
      have Rl := Lib.hid (Rl.out.below hb27)
      have R2 := Lib.hid (R2.out.below hb27)
      have R5 := Lib.hid (R5.out.below hb27)
      have HB := Lib.hid (HB.out.trans (hb27.mono (by omega)))
      have z28 := hb27.size
      clear hb27 
      have V0_0 := V0.out.cell0
      have V0_1 := V0.out.cell1
      have V0_l := V0.out.lt
      have V2_0 := V2.out.cell0
      have V2_1 := V2.out.cell1
      have V2_l := V2.out.lt
      go_upto_region 13 with (fail)
      go_cut [62] (fun v wx => v = .bool false ∧ Below x9.heap.size x9 wx)
      case first =>
        go_region_with (first | (go_at_call 13; refine (x_toB _ _ w.heap.size _ _ _ cs0 (by exact I0.out) ?_ (by omega)).mono ?_; (show w.heap.size ≤ x9.heap.size; omega); rintro e y ⟨A9, c9, rfl, ho9, hb9⟩; have hb9w : Below x9.heap.size x9 y := ⟨hb9.os, hb9.tape, hb9.output, hb9.size, hb9.block⟩; have hz9 := hb9w.size; have u0 := (V2.out.below hb9w V2.out.lt).cell0; have u1 := (V2.out.below hb9w V2.out.lt).cell1; have Ho9 := Lib.hid ho9; have Hb9 := Lib.hid hb9w; clear ho9 hb9 hb9w) | (go_at_call 16; refine (b_eq _ _ x9.heap.size y.heap.size _ _ _ _ _ cs0 (by exact R2.out.ints.below Hb9.out (Nat.le_refl _)) (by exact Ho9.out.ints) (by exact Hb9.out.size) (by exact Nat.le_refl _) (by omega)).mono ?_; rintro e y2 ⟨rfl, hb10⟩; have Hb10 : Hid (Below x9.heap.size x9 y2) := Lib.hid (Hb9.out.trans ((show Below y.heap.size y y2 from ⟨hb10.os, hb10.tape, hb10.output, hb10.size, hb10.block⟩).mono Hb9.out.size)); clear hb10))
        all_goals go_wp2_with fail
        all_goals go_meet
        all_goals exact ⟨rfl, Hb10.out⟩
      case rest =>
        obtain ⟨rfl, hb29⟩ := hcut
        clear V0_0 V0_1 V0_l V2_0 V2_1 V2_l
        have V0 := Lib.hid (V0.out.below hb29 V0.out.lt)
        have V2 := Lib.hid (V2.out.below hb29 V2.out.lt)
        have I0 := Lib.hid (I0.out.below hb29 (by omega))
        have I1 := Lib.hid (I1.out.below hb29 (by omega))
        have Rx := Lib.hid (Rx.out.below hb29)
        have Rl := Lib.hid (Rl.out.below hb29)
        have R2 := Lib.hid (R2.out.below hb29)
        have R5 := Lib.hid (R5.out.below hb29)
        have HB := Lib.hid (HB.out.trans (hb29.mono (by omega)))
        have z30 := hb29.size
        clear hb29
        have V0_0 := V0.out.cell0
        have V0_1 := V0.out.cell1
        have V0_l := V0.out.lt
        have V2_0 := V2.out.cell0
        have V2_1 := V2.out.cell1
        have V2_l := V2.out.lt
        go_wp2_with fail
        refine (x_copy _ _ _ _ _ _ I1.out (by omega) (by omega)).mono ?_
        rintro e x11 ⟨A6, c6, rfl, ho32, hb31⟩
        have hnR6 := ho32.1
        clear V0_0 V0_1 V0_l V2_0 V2_1 V2_l
        have V0 := Lib.hid (V0.out.below hb31 V0.out.lt)
        have V2 := Lib.hid (V2.out.below hb31 V2.out.lt)
        have I0 := Lib.hid (I0.out.below hb31 (by omega))
        have I1 := Lib.hid (I1.out.below hb31 (by omega))
        have Rx := Lib.hid (Rx.out.below hb31)
        have Rl := Lib.hid (Rl.out.below hb31)
        have R2 := Lib.hid (R2.out.below hb31)
        have R5 := Lib.hid (R5.out.below hb31)
        have HB := Lib.hid (HB.out.trans (hb31.mono (by omega)))
        have z33 := hb31.size
        have R6 := Lib.hid (Row.of ho32)
        clear hb31 ho32
        have V0_0 := V0.out.cell0
        have V0_1 := V0.out.cell1
        have V0_l := V0.out.lt
        have V2_0 := V2.out.cell0
        have V2_1 := V2.out.cell1
        have V2_l := V2.out.lt
        go_wp2_with fail
        refine (eqs_b _ _ _ _ _ _ _ _ _ R5.out.ints R6.out.ints (by omega)).mono ?_
        rintro e x12 ⟨rfl, hb34⟩
        clear V0_0 V0_1 V0_l V2_0 V2_1 V2_l
        have V0 := Lib.hid (V0.out.below hb34 V0.out.lt)
        have V2 := Lib.hid (V2.out.below hb34 V2.out.lt)
        have I0 := Lib.hid (I0.out.below hb34 (by omega))
        have I1 := Lib.hid (I1.out.below hb34 (by omega))
        have Rx := Lib.hid (Rx.out.below hb34)
        have Rl := Lib.hid (Rl.out.below hb34)
        have R2 := Lib.hid (R2.out.below hb34)
        have R5 := Lib.hid (R5.out.below hb34)
        have R6 := Lib.hid (R6.out.below hb34)
        have HB := Lib.hid (HB.out.trans (hb34.mono (by omega)))
        have z35 := hb34.size
        clear hb34 
        have V0_0 := V0.out.cell0
        have V0_1 := V0.out.cell1
        have V0_l := V0.out.lt
        have V2_0 := V2.out.cell0
        have V2_1 := V2.out.cell1
        have V2_l := V2.out.lt
        go_wp2_with fail
        go_ret
        exact ⟨rfl, HB.out⟩

set_option maxRecDepth 100000 in
theorem lifted (os : Os) (started : os.Started) (H : Type) (enc : TypeId × Value → H) :
    ReturnsInHanded {} Try.checked os 7 .any (Rows.fnExactTerritoryMarginSpec.pre6 enc Try.prog Try.f7 Rows.fnExactTerritoryMarginRow.domain false) (Rows.fnExactTerritoryMarginSpec.post enc Try.prog Try.f7 false true false false) := by
  refine returnsInHanded_of_change (C := Try.checked) own started (by kernel_rfl) Try.func7
    (ChangeSpec.witness6 (enc := enc) (C := Try.checked) false ⟨#[], #[.agg #[.int .i64 0, .slice none 0 0], .slice none 0 0, .int .i64 0, .int .i64 0, .int .i64 0], []⟩ 8 (by kernel_rfl) (by kernel_rfl) (by kernel_rfl) (by kernel_rfl)) ?_
  intro W base args ds gs before hval0 hW hcnd _
  have hval : ∀ (j : Nat) t v, Try.f7.params[j]? = some t → args[j]? = some v → Value.okWide Try.prog W .any base t v := hval0
  have hW' := hW
  obtain ⟨p, q, hA0, hV, rfl, hfz, hnd⟩ := hW
  have hA : DataW.TrodAll enc Try.prog W 0 (fun _ => true) true Try.f7.params.toList args.toList ds p := hA0
  rw [Try.params7] at hA hval
  obtain ⟨v0, vs0, d0, ds0, p0, q0, hargs, rfl, rfl, h0, r0⟩ := trodAll_cons hA
  obtain ⟨v1, vs1, d1, ds1, p1, q1, rfl, rfl, rfl, h1, r1⟩ := trodAll_cons r0
  obtain ⟨v2, vs2, d2, ds2, p2, q2, rfl, rfl, rfl, h2, r2⟩ := trodAll_cons r1
  obtain ⟨v3, vs3, d3, ds3, p3, q3, rfl, rfl, rfl, h3, r3⟩ := trodAll_cons r2
  obtain ⟨v4, vs4, d4, ds4, p4, q4, rfl, rfl, rfl, h4, r4⟩ := trodAll_cons r3
  obtain ⟨rfl, rfl, rfl⟩ := trodAll_nil r4
  obtain rfl : args = #[v0, v1, v2, v3, v4] := by cases args; simp_all
  obtain ⟨rfl, rfl⟩ := trodVars_none hV
  have k0 := h0
  have lt0 : ∀ x ∈ p0, x.block < W.heap.size := by obtain ⟨m, hm⟩ := k0; exact DataW.trod_lt m _ _ _ hm
  obtain ⟨a0, A0, n0, c0, cs0, rfl, w0, m0⟩ := open_board (hval 0 24 v0 rfl rfl) h0
  have k1 := h1
  have lt1 : ∀ x ∈ p1, x.block < W.heap.size := by obtain ⟨m, hm⟩ := k1; exact DataW.trod_lt m _ _ _ hm
  obtain ⟨A1, n1, c1, cs1, rfl, w1, m1⟩ := open_list (hval 1 22 v1 rfl rfl) h1
  obtain ⟨a2, rfl, rfl, rfl, w2⟩ := open_int Try.underlying3 (hval 2 3 v2 rfl rfl) h2
  obtain ⟨a3, rfl, rfl, rfl, w3⟩ := open_int Try.underlying3 (hval 3 3 v3 rfl rfl) h3
  obtain ⟨a4, rfl, rfl, rfl, w4⟩ := open_int Try.underlying3 (hval 4 3 v4 rfl rfl) h4
  clear hA0 hval0
  refine (walk a0 A0 n0 c0 cs0 A1 n1 c1 cs1 a2 a3 a4 W w0 m0 w1 m1 w2 w3 w4).mono fun e W' ⟨he, bel⟩ => ?_
  subst he
  exact ⟨_, rfl, _, _, _, [], _, [], hW', trodAll_mk1 (shut_bool Try.underlying4 _), (trodAll_cons_mk (Below.trod laidOut (by kernel_rfl) (of_decide_eq_true (by kernel_rfl)) k0 bel lt0) (trodAll_cons_mk (Below.trod laidOut (by kernel_rfl) (of_decide_eq_true (by kernel_rfl)) k1 bel lt1) (trodAll_cons_mk (shut_int Try.underlying3 w2) (trodAll_cons_mk (shut_int Try.underlying3 w3) (trodAll_cons_mk (shut_int Try.underlying3 w4) trodAll_mk0))))), rfl, bel.frame _, fun h => by cases h⟩

theorem over : Rows.fnExactTerritoryMarginRow.holds Try.pinned (OpenSpec.ofChange Rows.fnExactTerritoryMarginSpec) :=
  OpenClaim.holds_of_wide 7 Try.f7 rfl rfl rfl rfl rfl rfl rfl ⟨rfl, rfl, rfl, rfl, rfl⟩ rfl rfl rfl rfl rfl (by kernel_rfl) Try.func7 (by kernel_rfl)
    (of_decide_eq_true (by kernel_rfl)) (by unfold Func.isWrapper; first | (rw [if_pos (by decide +kernel)]; kernel_rfl) | (rw [if_neg (by decide +kernel)]; exact ⟨rfl, rfl⟩))
    (fun os started H enc _ => lifted os started H enc)

theorem proved : Rows.FnExactTerritoryMarginSaid := over
end Go.Proofs.Ytkjlcokbgpnejaa.fnExactTerritoryMargin
