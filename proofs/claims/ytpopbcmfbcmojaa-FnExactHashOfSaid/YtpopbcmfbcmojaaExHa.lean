/-
  The law of the exact HashOf: for every board the program answers as its model does. No condition.
-/
import Derived.Test.YtpopbcmfbcmojaaRows
import Derived.Test.YtpopbcmfbcmojaaRows2
import Derived.Test.YtpopbcmfbcmojaaOpenB
import Derived.Deep.RegionWith
import Derived.Deep.DeepCutAuto
import Derived.Test.YtpopbcmfbcmojaaHaI
import Derived.WalkKit
import Derived.ProofKit
import Derived.OpenShut
import Derived.ShutString
import Derived.ChangeOld
import Derived.Below
namespace Go.Proofs.Ytpopbcmfbcmojaa.fnExactHashOf
set_option maxRecDepth 100000
open Go.ChangeShapes Go.WideShapes Go.ChangeAt Go.RowKit
open Go.ChangeMaps (open_string shut_string)
set_option linter.unusedVariables false

theorem own : ownKnob Try.prog.godebug = none := by kernel_rfl
theorem laidOut : laidOutB Try.prog = true := by kernel_rfl


set_option maxRecDepth 100000 in
set_option maxHeartbeats 2000000 in
theorem walk (a0 : Int) (A0 : Option Addr) (n0 c0 : Nat) (cs0 : List Int) (w : World) (w0 : Ints w w.heap.size A0 n0 cs0) (m0 : n0 ≤ 9223372036854775807) :
    Calls Try.prog 8 #[.agg #[.int .i64 a0, .slice A0 n0 c0]] w fun e w' => e = .returned (.bool true) ∧ Below w.heap.size w w' := by
  by_cases hsz : 1048576 < n0
  · go_enter Try.func8, Try.ntmps8
    go_wp2_with fail
    refine (x_szB_no _ _ _ _ _ hsz m0).mono ?_
    rintro e x ⟨rfl, hb⟩
    have Hb := Lib.hid (((Below.refl w.heap.size w).alloc (Nat.le_refl _) (.cells #[.int .i64 a0, .slice A0 n0 c0] 34)).trans (hb.mono (by simp)))
    clear hb
    go_wp2_with fail
    go_ret
    exact ⟨rfl, Hb.out⟩
  · have HB := Lib.hid (Below.refl w.heap.size w)
    have I0 := Lib.hid w0
    clear w0
    go_enter Try.func8, Try.ntmps8
    go_wp2_with fail
    obtain ⟨x1, hy2, hb1, z3, z4⟩ := new_box w (.cells #[.int .i64 a0, .slice A0 n0 c0] 34)
    have V0 : Hid (Bx 34 x1 w.heap.size a0 (.slice A0 n0 c0)) := Lib.hid (by rw [hy2]; exact Bx.new _ _ _ _)
    rw [← hy2]
    clear hy2
    have I0 := Lib.hid (I0.out.below hb1 (by omega))
    have HB := Lib.hid (HB.out.trans (hb1.mono (by omega)))
    have z5 := hb1.size
    clear hb1
    have V0_0 := V0.out.cell0
    have V0_1 := V0.out.cell1
    have V0_l := V0.out.lt
    go_wp2_with fail
    refine (x_szB _ _ _ _ _ (by omega)).mono ?_
    rintro e x2 ⟨rfl, hb6⟩
    clear V0_0 V0_1 V0_l
    have V0 := Lib.hid (V0.out.below hb6 V0.out.lt)
    have I0 := Lib.hid (I0.out.below hb6 (by omega))
    have HB := Lib.hid (HB.out.trans (hb6.mono (by omega)))
    have z7 := hb6.size
    clear hb6 
    have V0_0 := V0.out.cell0
    have V0_1 := V0.out.cell1
    have V0_l := V0.out.lt
    go_wp2_with fail
    refine (x_toB _ _ _ _ _ _ _ I0.out (by omega) (by omega)).mono ?_
    rintro e x3 ⟨A1, c1, rfl, ho9, hb8⟩
    have hnR1 := ho9.1
    clear V0_0 V0_1 V0_l
    have V0 := Lib.hid (V0.out.below hb8 V0.out.lt)
    have I0 := Lib.hid (I0.out.below hb8 (by omega))
    have HB := Lib.hid (HB.out.trans (hb8.mono (by omega)))
    have z10 := hb8.size
    have R1 := Lib.hid (Row.of ho9)
    clear hb8 ho9
    have V0_0 := V0.out.cell0
    have V0_1 := V0.out.cell1
    have V0_l := V0.out.lt
    go_wp2_with fail
    refine (s_hash _ _ _ _ _ _ _ R1.out.ints (Nat.le_refl _) (by omega)).mono ?_
    rintro e x4 ⟨rfl, hb11⟩
    clear V0_0 V0_1 V0_l
    have V0 := Lib.hid (V0.out.below hb11 V0.out.lt)
    have I0 := Lib.hid (I0.out.below hb11 (by omega))
    have R1 := Lib.hid (R1.out.below hb11)
    have HB := Lib.hid (HB.out.trans (hb11.mono (by omega)))
    have z12 := hb11.size
    clear hb11 
    have V0_0 := V0.out.cell0
    have V0_1 := V0.out.cell1
    have V0_l := V0.out.lt
    go_wp2_with fail
    refine (x_toB _ _ _ _ _ _ _ I0.out (by omega) (by omega)).mono ?_
    rintro e x5 ⟨A2, c2, rfl, ho14, hb13⟩
    have hnR2 := ho14.1
    clear V0_0 V0_1 V0_l
    have V0 := Lib.hid (V0.out.below hb13 V0.out.lt)
    have I0 := Lib.hid (I0.out.below hb13 (by omega))
    have R1 := Lib.hid (R1.out.below hb13)
    have HB := Lib.hid (HB.out.trans (hb13.mono (by omega)))
    have z15 := hb13.size
    have R2 := Lib.hid (Row.of ho14)
    clear hb13 ho14
    have V0_0 := V0.out.cell0
    have V0_1 := V0.out.cell1
    have V0_l := V0.out.lt
    go_wp2_with fail
    obtain ⟨x6, hy17, hb16, z18, z19⟩ := new_box x5 (.cells #[.int .i64 a0, .slice A2 n0 c2] 25)
    have V1 : Hid (Bx 25 x6 x5.heap.size a0 (.slice A2 n0 c2)) := Lib.hid (by rw [hy17]; exact Bx.new _ _ _ _)
    rw [← hy17]
    clear hy17
    clear V0_0 V0_1 V0_l
    have V0 := Lib.hid (V0.out.below hb16 V0.out.lt)
    have I0 := Lib.hid (I0.out.below hb16 (by omega))
    have R1 := Lib.hid (R1.out.below hb16)
    have R2 := Lib.hid (R2.out.below hb16)
    have HB := Lib.hid (HB.out.trans (hb16.mono (by omega)))
    have z20 := hb16.size
    clear hb16
    have V0_0 := V0.out.cell0
    have V0_1 := V0.out.cell1
    have V0_l := V0.out.lt
    have V1_0 := V1.out.cell0
    have V1_1 := V1.out.cell1
    have V1_l := V1.out.lt
    go_wp2_with fail
    refine (i_hash _ _ _ _ _ _ _ R2.out.ints (Nat.le_refl _) (by omega)).mono ?_
    rintro e x7 ⟨rfl, hb21⟩
    clear V0_0 V0_1 V0_l V1_0 V1_1 V1_l
    have V0 := Lib.hid (V0.out.below hb21 V0.out.lt)
    have V1 := Lib.hid (V1.out.below hb21 V1.out.lt)
    have I0 := Lib.hid (I0.out.below hb21 (by omega))
    have R1 := Lib.hid (R1.out.below hb21)
    have R2 := Lib.hid (R2.out.below hb21)
    have HB := Lib.hid (HB.out.trans (hb21.mono (by omega)))
    have z22 := hb21.size
    clear hb21 
    have V0_0 := V0.out.cell0
    have V0_1 := V0.out.cell1
    have V0_l := V0.out.lt
    have V1_0 := V1.out.cell0
    have V1_1 := V1.out.cell1
    have V1_l := V1.out.lt
    go_upto_region 10 with (fail)
    go_cut [26] (fun v wx => v = .bool false ∧ Below x7.heap.size x7 wx)
    case first =>
      go_region_with (first | (go_at_call 19; refine (x_toB _ _ w.heap.size _ _ _ cs0 (by exact I0.out) ?_ (by omega)).mono ?_; (show w.heap.size ≤ x7.heap.size; omega); rintro e y ⟨A9, c9, rfl, ho9, hb9⟩; have hb9w : Below x7.heap.size x7 y := ⟨hb9.os, hb9.tape, hb9.output, hb9.size, hb9.block⟩; have hz9 := hb9w.size; have u0 := (V1.out.below hb9w V1.out.lt).cell0; have u1 := (V1.out.below hb9w V1.out.lt).cell1; have Ho9 := Lib.hid ho9; have Hb9 := Lib.hid hb9w; clear ho9 hb9 hb9w) | (go_at_call 20; refine (b_eq _ _ x7.heap.size y.heap.size _ _ _ _ _ cs0 (by exact R2.out.ints.below Hb9.out (Nat.le_refl _)) (by exact Ho9.out.ints) (by exact Hb9.out.size) (by exact Nat.le_refl _) (by omega)).mono ?_; rintro e y2 ⟨rfl, hb10⟩; have Hb10 : Hid (Below x7.heap.size x7 y2) := Lib.hid (Hb9.out.trans ((show Below y.heap.size y y2 from ⟨hb10.os, hb10.tape, hb10.output, hb10.size, hb10.block⟩).mono Hb9.out.size)); clear hb10))
      all_goals go_wp2_with fail
      all_goals go_meet
      all_goals exact ⟨rfl, Hb10.out⟩
    case rest =>
      obtain ⟨rfl, hb23⟩ := hcut
      clear V0_0 V0_1 V0_l V1_0 V1_1 V1_l
      have V0 := Lib.hid (V0.out.below hb23 V0.out.lt)
      have V1 := Lib.hid (V1.out.below hb23 V1.out.lt)
      have I0 := Lib.hid (I0.out.below hb23 (by omega))
      have R1 := Lib.hid (R1.out.below hb23)
      have R2 := Lib.hid (R2.out.below hb23)
      have HB := Lib.hid (HB.out.trans (hb23.mono (by omega)))
      have z24 := hb23.size
      clear hb23
      have V0_0 := V0.out.cell0
      have V0_1 := V0.out.cell1
      have V0_l := V0.out.lt
      have V1_0 := V1.out.cell0
      have V1_1 := V1.out.cell1
      have V1_l := V1.out.lt
      go_wp2_with fail
      go_ret
      exact ⟨rfl, HB.out⟩

set_option maxRecDepth 100000 in
theorem lifted (os : Os) (started : os.Started) (H : Type) (enc : TypeId × Value → H) :
    ReturnsInHanded {} Try.checked os 8 .any (Rows.fnExactHashOfSpec.pre6 enc Try.prog Try.f8 Rows.fnExactHashOfRow.domain false) (Rows.fnExactHashOfSpec.post enc Try.prog Try.f8 false true false false) := by
  refine returnsInHanded_of_change (C := Try.checked) own started (by kernel_rfl) Try.func8
    (ChangeSpec.witness6 (enc := enc) (C := Try.checked) false ⟨#[], #[.agg #[.int .i64 0, .slice none 0 0]], []⟩ 8 (by kernel_rfl) (by kernel_rfl) (by kernel_rfl) (by kernel_rfl)) ?_
  intro W base args ds gs before hval0 hW hcnd _
  have hval : ∀ (j : Nat) t v, Try.f8.params[j]? = some t → args[j]? = some v → Value.okWide Try.prog W .any base t v := hval0
  have hW' := hW
  obtain ⟨p, q, hA0, hV, rfl, hfz, hnd⟩ := hW
  have hA : DataW.TrodAll enc Try.prog W 0 (fun _ => true) true Try.f8.params.toList args.toList ds p := hA0
  rw [Try.params8] at hA hval
  obtain ⟨v0, vs0, d0, ds0, p0, q0, hargs, rfl, rfl, h0, r0⟩ := trodAll_cons hA
  obtain ⟨rfl, rfl, rfl⟩ := trodAll_nil r0
  obtain rfl : args = #[v0] := by cases args; simp_all
  obtain ⟨rfl, rfl⟩ := trodVars_none hV
  have k0 := h0
  have lt0 : ∀ x ∈ p0, x.block < W.heap.size := by obtain ⟨m, hm⟩ := k0; exact DataW.trod_lt m _ _ _ hm
  obtain ⟨a0, A0, n0, c0, cs0, rfl, w0, m0⟩ := open_board (hval 0 34 v0 rfl rfl) h0
  clear hA0 hval0
  refine (walk a0 A0 n0 c0 cs0 W w0 m0).mono fun e W' ⟨he, bel⟩ => ?_
  subst he
  exact ⟨_, rfl, _, _, _, [], _, [], hW', trodAll_mk1 (shut_bool Try.underlying4 _), (trodAll_cons_mk (Below.trod laidOut (by kernel_rfl) (of_decide_eq_true (by kernel_rfl)) k0 bel lt0) trodAll_mk0), rfl, bel.frame _, fun h => by cases h⟩

theorem over : Rows.fnExactHashOfRow.holds Try.pinned (OpenSpec.ofChange Rows.fnExactHashOfSpec) :=
  OpenClaim.holds_of_wide 8 Try.f8 rfl rfl rfl rfl rfl rfl rfl ⟨rfl, rfl, rfl, rfl, rfl⟩ rfl rfl rfl rfl rfl (by kernel_rfl) Try.func8 (by kernel_rfl)
    (of_decide_eq_true (by kernel_rfl)) (by unfold Func.isWrapper; first | (rw [if_pos (by decide +kernel)]; kernel_rfl) | (rw [if_neg (by decide +kernel)]; exact ⟨rfl, rfl⟩))
    (fun os started H enc _ => lifted os started H enc)

theorem proved : Rows.FnExactHashOfSaid := over
end Go.Proofs.Ytpopbcmfbcmojaa.fnExactHashOf
