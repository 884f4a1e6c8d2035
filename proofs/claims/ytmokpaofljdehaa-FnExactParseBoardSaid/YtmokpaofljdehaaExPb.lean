/-
  The law of the exact ParseBoard: for every text the program answers as its model does, and its answer owns its memory. No condition.
-/
import Derived.Test.YtmokpaofljdehaaRows
import Derived.Test.YtmokpaofljdehaaRows2
import Derived.Test.YtmokpaofljdehaaOpenB
import Derived.Test.YtmokpaofljdehaaPbX
import Derived.WalkKit
import Derived.ProofKit
import Derived.OpenShut
import Derived.ShutString
import Derived.ChangeOld
import Derived.Below
namespace Go.Proofs.Ytmokpaofljdehaa.fnExactParseBoard
set_option maxRecDepth 100000
open Go.ChangeShapes Go.WideShapes Go.ChangeAt Go.RowKit
open Go.ChangeMaps (open_string shut_string)
set_option linter.unusedVariables false

theorem own : ownKnob Try.prog.godebug = none := by kernel_rfl
theorem laidOut : laidOutB Try.prog = true := by kernel_rfl


set_option maxRecDepth 100000 in
set_option maxHeartbeats 4000000 in
theorem walk (a0 : ByteArray) (w : World) (w0 : a0.size ≤ 9223372036854775807) :
    Calls Try.prog 7 #[.string a0] w fun e w' => e = .returned (.bool true) ∧ Below w.heap.size w w' := by
  by_cases hsz : 1048576 < a0.size
  · go_enter Try.func7, Try.ntmps7
    go_wp2_with fail
    go_ret
    exact ⟨rfl, Below.refl _ _⟩
  · obtain ⟨ok, s, cs, hP⟩ := Fm.Prs.ex a0
    have HP := Lib.hid hP
    have hlen := hP.len
    have hS : a0.size ≤ 1048576 := by omega
    clear hP
    have HB := Lib.hid (Below.refl w.heap.size w)
    go_enter Try.func7, Try.ntmps7
    go_wp2_with fail
    refine (s_ParseX _ _ _ _ _ HP.out hS).mono ?_
    rintro e x1 ⟨A1, n1, c1, rfl, ho2, hb1⟩
    have hnR1 := ho2.1
    have HB := Lib.hid (HB.out.trans (hb1.mono (by omega)))
    have z3 := hb1.size
    have R1 := Lib.hid (Row.of ho2)
    clear hb1 ho2
    go_wp2_with fail
    obtain ⟨x2, hy5, hb4, z6, z7⟩ := new_box x1 (.cells #[.int .i64 s, .slice A1 n1 c1] 29)
    have V1 : Hid (Bx 29 x2 x1.heap.size s (.slice A1 n1 c1)) := Lib.hid (by rw [hy5]; exact Bx.new _ _ _ _)
    rw [← hy5]
    clear hy5
    have R1 := Lib.hid (R1.out.below hb4)
    have HB := Lib.hid (HB.out.trans (hb4.mono (by omega)))
    have z8 := hb4.size
    clear hb4
    have V1_0 := V1.out.cell0
    have V1_1 := V1.out.cell1
    have V1_l := V1.out.lt
    go_wp2_with fail
    refine (i_ParseX _ _ _ _ _ HP.out hS).mono ?_
    rintro e x3 ⟨A3, n3, c3, rfl, ho10, hb9⟩
    have hnR3 := ho10.1
    clear V1_0 V1_1 V1_l
    have V1 := Lib.hid (V1.out.below hb9 V1.out.lt)
    have R1 := Lib.hid (R1.out.below hb9)
    have HB := Lib.hid (HB.out.trans (hb9.mono (by omega)))
    have z11 := hb9.size
    have R3 := Lib.hid (Row.of ho10)
    clear hb9 ho10
    have V1_0 := V1.out.cell0
    have V1_1 := V1.out.cell1
    have V1_l := V1.out.lt
    obtain rfl : n3 = n1 := by omega
    go_wp2_with fail
    obtain ⟨x4, hy13, hb12, z14, z15⟩ := new_box x3 (.cells #[.int .i64 s, .slice A3 n3 c3] 29)
    have V3 : Hid (Bx 29 x4 x3.heap.size s (.slice A3 n3 c3)) := Lib.hid (by rw [hy13]; exact Bx.new _ _ _ _)
    rw [← hy13]
    clear hy13
    clear V1_0 V1_1 V1_l
    have V1 := Lib.hid (V1.out.below hb12 V1.out.lt)
    have R1 := Lib.hid (R1.out.below hb12)
    have R3 := Lib.hid (R3.out.below hb12)
    have HB := Lib.hid (HB.out.trans (hb12.mono (by omega)))
    have z16 := hb12.size
    clear hb12
    have V1_0 := V1.out.cell0
    have V1_1 := V1.out.cell1
    have V1_l := V1.out.lt
    have V3_0 := V3.out.cell0
    have V3_1 := V3.out.cell1
    have V3_l := V3.out.lt
    go_wp2_with fail
    refine (b_eq _ _ _ _ _ _ _ _ _ _ R3.out.ints R1.out.ints (Nat.le_refl _) (Nat.le_refl _) (by omega)).mono ?_
    rintro e x5 ⟨rfl, hb17⟩
    clear V1_0 V1_1 V1_l V3_0 V3_1 V3_l
    have V1 := Lib.hid (V1.out.below hb17 V1.out.lt)
    have V3 := Lib.hid (V3.out.below hb17 V3.out.lt)
    have R1 := Lib.hid (R1.out.below hb17)
    have R3 := Lib.hid (R3.out.below hb17)
    have HB := Lib.hid (HB.out.trans (hb17.mono (by omega)))
    have z18 := hb17.size
    clear hb17 
    have V1_0 := V1.out.cell0
    have V1_1 := V1.out.cell1
    have V1_l := V1.out.lt
    have V3_0 := V3.out.cell0
    have V3_1 := V3.out.cell1
    have V3_l := V3.out.lt
    go_wp2_with fail
    refine (b_mark _ _ _ _ _ _ _ 1 R3.out.own (by omega) (by omega) (by omega)).mono ?_
    rintro e x6 ⟨rfl, ho19, hg20⟩
    clear V1_0 V1_1 V1_l V3_0 V3_1 V3_l
    have V1 := Lib.hid (R3.out.boxKept V1.out hg20 (by omega))
    have V3 := Lib.hid (R3.out.boxKept V3.out hg20 (by omega))
    have R1 := Lib.hid (R3.out.other R1.out hg20 (by omega))
    have HB := Lib.hid (R3.out.belowKept HB.out hg20 (by omega) (by omega))
    have z21 := hg20.size
    have R3 := Lib.hid (Row.mk ho19 R3.out.top (by have := R3.out.le; omega))
    clear ho19 hg20 
    have V1_0 := V1.out.cell0
    have V1_1 := V1.out.cell1
    have V1_l := V1.out.lt
    have V3_0 := V3.out.cell0
    have V3_1 := V3.out.cell1
    have V3_l := V3.out.lt
    go_wp2_with fail
    refine (b_held _ _ _ _ _ _ 1 R3.out.ints (Nat.le_refl _) (by omega) (by omega) (by omega)).mono ?_
    rintro e x7 ⟨rfl, hb22⟩
    clear V1_0 V1_1 V1_l V3_0 V3_1 V3_l
    have V1 := Lib.hid (V1.out.below hb22 V1.out.lt)
    have V3 := Lib.hid (V3.out.below hb22 V3.out.lt)
    have R1 := Lib.hid (R1.out.below hb22)
    have R3 := Lib.hid (R3.out.below hb22)
    have HB := Lib.hid (HB.out.trans (hb22.mono (by omega)))
    have z23 := hb22.size
    clear hb22 
    have V1_0 := V1.out.cell0
    have V1_1 := V1.out.cell1
    have V1_l := V1.out.lt
    have V3_0 := V3.out.cell0
    have V3_1 := V3.out.cell1
    have V3_l := V3.out.lt
    go_wp2_with fail
    refine (i_ParseX _ _ _ _ _ HP.out hS).mono ?_
    rintro e x8 ⟨A4, n4, c4, rfl, ho25, hb24⟩
    have hnR4 := ho25.1
    clear V1_0 V1_1 V1_l V3_0 V3_1 V3_l
    have V1 := Lib.hid (V1.out.below hb24 V1.out.lt)
    have V3 := Lib.hid (V3.out.below hb24 V3.out.lt)
    have R1 := Lib.hid (R1.out.below hb24)
    have R3 := Lib.hid (R3.out.below hb24)
    have HB := Lib.hid (HB.out.trans (hb24.mono (by omega)))
    have z26 := hb24.size
    have R4 := Lib.hid (Row.of ho25)
    clear hb24 ho25
    have V1_0 := V1.out.cell0
    have V1_1 := V1.out.cell1
    have V1_l := V1.out.lt
    have V3_0 := V3.out.cell0
    have V3_1 := V3.out.cell1
    have V3_l := V3.out.lt
    obtain rfl : n4 = n3 := by omega
    go_wp2_with fail
    obtain ⟨x9, hy28, hb27, z29, z30⟩ := new_box x8 (.cells #[.int .i64 s, .slice A4 n4 c4] 29)
    have V4 : Hid (Bx 29 x9 x8.heap.size s (.slice A4 n4 c4)) := Lib.hid (by rw [hy28]; exact Bx.new _ _ _ _)
    rw [← hy28]
    clear hy28
    clear V1_0 V1_1 V1_l V3_0 V3_1 V3_l
    have V1 := Lib.hid (V1.out.below hb27 V1.out.lt)
    have V3 := Lib.hid (V3.out.below hb27 V3.out.lt)
    have R1 := Lib.hid (R1.out.below hb27)
    have R3 := Lib.hid (R3.out.below hb27)
    have R4 := Lib.hid (R4.out.below hb27)
    have HB := Lib.hid (HB.out.trans (hb27.mono (by omega)))
    have z31 := hb27.size
    clear hb27
    have V1_0 := V1.out.cell0
    have V1_1 := V1.out.cell1
    have V1_l := V1.out.lt
    have V3_0 := V3.out.cell0
    have V3_1 := V3.out.cell1
    have V3_l := V3.out.lt
    have V4_0 := V4.out.cell0
    have V4_1 := V4.out.cell1
    have V4_l := V4.out.lt
    go_wp2_with fail
    refine (b_eq _ _ _ _ _ _ _ _ _ _ R4.out.ints R1.out.ints (Nat.le_refl _) (Nat.le_refl _) (by omega)).mono ?_
    rintro e x10 ⟨rfl, hb32⟩
    clear V1_0 V1_1 V1_l V3_0 V3_1 V3_l V4_0 V4_1 V4_l
    have V1 := Lib.hid (V1.out.below hb32 V1.out.lt)
    have V3 := Lib.hid (V3.out.below hb32 V3.out.lt)
    have V4 := Lib.hid (V4.out.below hb32 V4.out.lt)
    have R1 := Lib.hid (R1.out.below hb32)
    have R3 := Lib.hid (R3.out.below hb32)
    have R4 := Lib.hid (R4.out.below hb32)
    have HB := Lib.hid (HB.out.trans (hb32.mono (by omega)))
    have z33 := hb32.size
    clear hb32 
    have V1_0 := V1.out.cell0
    have V1_1 := V1.out.cell1
    have V1_l := V1.out.lt
    have V3_0 := V3.out.cell0
    have V3_1 := V3.out.cell1
    have V3_l := V3.out.lt
    have V4_0 := V4.out.cell0
    have V4_1 := V4.out.cell1
    have V4_l := V4.out.lt
    go_wp2_with fail
    refine (b_held _ _ _ _ _ _ 1 R3.out.ints (Nat.le_refl _) (by omega) (by omega) (by omega)).mono ?_
    rintro e x11 ⟨rfl, hb34⟩
    clear V1_0 V1_1 V1_l V3_0 V3_1 V3_l V4_0 V4_1 V4_l
    have V1 := Lib.hid (V1.out.below hb34 V1.out.lt)
    have V3 := Lib.hid (V3.out.below hb34 V3.out.lt)
    have V4 := Lib.hid (V4.out.below hb34 V4.out.lt)
    have R1 := Lib.hid (R1.out.below hb34)
    have R3 := Lib.hid (R3.out.below hb34)
    have R4 := Lib.hid (R4.out.below hb34)
    have HB := Lib.hid (HB.out.trans (hb34.mono (by omega)))
    have z35 := hb34.size
    clear hb34 
    have V1_0 := V1.out.cell0
    have V1_1 := V1.out.cell1
    have V1_l := V1.out.lt
    have V3_0 := V3.out.cell0
    have V3_1 := V3.out.cell1
    have V3_l := V3.out.lt
    have V4_0 := V4.out.cell0
    have V4_1 := V4.out.cell1
    have V4_l := V4.out.lt
    go_wp2_with fail
    go_ret
    exact ⟨rfl, HB.out⟩

set_option maxRecDepth 100000 in
theorem lifted (os : Os) (started : os.Started) (H : Type) (enc : TypeId × Value → H) :
    ReturnsInHanded {} Try.checked os 7 .any (Rows.fnExactParseBoardSpec.pre6 enc Try.prog Try.f7 Rows.fnExactParseBoardRow.domain false) (Rows.fnExactParseBoardSpec.post enc Try.prog Try.f7 false true false false) := by
  refine returnsInHanded_of_change (C := Try.checked) own started (by kernel_rfl) Try.func7
    (ChangeSpec.witness6 (enc := enc) (C := Try.checked) false ⟨#[], #[.string ⟨#[]⟩], []⟩ 8 (by kernel_rfl) (by kernel_rfl) (by kernel_rfl) (by kernel_rfl)) ?_
  intro W base args ds gs before hval0 hW hcnd _
  have hval : ∀ (j : Nat) t v, Try.f7.params[j]? = some t → args[j]? = some v → Value.okWide Try.prog W .any base t v := hval0
  have hW' := hW
  obtain ⟨p, q, hA0, hV, rfl, hfz, hnd⟩ := hW
  have hA : DataW.TrodAll enc Try.prog W 0 (fun _ => true) true Try.f7.params.toList args.toList ds p := hA0
  rw [Try.params7] at hA hval
  obtain ⟨v0, vs0, d0, ds0, p0, q0, hargs, rfl, rfl, h0, r0⟩ := trodAll_cons hA
  obtain ⟨rfl, rfl, rfl⟩ := trodAll_nil r0
  obtain rfl : args = #[v0] := by cases args; simp_all
  obtain ⟨rfl, rfl⟩ := trodVars_none hV
  obtain ⟨a0, rfl, rfl, rfl, w0⟩ := open_string Try.underlying9 (hval 0 9 v0 rfl rfl) h0
  clear hA0 hval0
  refine (walk a0 W w0).mono fun e W' ⟨he, bel⟩ => ?_
  subst he
  exact ⟨_, rfl, _, _, _, [], _, [], hW', trodAll_mk1 (shut_bool Try.underlying4 _), (trodAll_cons_mk (shut_string Try.underlying9 w0) trodAll_mk0), rfl, bel.frame _, fun h => by cases h⟩

theorem over : Rows.fnExactParseBoardRow.holds Try.pinned (OpenSpec.ofChange Rows.fnExactParseBoardSpec) :=
  OpenClaim.holds_of_wide 7 Try.f7 rfl rfl rfl rfl rfl rfl rfl ⟨rfl, rfl, rfl, rfl, rfl⟩ rfl rfl rfl rfl rfl (by kernel_rfl) Try.func7 (by kernel_rfl)
    (of_decide_eq_true (by kernel_rfl)) (by unfold Func.isWrapper; first | (rw [if_pos (by decide +kernel)]; kernel_rfl) | (rw [if_neg (by decide +kernel)]; exact ⟨rfl, rfl⟩))
    (fun os started H enc _ => lifted os started H enc)

theorem proved : Rows.FnExactParseBoardSaid := over
end Go.Proofs.Ytmokpaofljdehaa.fnExactParseBoard
