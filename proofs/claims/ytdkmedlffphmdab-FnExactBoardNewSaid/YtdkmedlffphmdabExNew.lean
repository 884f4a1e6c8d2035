/-
  The law of the exact BoardNew: for every int the program answers as its model does, and its answer owns its memory. No condition.
-/
import Derived.Test.YtdkmedlffphmdabRows
import Derived.Test.YtdkmedlffphmdabRows2
import Derived.Test.YtdkmedlffphmdabBoardI
import Derived.WalkKit
import Derived.ProofKit
import Derived.OpenShut
import Derived.ShutString
import Derived.ChangeOld
import Derived.Below
namespace Go.Proofs.Ytdkmedlffphmdab.fnExactBoardNew
open Go.ChangeShapes Go.WideShapes Go.ChangeAt Go.RowKit
open Go.ChangeMaps (open_string shut_string)
set_option linter.unusedVariables false

theorem own : ownKnob Try.prog.godebug = none := by kernel_rfl
theorem laidOut : laidOutB Try.prog = true := by kernel_rfl


theorem newCs_len (s : Int) : (newCs s).length ≤ 49 := by
  unfold newCs
  split
  · rename_i h
    obtain ⟨s1, s2⟩ := (Pt.okS_iff s).1 h
    have := Pt.sq_bd s s1 s2
    rw [List.length_replicate]; omega
  · exact Nat.zero_le _

set_option maxHeartbeats 2000000 in
theorem walk (a0 : Int) (w : World) (w0 : (Lit.int .i64 a0).wf = true) :
    Calls Try.prog 11 #[.int .i64 a0] w fun e w' => e = .returned (.bool true) ∧ Below w.heap.size w w' := by
  have HB := Lib.hid (Below.refl w.heap.size w)
  have hlen : (newCs a0).length ≤ 49 := newCs_len a0
  go_enter Try.func11, Try.ntmps11
  go_wp2_with fail
  refine (s_new _ _).mono ?_
  rintro e x1 ⟨A1, n, c1, rfl, ho2, hb1⟩
  have hnR1 := ho2.1
  have HB := Lib.hid (HB.out.trans (hb1.mono (by omega)))
  have z3 := hb1.size
  have R1 := Lib.hid (Row.of ho2)
  clear hb1 ho2
  go_wp2_with fail
  obtain ⟨x2, hy5, hb4, z6, z7⟩ := new_box x1 (.cells #[.int .i64 (newS a0), .slice A1 n c1] 25)
  have V1 : Hid (Bx 25 x2 x1.heap.size (newS a0) (.slice A1 n c1)) := Lib.hid (by rw [hy5]; exact Bx.new _ _ _ _)
  rw [← hy5]
  clear hy5
  have R1 := Lib.hid (R1.out.below hb4)
  have HB := Lib.hid (HB.out.trans (hb4.mono (by omega)))
  have z8 := hb4.size
  clear hb4
  have V1_0 := V1.out.cell0
  have V1_1 := V1.out.cell1
  have V1_l := V1.out.lt
  go_wp2_with fail
  refine (i_new _ _).mono ?_
  rintro e x3 ⟨A2, n2, c2, rfl, ho10, hb9⟩
  have hnR2 := ho10.1
  clear V1_0 V1_1 V1_l
  have V1 := Lib.hid (V1.out.below hb9 V1.out.lt)
  have R1 := Lib.hid (R1.out.below hb9)
  have HB := Lib.hid (HB.out.trans (hb9.mono (by omega)))
  have z11 := hb9.size
  have R2 := Lib.hid (Row.of ho10)
  clear hb9 ho10
  have V1_0 := V1.out.cell0
  have V1_1 := V1.out.cell1
  have V1_l := V1.out.lt
  obtain rfl : n2 = n := by omega
  go_wp2_with fail
  obtain ⟨x4, hy13, hb12, z14, z15⟩ := new_box x3 (.cells #[.int .i64 (newS a0), .slice A2 n2 c2] 25)
  have V2 : Hid (Bx 25 x4 x3.heap.size (newS a0) (.slice A2 n2 c2)) := Lib.hid (by rw [hy13]; exact Bx.new _ _ _ _)
  rw [← hy13]
  clear hy13
  clear V1_0 V1_1 V1_l
  have V1 := Lib.hid (V1.out.below hb12 V1.out.lt)
  have R1 := Lib.hid (R1.out.below hb12)
  have R2 := Lib.hid (R2.out.below hb12)
  have HB := Lib.hid (HB.out.trans (hb12.mono (by omega)))
  have z16 := hb12.size
  clear hb12
  have V1_0 := V1.out.cell0
  have V1_1 := V1.out.cell1
  have V1_l := V1.out.lt
  have V2_0 := V2.out.cell0
  have V2_1 := V2.out.cell1
  have V2_l := V2.out.lt
  go_wp2_with fail
  refine (b_eq _ _ _ _ _ _ _ _ _ _ R2.out.ints R1.out.ints (Nat.le_refl _) (Nat.le_refl _) (by omega)).mono ?_
  rintro e x5 ⟨rfl, hb17⟩
  clear V1_0 V1_1 V1_l V2_0 V2_1 V2_l
  have V1 := Lib.hid (V1.out.below hb17 V1.out.lt)
  have V2 := Lib.hid (V2.out.below hb17 V2.out.lt)
  have R1 := Lib.hid (R1.out.below hb17)
  have R2 := Lib.hid (R2.out.below hb17)
  have HB := Lib.hid (HB.out.trans (hb17.mono (by omega)))
  have z18 := hb17.size
  clear hb17 
  have V1_0 := V1.out.cell0
  have V1_1 := V1.out.cell1
  have V1_l := V1.out.lt
  have V2_0 := V2.out.cell0
  have V2_1 := V2.out.cell1
  have V2_l := V2.out.lt
  go_wp2_with fail
  refine (b_mark _ _ _ _ _ _ _ 1 R2.out.own (by omega) (by omega) (by omega)).mono ?_
  rintro e x6 ⟨rfl, ho19, hg20⟩
  clear V1_0 V1_1 V1_l V2_0 V2_1 V2_l
  have V1 := Lib.hid (R2.out.boxKept V1.out hg20 (by omega))
  have V2 := Lib.hid (R2.out.boxKept V2.out hg20 (by omega))
  have R1 := Lib.hid (R2.out.other R1.out hg20 (by omega))
  have HB := Lib.hid (R2.out.belowKept HB.out hg20 (by omega) (by omega))
  have z21 := hg20.size
  have R2 := Lib.hid (Row.mk ho19 R2.out.top (by have := R2.out.le; omega))
  clear ho19 hg20 
  have V1_0 := V1.out.cell0
  have V1_1 := V1.out.cell1
  have V1_l := V1.out.lt
  have V2_0 := V2.out.cell0
  have V2_1 := V2.out.cell1
  have V2_l := V2.out.lt
  go_wp2_with fail
  refine (b_held _ _ _ _ _ _ 1 R2.out.ints (Nat.le_refl _) (by omega) (by omega) (by omega)).mono ?_
  rintro e x7 ⟨rfl, hb22⟩
  clear V1_0 V1_1 V1_l V2_0 V2_1 V2_l
  have V1 := Lib.hid (V1.out.below hb22 V1.out.lt)
  have V2 := Lib.hid (V2.out.below hb22 V2.out.lt)
  have R1 := Lib.hid (R1.out.below hb22)
  have R2 := Lib.hid (R2.out.below hb22)
  have HB := Lib.hid (HB.out.trans (hb22.mono (by omega)))
  have z23 := hb22.size
  clear hb22 
  have V1_0 := V1.out.cell0
  have V1_1 := V1.out.cell1
  have V1_l := V1.out.lt
  have V2_0 := V2.out.cell0
  have V2_1 := V2.out.cell1
  have V2_l := V2.out.lt
  go_wp2_with fail
  refine (i_new _ _).mono ?_
  rintro e x8 ⟨A3, n3, c3, rfl, ho25, hb24⟩
  have hnR3 := ho25.1
  clear V1_0 V1_1 V1_l V2_0 V2_1 V2_l
  have V1 := Lib.hid (V1.out.below hb24 V1.out.lt)
  have V2 := Lib.hid (V2.out.below hb24 V2.out.lt)
  have R1 := Lib.hid (R1.out.below hb24)
  have R2 := Lib.hid (R2.out.below hb24)
  have HB := Lib.hid (HB.out.trans (hb24.mono (by omega)))
  have z26 := hb24.size
  have R3 := Lib.hid (Row.of ho25)
  clear hb24 ho25
  have V1_0 := V1.out.cell0
  have V1_1 := V1.out.cell1
  have V1_l := V1.out.lt
  have V2_0 := V2.out.cell0
  have V2_1 := V2.out.cell1
  have V2_l := V2.out.lt
  obtain rfl : n3 = n2 := by omega
  go_wp2_with fail
  obtain ⟨x9, hy28, hb27, z29, z30⟩ := new_box x8 (.cells #[.int .i64 (newS a0), .slice A3 n3 c3] 25)
  have V3 : Hid (Bx 25 x9 x8.heap.size (newS a0) (.slice A3 n3 c3)) := Lib.hid (by rw [hy28]; exact Bx.new _ _ _ _)
  rw [← hy28]
  clear hy28
  clear V1_0 V1_1 V1_l V2_0 V2_1 V2_l
  have V1 := Lib.hid (V1.out.below hb27 V1.out.lt)
  have V2 := Lib.hid (V2.out.below hb27 V2.out.lt)
  have R1 := Lib.hid (R1.out.below hb27)
  have R2 := Lib.hid (R2.out.below hb27)
  have R3 := Lib.hid (R3.out.below hb27)
  have HB := Lib.hid (HB.out.trans (hb27.mono (by omega)))
  have z31 := hb27.size
  clear hb27
  have V1_0 := V1.out.cell0
  have V1_1 := V1.out.cell1
  have V1_l := V1.out.lt
  have V2_0 := V2.out.cell0
  have V2_1 := V2.out.cell1
  have V2_l := V2.out.lt
  have V3_0 := V3.out.cell0
  have V3_1 := V3.out.cell1
  have V3_l := V3.out.lt
  go_wp2_with fail
  refine (b_eq _ _ _ _ _ _ _ _ _ _ R3.out.ints R1.out.ints (Nat.le_refl _) (Nat.le_refl _) (by omega)).mono ?_
  rintro e x10 ⟨rfl, hb32⟩
  clear V1_0 V1_1 V1_l V2_0 V2_1 V2_l V3_0 V3_1 V3_l
  have V1 := Lib.hid (V1.out.below hb32 V1.out.lt)
  have V2 := Lib.hid (V2.out.below hb32 V2.out.lt)
  have V3 := Lib.hid (V3.out.below hb32 V3.out.lt)
  have R1 := Lib.hid (R1.out.below hb32)
  have R2 := Lib.hid (R2.out.below hb32)
  have R3 := Lib.hid (R3.out.below hb32)
  have HB := Lib.hid (HB.out.trans (hb32.mono (by omega)))
  have z33 := hb32.size
  clear hb32 
  have V1_0 := V1.out.cell0
  have V1_1 := V1.out.cell1
  have V1_l := V1.out.lt
  have V2_0 := V2.out.cell0
  have V2_1 := V2.out.cell1
  have V2_l := V2.out.lt
  have V3_0 := V3.out.cell0
  have V3_1 := V3.out.cell1
  have V3_l := V3.out.lt
  go_wp2_with fail
  refine (b_held _ _ _ _ _ _ 1 R2.out.ints (Nat.le_refl _) (by omega) (by omega) (by omega)).mono ?_
  rintro e x11 ⟨rfl, hb34⟩
  clear V1_0 V1_1 V1_l V2_0 V2_1 V2_l V3_0 V3_1 V3_l
  have V1 := Lib.hid (V1.out.below hb34 V1.out.lt)
  have V2 := Lib.hid (V2.out.below hb34 V2.out.lt)
  have V3 := Lib.hid (V3.out.below hb34 V3.out.lt)
  have R1 := Lib.hid (R1.out.below hb34)
  have R2 := Lib.hid (R2.out.below hb34)
  have R3 := Lib.hid (R3.out.below hb34)
  have HB := Lib.hid (HB.out.trans (hb34.mono (by omega)))
  have z35 := hb34.size
  clear hb34 
  have V1_0 := V1.out.cell0
  have V1_1 := V1.out.cell1
  have V1_l := V1.out.lt
  have V2_0 := V2.out.cell0
  have V2_1 := V2.out.cell1
  have V2_l := V2.out.lt
  have V3_0 := V3.out.cell0
  have V3_1 := V3.out.cell1
  have V3_l := V3.out.lt
  go_wp2_with fail
  go_ret
  exact ⟨rfl, HB.out⟩

set_option maxRecDepth 100000 in
theorem lifted (os : Os) (started : os.Started) (H : Type) (enc : TypeId × Value → H) :
    ReturnsInHanded {} Try.checked os 11 .any (Rows.fnExactBoardNewSpec.pre6 enc Try.prog Try.f11 Rows.fnExactBoardNewRow.domain false) (Rows.fnExactBoardNewSpec.post enc Try.prog Try.f11 false true false false) := by
  refine returnsInHanded_of_change (C := Try.checked) own started (by kernel_rfl) Try.func11
    (ChangeSpec.witness6 (enc := enc) (C := Try.checked) false ⟨#[], #[.int .i64 0], []⟩ 8 (by kernel_rfl) (by kernel_rfl) (by kernel_rfl) (by kernel_rfl)) ?_
  intro W base args ds gs before hval0 hW hcnd _
  have hval : ∀ (j : Nat) t v, Try.f11.params[j]? = some t → args[j]? = some v → Value.okWide Try.prog W .any base t v := hval0
  have hW' := hW
  obtain ⟨p, q, hA0, hV, rfl, hfz, hnd⟩ := hW
  have hA : DataW.TrodAll enc Try.prog W 0 (fun _ => true) true Try.f11.params.toList args.toList ds p := hA0
  rw [Try.params11] at hA hval
  obtain ⟨v0, vs0, d0, ds0, p0, q0, hargs, rfl, rfl, h0, r0⟩ := trodAll_cons hA
  obtain ⟨rfl, rfl, rfl⟩ := trodAll_nil r0
  obtain rfl : args = #[v0] := by cases args; simp_all
  obtain ⟨rfl, rfl⟩ := trodVars_none hV
  obtain ⟨a0, rfl, rfl, rfl, w0⟩ := open_int Try.underlying3 (hval 0 3 v0 rfl rfl) h0
  clear hA0 hval0
  refine (walk a0 W w0).mono fun e W' ⟨he, bel⟩ => ?_
  subst he
  exact ⟨_, rfl, _, _, _, [], _, [], hW', trodAll_mk1 (shut_bool Try.underlying4 _), (trodAll_cons_mk (shut_int Try.underlying3 w0) trodAll_mk0), rfl, bel.frame _, fun h => by cases h⟩

theorem over : Rows.fnExactBoardNewRow.holds Try.pinned (OpenSpec.ofChange Rows.fnExactBoardNewSpec) :=
  OpenClaim.holds_of_wide 11 Try.f11 rfl rfl rfl rfl rfl rfl rfl ⟨rfl, rfl, rfl, rfl, rfl⟩ rfl rfl rfl rfl rfl (by kernel_rfl) Try.func11 (by kernel_rfl)
    (of_decide_eq_true (by kernel_rfl)) (by unfold Func.isWrapper; first | (rw [if_pos (by decide +kernel)]; kernel_rfl) | (rw [if_neg (by decide +kernel)]; exact ⟨rfl, rfl⟩))
    (fun os started H enc _ => lifted os started H enc)

theorem proved : Rows.FnExactBoardNewSaid := over
end Go.Proofs.Ytdkmedlffphmdab.fnExactBoardNew
