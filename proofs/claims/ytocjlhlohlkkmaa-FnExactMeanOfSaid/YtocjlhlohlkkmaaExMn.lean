/-
  MeanOf answers as its model, for every switch. No condition.
-/
import Derived.Test.YtocjlhlohlkkmaaRows
import Derived.Test.YtocjlhlohlkkmaaSwJ
import Derived.Test.YtocjlhlohlkkmaaDyL
import Derived.Test.YtocjlhlohlkkmaaDyB
import Derived.Deep.RegionHeld3
import Derived.Deep.DeepCutAuto
import Derived.BigQuiet
import Derived.Test.YtocjlhlohlkkmaaOpenY
import Derived.Test.YtocjlhlohlkkmaaDraw
import Derived.WalkKit
import Derived.ProofKit
import Derived.OpenShut
import Derived.ShutString
import Derived.ChangeOld
import Derived.Below
namespace Go.Proofs.Ytocjlhlohlkkmaa.fnExactMeanOf
set_option maxRecDepth 100000
open Go.ChangeShapes Go.WideShapes Go.ChangeAt Go.RowKit
open Go.ChangeMaps (open_string shut_string)
set_option linter.unusedVariables false

theorem own : ownKnob Try.prog.godebug = none := by kernel_rfl
theorem laidOut : laidOutB Try.prog = true := by kernel_rfl


set_option maxRecDepth 100000 in
set_option maxHeartbeats 16000000 in
theorem walk (a0 e0 : Int) (w : World)  :
    Calls Try.prog 16 #[.agg #[.int .i64 a0, .int .i64 e0]] w fun e w' => e = .returned (.bool true) ∧ Below w.heap.size w w' := by
  obtain ⟨⟨⟨p, q⟩, b⟩, hc⟩ : ∃ c, Sw.mean a0 e0 = c := ⟨_, rfl⟩
  have Hc := Lib.hid hc
  have hbb : (b != b) = false := by simp
  clear hc
  have HB := Lib.hid (Below.refl w.heap.size w)
  go_enter Try.func16, Try.ntmps16
  go_wp2_with fail
  obtain ⟨x1, hy3, hb2, z4, z5⟩ := new_box w (.cells #[.int .i64 a0, .int .i64 e0] 45)
  have X0 : Hid (Bx 45 x1 w.heap.size a0 (.int .i64 e0)) := Lib.hid (by rw [hy3]; exact Bx.new _ _ _ _)
  rw [← hy3]
  clear hy3
  have HB := Lib.hid (bstep HB.out hb2)
  clear hb2
  have X0_0 := X0.out.cell0
  have X0_1 := X0.out.cell1
  have X0_l := X0.out.lt
  go_wp2_with fail
  refine (l_toSw a0 e0 _).mono ?_
  rintro e x6 ⟨rfl, hb7⟩
  clear X0_0 X0_1 X0_l
  have X0 := Lib.hid (X0.out.step hb7)
  have HB := Lib.hid (bstep HB.out hb7)
  clear hb7
  have X0_0 := X0.out.cell0
  have X0_1 := X0.out.cell1
  have X0_l := X0.out.lt
  go_wp2_with fail
  refine (s_meanW a0 e0 p q b _ Hc).mono ?_
  rintro e x9 ⟨rfl, hb10⟩
  clear X0_0 X0_1 X0_l
  have X0 := Lib.hid (X0.out.step hb10)
  have HB := Lib.hid (bstep HB.out hb10)
  clear hb10
  have X0_0 := X0.out.cell0
  have X0_1 := X0.out.cell1
  have X0_l := X0.out.lt
  go_wp2_with fail
  obtain ⟨x12, hy14, hb13, z15, z16⟩ := new_box x9 (.cells #[.int .i64 p, .int .i64 q] 26)
  have W : Hid (Bx 26 x12 x9.heap.size p (.int .i64 q)) := Lib.hid (by rw [hy14]; exact Bx.new _ _ _ _)
  rw [← hy14]
  clear hy14
  clear X0_0 X0_1 X0_l
  have X0 := Lib.hid (X0.out.step hb13)
  have HB := Lib.hid (bstep HB.out hb13)
  clear hb13
  have X0_0 := X0.out.cell0
  have X0_1 := X0.out.cell1
  have X0_l := X0.out.lt
  have W_0 := W.out.cell0
  have W_1 := W.out.cell1
  have W_l := W.out.lt
  go_wp2_with fail
  refine (l_toSw a0 e0 _).mono ?_
  rintro e x17 ⟨rfl, hb18⟩
  clear X0_0 X0_1 X0_l W_0 W_1 W_l
  have X0 := Lib.hid (X0.out.step hb18)
  have W := Lib.hid (W.out.step hb18)
  have HB := Lib.hid (bstep HB.out hb18)
  clear hb18
  have X0_0 := X0.out.cell0
  have X0_1 := X0.out.cell1
  have X0_l := X0.out.lt
  have W_0 := W.out.cell0
  have W_1 := W.out.cell1
  have W_l := W.out.lt
  go_wp2_with fail
  refine (i_meanW a0 e0 p q b _ Hc).mono ?_
  rintro e x20 ⟨rfl, hb21⟩
  clear X0_0 X0_1 X0_l W_0 W_1 W_l
  have X0 := Lib.hid (X0.out.step hb21)
  have W := Lib.hid (W.out.step hb21)
  have HB := Lib.hid (bstep HB.out hb21)
  clear hb21
  have X0_0 := X0.out.cell0
  have X0_1 := X0.out.cell1
  have X0_l := X0.out.lt
  have W_0 := W.out.cell0
  have W_1 := W.out.cell1
  have W_l := W.out.lt
  go_wp2_with fail
  obtain ⟨x23, hy25, hb24, z26, z27⟩ := new_box x20 (.cells #[.int .i64 p, .int .i64 q] 26)
  have G : Hid (Bx 26 x23 x20.heap.size p (.int .i64 q)) := Lib.hid (by rw [hy25]; exact Bx.new _ _ _ _)
  rw [← hy25]
  clear hy25
  clear X0_0 X0_1 X0_l W_0 W_1 W_l
  have X0 := Lib.hid (X0.out.step hb24)
  have W := Lib.hid (W.out.step hb24)
  have HB := Lib.hid (bstep HB.out hb24)
  clear hb24
  have X0_0 := X0.out.cell0
  have X0_1 := X0.out.cell1
  have X0_l := X0.out.lt
  have W_0 := W.out.cell0
  have W_1 := W.out.cell1
  have W_l := W.out.lt
  have G_0 := G.out.cell0
  have G_1 := G.out.cell1
  have G_l := G.out.lt
  go_wp2_with fail
  refine (l_eqDy p q _).mono ?_
  rintro e x28 ⟨rfl, hb29⟩
  clear X0_0 X0_1 X0_l W_0 W_1 W_l G_0 G_1 G_l
  have X0 := Lib.hid (X0.out.step hb29)
  have W := Lib.hid (W.out.step hb29)
  have G := Lib.hid (G.out.step hb29)
  have HB := Lib.hid (bstep HB.out hb29)
  clear hb29
  have X0_0 := X0.out.cell0
  have X0_1 := X0.out.cell1
  have X0_l := X0.out.lt
  have W_0 := W.out.cell0
  have W_1 := W.out.cell1
  have W_l := W.out.lt
  have G_0 := G.out.cell0
  have G_1 := G.out.cell1
  have G_l := G.out.lt
  go_wp2_with fail
  go_ret
  exact ⟨rfl, HB.out⟩

set_option maxRecDepth 100000 in
theorem lifted (os : Os) (started : os.Started) (H : Type) (enc : TypeId × Value → H) :
    ReturnsInHanded {} Try.checked os 16 .any (Rows.fnExactMeanOfSpec.pre6 enc Try.prog Try.f16 Rows.fnExactMeanOfRow.domain false) (Rows.fnExactMeanOfSpec.post enc Try.prog Try.f16 false true false false) := by
  refine returnsInHanded_of_change (C := Try.checked) own started (by kernel_rfl) Try.func16
    (ChangeSpec.witness6 (enc := enc) (C := Try.checked) false ⟨#[], #[.agg #[.int .i64 0, .int .i64 0]], []⟩ 8 (by kernel_rfl) (by kernel_rfl) (by kernel_rfl) (by kernel_rfl)) ?_
  intro W base args ds gs before hval0 hW hcnd _
  have hval : ∀ (j : Nat) t v, Try.f16.params[j]? = some t → args[j]? = some v → Value.okWide Try.prog W .any base t v := hval0
  have hW' := hW
  obtain ⟨p, q, hA0, hV, rfl, hfz, hnd⟩ := hW
  have hA : DataW.TrodAll enc Try.prog W 0 (fun _ => true) true Try.f16.params.toList args.toList ds p := hA0
  rw [Try.params16] at hA hval
  obtain ⟨v0, vs0, d0, ds0, p0, q0, hargs, rfl, rfl, h0, r0⟩ := trodAll_cons hA
  obtain ⟨rfl, rfl, rfl⟩ := trodAll_nil r0
  obtain rfl : args = #[v0] := by cases args; simp_all
  obtain ⟨rfl, rfl⟩ := trodVars_none hV
  have k0 := h0
  have lt0 : ∀ x ∈ p0, x.block < W.heap.size := by obtain ⟨m, hm⟩ := k0; exact DataW.trod_lt m _ _ _ hm
  obtain ⟨a0, e0, rfl⟩ := open_sw (hval 0 45 v0 rfl rfl) h0
  clear hA0 hval0
  refine (walk a0 e0 W ).mono fun e W' ⟨he, bel⟩ => ?_
  subst he
  exact ⟨_, rfl, _, _, _, [], _, [], hW', trodAll_mk1 (shut_bool Try.underlying4 _), (trodAll_cons_mk (Below.trod laidOut (by kernel_rfl) (of_decide_eq_true (by kernel_rfl)) k0 bel lt0) trodAll_mk0), rfl, bel.frame _, fun h => by cases h⟩

theorem over : Rows.fnExactMeanOfRow.holds Try.pinned (OpenSpec.ofChange Rows.fnExactMeanOfSpec) :=
  OpenClaim.holds_of_wide 16 Try.f16 rfl rfl rfl rfl rfl rfl rfl ⟨rfl, rfl, rfl, rfl, rfl⟩ rfl rfl rfl rfl rfl (by kernel_rfl) Try.func16 (by kernel_rfl)
    (of_decide_eq_true (by kernel_rfl)) (by unfold Func.isWrapper; first | (rw [if_pos (by decide +kernel)]; kernel_rfl) | (rw [if_neg (by decide +kernel)]; exact ⟨rfl, rfl⟩))
    (fun os started H enc _ => lifted os started H enc)

theorem proved : Rows.FnExactMeanOfSaid := over
end Go.Proofs.Ytocjlhlohlkkmaa.fnExactMeanOf
