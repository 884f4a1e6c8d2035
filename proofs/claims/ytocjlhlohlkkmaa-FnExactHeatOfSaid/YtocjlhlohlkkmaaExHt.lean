/-
  HeatOf answers as its model, for every switch. No condition.
-/
import Derived.Test.YtocjlhlohlkkmaaRows
import Derived.Test.YtocjlhlohlkkmaaSwJ
import Derived.Test.YtocjlhlohlkkmaaDyL
import Derived.Test.YtocjlhlohlkkmaaDyB
import Derived.Deep.RegionHeld3
import Derived.Deep.DeepCutAuto
import Derived.BigQuiet
import Derived.Test.YtocjlhlohlkkmaaOpenY
import Derived.Test.YtocjlhlohlkkmaaDraw
import Derived.WalkKit
import Derived.ProofKit
import Derived.OpenShut
import Derived.ShutString
import Derived.ChangeOld
import Derived.Below
namespace Go.Proofs.Ytocjlhlohlkkmaa.fnExactHeatOf
set_option maxRecDepth 100000
open Go.ChangeShapes Go.WideShapes Go.ChangeAt Go.RowKit
open Go.ChangeMaps (open_string shut_string)
set_option linter.unusedVariables false

theorem own : ownKnob Try.prog.godebug = none := by kernel_rfl
theorem laidOut : laidOutB Try.prog = true := by kernel_rfl


set_option maxRecDepth 100000 in
set_option maxHeartbeats 16000000 in
theorem walk (a0 e0 : Int) (w : World)  :
    Calls Try.prog 15 #[.agg #[.int .i64 a0, .int .i64 e0]] w fun e w' => e = .returned (.bool true) ∧ Below w.heap.size w w' := by
  obtain ⟨c, hc⟩ : ∃ c, Sw.heat a0 e0 = c := ⟨_, rfl⟩
  have Hc := Lib.hid hc
  clear hc
  have HB := Lib.hid (Below.refl w.heap.size w)
  go_enter Try.func15, Try.ntmps15
  go_wp2_with fail
  obtain ⟨x1, hy3, hb2, z4, z5⟩ := new_box w (.cells #[.int .i64 a0, .int .i64 e0] 45)
  have X0 : Hid (Bx 45 x1 w.heap.size a0 (.int .i64 e0)) := Lib.hid (by rw [hy3]; exact Bx.new _ _ _ _)
  rw [← hy3]
  clear hy3
  have HB := Lib.hid (bstep HB.out hb2)
  clear hb2
  have X0_0 := X0.out.cell0
  have X0_1 := X0.out.cell1
  have X0_l := X0.out.lt
  go_wp2_with fail
  refine (l_toSw a0 e0 _).mono ?_
  rintro e x6 ⟨rfl, hb7⟩
  clear X0_0 X0_1 X0_l
  have X0 := Lib.hid (X0.out.step hb7)
  have HB := Lib.hid (bstep HB.out hb7)
  clear hb7
  have X0_0 := X0.out.cell0
  have X0_1 := X0.out.cell1
  have X0_l := X0.out.lt
  go_wp2_with fail
  refine (s_heatW a0 e0 c _ Hc).mono ?_
  rintro e x9 ⟨rfl, hb10⟩
  clear X0_0 X0_1 X0_l
  have X0 := Lib.hid (X0.out.step hb10)
  have HB := Lib.hid (bstep HB.out hb10)
  clear hb10
  have X0_0 := X0.out.cell0
  have X0_1 := X0.out.cell1
  have X0_l := X0.out.lt
  go_wp2_with fail
  refine (l_toSw a0 e0 _).mono ?_
  rintro e x12 ⟨rfl, hb13⟩
  clear X0_0 X0_1 X0_l
  have X0 := Lib.hid (X0.out.step hb13)
  have HB := Lib.hid (bstep HB.out hb13)
  clear hb13
  have X0_0 := X0.out.cell0
  have X0_1 := X0.out.cell1
  have X0_l := X0.out.lt
  go_wp2_with fail
  refine (i_heatW a0 e0 c _ Hc).mono ?_
  rintro e x15 ⟨rfl, hb16⟩
  clear X0_0 X0_1 X0_l
  have X0 := Lib.hid (X0.out.step hb16)
  have HB := Lib.hid (bstep HB.out hb16)
  clear hb16
  have X0_0 := X0.out.cell0
  have X0_1 := X0.out.cell1
  have X0_l := X0.out.lt
  go_wp2_with fail
  go_ret
  exact ⟨rfl, HB.out⟩

set_option maxRecDepth 100000 in
theorem lifted (os : Os) (started : os.Started) (H : Type) (enc : TypeId × Value → H) :
    ReturnsInHanded {} Try.checked os 15 .any (Rows.fnExactHeatOfSpec.pre6 enc Try.prog Try.f15 Rows.fnExactHeatOfRow.domain false) (Rows.fnExactHeatOfSpec.post enc Try.prog Try.f15 false true false false) := by
  refine returnsInHanded_of_change (C := Try.checked) own started (by kernel_rfl) Try.func15
    (ChangeSpec.witness6 (enc := enc) (C := Try.checked) false ⟨#[], #[.agg #[.int .i64 0, .int .i64 0]], []⟩ 8 (by kernel_rfl) (by kernel_rfl) (by kernel_rfl) (by kernel_rfl)) ?_
  intro W base args ds gs before hval0 hW hcnd _
  have hval : ∀ (j : Nat) t v, Try.f15.params[j]? = some t → args[j]? = some v → Value.okWide Try.prog W .any base t v := hval0
  have hW' := hW
  obtain ⟨p, q, hA0, hV, rfl, hfz, hnd⟩ := hW
  have hA : DataW.TrodAll enc Try.prog W 0 (fun _ => true) true Try.f15.params.toList args.toList ds p := hA0
  rw [Try.params15] at hA hval
  obtain ⟨v0, vs0, d0, ds0, p0, q0, hargs, rfl, rfl, h0, r0⟩ := trodAll_cons hA
  obtain ⟨rfl, rfl, rfl⟩ := trodAll_nil r0
  obtain rfl : args = #[v0] := by cases args; simp_all
  obtain ⟨rfl, rfl⟩ := trodVars_none hV
  have k0 := h0
  have lt0 : ∀ x ∈ p0, x.block < W.heap.size := by obtain ⟨m, hm⟩ := k0; exact DataW.trod_lt m _ _ _ hm
  obtain ⟨a0, e0, rfl⟩ := open_sw (hval 0 45 v0 rfl rfl) h0
  clear hA0 hval0
  refine (walk a0 e0 W ).mono fun e W' ⟨he, bel⟩ => ?_
  subst he
  exact ⟨_, rfl, _, _, _, [], _, [], hW', trodAll_mk1 (shut_bool Try.underlying4 _), (trodAll_cons_mk (Below.trod laidOut (by kernel_rfl) (of_decide_eq_true (by kernel_rfl)) k0 bel lt0) trodAll_mk0), rfl, bel.frame _, fun h => by cases h⟩

theorem over : Rows.fnExactHeatOfRow.holds Try.pinned (OpenSpec.ofChange Rows.fnExactHeatOfSpec) :=
  OpenClaim.holds_of_wide 15 Try.f15 rfl rfl rfl rfl rfl rfl rfl ⟨rfl, rfl, rfl, rfl, rfl⟩ rfl rfl rfl rfl rfl (by kernel_rfl) Try.func15 (by kernel_rfl)
    (of_decide_eq_true (by kernel_rfl)) (by unfold Func.isWrapper; first | (rw [if_pos (by decide +kernel)]; kernel_rfl) | (rw [if_neg (by decide +kernel)]; exact ⟨rfl, rfl⟩))
    (fun os started H enc _ => lifted os started H enc)

theorem proved : Rows.FnExactHeatOfSaid := over
end Go.Proofs.Ytocjlhlohlkkmaa.fnExactHeatOf
