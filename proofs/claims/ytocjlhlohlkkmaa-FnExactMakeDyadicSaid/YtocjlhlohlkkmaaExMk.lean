/-
  MakeDyadic answers as its model, for every two ints. No condition.
-/
import Derived.Test.YtocjlhlohlkkmaaRows
import Derived.Test.YtocjlhlohlkkmaaDyW
import Derived.Test.YtocjlhlohlkkmaaOpenY
import Derived.Test.YtocjlhlohlkkmaaDraw
import Derived.Deep.RegionHeld3
import Derived.Deep.DeepCutAuto
import Derived.WalkKit
import Derived.ProofKit
import Derived.OpenShut
import Derived.ShutString
import Derived.ChangeOld
import Derived.Below
namespace Go.Proofs.Ytocjlhlohlkkmaa.fnExactMakeDyadic
set_option maxRecDepth 100000
open Go.ChangeShapes Go.WideShapes Go.ChangeAt Go.RowKit
open Go.ChangeMaps (open_string shut_string)
set_option linter.unusedVariables false

theorem own : ownKnob Try.prog.godebug = none := by kernel_rfl
theorem laidOut : laidOutB Try.prog = true := by kernel_rfl


set_option maxRecDepth 100000 in
set_option maxHeartbeats 16000000 in
theorem walk (a0 : Int) (a1 : Int) (w : World) (w0 : (Lit.int .i64 a0).wf = true) (w1 : (Lit.int .i64 a1).wf = true) :
    Calls Try.prog 11 #[.int .i64 a0, .int .i64 a1] w fun e w' => e = .returned (.bool true) ∧ Below w.heap.size w w' := by
  obtain ⟨⟨⟨p, q⟩, b⟩, hp⟩ : ∃ x, Dy.mk a0 a1 = x := ⟨_, rfl⟩
  have Hp := Lib.hid hp
  have hbb : (b != b) = false := by simp
  clear hp w0 w1
  have HB := Lib.hid (Below.refl w.heap.size w)
  go_enter Try.func11, Try.ntmps11
  go_wp2_with fail
  refine (s_makeW a0 a1 p q b _ Hp).mono ?_
  rintro e x1 ⟨rfl, hb2⟩
  have HB := Lib.hid (bstep HB.out hb2)
  clear hb2
  go_wp2_with fail
  obtain ⟨x4, hy6, hb5, z7, z8⟩ := new_box x1 (.cells #[.int .i64 p, .int .i64 q] 26)
  have W : Hid (Bx 26 x4 x1.heap.size p (.int .i64 q)) := Lib.hid (by rw [hy6]; exact Bx.new _ _ _ _)
  rw [← hy6]
  clear hy6
  have HB := Lib.hid (bstep HB.out hb5)
  clear hb5
  have W_0 := W.out.cell0
  have W_1 := W.out.cell1
  have W_l := W.out.lt
  go_wp2_with fail
  refine (i_makeW a0 a1 p q b _ Hp).mono ?_
  rintro e x9 ⟨rfl, hb10⟩
  clear W_0 W_1 W_l
  have W := Lib.hid (W.out.step hb10)
  have HB := Lib.hid (bstep HB.out hb10)
  clear hb10
  have W_0 := W.out.cell0
  have W_1 := W.out.cell1
  have W_l := W.out.lt
  go_wp2_with fail
  obtain ⟨x12, hy14, hb13, z15, z16⟩ := new_box x9 (.cells #[.int .i64 p, .int .i64 q] 26)
  have G : Hid (Bx 26 x12 x9.heap.size p (.int .i64 q)) := Lib.hid (by rw [hy14]; exact Bx.new _ _ _ _)
  rw [← hy14]
  clear hy14
  clear W_0 W_1 W_l
  have W := Lib.hid (W.out.step hb13)
  have HB := Lib.hid (bstep HB.out hb13)
  clear hb13
  have W_0 := W.out.cell0
  have W_1 := W.out.cell1
  have W_l := W.out.lt
  have G_0 := G.out.cell0
  have G_1 := G.out.cell1
  have G_l := G.out.lt
  go_wp2_with fail
  refine (l_eqDy p q _).mono ?_
  rintro e x17 ⟨rfl, hb18⟩
  clear W_0 W_1 W_l G_0 G_1 G_l
  have W := Lib.hid (W.out.step hb18)
  have G := Lib.hid (G.out.step hb18)
  have HB := Lib.hid (bstep HB.out hb18)
  clear hb18
  have W_0 := W.out.cell0
  have W_1 := W.out.cell1
  have W_l := W.out.lt
  have G_0 := G.out.cell0
  have G_1 := G.out.cell1
  have G_l := G.out.lt
  go_wp2_with fail
  go_ret
  exact ⟨rfl, HB.out⟩

set_option maxRecDepth 100000 in
theorem lifted (os : Os) (started : os.Started) (H : Type) (enc : TypeId × Value → H) :
    ReturnsInHanded {} Try.checked os 11 .any (Rows.fnExactMakeDyadicSpec.pre6 enc Try.prog Try.f11 Rows.fnExactMakeDyadicRow.domain false) (Rows.fnExactMakeDyadicSpec.post enc Try.prog Try.f11 false true false false) := by
  refine returnsInHanded_of_change (C := Try.checked) own started (by kernel_rfl) Try.func11
    (ChangeSpec.witness6 (enc := enc) (C := Try.checked) false ⟨#[], #[.int .i64 0, .int .i64 0], []⟩ 8 (by kernel_rfl) (by kernel_rfl) (by kernel_rfl) (by kernel_rfl)) ?_
  intro W base args ds gs before hval0 hW hcnd _
  have hval : ∀ (j : Nat) t v, Try.f11.params[j]? = some t → args[j]? = some v → Value.okWide Try.prog W .any base t v := hval0
  have hW' := hW
  obtain ⟨p, q, hA0, hV, rfl, hfz, hnd⟩ := hW
  have hA : DataW.TrodAll enc Try.prog W 0 (fun _ => true) true Try.f11.params.toList args.toList ds p := hA0
  rw [Try.params11] at hA hval
  obtain ⟨v0, vs0, d0, ds0, p0, q0, hargs, rfl, rfl, h0, r0⟩ := trodAll_cons hA
  obtain ⟨v1, vs1, d1, ds1, p1, q1, rfl, rfl, rfl, h1, r1⟩ := trodAll_cons r0
  obtain ⟨rfl, rfl, rfl⟩ := trodAll_nil r1
  obtain rfl : args = #[v0, v1] := by cases args; simp_all
  obtain ⟨rfl, rfl⟩ := trodVars_none hV
  obtain ⟨a0, rfl, rfl, rfl, w0⟩ := open_int Try.underlying3 (hval 0 3 v0 rfl rfl) h0
  obtain ⟨a1, rfl, rfl, rfl, w1⟩ := open_int Try.underlying3 (hval 1 3 v1 rfl rfl) h1
  clear hA0 hval0
  refine (walk a0 a1 W w0 w1).mono fun e W' ⟨he, bel⟩ => ?_
  subst he
  exact ⟨_, rfl, _, _, _, [], _, [], hW', trodAll_mk1 (shut_bool Try.underlying4 _), (trodAll_cons_mk (shut_int Try.underlying3 w0) (trodAll_cons_mk (shut_int Try.underlying3 w1) trodAll_mk0)), rfl, bel.frame _, fun h => by cases h⟩

theorem over : Rows.fnExactMakeDyadicRow.holds Try.pinned (OpenSpec.ofChange Rows.fnExactMakeDyadicSpec) :=
  OpenClaim.holds_of_wide 11 Try.f11 rfl rfl rfl rfl rfl rfl rfl ⟨rfl, rfl, rfl, rfl, rfl⟩ rfl rfl rfl rfl rfl (by kernel_rfl) Try.func11 (by kernel_rfl)
    (of_decide_eq_true (by kernel_rfl)) (by unfold Func.isWrapper; first | (rw [if_pos (by decide +kernel)]; kernel_rfl) | (rw [if_neg (by decide +kernel)]; exact ⟨rfl, rfl⟩))
    (fun os started H enc _ => lifted os started H enc)

theorem proved : Rows.FnExactMakeDyadicSaid := over
end Go.Proofs.Ytocjlhlohlkkmaa.fnExactMakeDyadic
