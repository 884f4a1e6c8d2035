/-
  Every board has one text: the law holds for every code. No condition.
-/
import Derived.Test.YtmokpaofljdehaaLawBcKit
import Derived.Test.YtmokpaofljdehaaRows
import Derived.Deep.RegionHeld3
import Derived.Deep.RegionWith
import Derived.Deep.DeepCutAuto
import Derived.WalkKit
import Derived.ProofKit
import Derived.OpenShut
import Derived.ShutString
import Derived.ChangeOld
import Derived.Below
namespace Go.Proofs.Ytmokpaofljdehaa.fnBoardCanonical
set_option maxRecDepth 100000
open Go.ChangeShapes Go.WideShapes Go.ChangeAt Go.RowKit
open Go.ChangeMaps (open_string shut_string)
set_option linter.unusedVariables false

theorem own : ownKnob Try.prog.godebug = none := by kernel_rfl
theorem laidOut : laidOutB Try.prog = true := by kernel_rfl


set_option maxRecDepth 100000 in
set_option maxHeartbeats 16000000 in
theorem walk (a0 : Option Addr) (len0 cap0 : Nat) (z0 : List Int) (w : World) (w0 : IsRow .u8 w a0 len0 cap0 z0) :
    Calls Try.prog 9 #[.slice a0 len0 cap0] w fun e w' => e = .returned (.bool true) ∧ Below w.heap.size w w' := by
  by_cases hl : 1048576 < len0
  · go_enter Try.func9, Try.ntmps9
    go_wp2_with fail
    go_ret
    exact ⟨rfl, Below.refl _ _⟩
  · have hl' : decide ((1048576 : Int) < (len0 : Int)) = false := by rw [decide_eq_false_iff_not]; omega
    go_enter Try.func9, Try.ntmps9
    go_wp2_with fail
    refine (d_pb w a0 len0 cap0 z0 w0).mono ?_
    rintro e y0 ⟨S, rfl, hS, hb⟩
    have HB := Lib.hid hb
    clear hb w0 hl'
    obtain ⟨ok, s, cs, hP⟩ := Fm.Prs.ex S
    have hlen := hP.len
    have HP := Lib.hid hP
    clear hP
    go_wp2_with fail
    refine (i_ParseC S ok s cs _ HP hS).mono ?_
    rintro e x1 ⟨A1, n1, c1, hc1, hd1, rfl, ho3, hb2⟩
    have HB := Lib.hid (bstep HB.out hb2)
    have I1 := Lib.hid ho3.ints
    have lenI1 := ho3.1
    clear hb2 ho3
    go_wp2_with fail
    obtain ⟨x4, hy6, hb5, z7, z8⟩ := new_box x1 (.cells #[.int .i64 s, .slice A1 n1 c1] 29)
    have X4 : Hid (Bx 29 x4 x1.heap.size s (.slice A1 n1 c1)) := Lib.hid (by rw [hy6]; exact Bx.new _ _ _ _)
    rw [← hy6]
    clear hy6
    have I1 := Lib.hid (I1.out.step hb5)
    have HB := Lib.hid (bstep HB.out hb5)
    clear hb5
    have X4_0 := X4.out.cell0
    have X4_1 := X4.out.cell1
    have X4_l := X4.out.lt
    go_wp2_with fail
    refine (s_ParseC S ok s cs _ HP hS).mono ?_
    rintro e x9 ⟨A2, n2, c2, hc2, hd2, rfl, ho11, hb10⟩
    clear X4_0 X4_1 X4_l
    have X4 := Lib.hid (X4.out.step hb10)
    have I1 := Lib.hid (I1.out.step hb10)
    have HB := Lib.hid (bstep HB.out hb10)
    have I2 := Lib.hid ho11.ints
    have lenI2 := ho11.1
    clear hb10 ho11
    have X4_0 := X4.out.cell0
    have X4_1 := X4.out.cell1
    have X4_l := X4.out.lt
    obtain rfl : n1 = n2 := lenI1.symm.trans lenI2
    go_wp2_with fail
    obtain ⟨x12, hy14, hb13, z15, z16⟩ := new_box x9 (.cells #[.int .i64 s, .slice A2 n1 c2] 29)
    have X6 : Hid (Bx 29 x12 x9.heap.size s (.slice A2 n1 c2)) := Lib.hid (by rw [hy14]; exact Bx.new _ _ _ _)
    rw [← hy14]
    clear hy14
    clear X4_0 X4_1 X4_l
    have X4 := Lib.hid (X4.out.step hb13)
    have I1 := Lib.hid (I1.out.step hb13)
    have I2 := Lib.hid (I2.out.step hb13)
    have HB := Lib.hid (bstep HB.out hb13)
    clear hb13
    have X4_0 := X4.out.cell0
    have X4_1 := X4.out.cell1
    have X4_l := X4.out.lt
    have X6_0 := X6.out.cell0
    have X6_1 := X6.out.cell1
    have X6_l := X6.out.lt
    go_wp2_with fail
    refine (l_eqB s _ _ _ _ _ _ cs I1.out I2.out (by omega)).mono ?_
    rintro e x17 ⟨rfl, hb18⟩
    clear X4_0 X4_1 X4_l X6_0 X6_1 X6_l
    have X4 := Lib.hid (X4.out.step hb18)
    have X6 := Lib.hid (X6.out.step hb18)
    have I1 := Lib.hid (I1.out.step hb18)
    have I2 := Lib.hid (I2.out.step hb18)
    have HB := Lib.hid (bstep HB.out hb18)
    clear hb18
    have X4_0 := X4.out.cell0
    have X4_1 := X4.out.cell1
    have X4_l := X4.out.lt
    have X6_0 := X6.out.cell0
    have X6_1 := X6.out.cell1
    have X6_l := X6.out.lt
    rcases Bool.eq_false_or_eq_true ok with rfl | rfl
    · obtain ⟨T, hT, hTS⟩ := prs_fmt HP.out
      have HT := Lib.hid hT
      clear hT
      go_wp2_with fail
      refine (i_fmtC s _ _ _ _ cs I1.out (by omega) T HT hc1 hd1).mono ?_
      rintro e x70 ⟨rfl, hb71⟩
      clear X4_0 X4_1 X4_l X6_0 X6_1 X6_l
      have X4 := Lib.hid (X4.out.step hb71)
      have X6 := Lib.hid (X6.out.step hb71)
      have I1 := Lib.hid (I1.out.step hb71)
      have I2 := Lib.hid (I2.out.step hb71)
      have HB := Lib.hid (bstep HB.out hb71)
      clear hb71
      have X4_0 := X4.out.cell0
      have X4_1 := X4.out.cell1
      have X4_l := X4.out.lt
      have X6_0 := X6.out.cell0
      have X6_1 := X6.out.cell1
      have X6_l := X6.out.lt
      go_wp2_with fail
      go_ret
      exact ⟨(by first | rfl | (rw [hTS]) | (simp only [hTS])), HB.out⟩
    · go_wp2_with fail
      go_ret
      exact ⟨by first | rfl | simp, HB.out⟩


set_option maxRecDepth 100000 in
theorem lifted (os : Os) (started : os.Started) (H : Type) (enc : TypeId × Value → H) :
    ReturnsInHanded {} Try.checked os 9 .any (Rows.fnBoardCanonicalSpec.pre6 enc Try.prog Try.f9 Rows.fnBoardCanonicalRow.domain false) (Rows.fnBoardCanonicalSpec.post enc Try.prog Try.f9 false true false false) := by
  refine returnsInHanded_of_change (C := Try.checked) own started (by kernel_rfl) Try.func9
    (ChangeSpec.witness6 (enc := enc) (C := Try.checked) false ⟨#[], #[.slice none 0 0], []⟩ 8 (by kernel_rfl) (by kernel_rfl) (by kernel_rfl) (by kernel_rfl)) ?_
  intro W base args ds gs before hval0 hW hcnd _
  have hval : ∀ (j : Nat) t v, Try.f9.params[j]? = some t → args[j]? = some v → Value.okWide Try.prog W .any base t v := hval0
  have hW' := hW
  obtain ⟨p, q, hA0, hV, rfl, hfz, hnd⟩ := hW
  have hA : DataW.TrodAll enc Try.prog W 0 (fun _ => true) true Try.f9.params.toList args.toList ds p := hA0
  rw [Try.params9] at hA hval
  obtain ⟨v0, vs0, d0, ds0, p0, q0, hargs, rfl, rfl, h0, r0⟩ := trodAll_cons hA
  obtain ⟨rfl, rfl, rfl⟩ := trodAll_nil r0
  obtain rfl : args = #[v0] := by cases args; simp_all
  obtain ⟨rfl, rfl⟩ := trodVars_none hV
  obtain ⟨a0, len0, cap0, rfl⟩ := okWide_slice Try.underlying35 (hval 0 35 v0 rfl rfl)
  have k0 := h0
  have lt0 : ∀ x ∈ p0, x.block < W.heap.size := by obtain ⟨m, hm⟩ := k0; exact DataW.trod_lt m _ _ _ hm
  obtain ⟨z0, w0⟩ : ∃ zs, IsRow .u8 W a0 len0 cap0 zs := by
    obtain ⟨fuel, hf⟩ := h0
    rcases open_ints Try.underlying35 Try.underlying5 (by kernel_rfl) hf with ⟨hcs, _⟩ | ⟨x, l, c, zs, hcs, _, hl, hm, hz, _, hcell, hwz⟩
    · simp [Value.cells] at hcs
      obtain ⟨rfl, rfl, rfl⟩ := hcs
      exact ⟨[], .inl ⟨rfl, rfl, rfl, rfl⟩⟩
    · simp [Value.cells] at hcs
      obtain ⟨rfl, rfl, rfl⟩ := hcs
      exact ⟨zs, .inr ⟨_, rfl, hl, hm, by simpa using hz, hcell, hwz⟩⟩
  clear hA0 hval0
  refine (walk a0 len0 cap0 z0 W w0).mono fun e W' ⟨he, bel⟩ => ?_
  subst he
  exact ⟨_, rfl, _, _, _, [], _, [], hW', trodAll_mk1 (shut_bool Try.underlying4 _), (trodAll_cons_mk (Below.trod laidOut (by kernel_rfl) (of_decide_eq_true (by kernel_rfl)) k0 bel lt0) trodAll_mk0), rfl, bel.frame _, fun h => by cases h⟩

theorem over : Rows.fnBoardCanonicalRow.holds Try.pinned (OpenSpec.ofChange Rows.fnBoardCanonicalSpec) :=
  OpenClaim.holds_of_wide 9 Try.f9 rfl rfl rfl rfl rfl rfl rfl ⟨rfl, rfl, rfl, rfl, rfl⟩ rfl rfl rfl rfl rfl (by kernel_rfl) Try.func9 (by kernel_rfl)
    (of_decide_eq_true (by kernel_rfl)) (by unfold Func.isWrapper; first | (rw [if_pos (by decide +kernel)]; kernel_rfl) | (rw [if_neg (by decide +kernel)]; exact ⟨rfl, rfl⟩))
    (fun os started H enc _ => lifted os started H enc)

theorem proved : Rows.FnBoardCanonicalSaid := over
end Go.Proofs.Ytmokpaofljdehaa.fnBoardCanonical
