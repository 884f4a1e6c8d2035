/-
  Texts of boards lose nothing: the law holds for every code. No condition.
-/
import Derived.Test.YtmokpaofljdehaaLawRtKit
import Derived.Test.YtmokpaofljdehaaRows
import Derived.Deep.RegionHeld3
import Derived.Deep.RegionWith
import Derived.Deep.DeepCutAuto
import Derived.WalkKit
import Derived.ProofKit
import Derived.OpenShut
import Derived.ShutString
import Derived.ChangeOld
import Derived.Below
namespace Go.Proofs.Ytmokpaofljdehaa.fnBoardRoundTrip
set_option maxRecDepth 100000
open Go.ChangeShapes Go.WideShapes Go.ChangeAt Go.RowKit
open Go.ChangeMaps (open_string shut_string)
set_option linter.unusedVariables false

theorem own : ownKnob Try.prog.godebug = none := by kernel_rfl
theorem laidOut : laidOutB Try.prog = true := by kernel_rfl


set_option maxRecDepth 100000 in
set_option maxHeartbeats 16000000 in
theorem walk (a0 : Option Addr) (len0 cap0 : Nat) (z0 : List Int) (w : World) (w0 : IsRow .u8 w a0 len0 cap0 z0) :
    Calls Try.prog 8 #[.slice a0 len0 cap0] w fun e w' => e = .returned (.bool true) ∧ Below w.heap.size w w' := by
  by_cases hl : 1048576 < len0
  · go_enter Try.func8, Try.ntmps8
    go_wp2_with fail
    go_ret
    exact ⟨rfl, Below.refl _ _⟩
  · have hl' : decide ((1048576 : Int) < (len0 : Int)) = false := by rw [decide_eq_false_iff_not]; omega
    go_enter Try.func8, Try.ntmps8
    go_wp2_with fail
    refine (d_fmtB w a0 len0 cap0 z0 w0).mono ?_
    rintro e y0 ⟨s, A, n, c, cs, rfl, hi, hn49, s0, s8, hc1, hc2, hb⟩
    have I0 := Lib.hid hi
    have HB := Lib.hid hb
    clear hi hb w0 hl'
    go_wp2_with fail
    obtain ⟨x1, hy3, hb2, z4, z5⟩ := new_box y0 (.cells #[.int .i64 s, .slice A n c] 29)
    have X3 : Hid (Bx 29 x1 y0.heap.size s (.slice A n c)) := Lib.hid (by rw [hy3]; exact Bx.new _ _ _ _)
    rw [← hy3]
    clear hy3
    have I0 := Lib.hid (I0.out.step hb2)
    have HB := Lib.hid (bstep HB.out hb2)
    clear hb2
    have X3_0 := X3.out.cell0
    have X3_1 := X3.out.cell1
    have X3_l := X3.out.lt
    by_cases hv : Bd.okB s cs = true
    · obtain ⟨T, hT⟩ : ∃ T, fmtB s cs = T := ⟨_, rfl⟩
      have hTs := fmt_yes hv
      have hP := fmt_prs hv
      have hS := fmt_size hv
      rw [hT] at hTs hP hS
      have HT := Lib.hid hT
      have HP := Lib.hid hP
      have hTe : T.toList.isEmpty = false := str_ne hTs
      have hTe2 : (T.toList == ([] : List UInt8)) = false := by cases h9 : T.toList with | nil => rw [h9] at hTe; cases hTe | cons a l => rfl
      clear hT hP hTs hv
      go_wp2_with fail
      refine (i_fmtV s _ _ _ _ cs I0.out hn49 T HT hc1 hc2).mono ?_
      rintro e x56 ⟨rfl, hb57⟩
      clear X3_0 X3_1 X3_l
      have X3 := Lib.hid (X3.out.step hb57)
      have I0 := Lib.hid (I0.out.step hb57)
      have HB := Lib.hid (bstep HB.out hb57)
      clear hb57
      have X3_0 := X3.out.cell0
      have X3_1 := X3.out.cell1
      have X3_l := X3.out.lt
      go_wp2_with fail
      refine (s_fmtV s _ _ _ _ cs I0.out hn49 T HT).mono ?_
      rintro e x59 ⟨rfl, hb60⟩
      clear X3_0 X3_1 X3_l
      have X3 := Lib.hid (X3.out.step hb60)
      have I0 := Lib.hid (I0.out.step hb60)
      have HB := Lib.hid (bstep HB.out hb60)
      clear hb60
      have X3_0 := X3.out.cell0
      have X3_1 := X3.out.cell1
      have X3_l := X3.out.lt
      go_wp2_with fail
      refine (i_ParseX T true s cs _ HP.out hS).mono ?_
      rintro e x62 ⟨A1, n1, c1, rfl, ho64, hb63⟩
      clear X3_0 X3_1 X3_l
      have X3 := Lib.hid (X3.out.step hb63)
      have I0 := Lib.hid (I0.out.step hb63)
      have HB := Lib.hid (bstep HB.out hb63)
      have I1 := Lib.hid ho64.ints
      have lenI1 := ho64.1
      clear hb63 ho64
      have X3_0 := X3.out.cell0
      have X3_1 := X3.out.cell1
      have X3_l := X3.out.lt
      obtain rfl : n = n1 := I0.out.1.symm.trans lenI1
      clear lenI1
      go_wp2_with fail
      obtain ⟨x65, hy67, hb66, z68, z69⟩ := new_box x62 (.cells #[.int .i64 s, .slice A1 n c1] 29)
      have X4 : Hid (Bx 29 x65 x62.heap.size s (.slice A1 n c1)) := Lib.hid (by rw [hy67]; exact Bx.new _ _ _ _)
      rw [← hy67]
      clear hy67
      clear X3_0 X3_1 X3_l
      have X3 := Lib.hid (X3.out.step hb66)
      have I0 := Lib.hid (I0.out.step hb66)
      have I1 := Lib.hid (I1.out.step hb66)
      have HB := Lib.hid (bstep HB.out hb66)
      clear hb66
      have X3_0 := X3.out.cell0
      have X3_1 := X3.out.cell1
      have X3_l := X3.out.lt
      have X4_0 := X4.out.cell0
      have X4_1 := X4.out.cell1
      have X4_l := X4.out.lt
      go_wp2_with fail
      refine (l_eqB s _ _ _ _ _ _ cs I1.out I0.out (by omega)).mono ?_
      rintro e x70 ⟨rfl, hb71⟩
      clear X3_0 X3_1 X3_l X4_0 X4_1 X4_l
      have X3 := Lib.hid (X3.out.step hb71)
      have X4 := Lib.hid (X4.out.step hb71)
      have I0 := Lib.hid (I0.out.step hb71)
      have I1 := Lib.hid (I1.out.step hb71)
      have HB := Lib.hid (bstep HB.out hb71)
      clear hb71
      have X3_0 := X3.out.cell0
      have X3_1 := X3.out.cell1
      have X3_l := X3.out.lt
      have X4_0 := X4.out.cell0
      have X4_1 := X4.out.cell1
      have X4_l := X4.out.lt
      go_wp2_with fail
      go_ret
      exact ⟨rfl, HB.out⟩
    · have hv0 : Bd.okB s cs = false := by simpa using hv
      have HT := Lib.hid (fmt_no hv0)
      clear hv hv0
      go_wp2_with fail
      refine (i_fmtV s _ _ _ _ cs I0.out hn49 ⟨#[]⟩ HT hc1 hc2).mono ?_
      rintro e x706 ⟨rfl, hb707⟩
      clear X3_0 X3_1 X3_l
      have X3 := Lib.hid (X3.out.step hb707)
      have I0 := Lib.hid (I0.out.step hb707)
      have HB := Lib.hid (bstep HB.out hb707)
      clear hb707
      have X3_0 := X3.out.cell0
      have X3_1 := X3.out.cell1
      have X3_l := X3.out.lt
      go_wp2_with fail
      refine (s_fmtV s _ _ _ _ cs I0.out hn49 ⟨#[]⟩ HT).mono ?_
      rintro e x709 ⟨rfl, hb710⟩
      clear X3_0 X3_1 X3_l
      have X3 := Lib.hid (X3.out.step hb710)
      have I0 := Lib.hid (I0.out.step hb710)
      have HB := Lib.hid (bstep HB.out hb710)
      clear hb710
      have X3_0 := X3.out.cell0
      have X3_1 := X3.out.cell1
      have X3_l := X3.out.lt
      go_wp2_with fail
      refine (s_fmtV s _ _ _ _ cs I0.out hn49 ⟨#[]⟩ HT).mono ?_
      rintro e x712 ⟨rfl, hb713⟩
      clear X3_0 X3_1 X3_l
      have X3 := Lib.hid (X3.out.step hb713)
      have I0 := Lib.hid (I0.out.step hb713)
      have HB := Lib.hid (bstep HB.out hb713)
      clear hb713
      have X3_0 := X3.out.cell0
      have X3_1 := X3.out.cell1
      have X3_l := X3.out.lt
      go_wp2_with fail
      go_ret
      exact ⟨by first | rfl | simp, HB.out⟩


set_option maxRecDepth 100000 in
theorem lifted (os : Os) (started : os.Started) (H : Type) (enc : TypeId × Value → H) :
    ReturnsInHanded {} Try.checked os 8 .any (Rows.fnBoardRoundTripSpec.pre6 enc Try.prog Try.f8 Rows.fnBoardRoundTripRow.domain false) (Rows.fnBoardRoundTripSpec.post enc Try.prog Try.f8 false true false false) := by
  refine returnsInHanded_of_change (C := Try.checked) own started (by kernel_rfl) Try.func8
    (ChangeSpec.witness6 (enc := enc) (C := Try.checked) false ⟨#[], #[.slice none 0 0], []⟩ 8 (by kernel_rfl) (by kernel_rfl) (by kernel_rfl) (by kernel_rfl)) ?_
  intro W base args ds gs before hval0 hW hcnd _
  have hval : ∀ (j : Nat) t v, Try.f8.params[j]? = some t → args[j]? = some v → Value.okWide Try.prog W .any base t v := hval0
  have hW' := hW
  obtain ⟨p, q, hA0, hV, rfl, hfz, hnd⟩ := hW
  have hA : DataW.TrodAll enc Try.prog W 0 (fun _ => true) true Try.f8.params.toList args.toList ds p := hA0
  rw [Try.params8] at hA hval
  obtain ⟨v0, vs0, d0, ds0, p0, q0, hargs, rfl, rfl, h0, r0⟩ := trodAll_cons hA
  obtain ⟨rfl, rfl, rfl⟩ := trodAll_nil r0
  obtain rfl : args = #[v0] := by cases args; simp_all
  obtain ⟨rfl, rfl⟩ := trodVars_none hV
  obtain ⟨a0, len0, cap0, rfl⟩ := okWide_slice Try.underlying35 (hval 0 35 v0 rfl rfl)
  have k0 := h0
  have lt0 : ∀ x ∈ p0, x.block < W.heap.size := by obtain ⟨m, hm⟩ := k0; exact DataW.trod_lt m _ _ _ hm
  obtain ⟨z0, w0⟩ : ∃ zs, IsRow .u8 W a0 len0 cap0 zs := by
    obtain ⟨fuel, hf⟩ := h0
    rcases open_ints Try.underlying35 Try.underlying5 (by kernel_rfl) hf with ⟨hcs, _⟩ | ⟨x, l, c, zs, hcs, _, hl, hm, hz, _, hcell, hwz⟩
    · simp [Value.cells] at hcs
      obtain ⟨rfl, rfl, rfl⟩ := hcs
      exact ⟨[], .inl ⟨rfl, rfl, rfl, rfl⟩⟩
    · simp [Value.cells] at hcs
      obtain ⟨rfl, rfl, rfl⟩ := hcs
      exact ⟨zs, .inr ⟨_, rfl, hl, hm, by simpa using hz, hcell, hwz⟩⟩
  clear hA0 hval0
  refine (walk a0 len0 cap0 z0 W w0).mono fun e W' ⟨he, bel⟩ => ?_
  subst he
  exact ⟨_, rfl, _, _, _, [], _, [], hW', trodAll_mk1 (shut_bool Try.underlying4 _), (trodAll_cons_mk (Below.trod laidOut (by kernel_rfl) (of_decide_eq_true (by kernel_rfl)) k0 bel lt0) trodAll_mk0), rfl, bel.frame _, fun h => by cases h⟩

theorem over : Rows.fnBoardRoundTripRow.holds Try.pinned (OpenSpec.ofChange Rows.fnBoardRoundTripSpec) :=
  OpenClaim.holds_of_wide 8 Try.f8 rfl rfl rfl rfl rfl rfl rfl ⟨rfl, rfl, rfl, rfl, rfl⟩ rfl rfl rfl rfl rfl (by kernel_rfl) Try.func8 (by kernel_rfl)
    (of_decide_eq_true (by kernel_rfl)) (by unfold Func.isWrapper; first | (rw [if_pos (by decide +kernel)]; kernel_rfl) | (rw [if_neg (by decide +kernel)]; exact ⟨rfl, rfl⟩))
    (fun os started H enc _ => lifted os started H enc)

theorem proved : Rows.FnBoardRoundTripSaid := over
end Go.Proofs.Ytmokpaofljdehaa.fnBoardRoundTrip
