/-
  Valid boards have texts: the law holds for every code. No condition.
-/
import Derived.Test.YtmddkifadknlfaaLawVbKit
import Derived.Test.YtmddkifadknlfaaRows
import Derived.Deep.RegionHeld3
import Derived.Deep.RegionWith
import Derived.Deep.DeepCutAuto
import Derived.WalkKit
import Derived.ProofKit
import Derived.OpenShut
import Derived.ShutString
import Derived.ChangeOld
import Derived.Below
namespace Go.Proofs.Ytmddkifadknlfaa.fnValidBoard
set_option maxRecDepth 100000
open Go.ChangeShapes Go.WideShapes Go.ChangeAt Go.RowKit
open Go.ChangeMaps (open_string shut_string)
set_option linter.unusedVariables false

theorem own : ownKnob Try.prog.godebug = none := by kernel_rfl
theorem laidOut : laidOutB Try.prog = true := by kernel_rfl


set_option maxRecDepth 100000 in
set_option maxHeartbeats 16000000 in
theorem walk (a0 : Option Addr) (len0 cap0 : Nat) (z0 : List Int) (w : World) (w0 : IsRow .u8 w a0 len0 cap0 z0) :
    Calls Try.prog 3 #[.slice a0 len0 cap0] w fun e w' => e = .returned (.bool true) ∧ Below w.heap.size w w' := by
  by_cases hl : 1048576 < len0
  · go_enter Try.func3, Try.ntmps3
    go_wp2_with fail
    go_ret
    exact ⟨rfl, Below.refl _ _⟩
  · have hl' : decide ((1048576 : Int) < (len0 : Int)) = false := by rw [decide_eq_false_iff_not]; omega
    go_enter Try.func3, Try.ntmps3
    go_wp2_with fail
    refine (d_vb w a0 len0 cap0 z0 w0).mono ?_
    rintro e y0 ⟨s, A, n, c, cs, rfl, hi, hn49, s0, s8, hc1, hc2, hb⟩
    have I0 := Lib.hid hi
    have HB := Lib.hid hb
    clear hi hb w0 hl'
    go_wp2_with fail
    obtain ⟨x1, hy3, hb2, z4, z5⟩ := new_box y0 (.cells #[.int .i64 s, .slice A n c] 25)
    have X3 : Hid (Bx 25 x1 y0.heap.size s (.slice A n c)) := Lib.hid (by rw [hy3]; exact Bx.new _ _ _ _)
    rw [← hy3]
    clear hy3
    have I0 := Lib.hid (I0.out.step hb2)
    have HB := Lib.hid (bstep HB.out hb2)
    clear hb2
    have X3_0 := X3.out.cell0
    have X3_1 := X3.out.cell1
    have X3_l := X3.out.lt
    by_cases hv : Bd.okB s cs = true
    · obtain ⟨s1, s7, _, _⟩ := (Bd.okB_iff s cs).1 hv
      have hsq := Pt.sq_bd s s1 s7
      obtain ⟨T, hT⟩ : ∃ T, fmtB s cs = T := ⟨_, rfl⟩
      have hTs := fmt_yes hv
      rw [hT] at hTs
      obtain ⟨F, hF⟩ : ∃ F : Int → Int, ∀ x, cntB s cs x = F x := ⟨_, fun _ => rfl⟩
      have b0 := cnt_le (x := 0) hv
      have b1 := cnt_le (x := 1) hv
      have b2 := cnt_le (x := 2) hv
      have hsum := cnt_sum hv
      rw [hF] at b0 b1 b2
      rw [hF, hF, hF] at hsum
      have HT := Lib.hid hT
      have HF := Lib.hid hF
      have Hv := Lib.hid hv
      have Hs := Lib.hid hsum
      have hTe : T.toList.isEmpty = false := str_ne hTs
      clear hT hF hv hsum hTs
      go_wp2_with fail
      refine (i_vbV s _ _ _ _ cs true I0.out hn49 Hv.out).mono ?_
      rintro e x56 ⟨rfl, hb57⟩
      clear X3_0 X3_1 X3_l
      have X3 := Lib.hid (X3.out.step hb57)
      have I0 := Lib.hid (I0.out.step hb57)
      have HB := Lib.hid (bstep HB.out hb57)
      clear hb57
      have X3_0 := X3.out.cell0
      have X3_1 := X3.out.cell1
      have X3_l := X3.out.lt
      go_wp2_with fail
      refine (s_vbV s _ _ _ _ cs true I0.out hn49 Hv.out).mono ?_
      rintro e x59 ⟨rfl, hb60⟩
      clear X3_0 X3_1 X3_l
      have X3 := Lib.hid (X3.out.step hb60)
      have I0 := Lib.hid (I0.out.step hb60)
      have HB := Lib.hid (bstep HB.out hb60)
      clear hb60
      have X3_0 := X3.out.cell0
      have X3_1 := X3.out.cell1
      have X3_l := X3.out.lt
      go_wp2_with fail
      refine (i_fmtV s _ _ _ _ cs I0.out hn49 hc1 hc2 T HT).mono ?_
      rintro e x62 ⟨rfl, hb63⟩
      clear X3_0 X3_1 X3_l
      have X3 := Lib.hid (X3.out.step hb63)
      have I0 := Lib.hid (I0.out.step hb63)
      have HB := Lib.hid (bstep HB.out hb63)
      clear hb63
      have X3_0 := X3.out.cell0
      have X3_1 := X3.out.cell1
      have X3_l := X3.out.lt
      go_wp2_with fail
      have HC := Lib.hid (Below.refl x62.heap.size x62)
      go_cut [2] (fun v wx => v = .bool true ∧ Below x62.heap.size x62 wx)
      case first =>
        go_region_held3 (fun w' => w'.cell? ⟨y0.heap.size, 0, none⟩ = some (.int .i64 s) ∧ w'.cell? ⟨y0.heap.size, 1, none⟩ = some (.slice A n c)) (first | exact ⟨X3_0, X3_1⟩ | go_keep) (first | (go_at_call 9; refine (i_cntF s _ _ _ _ cs F (by first | with_reducible exact I0.out | with_reducible exact I0.out.dr) hn49 HF _).mono ?_; rintro e yc ⟨rfl, hb9⟩; (try replace hb9 := undrew hb9); (try (have X3 := Lib.hid (X3.out.step hb9))); (try (have I0 := Lib.hid (I0.out.step hb9))); have HC := Lib.hid (bstep HC.out hb9); have X3_0 := X3.out.cell0; have X3_1 := X3.out.cell1; have X3_l := X3.out.lt; clear hb9))
        all_goals go_wp2_with fail
        all_goals go_meet
        all_goals exact ⟨(by first | rfl | (have h3 := sum_wrap (q := s * s) ⟨by omega, by omega⟩ Hs.out; simp; exact h3)), HC.out⟩
      case rest =>
        clear HC
        obtain ⟨rfl, hb65⟩ := hcut
        clear X3_0 X3_1 X3_l
        have X3 := Lib.hid (X3.out.step hb65)
        have I0 := Lib.hid (I0.out.step hb65)
        have HB := Lib.hid (bstep HB.out hb65)
        clear hb65
        have X3_0 := X3.out.cell0
        have X3_1 := X3.out.cell1
        have X3_l := X3.out.lt
        go_wp2_with fail
        go_ret
        exact ⟨rfl, HB.out⟩
    · have hv0 : Bd.okB s cs = false := by simpa using hv
      have HT := Lib.hid (fmt_no hv0)
      have Hv := Lib.hid hv0
      clear hv hv0
      go_wp2_with fail
      refine (i_vbV s _ _ _ _ cs false I0.out hn49 Hv.out).mono ?_
      rintro e x706 ⟨rfl, hb707⟩
      clear X3_0 X3_1 X3_l
      have X3 := Lib.hid (X3.out.step hb707)
      have I0 := Lib.hid (I0.out.step hb707)
      have HB := Lib.hid (bstep HB.out hb707)
      clear hb707
      have X3_0 := X3.out.cell0
      have X3_1 := X3.out.cell1
      have X3_l := X3.out.lt
      go_wp2_with fail
      refine (s_vbV s _ _ _ _ cs false I0.out hn49 Hv.out).mono ?_
      rintro e x709 ⟨rfl, hb710⟩
      clear X3_0 X3_1 X3_l
      have X3 := Lib.hid (X3.out.step hb710)
      have I0 := Lib.hid (I0.out.step hb710)
      have HB := Lib.hid (bstep HB.out hb710)
      clear hb710
      have X3_0 := X3.out.cell0
      have X3_1 := X3.out.cell1
      have X3_l := X3.out.lt
      go_wp2_with fail
      refine (i_fmtV s _ _ _ _ cs I0.out hn49 hc1 hc2 ⟨#[]⟩ HT).mono ?_
      rintro e x712 ⟨rfl, hb713⟩
      clear X3_0 X3_1 X3_l
      have X3 := Lib.hid (X3.out.step hb713)
      have I0 := Lib.hid (I0.out.step hb713)
      have HB := Lib.hid (bstep HB.out hb713)
      clear hb713
      have X3_0 := X3.out.cell0
      have X3_1 := X3.out.cell1
      have X3_l := X3.out.lt
      go_wp2_with fail
      refine (s_vbV s _ _ _ _ cs false I0.out hn49 Hv.out).mono ?_
      rintro e x715 ⟨rfl, hb716⟩
      clear X3_0 X3_1 X3_l
      have X3 := Lib.hid (X3.out.step hb716)
      have I0 := Lib.hid (I0.out.step hb716)
      have HB := Lib.hid (bstep HB.out hb716)
      clear hb716
      have X3_0 := X3.out.cell0
      have X3_1 := X3.out.cell1
      have X3_l := X3.out.lt
      go_wp2_with fail
      refine (i_fmtV s _ _ _ _ cs I0.out hn49 hc1 hc2 ⟨#[]⟩ HT).mono ?_
      rintro e x718 ⟨rfl, hb719⟩
      clear X3_0 X3_1 X3_l
      have X3 := Lib.hid (X3.out.step hb719)
      have I0 := Lib.hid (I0.out.step hb719)
      have HB := Lib.hid (bstep HB.out hb719)
      clear hb719
      have X3_0 := X3.out.cell0
      have X3_1 := X3.out.cell1
      have X3_l := X3.out.lt
      go_wp2_with fail
      go_ret
      exact ⟨by first | rfl | simp, HB.out⟩


set_option maxRecDepth 100000 in
theorem lifted (os : Os) (started : os.Started) (H : Type) (enc : TypeId × Value → H) :
    ReturnsInHanded {} Try.checked os 3 .any (Rows.fnValidBoardSpec.pre6 enc Try.prog Try.f3 Rows.fnValidBoardRow.domain false) (Rows.fnValidBoardSpec.post enc Try.prog Try.f3 false true false false) := by
  refine returnsInHanded_of_change (C := Try.checked) own started (by kernel_rfl) Try.func3
    (ChangeSpec.witness6 (enc := enc) (C := Try.checked) false ⟨#[], #[.slice none 0 0], []⟩ 8 (by kernel_rfl) (by kernel_rfl) (by kernel_rfl) (by kernel_rfl)) ?_
  intro W base args ds gs before hval0 hW hcnd _
  have hval : ∀ (j : Nat) t v, Try.f3.params[j]? = some t → args[j]? = some v → Value.okWide Try.prog W .any base t v := hval0
  have hW' := hW
  obtain ⟨p, q, hA0, hV, rfl, hfz, hnd⟩ := hW
  have hA : DataW.TrodAll enc Try.prog W 0 (fun _ => true) true Try.f3.params.toList args.toList ds p := hA0
  rw [Try.params3] at hA hval
  obtain ⟨v0, vs0, d0, ds0, p0, q0, hargs, rfl, rfl, h0, r0⟩ := trodAll_cons hA
  obtain ⟨rfl, rfl, rfl⟩ := trodAll_nil r0
  obtain rfl : args = #[v0] := by cases args; simp_all
  obtain ⟨rfl, rfl⟩ := trodVars_none hV
  obtain ⟨a0, len0, cap0, rfl⟩ := okWide_slice Try.underlying22 (hval 0 22 v0 rfl rfl)
  have k0 := h0
  have lt0 : ∀ x ∈ p0, x.block < W.heap.size := by obtain ⟨m, hm⟩ := k0; exact DataW.trod_lt m _ _ _ hm
  obtain ⟨z0, w0⟩ : ∃ zs, IsRow .u8 W a0 len0 cap0 zs := by
    obtain ⟨fuel, hf⟩ := h0
    rcases open_ints Try.underlying22 Try.underlying5 (by kernel_rfl) hf with ⟨hcs, _⟩ | ⟨x, l, c, zs, hcs, _, hl, hm, hz, _, hcell, hwz⟩
    · simp [Value.cells] at hcs
      obtain ⟨rfl, rfl, rfl⟩ := hcs
      exact ⟨[], .inl ⟨rfl, rfl, rfl, rfl⟩⟩
    · simp [Value.cells] at hcs
      obtain ⟨rfl, rfl, rfl⟩ := hcs
      exact ⟨zs, .inr ⟨_, rfl, hl, hm, by simpa using hz, hcell, hwz⟩⟩
  clear hA0 hval0
  refine (walk a0 len0 cap0 z0 W w0).mono fun e W' ⟨he, bel⟩ => ?_
  subst he
  exact ⟨_, rfl, _, _, _, [], _, [], hW', trodAll_mk1 (shut_bool Try.underlying4 _), (trodAll_cons_mk (Below.trod laidOut (by kernel_rfl) (of_decide_eq_true (by kernel_rfl)) k0 bel lt0) trodAll_mk0), rfl, bel.frame _, fun h => by cases h⟩

theorem over : Rows.fnValidBoardRow.holds Try.pinned (OpenSpec.ofChange Rows.fnValidBoardSpec) :=
  OpenClaim.holds_of_wide 3 Try.f3 rfl rfl rfl rfl rfl rfl rfl ⟨rfl, rfl, rfl, rfl, rfl⟩ rfl rfl rfl rfl rfl (by kernel_rfl) Try.func3 (by kernel_rfl)
    (of_decide_eq_true (by kernel_rfl)) (by unfold Func.isWrapper; first | (rw [if_pos (by decide +kernel)]; kernel_rfl) | (rw [if_neg (by decide +kernel)]; exact ⟨rfl, rfl⟩))
    (fun os started H enc _ => lifted os started H enc)

theorem proved : Rows.FnValidBoardSaid := over
end Go.Proofs.Ytmddkifadknlfaa.fnValidBoard
