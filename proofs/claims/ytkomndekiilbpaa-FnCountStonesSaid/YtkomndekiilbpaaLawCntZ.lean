/-
  The law of CountStones: for every drawn board and color the count is the model's, and images and exchanged colors keep it. For every code. No condition.
-/
import Derived.Test.YtkomndekiilbpaaLawKit
import Derived.Test.YtkomndekiilbpaaRows
import Derived.Deep.RegionWith
import Derived.Deep.DeepCutAuto
import Derived.WalkKit
import Derived.ProofKit
import Derived.OpenShut
import Derived.ShutString
import Derived.ChangeOld
import Derived.Below
namespace Go.Proofs.Ytkomndekiilbpaa.fnCountStones
open Go.ChangeShapes Go.WideShapes Go.ChangeAt Go.RowKit
open Go.ChangeMaps (open_string shut_string)
set_option linter.unusedVariables false

theorem own : ownKnob Try.prog.godebug = none := by kernel_rfl
theorem laidOut : laidOutB Try.prog = true := by kernel_rfl


set_option maxRecDepth 100000 in
set_option maxHeartbeats 8000000 in
theorem walk (a0 : Option Addr) (len0 cap0 : Nat) (z0 : List Int) (w : World) (w0 : IsRow .u8 w a0 len0 cap0 z0) :
    Calls Try.prog 5 #[.slice a0 len0 cap0] w fun e w' => e = .returned (.bool true) ∧ Below w.heap.size w w' := by
  by_cases hl : 1048576 < len0
  · go_enter Try.func5, Try.ntmps5
    go_wp2_with fail
    go_ret
    exact ⟨rfl, Below.refl _ _⟩
  · have hl' : decide ((1048576 : Int) < (len0 : Int)) = false := by rw [decide_eq_false_iff_not]; omega
    go_enter Try.func5, Try.ntmps5
    go_wp2_with fail
    refine (d_cnt w a0 len0 cap0 z0 w0).mono ?_
    rintro e y0 ⟨s, A, n, c, cs, x, rfl, hi, hn49, s0, s8, hx, hb⟩
    have I0 := Lib.hid hi
    have HB := Lib.hid hb
    clear hi hb w0 hl'
    obtain ⟨N, hN⟩ : ∃ N, cntB s cs x = N := ⟨_, rfl⟩
    have HN := Lib.hid hN
    clear hN
    go_wp2_with fail
    obtain ⟨x1, hy3, hb2, z4, z5⟩ := new_box y0 (.cells #[.int .i64 s, .slice A n c] 25)
    have X3 : Hid (Bx 25 x1 y0.heap.size s (.slice A n c)) := Lib.hid (by rw [hy3]; exact Bx.new _ _ _ _)
    rw [← hy3]
    clear hy3
    have I0 := Lib.hid (I0.out.step hb2)
    have HB := Lib.hid (bstep HB.out hb2)
    clear hb2
    have X3_0 := X3.out.cell0
    have X3_1 := X3.out.cell1
    have X3_l := X3.out.lt
    go_wp2_with fail
    refine (i_cntV s _ _ _ _ cs x N I0.out hn49 HN.out).mono ?_
    rintro e x6 ⟨rfl, hb7⟩
    clear X3_0 X3_1 X3_l
    have X3 := Lib.hid (X3.out.step hb7)
    have I0 := Lib.hid (I0.out.step hb7)
    have HB := Lib.hid (bstep HB.out hb7)
    clear hb7
    have X3_0 := X3.out.cell0
    have X3_1 := X3.out.cell1
    have X3_l := X3.out.lt
    go_wp2_with fail
    refine (s_cntV s _ _ _ _ cs x N I0.out hn49 HN.out).mono ?_
    rintro e x9 ⟨rfl, hb10⟩
    clear X3_0 X3_1 X3_l
    have X3 := Lib.hid (X3.out.step hb10)
    have I0 := Lib.hid (I0.out.step hb10)
    have HB := Lib.hid (bstep HB.out hb10)
    clear hb10
    have X3_0 := X3.out.cell0
    have X3_1 := X3.out.cell1
    have X3_l := X3.out.lt
    by_cases hgood : 0 ≤ N ∧ 1 ≤ x ∧ x ≤ 2
    · obtain ⟨N0, x1, x2⟩ := hgood
      have Hv := Lib.hid (cntB_ok HN.out N0)
      have hx3 : 1 ≤ x ∧ x ≤ 2 := ⟨x1, x2⟩
      go_wp2_with fail
      clear X3_0 X3_1 X3_l
      go_loopw [6] (fun v wr => ∃ k : Nat, k ≤ 8 ∧ v = .int .i64 (k : Nat) ∧ Below x9.heap.size x9 wr) (fun v _ => 8 - (intOf v).toNat)
      case atStart => exact ⟨0, by omega, rfl, Below.refl _ _⟩
      case round =>
        obtain ⟨k, hk, rfl, hbr⟩ := hrel
        have HC := Lib.hid hbr
        have X3 := Lib.hid (X3.out.step hbr)
        have I0 := Lib.hid (I0.out.step hbr)
        have HB := Lib.hid (bstep HB.out hbr)
        clear hbr
        have X3_0 := X3.out.cell0
        have X3_1 := X3.out.cell1
        have X3_l := X3.out.lt
        by_cases hk8 : k < 8
        · have hkk : Pt.okK (k : Nat) = true := (Pt.okK_iff _).2 ⟨by omega, by omega⟩
          have Hkk := Lib.hid hkk
          clear hkk
          go_wp2_with fail
          refine (i_trV s _ _ _ _ cs (k : Nat) I0.out hn49 Hv.out Hkk.out).mono ?_
          rintro e x112 ⟨A1, n1, c1, rfl, ho114, hb113⟩
          clear X3_0 X3_1 X3_l
          have X3 := Lib.hid (X3.out.step hb113)
          have I0 := Lib.hid (I0.out.step hb113)
          have HB := Lib.hid (bstep HB.out hb113)
          have HC := Lib.hid (bstep HC.out hb113)
          have R1 := Lib.hid ho114.ints
          have lenR1 := ho114.1
          obtain rfl : n = n1 := len_mv lenR1 I0.out.1
          clear lenR1
          clear hb113 ho114
          have X3_0 := X3.out.cell0
          have X3_1 := X3.out.cell1
          have X3_l := X3.out.lt
          go_wp2_with fail
          refine (i_cntV s _ _ _ _ (Bd.mv s (k : Nat) cs) x N R1.out hn49 (cntB_mv Hv.out Hkk.out HN.out)).mono ?_
          rintro e x115 ⟨rfl, hb116⟩
          clear X3_0 X3_1 X3_l
          have X3 := Lib.hid (X3.out.step hb116)
          have I0 := Lib.hid (I0.out.step hb116)
          have R1 := Lib.hid (R1.out.step hb116)
          have HB := Lib.hid (bstep HB.out hb116)
          have HC := Lib.hid (bstep HC.out hb116)
          clear hb116
          have X3_0 := X3.out.cell0
          have X3_1 := X3.out.cell1
          have X3_l := X3.out.lt
          go_wp2_with fail
          go_roundw
          case rel => exact ⟨k + 1, by omega, by go_num, HC.out⟩
          case measure => simp [intOf]; omega
        · go_wp2_with fail
          refine (i_invV s _ _ _ _ cs I0.out hn49 Hv.out).mono ?_
          rintro e x162 ⟨A1, n1, c1, rfl, ho164, hb163⟩
          clear X3_0 X3_1 X3_l
          have X3 := Lib.hid (X3.out.step hb163)
          have I0 := Lib.hid (I0.out.step hb163)
          have HB := Lib.hid (bstep HB.out hb163)
          have R1 := Lib.hid ho164.ints
          have lenR1 := ho164.1
          obtain rfl : n = n1 := len_of lenR1 I0.out.1
          clear lenR1
          clear hb163 ho164
          have X3_0 := X3.out.cell0
          have X3_1 := X3.out.cell1
          have X3_l := X3.out.lt
          go_wp2_with fail
          refine (i_cntV s _ _ _ _ (othCs cs) (3 - x) N R1.out hn49 (cntB_oth Hv.out x1 x2 HN.out)).mono ?_
          rintro e x165 ⟨rfl, hb166⟩
          clear X3_0 X3_1 X3_l
          have X3 := Lib.hid (X3.out.step hb166)
          have I0 := Lib.hid (I0.out.step hb166)
          have R1 := Lib.hid (R1.out.step hb166)
          have HB := Lib.hid (bstep HB.out hb166)
          clear hb166
          have X3_0 := X3.out.cell0
          have X3_1 := X3.out.cell1
          have X3_l := X3.out.lt
          go_wp2_with fail
          go_ret
          exact ⟨rfl, HB.out⟩
    · have hor : N < 0 ∨ (0 ≤ N ∧ x < 1) ∨ (0 ≤ N ∧ 1 ≤ x ∧ 2 < x) := by omega
      clear hgood
      rcases hor with h1 | ⟨h1, h2⟩ | ⟨h1, h2, h3⟩
      all_goals
        go_wp2_with fail
        refine (s_cntV s _ _ _ _ cs x N I0.out hn49 HN.out).mono ?_
        rintro e x901 ⟨rfl, hb902⟩
        clear X3_0 X3_1 X3_l
        have X3 := Lib.hid (X3.out.step hb902)
        have I0 := Lib.hid (I0.out.step hb902)
        have HB := Lib.hid (bstep HB.out hb902)
        clear hb902
        have X3_0 := X3.out.cell0
        have X3_1 := X3.out.cell1
        have X3_l := X3.out.lt
        go_wp2_with fail
        go_ret
        exact ⟨rfl, HB.out⟩


set_option maxRecDepth 100000 in
theorem lifted (os : Os) (started : os.Started) (H : Type) (enc : TypeId × Value → H) :
    ReturnsInHanded {} Try.checked os 5 .any (Rows.fnCountStonesSpec.pre6 enc Try.prog Try.f5 Rows.fnCountStonesRow.domain false) (Rows.fnCountStonesSpec.post enc Try.prog Try.f5 false true false false) := by
  refine returnsInHanded_of_change (C := Try.checked) own started (by kernel_rfl) Try.func5
    (ChangeSpec.witness6 (enc := enc) (C := Try.checked) false ⟨#[], #[.slice none 0 0], []⟩ 8 (by kernel_rfl) (by kernel_rfl) (by kernel_rfl) (by kernel_rfl)) ?_
  intro W base args ds gs before hval0 hW hcnd _
  have hval : ∀ (j : Nat) t v, Try.f5.params[j]? = some t → args[j]? = some v → Value.okWide Try.prog W .any base t v := hval0
  have hW' := hW
  obtain ⟨p, q, hA0, hV, rfl, hfz, hnd⟩ := hW
  have hA : DataW.TrodAll enc Try.prog W 0 (fun _ => true) true Try.f5.params.toList args.toList ds p := hA0
  rw [Try.params5] at hA hval
  obtain ⟨v0, vs0, d0, ds0, p0, q0, hargs, rfl, rfl, h0, r0⟩ := trodAll_cons hA
  obtain ⟨rfl, rfl, rfl⟩ := trodAll_nil r0
  obtain rfl : args = #[v0] := by cases args; simp_all
  obtain ⟨rfl, rfl⟩ := trodVars_none hV
  obtain ⟨a0, len0, cap0, rfl⟩ := okWide_slice Try.underlying22 (hval 0 22 v0 rfl rfl)
  have k0 := h0
  have lt0 : ∀ x ∈ p0, x.block < W.heap.size := by obtain ⟨m, hm⟩ := k0; exact DataW.trod_lt m _ _ _ hm
  obtain ⟨z0, w0⟩ : ∃ zs, IsRow .u8 W a0 len0 cap0 zs := by
    obtain ⟨fuel, hf⟩ := h0
    rcases open_ints Try.underlying22 Try.underlying5 (by kernel_rfl) hf with ⟨hcs, _⟩ | ⟨x, l, c, zs, hcs, _, hl, hm, hz, _, hcell, hwz⟩
    · simp [Value.cells] at hcs
      obtain ⟨rfl, rfl, rfl⟩ := hcs
      exact ⟨[], .inl ⟨rfl, rfl, rfl, rfl⟩⟩
    · simp [Value.cells] at hcs
      obtain ⟨rfl, rfl, rfl⟩ := hcs
      exact ⟨zs, .inr ⟨_, rfl, hl, hm, by simpa using hz, hcell, hwz⟩⟩
  clear hA0 hval0
  refine (walk a0 len0 cap0 z0 W w0).mono fun e W' ⟨he, bel⟩ => ?_
  subst he
  exact ⟨_, rfl, _, _, _, [], _, [], hW', trodAll_mk1 (shut_bool Try.underlying4 _), (trodAll_cons_mk (Below.trod laidOut (by kernel_rfl) (of_decide_eq_true (by kernel_rfl)) k0 bel lt0) trodAll_mk0), rfl, bel.frame _, fun h => by cases h⟩

theorem over : Rows.fnCountStonesRow.holds Try.pinned (OpenSpec.ofChange Rows.fnCountStonesSpec) :=
  OpenClaim.holds_of_wide 5 Try.f5 rfl rfl rfl rfl rfl rfl rfl ⟨rfl, rfl, rfl, rfl, rfl⟩ rfl rfl rfl rfl rfl (by kernel_rfl) Try.func5 (by kernel_rfl)
    (of_decide_eq_true (by kernel_rfl)) (by unfold Func.isWrapper; first | (rw [if_pos (by decide +kernel)]; kernel_rfl) | (rw [if_neg (by decide +kernel)]; exact ⟨rfl, rfl⟩))
    (fun os started H enc _ => lifted os started H enc)

theorem proved : Rows.FnCountStonesSaid := over
end Go.Proofs.Ytkomndekiilbpaa.fnCountStones
