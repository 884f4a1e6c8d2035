/-
  Area is stones and territory: the law holds for every code. No condition.
-/
import Derived.Test.YtkjlcokbgpnejaaLawArpKit
import Derived.Test.YtkjlcokbgpnejaaRows
import Derived.Deep.RegionHeld3
import Derived.Deep.RegionWith
import Derived.Deep.DeepCutAuto
import Derived.WalkKit
import Derived.ProofKit
import Derived.OpenShut
import Derived.ShutString
import Derived.ChangeOld
import Derived.Below
namespace Go.Proofs.Ytkjlcokbgpnejaa.fnAreaScoreParts
set_option maxRecDepth 100000
open Go.ChangeShapes Go.WideShapes Go.ChangeAt Go.RowKit
open Go.ChangeMaps (open_string shut_string)
set_option linter.unusedVariables false

theorem own : ownKnob Try.prog.godebug = none := by kernel_rfl
theorem laidOut : laidOutB Try.prog = true := by kernel_rfl


set_option maxRecDepth 100000 in
set_option maxHeartbeats 16000000 in
theorem walk (a0 : Option Addr) (len0 cap0 : Nat) (z0 : List Int) (w : World) (w0 : IsRow .u8 w a0 len0 cap0 z0) :
    Calls Try.prog 6 #[.slice a0 len0 cap0] w fun e w' => e = .returned (.bool true) ∧ Below w.heap.size w w' := by
  by_cases hl : 1048576 < len0
  · go_enter Try.func6, Try.ntmps6
    go_wp2_with fail
    go_ret
    exact ⟨rfl, Below.refl _ _⟩
  · have hl' : decide ((1048576 : Int) < (len0 : Int)) = false := by rw [decide_eq_false_iff_not]; omega
    go_enter Try.func6, Try.ntmps6
    go_wp2_with fail
    refine (d_ar w a0 len0 cap0 z0 w0).mono ?_
    rintro e y0 ⟨s, A, n, c, cs, rfl, hi, hn49, s0, s8, hb⟩
    have I0 := Lib.hid hi
    have HB := Lib.hid hb
    clear hi hb w0 hl'
    obtain ⟨xr, yr, hxy⟩ := ArIs.make s n cs I0.out.1
    have Hxy := Lib.hid hxy
    clear hxy
    go_wp2_with fail
    obtain ⟨x1, hy3, hb2, z4, z5⟩ := new_box y0 (.cells #[.int .i64 s, .slice A n c] 28)
    have X3 : Hid (Bx 28 x1 y0.heap.size s (.slice A n c)) := Lib.hid (by rw [hy3]; exact Bx.new _ _ _ _)
    rw [← hy3]
    clear hy3
    have I0 := Lib.hid (I0.out.step hb2)
    have HB := Lib.hid (bstep HB.out hb2)
    clear hb2
    have X3_0 := X3.out.cell0
    have X3_1 := X3.out.cell1
    have X3_l := X3.out.lt
    go_wp2_with fail
    refine (i_ArA s _ A n c cs I0.out hn49 xr yr Hxy).mono ?_
    rintro e x6 ⟨rfl, hb7⟩
    clear X3_0 X3_1 X3_l
    have X3 := Lib.hid (X3.out.step hb7)
    have I0 := Lib.hid (I0.out.step hb7)
    have HB := Lib.hid (bstep HB.out hb7)
    clear hb7
    have X3_0 := X3.out.cell0
    have X3_1 := X3.out.cell1
    have X3_l := X3.out.lt
    go_wp2_with fail
    refine (s_ArA s _ A n c cs I0.out hn49 xr yr Hxy).mono ?_
    rintro e x9 ⟨rfl, hb10⟩
    clear X3_0 X3_1 X3_l
    have X3 := Lib.hid (X3.out.step hb10)
    have I0 := Lib.hid (I0.out.step hb10)
    have HB := Lib.hid (bstep HB.out hb10)
    clear hb10
    have X3_0 := X3.out.cell0
    have X3_1 := X3.out.cell1
    have X3_l := X3.out.lt
    by_cases hv : Bd.okB s cs = true
    · obtain ⟨⟨l1, hl1, hx1⟩, l2, hl2, hy1⟩ := Hxy.out.1 hv
      have hf1 := hl1.few
      have hf2 := hl2.few
      have hc1 := cnt_bd 1 cs
      have hc2 := cnt_bd 2 cs
      have hcl := I0.out.1
      obtain ⟨a1, ha1⟩ : ∃ a, cntB s cs 1 = a := ⟨_, rfl⟩
      obtain ⟨a2, ha2⟩ : ∃ a, cntB s cs 2 = a := ⟨_, rfl⟩
      obtain ⟨m1, hm1⟩ : ∃ m, l1.length = m := ⟨_, rfl⟩
      obtain ⟨m2, hm2⟩ : ∃ m, l2.length = m := ⟨_, rfl⟩
      rw [← cntB_okA hv, ha1] at hx1 hc1
      rw [← cntB_okA hv, ha2] at hy1 hc2
      rw [hm1] at hx1 hf1
      rw [hm2] at hy1 hf2
      have hw1 : IntKind.i64.wrap (a1 + (m1 : Nat)) = xr := (ar_wrap hc1.1 (by omega) (by omega)).trans hx1.symm
      have hw2 : IntKind.i64.wrap (a2 + (m2 : Nat)) = yr := (ar_wrap hc2.1 (by omega) (by omega)).trans hy1.symm
      have hx0 : 0 ≤ xr := by omega
      have Hl1 := Lib.hid hl1
      have Hl2 := Lib.hid hl2
      have Ha1 := Lib.hid ha1
      have Ha2 := Lib.hid ha2
      have Hm1 := Lib.hid hm1
      have Hm2 := Lib.hid hm2
      clear hl1 hl2 ha1 ha2 hm1 hm2 hx1 hy1 hf1 hf2 hc1 hc2 hcl hv
      go_wp2_with fail
      go_region_held3 (fun w' => w'.cell? ⟨y0.heap.size, 0, none⟩ = some (.int .i64 s) ∧ w'.cell? ⟨y0.heap.size, 1, none⟩ = some (.slice A n c)) (first | exact ⟨X3_0, X3_1⟩ | go_keep) (first | (have hq3 := hq3; go_at_call 21; refine (i_TeA s _ A n c cs (by first | with_reducible exact I0.out | with_reducible exact I0.out.drA) hn49 2 l2 m2 Hl2 Hm2).mono ?_; rintro e yc ⟨A7, c7, rfl, hb9⟩; (try replace hb9 := undrew hb9); have X3 := Lib.hid (X3.out.step hb9); have I0 := Lib.hid (I0.out.step hb9); have HB := Lib.hid (bstep HB.out hb9); clear hb9 X3_0 X3_1; have X3_0 := X3.out.cell0; have X3_1 := X3.out.cell1; have hq4 : True := trivial) | (have hq2 := hq2; go_at_call 28; refine (i_cntA s _ A n c cs (by first | with_reducible exact I0.out | with_reducible exact I0.out.drA) hn49 2 a2 Ha2).mono ?_; rintro e yc ⟨rfl, hb9⟩; (try replace hb9 := undrew hb9); have X3 := Lib.hid (X3.out.step hb9); have I0 := Lib.hid (I0.out.step hb9); have HB := Lib.hid (bstep HB.out hb9); clear hb9 X3_0 X3_1; have X3_0 := X3.out.cell0; have X3_1 := X3.out.cell1; have hq3 : True := trivial) | (have hq1 := hq1; go_at_call 21; refine (i_TeA s _ A n c cs (by first | with_reducible exact I0.out | with_reducible exact I0.out.drA) hn49 1 l1 m1 Hl1 Hm1).mono ?_; rintro e yc ⟨A7, c7, rfl, hb9⟩; (try replace hb9 := undrew hb9); have X3 := Lib.hid (X3.out.step hb9); have I0 := Lib.hid (I0.out.step hb9); have HB := Lib.hid (bstep HB.out hb9); clear hb9 X3_0 X3_1; have X3_0 := X3.out.cell0; have X3_1 := X3.out.cell1; have hq2 : True := trivial) | (go_at_call 28; refine (i_cntA s _ A n c cs (by first | with_reducible exact I0.out | with_reducible exact I0.out.drA) hn49 1 a1 Ha1).mono ?_; rintro e yc ⟨rfl, hb9⟩; (try replace hb9 := undrew hb9); have X3 := Lib.hid (X3.out.step hb9); have I0 := Lib.hid (I0.out.step hb9); have HB := Lib.hid (bstep HB.out hb9); clear hb9 X3_0 X3_1; have X3_0 := X3.out.cell0; have X3_1 := X3.out.cell1; have hq1 : True := trivial))
      go_wp2_with fail
      go_ret
      exact ⟨by first | rfl | simp, HB.out⟩
    · have hv0 : Bd.okB s cs = false := by simpa using hv
      obtain ⟨hxe, hye⟩ := Hxy.out.2 hv0
      clear hv hv0 Hxy
      subst hxe
      subst hye
      go_wp2_with fail
      go_ret
      exact ⟨by first | rfl | simp, HB.out⟩


set_option maxRecDepth 100000 in
theorem lifted (os : Os) (started : os.Started) (H : Type) (enc : TypeId × Value → H) :
    ReturnsInHanded {} Try.checked os 6 .any (Rows.fnAreaScorePartsSpec.pre6 enc Try.prog Try.f6 Rows.fnAreaScorePartsRow.domain false) (Rows.fnAreaScorePartsSpec.post enc Try.prog Try.f6 false true false false) := by
  refine returnsInHanded_of_change (C := Try.checked) own started (by kernel_rfl) Try.func6
    (ChangeSpec.witness6 (enc := enc) (C := Try.checked) false ⟨#[], #[.slice none 0 0], []⟩ 8 (by kernel_rfl) (by kernel_rfl) (by kernel_rfl) (by kernel_rfl)) ?_
  intro W base args ds gs before hval0 hW hcnd _
  have hval : ∀ (j : Nat) t v, Try.f6.params[j]? = some t → args[j]? = some v → Value.okWide Try.prog W .any base t v := hval0
  have hW' := hW
  obtain ⟨p, q, hA0, hV, rfl, hfz, hnd⟩ := hW
  have hA : DataW.TrodAll enc Try.prog W 0 (fun _ => true) true Try.f6.params.toList args.toList ds p := hA0
  rw [Try.params6] at hA hval
  obtain ⟨v0, vs0, d0, ds0, p0, q0, hargs, rfl, rfl, h0, r0⟩ := trodAll_cons hA
  obtain ⟨rfl, rfl, rfl⟩ := trodAll_nil r0
  obtain rfl : args = #[v0] := by cases args; simp_all
  obtain ⟨rfl, rfl⟩ := trodVars_none hV
  obtain ⟨a0, len0, cap0, rfl⟩ := okWide_slice Try.underlying41 (hval 0 41 v0 rfl rfl)
  have k0 := h0
  have lt0 : ∀ x ∈ p0, x.block < W.heap.size := by obtain ⟨m, hm⟩ := k0; exact DataW.trod_lt m _ _ _ hm
  obtain ⟨z0, w0⟩ : ∃ zs, IsRow .u8 W a0 len0 cap0 zs := by
    obtain ⟨fuel, hf⟩ := h0
    rcases open_ints Try.underlying41 Try.underlying5 (by kernel_rfl) hf with ⟨hcs, _⟩ | ⟨x, l, c, zs, hcs, _, hl, hm, hz, _, hcell, hwz⟩
    · simp [Value.cells] at hcs
      obtain ⟨rfl, rfl, rfl⟩ := hcs
      exact ⟨[], .inl ⟨rfl, rfl, rfl, rfl⟩⟩
    · simp [Value.cells] at hcs
      obtain ⟨rfl, rfl, rfl⟩ := hcs
      exact ⟨zs, .inr ⟨_, rfl, hl, hm, by simpa using hz, hcell, hwz⟩⟩
  clear hA0 hval0
  refine (walk a0 len0 cap0 z0 W w0).mono fun e W' ⟨he, bel⟩ => ?_
  subst he
  exact ⟨_, rfl, _, _, _, [], _, [], hW', trodAll_mk1 (shut_bool Try.underlying4 _), (trodAll_cons_mk (Below.trod laidOut (by kernel_rfl) (of_decide_eq_true (by kernel_rfl)) k0 bel lt0) trodAll_mk0), rfl, bel.frame _, fun h => by cases h⟩

theorem over : Rows.fnAreaScorePartsRow.holds Try.pinned (OpenSpec.ofChange Rows.fnAreaScorePartsSpec) :=
  OpenClaim.holds_of_wide 6 Try.f6 rfl rfl rfl rfl rfl rfl rfl ⟨rfl, rfl, rfl, rfl, rfl⟩ rfl rfl rfl rfl rfl (by kernel_rfl) Try.func6 (by kernel_rfl)
    (of_decide_eq_true (by kernel_rfl)) (by unfold Func.isWrapper; first | (rw [if_pos (by decide +kernel)]; kernel_rfl) | (rw [if_neg (by decide +kernel)]; exact ⟨rfl, rfl⟩))
    (fun os started H enc _ => lifted os started H enc)

theorem proved : Rows.FnAreaScorePartsSaid := over
end Go.Proofs.Ytkjlcokbgpnejaa.fnAreaScoreParts
