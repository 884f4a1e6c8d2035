/-
  Colors can be exchanged back: the law of InvertPattern holds for every code. No condition.
-/
import Derived.Test.YtjolappndbmmaaaLawIqKit
import Derived.Test.YtjolappndbmmaaaRows
import Derived.WalkKit
import Derived.ProofKit
import Derived.OpenShut
import Derived.ShutString
import Derived.ChangeOld
import Derived.Below
namespace Go.Proofs.Ytjolappndbmmaaa.fnInvertPattern
set_option maxRecDepth 100000
open Go.ChangeShapes Go.WideShapes Go.ChangeAt Go.RowKit
open Go.ChangeMaps (open_string shut_string)
set_option linter.unusedVariables false

theorem own : ownKnob Try.prog.godebug = none := by kernel_rfl
theorem laidOut : laidOutB Try.prog = true := by kernel_rfl


set_option maxRecDepth 100000 in
set_option maxHeartbeats 4000000 in
theorem walk (a0 : Option Addr) (len0 cap0 : Nat) (z0 : List Int) (w : World) (w0 : IsRow .u8 w a0 len0 cap0 z0) :
    Calls Try.prog 5 #[.slice a0 len0 cap0] w fun e w' => e = .returned (.bool true) ∧ Below w.heap.size w w' := by
  by_cases hl : 1048576 < len0
  · go_enter Try.func5, Try.ntmps5
    go_wp2_with fail
    go_ret
    exact ⟨rfl, Below.refl _ _⟩
  · have hl' : decide ((1048576 : Int) < (len0 : Int)) = false := by rw [decide_eq_false_iff_not]; omega
    go_enter Try.func5, Try.ntmps5
    go_wp2_with fail
    refine (d_inv w a0 len0 cap0 z0 w0).mono ?_
    rintro e0 y0 ⟨n, rfl, hb⟩
    have HB := Lib.hid hb
    clear hb w0 hl'
    obtain ⟨v, hv⟩ : ∃ v, Pk.invA n = v := ⟨_, rfl⟩
    have Hv := Lib.hid hv
    have hvb : (v != v) = false := by simp
    have hvv : (v == v) = true := by simp
    go_wp2_with fail
    refine (i_invPat n _).mono ?_
    rintro e x1 ⟨rfl, hb⟩
    have HB := Lib.hid (HB.out.trans (hb.mono HB.out.size))
    clear hb
    rw [Hv.out]
    by_cases hok : Pk.ok n = true
    · obtain ⟨h0, h1⟩ := Pk.ok_iff.1 hok
      have hcv : Pk.inv oth n = v := by rw [← hv]; unfold Pk.invA; rw [if_pos hok]
      obtain ⟨b0, b1⟩ := Pk.inv_bd oth_ex n
      have c0 := Pk.inv_inv oth_ex h0 h1
      rw [hcv] at b0 b1 c0
      have hv2 : Pk.invA v = n := by unfold Pk.invA; rw [if_pos (Pk.ok_iff.2 ⟨b0, b1⟩)]; exact c0
      have Hv2 := Lib.hid hv2
      obtain ⟨u, hu⟩ : ∃ u, Pk.canA n = u := ⟨_, rfl⟩
      have hcu : Pk.can n = u := by rw [← hu]; unfold Pk.canA; rw [if_pos hok]
      obtain ⟨u0, u1⟩ := Pk.can_bd n
      rw [hcu] at u0 u1
      obtain ⟨x, hx⟩ : ∃ x, Pk.invA u = x := ⟨_, rfl⟩
      have hix : Pk.inv oth u = x := by rw [← hx]; unfold Pk.invA; rw [if_pos (Pk.ok_iff.2 ⟨u0, u1⟩)]
      obtain ⟨x0, x1⟩ := Pk.inv_bd oth_ex u
      rw [hix] at x0 x1
      obtain ⟨z, hz⟩ : ∃ z, Pk.canA x = z := ⟨_, rfl⟩
      have hcz : Pk.can x = z := by rw [← hz]; unfold Pk.canA; rw [if_pos (Pk.ok_iff.2 ⟨x0, x1⟩)]
      have hzz := Pk.can_inv oth_ex n
      rw [hcu, hix, hcz, hcv] at hzz
      have hz2 : Pk.canA v = z := by unfold Pk.canA; rw [if_pos (Pk.ok_iff.2 ⟨b0, b1⟩)]; exact hzz.symm
      have Hu := Lib.hid hu
      have Hx := Lib.hid hx
      have Hz := Lib.hid hz
      have Hz2 := Lib.hid hz2
      have hnn : (n == n) = true := by simp
      have hzb : (z == z) = true := by simp
      have hn0 : ¬ v < 0 := by omega
      clear hok hcv hv hv2 c0 hu hcu hx hix hz hcz hzz hz2
      go_wp2_with fail
      refine (s_invPat n _).mono ?_
      rintro e x1 ⟨rfl, rfl⟩
      rw [Hv.out]
      go_wp2_with fail
      refine (i_invPat v _).mono ?_
      rintro e x1 ⟨rfl, hb⟩
      have HB := Lib.hid (HB.out.trans (hb.mono HB.out.size))
      clear hb
      rw [Hv2.out]
      go_wp2_with fail
      refine (i_canPat n _).mono ?_
      rintro e x1 ⟨rfl, hb⟩
      have HB := Lib.hid (HB.out.trans (hb.mono HB.out.size))
      clear hb
      rw [Hu.out]
      go_wp2_with fail
      refine (i_invPat u _).mono ?_
      rintro e x1 ⟨rfl, hb⟩
      have HB := Lib.hid (HB.out.trans (hb.mono HB.out.size))
      clear hb
      rw [Hx.out]
      go_wp2_with fail
      refine (i_canPat x _).mono ?_
      rintro e x1 ⟨rfl, hb⟩
      have HB := Lib.hid (HB.out.trans (hb.mono HB.out.size))
      clear hb
      rw [Hz.out]
      go_wp2_with fail
      refine (i_canPat v _).mono ?_
      rintro e x1 ⟨rfl, hb⟩
      have HB := Lib.hid (HB.out.trans (hb.mono HB.out.size))
      clear hb
      rw [Hz2.out]
      go_wp2_with fail
      go_ret
      exact ⟨rfl, HB.out⟩
    · have hm : v = -1 := by rw [← hv]; unfold Pk.invA; rw [if_neg hok]
      have hn0 : v < 0 := by omega
      clear hok hv hm
      go_wp2_with fail
      refine (s_invPat n _).mono ?_
      rintro e x1 ⟨rfl, rfl⟩
      rw [Hv.out]
      go_wp2_with fail
      refine (s_invPat n _).mono ?_
      rintro e x1 ⟨rfl, rfl⟩
      rw [Hv.out]
      go_wp2_with fail
      go_ret
      exact ⟨rfl, HB.out⟩

set_option maxRecDepth 100000 in
theorem lifted (os : Os) (started : os.Started) (H : Type) (enc : TypeId × Value → H) :
    ReturnsInHanded {} Try.checked os 5 .any (Rows.fnInvertPatternSpec.pre6 enc Try.prog Try.f5 Rows.fnInvertPatternRow.domain false) (Rows.fnInvertPatternSpec.post enc Try.prog Try.f5 false true false false) := by
  refine returnsInHanded_of_change (C := Try.checked) own started (by kernel_rfl) Try.func5
    (ChangeSpec.witness6 (enc := enc) (C := Try.checked) false ⟨#[], #[.slice none 0 0], []⟩ 8 (by kernel_rfl) (by kernel_rfl) (by kernel_rfl) (by kernel_rfl)) ?_
  intro W base args ds gs before hval0 hW hcnd _
  have hval : ∀ (j : Nat) t v, Try.f5.params[j]? = some t → args[j]? = some v → Value.okWide Try.prog W .any base t v := hval0
  have hW' := hW
  obtain ⟨p, q, hA0, hV, rfl, hfz, hnd⟩ := hW
  have hA : DataW.TrodAll enc Try.prog W 0 (fun _ => true) true Try.f5.params.toList args.toList ds p := hA0
  rw [Try.params5] at hA hval
  obtain ⟨v0, vs0, d0, ds0, p0, q0, hargs, rfl, rfl, h0, r0⟩ := trodAll_cons hA
  obtain ⟨rfl, rfl, rfl⟩ := trodAll_nil r0
  obtain rfl : args = #[v0] := by cases args; simp_all
  obtain ⟨rfl, rfl⟩ := trodVars_none hV
  obtain ⟨a0, len0, cap0, rfl⟩ := okWide_slice Try.underlying22 (hval 0 22 v0 rfl rfl)
  have k0 := h0
  have lt0 : ∀ x ∈ p0, x.block < W.heap.size := by obtain ⟨m, hm⟩ := k0; exact DataW.trod_lt m _ _ _ hm
  obtain ⟨z0, w0⟩ : ∃ zs, IsRow .u8 W a0 len0 cap0 zs := by
    obtain ⟨fuel, hf⟩ := h0
    rcases open_ints Try.underlying22 Try.underlying5 (by kernel_rfl) hf with ⟨hcs, _⟩ | ⟨x, l, c, zs, hcs, _, hl, hm, hz, _, hcell, hwz⟩
    · simp [Value.cells] at hcs
      obtain ⟨rfl, rfl, rfl⟩ := hcs
      exact ⟨[], .inl ⟨rfl, rfl, rfl, rfl⟩⟩
    · simp [Value.cells] at hcs
      obtain ⟨rfl, rfl, rfl⟩ := hcs
      exact ⟨zs, .inr ⟨_, rfl, hl, hm, by simpa using hz, hcell, hwz⟩⟩
  clear hA0 hval0
  refine (walk a0 len0 cap0 z0 W w0).mono fun e W' ⟨he, bel⟩ => ?_
  subst he
  exact ⟨_, rfl, _, _, _, [], _, [], hW', trodAll_mk1 (shut_bool Try.underlying4 _), (trodAll_cons_mk (Below.trod laidOut (by kernel_rfl) (of_decide_eq_true (by kernel_rfl)) k0 bel lt0) trodAll_mk0), rfl, bel.frame _, fun h => by cases h⟩

theorem over : Rows.fnInvertPatternRow.holds Try.pinned (OpenSpec.ofChange Rows.fnInvertPatternSpec) :=
  OpenClaim.holds_of_wide 5 Try.f5 rfl rfl rfl rfl rfl rfl rfl ⟨rfl, rfl, rfl, rfl, rfl⟩ rfl rfl rfl rfl rfl (by kernel_rfl) Try.func5 (by kernel_rfl)
    (of_decide_eq_true (by kernel_rfl)) (by unfold Func.isWrapper; first | (rw [if_pos (by decide +kernel)]; kernel_rfl) | (rw [if_neg (by decide +kernel)]; exact ⟨rfl, rfl⟩))
    (fun os started H enc _ => lifted os started H enc)

theorem proved : Rows.FnInvertPatternSaid := over
end Go.Proofs.Ytjolappndbmmaaa.fnInvertPattern
