/-
  Colors are treated alike in margins: the law holds for every code. No condition.
-/
import Derived.Test.YtniddfoiakbfdaaRows
import Derived.Test.YtniddfoiakbfdaaLawTiKitD
import Derived.Deep.DeepCutAuto
import Derived.WalkKit
import Derived.ProofKit
import Derived.OpenShut
import Derived.ShutString
import Derived.ChangeOld
import Derived.Below
namespace Go.Proofs.Ytniddfoiakbfdaa.fnTerritoryMarginInvert
set_option maxRecDepth 100000
open Go.ChangeShapes Go.WideShapes Go.ChangeAt Go.RowKit
open Go.ChangeMaps (open_string shut_string)
set_option linter.unusedVariables false

theorem own : ownKnob Try.prog.godebug = none := by kernel_rfl
theorem laidOut : laidOutB Try.prog = true := by kernel_rfl


theorem wrap_big {a : Int} (h0 : -100000 ≤ a) (h1 : a ≤ 100000) : IntKind.i64.wrap a = a := by
  simp [IntKind.wrap, IntKind.bits, IntKind.signed]; omega

set_option maxRecDepth 100000 in
set_option maxHeartbeats 16000000 in
theorem walk (a0 : Option Addr) (len0 cap0 : Nat) (z0 : List Int) (w : World) (w0 : IsRow .u8 w a0 len0 cap0 z0) :
    Calls Try.prog 3 #[.slice a0 len0 cap0] w fun e w' => e = .returned (.bool true) ∧ Below w.heap.size w w' := by
  by_cases hl : 1048576 < len0
  · go_enter Try.func3, Try.ntmps3
    go_wp2_with fail
    go_ret
    exact ⟨rfl, Below.refl _ _⟩
  · have hl' : decide ((1048576 : Int) < (len0 : Int)) = false := by rw [decide_eq_false_iff_not]; omega
    go_enter Try.func3, Try.ntmps3
    go_wp2_with fail
    refine (d_tm w a0 len0 cap0 z0 w0).mono ?_
    rintro e y0 ⟨s, A, n, c, cs, P, m, pc, ds, bp, wp, km, rfl, hi, hn49, s0, s8, hip, hm, q1, q2, q3, q4, q5, q6, hb⟩
    have I0 := Lib.hid hi
    have HB := Lib.hid hb
    clear hi hb w0 hl'
    have I1 := Lib.hid hip
    clear hip
    obtain ⟨v, ok, hv⟩ := TmIs.make s n cs ds bp wp km I0.out.1
    have Hv := Lib.hid hv
    clear hv
    go_wp2_with fail
    obtain ⟨x1, hy3, hb2, z4, z5⟩ := new_box y0 (.cells #[.int .i64 s, .slice A n c] 25)
    have X3 : Hid (Bx 25 x1 y0.heap.size s (.slice A n c)) := Lib.hid (by rw [hy3]; exact Bx.new _ _ _ _)
    rw [← hy3]
    clear hy3
    have I0 := Lib.hid (I0.out.step hb2)
    have I1 := Lib.hid (I1.out.step hb2)
    have HB := Lib.hid (bstep HB.out hb2)
    clear hb2
    have X3_0 := X3.out.cell0
    have X3_1 := X3.out.cell1
    have X3_l := X3.out.lt
    go_wp2_with fail
    refine (i_TmA s _ A P n c m pc cs ds bp wp km I0.out I1.out hn49 hm v ok Hv).mono ?_
    rintro e x6 ⟨rfl, hb7⟩
    clear X3_0 X3_1 X3_l
    have X3 := Lib.hid (X3.out.step hb7)
    have I0 := Lib.hid (I0.out.step hb7)
    have I1 := Lib.hid (I1.out.step hb7)
    have HB := Lib.hid (bstep HB.out hb7)
    clear hb7
    have X3_0 := X3.out.cell0
    have X3_1 := X3.out.cell1
    have X3_l := X3.out.lt
    go_wp2_with fail
    refine (s_TmA s _ A P n c m pc cs ds bp wp km I0.out I1.out hn49 hm v ok Hv).mono ?_
    rintro e x9 ⟨rfl, hb10⟩
    clear X3_0 X3_1 X3_l
    have X3 := Lib.hid (X3.out.step hb10)
    have I0 := Lib.hid (I0.out.step hb10)
    have I1 := Lib.hid (I1.out.step hb10)
    have HB := Lib.hid (bstep HB.out hb10)
    clear hb10
    have X3_0 := X3.out.cell0
    have X3_1 := X3.out.cell1
    have X3_l := X3.out.lt
    rcases Bool.eq_false_or_eq_true ok with hok | hok
    · subst hok
      obtain ⟨z, z0, z1, ⟨⟨p1, p2⟩, ⟨p3, p4⟩, p5, p6⟩, hve, _⟩ := Hv.out.more I0.out.1 hn49
      have Hok := Lib.hid Hv.out.ok
      obtain ⟨vx, hvx⟩ : ∃ x, -(v + km) = x := ⟨_, rfl⟩
      have Hx : Hid (TmIs s n (othCs cs) ds wp bp 0 vx true) := Lib.hid (by rw [← hvx]; exact Hv.out.xch)
      have e1 : IntKind.i64.wrap (v + km) = v + km := wrap_big (by omega) (by omega)
      have e2 : IntKind.i64.wrap (-(v + km)) = vx := (by rw [hvx]; exact wrap_big (by omega) (by omega))
      clear hvx hve z0 z1 p1 p2 p3 p4 p5 p6 q1 q2 q3 q4 q5 q6
      go_wp2_with fail
      refine (i_invD s _ A n c cs I0.out hn49 Hok).mono ?_
      rintro e x62 ⟨A1, c1, rfl, ho64, hb63⟩
      clear X3_0 X3_1 X3_l
      have X3 := Lib.hid (X3.out.step hb63)
      have I0 := Lib.hid (I0.out.step hb63)
      have I1 := Lib.hid (I1.out.step hb63)
      have HB := Lib.hid (bstep HB.out hb63)
      have R1 := Lib.hid ho64.ints
      have lenR1 := ho64.1
      clear hb63 ho64
      have X3_0 := X3.out.cell0
      have X3_1 := X3.out.cell1
      have X3_l := X3.out.lt
      go_wp2_with fail
      refine (i_TmA s _ A1 P n c1 m pc (othCs cs) ds wp bp 0 R1.out I1.out hn49 hm vx true Hx).mono ?_
      rintro e x65 ⟨rfl, hb66⟩
      clear X3_0 X3_1 X3_l
      have X3 := Lib.hid (X3.out.step hb66)
      have I0 := Lib.hid (I0.out.step hb66)
      have I1 := Lib.hid (I1.out.step hb66)
      have R1 := Lib.hid (R1.out.step hb66)
      have HB := Lib.hid (bstep HB.out hb66)
      clear hb66
      have X3_0 := X3.out.cell0
      have X3_1 := X3.out.cell1
      have X3_l := X3.out.lt
      go_wp2_with fail
      go_ret
      exact ⟨by first | rfl | simp, HB.out⟩
    · subst hok
      go_wp2_with fail
      go_ret
      exact ⟨by first | rfl | simp, HB.out⟩


set_option maxRecDepth 100000 in
theorem lifted (os : Os) (started : os.Started) (H : Type) (enc : TypeId × Value → H) :
    ReturnsInHanded {} Try.checked os 3 .any (Rows.fnTerritoryMarginInvertSpec.pre6 enc Try.prog Try.f3 Rows.fnTerritoryMarginInvertRow.domain false) (Rows.fnTerritoryMarginInvertSpec.post enc Try.prog Try.f3 false true false false) := by
  refine returnsInHanded_of_change (C := Try.checked) own started (by kernel_rfl) Try.func3
    (ChangeSpec.witness6 (enc := enc) (C := Try.checked) false ⟨#[], #[.slice none 0 0], []⟩ 8 (by kernel_rfl) (by kernel_rfl) (by kernel_rfl) (by kernel_rfl)) ?_
  intro W base args ds gs before hval0 hW hcnd _
  have hval : ∀ (j : Nat) t v, Try.f3.params[j]? = some t → args[j]? = some v → Value.okWide Try.prog W .any base t v := hval0
  have hW' := hW
  obtain ⟨p, q, hA0, hV, rfl, hfz, hnd⟩ := hW
  have hA : DataW.TrodAll enc Try.prog W 0 (fun _ => true) true Try.f3.params.toList args.toList ds p := hA0
  rw [Try.params3] at hA hval
  obtain ⟨v0, vs0, d0, ds0, p0, q0, hargs, rfl, rfl, h0, r0⟩ := trodAll_cons hA
  obtain ⟨rfl, rfl, rfl⟩ := trodAll_nil r0
  obtain rfl : args = #[v0] := by cases args; simp_all
  obtain ⟨rfl, rfl⟩ := trodVars_none hV
  obtain ⟨a0, len0, cap0, rfl⟩ := okWide_slice Try.underlying22 (hval 0 22 v0 rfl rfl)
  have k0 := h0
  have lt0 : ∀ x ∈ p0, x.block < W.heap.size := by obtain ⟨m, hm⟩ := k0; exact DataW.trod_lt m _ _ _ hm
  obtain ⟨z0, w0⟩ : ∃ zs, IsRow .u8 W a0 len0 cap0 zs := by
    obtain ⟨fuel, hf⟩ := h0
    rcases open_ints Try.underlying22 Try.underlying5 (by kernel_rfl) hf with ⟨hcs, _⟩ | ⟨x, l, c, zs, hcs, _, hl, hm, hz, _, hcell, hwz⟩
    · simp [Value.cells] at hcs
      obtain ⟨rfl, rfl, rfl⟩ := hcs
      exact ⟨[], .inl ⟨rfl, rfl, rfl, rfl⟩⟩
    · simp [Value.cells] at hcs
      obtain ⟨rfl, rfl, rfl⟩ := hcs
      exact ⟨zs, .inr ⟨_, rfl, hl, hm, by simpa using hz, hcell, hwz⟩⟩
  clear hA0 hval0
  refine (walk a0 len0 cap0 z0 W w0).mono fun e W' ⟨he, bel⟩ => ?_
  subst he
  exact ⟨_, rfl, _, _, _, [], _, [], hW', trodAll_mk1 (shut_bool Try.underlying4 _), (trodAll_cons_mk (Below.trod laidOut (by kernel_rfl) (of_decide_eq_true (by kernel_rfl)) k0 bel lt0) trodAll_mk0), rfl, bel.frame _, fun h => by cases h⟩

theorem over : Rows.fnTerritoryMarginInvertRow.holds Try.pinned (OpenSpec.ofChange Rows.fnTerritoryMarginInvertSpec) :=
  OpenClaim.holds_of_wide 3 Try.f3 rfl rfl rfl rfl rfl rfl rfl ⟨rfl, rfl, rfl, rfl, rfl⟩ rfl rfl rfl rfl rfl (by kernel_rfl) Try.func3 (by kernel_rfl)
    (of_decide_eq_true (by kernel_rfl)) (by unfold Func.isWrapper; first | (rw [if_pos (by decide +kernel)]; kernel_rfl) | (rw [if_neg (by decide +kernel)]; exact ⟨rfl, rfl⟩))
    (fun os started H enc _ => lifted os started H enc)

theorem proved : Rows.FnTerritoryMarginInvertSaid := over
end Go.Proofs.Ytniddfoiakbfdaa.fnTerritoryMarginInvert

