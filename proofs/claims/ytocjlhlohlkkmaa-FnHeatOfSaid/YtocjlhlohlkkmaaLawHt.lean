/-
  Hot switches have a mean between their ends: the law of HeatOf holds for every code. No condition.
-/
import Derived.Test.YtocjlhlohlkkmaaRows
import Derived.Test.YtocjlhlohlkkmaaSwJ
import Derived.Test.YtocjlhlohlkkmaaDyL
import Derived.Test.YtocjlhlohlkkmaaDyB
import Derived.Deep.RegionHeld3
import Derived.Deep.DeepCutAuto
import Derived.BigQuiet
import Derived.Test.YtocjlhlohlkkmaaSwD
import Derived.WalkKit
import Derived.ProofKit
import Derived.OpenShut
import Derived.ShutString
import Derived.ChangeOld
import Derived.Below
namespace Go.Proofs.Ytocjlhlohlkkmaa.fnHeatOf
set_option maxRecDepth 100000
open Go.ChangeShapes Go.WideShapes Go.ChangeAt Go.RowKit
open Go.ChangeMaps (open_string shut_string)
set_option linter.unusedVariables false

theorem own : ownKnob Try.prog.godebug = none := by kernel_rfl
theorem laidOut : laidOutB Try.prog = true := by kernel_rfl


set_option maxRecDepth 100000 in
set_option maxHeartbeats 16000000 in
theorem walk (a0 : Option Addr) (len0 cap0 : Nat) (z0 : List Int) (w : World) (w0 : IsRow .u8 w a0 len0 cap0 z0) :
    Calls Try.prog 9 #[.slice a0 len0 cap0] w fun e w' => e = .returned (.bool true) ∧ Below w.heap.size w w' := by
  by_cases hl : 1048576 < len0
  · go_enter Try.func9, Try.ntmps9
    go_wp2_with fail
    go_ret
    exact ⟨rfl, Below.refl _ _⟩
  · have hl' : decide ((1048576 : Int) < (len0 : Int)) = false := by rw [decide_eq_false_iff_not]; omega
    go_enter Try.func9, Try.ntmps9
    go_wp2_with fail
    refine (d_heat w a0 len0 cap0 z0 w0).mono ?_
    rintro e0 y0 ⟨l, r, rfl, hb⟩
    have HB := Lib.hid hb
    clear hb w0 hl'
    obtain ⟨c, hc⟩ : ∃ c, Sw.heat l r = c := ⟨_, rfl⟩
    have Hc := Lib.hid hc
    go_wp2_with fail
    obtain ⟨x1, hy3, hb2, z4, z5⟩ := new_box y0 (.cells #[.int .i64 l, .int .i64 r] 36)
    have X3 : Hid (Bx 36 x1 y0.heap.size l (.int .i64 r)) := Lib.hid (by rw [hy3]; exact Bx.new _ _ _ _)
    rw [← hy3]
    clear hy3
    have HB := Lib.hid (bstep HB.out hb2)
    clear hb2
    have X3_0 := X3.out.cell0
    have X3_1 := X3.out.cell1
    have X3_l := X3.out.lt
    go_wp2_with fail
    refine (i_heatW l r c _ Hc).mono ?_
    rintro e x6 ⟨rfl, hb7⟩
    clear X3_0 X3_1 X3_l
    have X3 := Lib.hid (X3.out.step hb7)
    have HB := Lib.hid (bstep HB.out hb7)
    clear hb7
    have X3_0 := X3.out.cell0
    have X3_1 := X3.out.cell1
    have X3_l := X3.out.lt
    go_wp2_with fail
    refine (s_heatW l r c _ Hc).mono ?_
    rintro e x9 ⟨rfl, hb10⟩
    clear X3_0 X3_1 X3_l
    have X3 := Lib.hid (X3.out.step hb10)
    have HB := Lib.hid (bstep HB.out hb10)
    clear hb10
    have X3_0 := X3.out.cell0
    have X3_1 := X3.out.cell1
    have X3_l := X3.out.lt
    by_cases hn : c < 0
    · clear hc
      go_wp2_with fail
      refine (s_heatW l r c _ Hc).mono ?_
      rintro e x112 ⟨rfl, hb113⟩
      clear X3_0 X3_1 X3_l
      have X3 := Lib.hid (X3.out.step hb113)
      have HB := Lib.hid (bstep HB.out hb113)
      clear hb113
      have X3_0 := X3.out.cell0
      have X3_1 := X3.out.cell1
      have X3_l := X3.out.lt
      go_wp2_with fail
      go_ret
      exact ⟨rfl, HB.out⟩
    · have ho : Sw.ok l r = true := by
        rcases Bool.eq_false_or_eq_true (Sw.ok l r) with e | e
        · exact e
        · exfalso; rw [Sw.heat_f e] at hc; omega
      have hlr : l - r = c := (Sw.heat_t ho).symm.trans hc
      obtain ⟨o1, o2, o3⟩ := Sw.ok_iff.1 ho
      obtain ⟨⟨⟨p, q⟩, b⟩, hm⟩ : ∃ c, Sw.mean l r = c := ⟨_, rfl⟩
      obtain ⟨rfl, _, _⟩ := Sw.mean_t hm ho
      have Hm := Lib.hid hm
      obtain ⟨m1, m2⟩ := Sw.mean_le hm
      obtain ⟨c1, hc1⟩ : ∃ c, Dy.cmp p q l 0 = c := ⟨_, rfl⟩
      obtain ⟨c2, hc2⟩ : ∃ c, Dy.cmp p q r 0 = c := ⟨_, rfl⟩
      rw [hc1] at m1
      rw [hc2] at m2
      have Hc1 := Lib.hid hc1
      have Hc2 := Lib.hid hc2
      clear hc ho hm hc1 hc2
      go_wp2_with fail
      refine (i_meanW l r p q true _ Hm).mono ?_
      rintro e x212 ⟨rfl, hb213⟩
      clear X3_0 X3_1 X3_l
      have X3 := Lib.hid (X3.out.step hb213)
      have HB := Lib.hid (bstep HB.out hb213)
      clear hb213
      have X3_0 := X3.out.cell0
      have X3_1 := X3.out.cell1
      have X3_l := X3.out.lt
      go_wp2_with fail
      obtain ⟨x215, hy217, hb216, z218, z219⟩ := new_box x212 (.cells #[.int .i64 p, .int .i64 q] 26)
      have X5 : Hid (Bx 26 x215 x212.heap.size p (.int .i64 q)) := Lib.hid (by rw [hy217]; exact Bx.new _ _ _ _)
      rw [← hy217]
      clear hy217
      clear X3_0 X3_1 X3_l
      have X3 := Lib.hid (X3.out.step hb216)
      have HB := Lib.hid (bstep HB.out hb216)
      clear hb216
      have X3_0 := X3.out.cell0
      have X3_1 := X3.out.cell1
      have X3_l := X3.out.lt
      have X5_0 := X5.out.cell0
      have X5_1 := X5.out.cell1
      have X5_l := X5.out.lt
      go_wp2_with fail
      refine (i_cmpW p q l 0 c1 _ Hc1).mono ?_
      rintro e x220 ⟨rfl, hb221⟩
      clear X3_0 X3_1 X3_l X5_0 X5_1 X5_l
      have X3 := Lib.hid (X3.out.step hb221)
      have X5 := Lib.hid (X5.out.step hb221)
      have HB := Lib.hid (bstep HB.out hb221)
      clear hb221
      have X3_0 := X3.out.cell0
      have X3_1 := X3.out.cell1
      have X3_l := X3.out.lt
      have X5_0 := X5.out.cell0
      have X5_1 := X5.out.cell1
      have X5_l := X5.out.lt
      go_wp2_with fail
      refine (i_cmpW p q r 0 c2 _ Hc2).mono ?_
      rintro e x223 ⟨rfl, hb224⟩
      clear X3_0 X3_1 X3_l X5_0 X5_1 X5_l
      have X3 := Lib.hid (X3.out.step hb224)
      have X5 := Lib.hid (X5.out.step hb224)
      have HB := Lib.hid (bstep HB.out hb224)
      clear hb224
      have X3_0 := X3.out.cell0
      have X3_1 := X3.out.cell1
      have X3_l := X3.out.lt
      have X5_0 := X5.out.cell0
      have X5_1 := X5.out.cell1
      have X5_l := X5.out.lt
      go_wp2_with fail
      go_ret
      exact ⟨rfl, HB.out⟩


set_option maxRecDepth 100000 in
theorem lifted (os : Os) (started : os.Started) (H : Type) (enc : TypeId × Value → H) :
    ReturnsInHanded {} Try.checked os 9 .any (Rows.fnHeatOfSpec.pre6 enc Try.prog Try.f9 Rows.fnHeatOfRow.domain false) (Rows.fnHeatOfSpec.post enc Try.prog Try.f9 false true false false) := by
  refine returnsInHanded_of_change (C := Try.checked) own started (by kernel_rfl) Try.func9
    (ChangeSpec.witness6 (enc := enc) (C := Try.checked) false ⟨#[], #[.slice none 0 0], []⟩ 8 (by kernel_rfl) (by kernel_rfl) (by kernel_rfl) (by kernel_rfl)) ?_
  intro W base args ds gs before hval0 hW hcnd _
  have hval : ∀ (j : Nat) t v, Try.f9.params[j]? = some t → args[j]? = some v → Value.okWide Try.prog W .any base t v := hval0
  have hW' := hW
  obtain ⟨p, q, hA0, hV, rfl, hfz, hnd⟩ := hW
  have hA : DataW.TrodAll enc Try.prog W 0 (fun _ => true) true Try.f9.params.toList args.toList ds p := hA0
  rw [Try.params9] at hA hval
  obtain ⟨v0, vs0, d0, ds0, p0, q0, hargs, rfl, rfl, h0, r0⟩ := trodAll_cons hA
  obtain ⟨rfl, rfl, rfl⟩ := trodAll_nil r0
  obtain rfl : args = #[v0] := by cases args; simp_all
  obtain ⟨rfl, rfl⟩ := trodVars_none hV
  obtain ⟨a0, len0, cap0, rfl⟩ := okWide_slice Try.underlying22 (hval 0 22 v0 rfl rfl)
  have k0 := h0
  have lt0 : ∀ x ∈ p0, x.block < W.heap.size := by obtain ⟨m, hm⟩ := k0; exact DataW.trod_lt m _ _ _ hm
  obtain ⟨z0, w0⟩ : ∃ zs, IsRow .u8 W a0 len0 cap0 zs := by
    obtain ⟨fuel, hf⟩ := h0
    rcases open_ints Try.underlying22 Try.underlying5 (by kernel_rfl) hf with ⟨hcs, _⟩ | ⟨x, l, c, zs, hcs, _, hl, hm, hz, _, hcell, hwz⟩
    · simp [Value.cells] at hcs
      obtain ⟨rfl, rfl, rfl⟩ := hcs
      exact ⟨[], .inl ⟨rfl, rfl, rfl, rfl⟩⟩
    · simp [Value.cells] at hcs
      obtain ⟨rfl, rfl, rfl⟩ := hcs
      exact ⟨zs, .inr ⟨_, rfl, hl, hm, by simpa using hz, hcell, hwz⟩⟩
  clear hA0 hval0
  refine (walk a0 len0 cap0 z0 W w0).mono fun e W' ⟨he, bel⟩ => ?_
  subst he
  exact ⟨_, rfl, _, _, _, [], _, [], hW', trodAll_mk1 (shut_bool Try.underlying4 _), (trodAll_cons_mk (Below.trod laidOut (by kernel_rfl) (of_decide_eq_true (by kernel_rfl)) k0 bel lt0) trodAll_mk0), rfl, bel.frame _, fun h => by cases h⟩

theorem over : Rows.fnHeatOfRow.holds Try.pinned (OpenSpec.ofChange Rows.fnHeatOfSpec) :=
  OpenClaim.holds_of_wide 9 Try.f9 rfl rfl rfl rfl rfl rfl rfl ⟨rfl, rfl, rfl, rfl, rfl⟩ rfl rfl rfl rfl rfl (by kernel_rfl) Try.func9 (by kernel_rfl)
    (of_decide_eq_true (by kernel_rfl)) (by unfold Func.isWrapper; first | (rw [if_pos (by decide +kernel)]; kernel_rfl) | (rw [if_neg (by decide +kernel)]; exact ⟨rfl, rfl⟩))
    (fun os started H enc _ => lifted os started H enc)

theorem proved : Rows.FnHeatOfSaid := over
end Go.Proofs.Ytocjlhlohlkkmaa.fnHeatOf
