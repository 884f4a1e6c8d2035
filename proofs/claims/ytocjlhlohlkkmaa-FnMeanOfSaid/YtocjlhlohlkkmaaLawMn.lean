/-
  The mean is in the middle: the law of MeanOf holds for every code. No condition.
-/
import Derived.Test.YtocjlhlohlkkmaaRows
import Derived.Test.YtocjlhlohlkkmaaSwJ
import Derived.Test.YtocjlhlohlkkmaaDyL
import Derived.Test.YtocjlhlohlkkmaaDyB
import Derived.Deep.RegionHeld3
import Derived.Deep.DeepCutAuto
import Derived.BigQuiet
import Derived.Test.YtocjlhlohlkkmaaSwD
import Derived.WalkKit
import Derived.ProofKit
import Derived.OpenShut
import Derived.ShutString
import Derived.ChangeOld
import Derived.Below
namespace Go.Proofs.Ytocjlhlohlkkmaa.fnMeanOf
set_option maxRecDepth 100000
open Go.ChangeShapes Go.WideShapes Go.ChangeAt Go.RowKit
open Go.ChangeMaps (open_string shut_string)
set_option linter.unusedVariables false

theorem own : ownKnob Try.prog.godebug = none := by kernel_rfl
theorem laidOut : laidOutB Try.prog = true := by kernel_rfl


set_option maxRecDepth 100000 in
set_option maxHeartbeats 16000000 in
theorem walk (a0 : Option Addr) (len0 cap0 : Nat) (z0 : List Int) (w : World) (w0 : IsRow .u8 w a0 len0 cap0 z0) :
    Calls Try.prog 10 #[.slice a0 len0 cap0] w fun e w' => e = .returned (.bool true) ∧ Below w.heap.size w w' := by
  by_cases hl : 1048576 < len0
  · go_enter Try.func10, Try.ntmps10
    go_wp2_with fail
    go_ret
    exact ⟨rfl, Below.refl _ _⟩
  · have hl' : decide ((1048576 : Int) < (len0 : Int)) = false := by rw [decide_eq_false_iff_not]; omega
    go_enter Try.func10, Try.ntmps10
    go_wp2_with fail
    refine (d_mean w a0 len0 cap0 z0 w0).mono ?_
    rintro e0 y0 ⟨l, r, rfl, hb⟩
    have HB := Lib.hid hb
    clear hb w0 hl'
    obtain ⟨⟨⟨p, q⟩, b⟩, hc⟩ : ∃ c, Sw.mean l r = c := ⟨_, rfl⟩
    have Hc := Lib.hid hc
    have hbb : (b != b) = false := by simp
    clear hc
    go_wp2_with fail
    obtain ⟨x1, hy3, hb2, z4, z5⟩ := new_box y0 (.cells #[.int .i64 l, .int .i64 r] 36)
    have X3 : Hid (Bx 36 x1 y0.heap.size l (.int .i64 r)) := Lib.hid (by rw [hy3]; exact Bx.new _ _ _ _)
    rw [← hy3]
    clear hy3
    have HB := Lib.hid (bstep HB.out hb2)
    clear hb2
    have X3_0 := X3.out.cell0
    have X3_1 := X3.out.cell1
    have X3_l := X3.out.lt
    go_wp2_with fail
    refine (i_meanW l r p q b _ Hc).mono ?_
    rintro e x6 ⟨rfl, hb7⟩
    clear X3_0 X3_1 X3_l
    have X3 := Lib.hid (X3.out.step hb7)
    have HB := Lib.hid (bstep HB.out hb7)
    clear hb7
    have X3_0 := X3.out.cell0
    have X3_1 := X3.out.cell1
    have X3_l := X3.out.lt
    go_wp2_with fail
    obtain ⟨x9, hy11, hb10, z12, z13⟩ := new_box x6 (.cells #[.int .i64 p, .int .i64 q] 26)
    have X4 : Hid (Bx 26 x9 x6.heap.size p (.int .i64 q)) := Lib.hid (by rw [hy11]; exact Bx.new _ _ _ _)
    rw [← hy11]
    clear hy11
    clear X3_0 X3_1 X3_l
    have X3 := Lib.hid (X3.out.step hb10)
    have HB := Lib.hid (bstep HB.out hb10)
    clear hb10
    have X3_0 := X3.out.cell0
    have X3_1 := X3.out.cell1
    have X3_l := X3.out.lt
    have X4_0 := X4.out.cell0
    have X4_1 := X4.out.cell1
    have X4_l := X4.out.lt
    go_wp2_with fail
    refine (s_meanW l r p q b _ Hc).mono ?_
    rintro e x14 ⟨rfl, hb15⟩
    clear X3_0 X3_1 X3_l X4_0 X4_1 X4_l
    have X3 := Lib.hid (X3.out.step hb15)
    have X4 := Lib.hid (X4.out.step hb15)
    have HB := Lib.hid (bstep HB.out hb15)
    clear hb15
    have X3_0 := X3.out.cell0
    have X3_1 := X3.out.cell1
    have X3_l := X3.out.lt
    have X4_0 := X4.out.cell0
    have X4_1 := X4.out.cell1
    have X4_l := X4.out.lt
    cases b with
    | false =>
      clear hbb
      go_wp2_with fail
      obtain ⟨x117, hy119, hb118, z120, z121⟩ := new_box x14 (.cells #[.int .i64 p, .int .i64 q] 26)
      have X6 : Hid (Bx 26 x117 x14.heap.size p (.int .i64 q)) := Lib.hid (by rw [hy119]; exact Bx.new _ _ _ _)
      rw [← hy119]
      clear hy119
      clear X3_0 X3_1 X3_l X4_0 X4_1 X4_l
      have X3 := Lib.hid (X3.out.step hb118)
      have X4 := Lib.hid (X4.out.step hb118)
      have HB := Lib.hid (bstep HB.out hb118)
      clear hb118
      have X3_0 := X3.out.cell0
      have X3_1 := X3.out.cell1
      have X3_l := X3.out.lt
      have X4_0 := X4.out.cell0
      have X4_1 := X4.out.cell1
      have X4_l := X4.out.lt
      have X6_0 := X6.out.cell0
      have X6_1 := X6.out.cell1
      have X6_l := X6.out.lt
      go_wp2_with fail
      go_ret
      exact ⟨rfl, HB.out⟩
    | true =>
      clear hbb
      obtain ⟨⟨o1, o2, o3⟩, o4, _⟩ := Sw.mean_val Hc.out
      obtain ⟨⟨p1, p2, _, _⟩, _⟩ := Dy.ok_iff.1 o4
      have Ht := Lib.hid (Sw.mean_twice Hc.out)
      have Hn := Lib.hid (Sw.mean_neg Hc.out)
      obtain ⟨Q, hQ⟩ : ∃ Q, l + r = Q := ⟨_, rfl⟩
      have hwQ : IntKind.i64.wrap Q = Q := IntWalk.i64_in _ (by omega)
      rw [hQ] at Ht
      clear o4
      go_wp2_with fail
      obtain ⟨x217, hy219, hb218, z220, z221⟩ := new_box x14 (.cells #[.int .i64 p, .int .i64 q] 26)
      have X6 : Hid (Bx 26 x217 x14.heap.size p (.int .i64 q)) := Lib.hid (by rw [hy219]; exact Bx.new _ _ _ _)
      rw [← hy219]
      clear hy219
      clear X3_0 X3_1 X3_l X4_0 X4_1 X4_l
      have X3 := Lib.hid (X3.out.step hb218)
      have X4 := Lib.hid (X4.out.step hb218)
      have HB := Lib.hid (bstep HB.out hb218)
      clear hb218
      have X3_0 := X3.out.cell0
      have X3_1 := X3.out.cell1
      have X3_l := X3.out.lt
      have X4_0 := X4.out.cell0
      have X4_1 := X4.out.cell1
      have X4_l := X4.out.lt
      have X6_0 := X6.out.cell0
      have X6_1 := X6.out.cell1
      have X6_l := X6.out.lt
      go_wp2_with fail
      refine (i_addW p q p q Q 0 true _ Ht).mono ?_
      rintro e x222 ⟨rfl, hb223⟩
      clear X3_0 X3_1 X3_l X4_0 X4_1 X4_l X6_0 X6_1 X6_l
      have X3 := Lib.hid (X3.out.step hb223)
      have X4 := Lib.hid (X4.out.step hb223)
      have X6 := Lib.hid (X6.out.step hb223)
      have HB := Lib.hid (bstep HB.out hb223)
      clear hb223
      have X3_0 := X3.out.cell0
      have X3_1 := X3.out.cell1
      have X3_l := X3.out.lt
      have X4_0 := X4.out.cell0
      have X4_1 := X4.out.cell1
      have X4_l := X4.out.lt
      have X6_0 := X6.out.cell0
      have X6_1 := X6.out.cell1
      have X6_l := X6.out.lt
      go_wp2_with fail
      obtain ⟨x225, hy227, hb226, z228, z229⟩ := new_box x222 (.cells #[.int .i64 Q, .int .i64 0] 26)
      have X8 : Hid (Bx 26 x225 x222.heap.size Q (.int .i64 0)) := Lib.hid (by rw [hy227]; exact Bx.new _ _ _ _)
      rw [← hy227]
      clear hy227
      clear X3_0 X3_1 X3_l X4_0 X4_1 X4_l X6_0 X6_1 X6_l
      have X3 := Lib.hid (X3.out.step hb226)
      have X4 := Lib.hid (X4.out.step hb226)
      have X6 := Lib.hid (X6.out.step hb226)
      have HB := Lib.hid (bstep HB.out hb226)
      clear hb226
      have X3_0 := X3.out.cell0
      have X3_1 := X3.out.cell1
      have X3_l := X3.out.lt
      have X4_0 := X4.out.cell0
      have X4_1 := X4.out.cell1
      have X4_l := X4.out.lt
      have X6_0 := X6.out.cell0
      have X6_1 := X6.out.cell1
      have X6_l := X6.out.lt
      have X8_0 := X8.out.cell0
      have X8_1 := X8.out.cell1
      have X8_l := X8.out.lt
      go_wp2_with fail
      refine (i_meanW (-r) (-l) (-p) q true _ Hn).mono ?_
      rintro e x230 ⟨rfl, hb231⟩
      clear X3_0 X3_1 X3_l X4_0 X4_1 X4_l X6_0 X6_1 X6_l X8_0 X8_1 X8_l
      have X3 := Lib.hid (X3.out.step hb231)
      have X4 := Lib.hid (X4.out.step hb231)
      have X6 := Lib.hid (X6.out.step hb231)
      have X8 := Lib.hid (X8.out.step hb231)
      have HB := Lib.hid (bstep HB.out hb231)
      clear hb231
      have X3_0 := X3.out.cell0
      have X3_1 := X3.out.cell1
      have X3_l := X3.out.lt
      have X4_0 := X4.out.cell0
      have X4_1 := X4.out.cell1
      have X4_l := X4.out.lt
      have X6_0 := X6.out.cell0
      have X6_1 := X6.out.cell1
      have X6_l := X6.out.lt
      have X8_0 := X8.out.cell0
      have X8_1 := X8.out.cell1
      have X8_l := X8.out.lt
      go_wp2_with fail
      obtain ⟨x233, hy235, hb234, z236, z237⟩ := new_box x230 (.cells #[.int .i64 (-p), .int .i64 q] 26)
      have X10 : Hid (Bx 26 x233 x230.heap.size (-p) (.int .i64 q)) := Lib.hid (by rw [hy235]; exact Bx.new _ _ _ _)
      rw [← hy235]
      clear hy235
      clear X3_0 X3_1 X3_l X4_0 X4_1 X4_l X6_0 X6_1 X6_l X8_0 X8_1 X8_l
      have X3 := Lib.hid (X3.out.step hb234)
      have X4 := Lib.hid (X4.out.step hb234)
      have X6 := Lib.hid (X6.out.step hb234)
      have X8 := Lib.hid (X8.out.step hb234)
      have HB := Lib.hid (bstep HB.out hb234)
      clear hb234
      have X3_0 := X3.out.cell0
      have X3_1 := X3.out.cell1
      have X3_l := X3.out.lt
      have X4_0 := X4.out.cell0
      have X4_1 := X4.out.cell1
      have X4_l := X4.out.lt
      have X6_0 := X6.out.cell0
      have X6_1 := X6.out.cell1
      have X6_l := X6.out.lt
      have X8_0 := X8.out.cell0
      have X8_1 := X8.out.cell1
      have X8_l := X8.out.lt
      have X10_0 := X10.out.cell0
      have X10_1 := X10.out.cell1
      have X10_l := X10.out.lt
      go_wp2_with fail
      have HC := Lib.hid (Below.refl x233.heap.size x233)
      go_cut [2] (fun v wx => v = .bool true ∧ Below x233.heap.size x233 wx)
      case first =>
        go_region_held3 (fun w' => w'.cell? ⟨y0.heap.size, 0, none⟩ = some (.int .i64 l) ∧ w'.cell? ⟨y0.heap.size, 1, none⟩ = some (.int .i64 r) ∧ w'.cell? ⟨x6.heap.size, 0, none⟩ = some (.int .i64 p) ∧ w'.cell? ⟨x6.heap.size, 1, none⟩ = some (.int .i64 q) ∧ w'.cell? ⟨x14.heap.size, 0, none⟩ = some (.int .i64 p) ∧ w'.cell? ⟨x14.heap.size, 1, none⟩ = some (.int .i64 q) ∧ w'.cell? ⟨x222.heap.size, 0, none⟩ = some (.int .i64 Q) ∧ w'.cell? ⟨x222.heap.size, 1, none⟩ = some (.int .i64 0) ∧ w'.cell? ⟨x230.heap.size, 0, none⟩ = some (.int .i64 (-p)) ∧ w'.cell? ⟨x230.heap.size, 1, none⟩ = some (.int .i64 q)) (first | exact ⟨X3_0, X3_1, X4_0, X4_1, X6_0, X6_1, X8_0, X8_1, X10_0, X10_1⟩ | go_keep) (first | (go_at_call 23; refine (l_minus p q _ p1 p2).mono ?_; rintro e yc ⟨rfl, hb9⟩; (try replace hb9 := undrew hb9); (with_reducible have hq9 := bstep HC.out hb9); clear hq9; have X3 := Lib.hid (Bx.step X3.out hb9); have X4 := Lib.hid (Bx.step X4.out hb9); have X6 := Lib.hid (Bx.step X6.out hb9); have X8 := Lib.hid (Bx.step X8.out hb9); have X10 := Lib.hid (Bx.step X10.out hb9); have HC := Lib.hid (bstep HC.out hb9); clear X3_0 X3_1 X3_l X4_0 X4_1 X4_l X6_0 X6_1 X6_l X8_0 X8_1 X8_l X10_0 X10_1 X10_l; have X3_0 := X3.out.cell0; have X3_1 := X3.out.cell1; have X3_l := X3.out.lt; have X4_0 := X4.out.cell0; have X4_1 := X4.out.cell1; have X4_l := X4.out.lt; have X6_0 := X6.out.cell0; have X6_1 := X6.out.cell1; have X6_l := X6.out.lt; have X8_0 := X8.out.cell0; have X8_1 := X8.out.cell1; have X8_l := X8.out.lt; have X10_0 := X10.out.cell0; have X10_1 := X10.out.cell1; have X10_l := X10.out.lt; clear hb9))
        all_goals go_wp2_with fail
        all_goals go_meet
        all_goals exact ⟨rfl, HC.out⟩
      case rest =>
        clear HC
        obtain ⟨rfl, hb238⟩ := hcut
        clear X3_0 X3_1 X3_l X4_0 X4_1 X4_l X6_0 X6_1 X6_l X8_0 X8_1 X8_l X10_0 X10_1 X10_l
        have X3 := Lib.hid (X3.out.step hb238)
        have X4 := Lib.hid (X4.out.step hb238)
        have X6 := Lib.hid (X6.out.step hb238)
        have X8 := Lib.hid (X8.out.step hb238)
        have X10 := Lib.hid (X10.out.step hb238)
        have HB := Lib.hid (bstep HB.out hb238)
        clear hb238
        have X3_0 := X3.out.cell0
        have X3_1 := X3.out.cell1
        have X3_l := X3.out.lt
        have X4_0 := X4.out.cell0
        have X4_1 := X4.out.cell1
        have X4_l := X4.out.lt
        have X6_0 := X6.out.cell0
        have X6_1 := X6.out.cell1
        have X6_l := X6.out.lt
        have X8_0 := X8.out.cell0
        have X8_1 := X8.out.cell1
        have X8_l := X8.out.lt
        have X10_0 := X10.out.cell0
        have X10_1 := X10.out.cell1
        have X10_l := X10.out.lt
        go_wp2_with fail
        go_ret
        exact ⟨rfl, HB.out⟩


set_option maxRecDepth 100000 in
theorem lifted (os : Os) (started : os.Started) (H : Type) (enc : TypeId × Value → H) :
    ReturnsInHanded {} Try.checked os 10 .any (Rows.fnMeanOfSpec.pre6 enc Try.prog Try.f10 Rows.fnMeanOfRow.domain false) (Rows.fnMeanOfSpec.post enc Try.prog Try.f10 false true false false) := by
  refine returnsInHanded_of_change (C := Try.checked) own started (by kernel_rfl) Try.func10
    (ChangeSpec.witness6 (enc := enc) (C := Try.checked) false ⟨#[], #[.slice none 0 0], []⟩ 8 (by kernel_rfl) (by kernel_rfl) (by kernel_rfl) (by kernel_rfl)) ?_
  intro W base args ds gs before hval0 hW hcnd _
  have hval : ∀ (j : Nat) t v, Try.f10.params[j]? = some t → args[j]? = some v → Value.okWide Try.prog W .any base t v := hval0
  have hW' := hW
  obtain ⟨p, q, hA0, hV, rfl, hfz, hnd⟩ := hW
  have hA : DataW.TrodAll enc Try.prog W 0 (fun _ => true) true Try.f10.params.toList args.toList ds p := hA0
  rw [Try.params10] at hA hval
  obtain ⟨v0, vs0, d0, ds0, p0, q0, hargs, rfl, rfl, h0, r0⟩ := trodAll_cons hA
  obtain ⟨rfl, rfl, rfl⟩ := trodAll_nil r0
  obtain rfl : args = #[v0] := by cases args; simp_all
  obtain ⟨rfl, rfl⟩ := trodVars_none hV
  obtain ⟨a0, len0, cap0, rfl⟩ := okWide_slice Try.underlying22 (hval 0 22 v0 rfl rfl)
  have k0 := h0
  have lt0 : ∀ x ∈ p0, x.block < W.heap.size := by obtain ⟨m, hm⟩ := k0; exact DataW.trod_lt m _ _ _ hm
  obtain ⟨z0, w0⟩ : ∃ zs, IsRow .u8 W a0 len0 cap0 zs := by
    obtain ⟨fuel, hf⟩ := h0
    rcases open_ints Try.underlying22 Try.underlying5 (by kernel_rfl) hf with ⟨hcs, _⟩ | ⟨x, l, c, zs, hcs, _, hl, hm, hz, _, hcell, hwz⟩
    · simp [Value.cells] at hcs
      obtain ⟨rfl, rfl, rfl⟩ := hcs
      exact ⟨[], .inl ⟨rfl, rfl, rfl, rfl⟩⟩
    · simp [Value.cells] at hcs
      obtain ⟨rfl, rfl, rfl⟩ := hcs
      exact ⟨zs, .inr ⟨_, rfl, hl, hm, by simpa using hz, hcell, hwz⟩⟩
  clear hA0 hval0
  refine (walk a0 len0 cap0 z0 W w0).mono fun e W' ⟨he, bel⟩ => ?_
  subst he
  exact ⟨_, rfl, _, _, _, [], _, [], hW', trodAll_mk1 (shut_bool Try.underlying4 _), (trodAll_cons_mk (Below.trod laidOut (by kernel_rfl) (of_decide_eq_true (by kernel_rfl)) k0 bel lt0) trodAll_mk0), rfl, bel.frame _, fun h => by cases h⟩

theorem over : Rows.fnMeanOfRow.holds Try.pinned (OpenSpec.ofChange Rows.fnMeanOfSpec) :=
  OpenClaim.holds_of_wide 10 Try.f10 rfl rfl rfl rfl rfl rfl rfl ⟨rfl, rfl, rfl, rfl, rfl⟩ rfl rfl rfl rfl rfl (by kernel_rfl) Try.func10 (by kernel_rfl)
    (of_decide_eq_true (by kernel_rfl)) (by unfold Func.isWrapper; first | (rw [if_pos (by decide +kernel)]; kernel_rfl) | (rw [if_neg (by decide +kernel)]; exact ⟨rfl, rfl⟩))
    (fun os started H enc _ => lifted os started H enc)

theorem proved : Rows.FnMeanOfSaid := over
end Go.Proofs.Ytocjlhlohlkkmaa.fnMeanOf
