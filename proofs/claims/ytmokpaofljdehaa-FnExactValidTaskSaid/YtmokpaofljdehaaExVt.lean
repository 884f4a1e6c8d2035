/-
  The law of the exact ValidTask: for every task the program answers as its model does, and leaves its argument as it was. No condition.
-/
import Derived.Test.YtmokpaofljdehaaRows
import Derived.Test.YtmokpaofljdehaaRows2
import Derived.Test.YtmokpaofljdehaaOpenB
import Derived.Test.YtmokpaofljdehaaOpenT
import Derived.Test.YtmokpaofljdehaaTskT
import Derived.Test.YtmokpaofljdehaaVtI
import Derived.Deep.RegionHeld3
import Derived.Deep.RegionWith
import Derived.Deep.DeepCutAuto
import Derived.Deep.QuietTactic
import Derived.WalkKit
import Derived.ProofKit
import Derived.OpenShut
import Derived.ShutString
import Derived.ChangeOld
import Derived.Below
namespace Go.Proofs.Ytmokpaofljdehaa.fnExactValidTask
set_option maxRecDepth 100000
open Go.ChangeShapes Go.WideShapes Go.ChangeAt Go.RowKit
open Go.ChangeMaps (open_string shut_string)
set_option linter.unusedVariables false

theorem own : ownKnob Try.prog.godebug = none := by kernel_rfl
theorem laidOut : laidOutB Try.prog = true := by kernel_rfl


set_option maxRecDepth 100000 in
set_option maxHeartbeats 4000000 in
theorem walk (a0 : Int) (A0 : Option Addr) (n0 c0 : Nat) (cs0 : List Int) (t0 : Int) (P0 : Option Addr) (m0 pc0 : Nat) (ps0 : List Int) (w : World) (w0 : Ints w w.heap.size A0 n0 cs0) (u0 : n0 ≤ 9223372036854775807) (v0 : Ints w w.heap.size P0 m0 ps0) (q0 : m0 ≤ 9223372036854775807) :
    Calls Try.prog 3 #[.agg #[.int .i64 a0, .slice A0 n0 c0, .int .i64 t0, .slice P0 m0 pc0]] w fun e w' => e = .returned (.bool true) ∧ Below w.heap.size w w' := by
  by_cases hsz : 1048576 < n0 + m0
  · have HB := Lib.hid ((Below.refl w.heap.size w).alloc (Nat.le_refl _) (.cells #[.int .i64 a0, .slice A0 n0 c0, .int .i64 t0, .slice P0 m0 pc0] 26))
    go_enter Try.func3, Try.ntmps3
    go_wp2_with fail
    refine (x_szT_no _ _ _ _ _ _ _ _ _ hsz u0 q0).mono ?_
    rintro e x ⟨rfl, hb⟩
    have HB := Lib.hid (HB.out.trans (hb.mono (by simp)))
    clear hb
    go_wp2_with fail
    go_ret
    exact ⟨rfl, HB.out⟩
  · have hn0 : n0 ≤ 1048576 := by omega
    have hm0 : m0 ≤ 1048576 := by omega
    obtain ⟨y0, hy0, hb0, z0, z0b⟩ := new_box w (.cells #[.int .i64 a0, .slice A0 n0 c0, .int .i64 t0, .slice P0 m0 pc0] 26)
    have V0 : Hid (Bt 26 y0 w.heap.size a0 (.slice A0 n0 c0) t0 (.slice P0 m0 pc0)) := Lib.hid (by rw [hy0]; exact Bt.new _ _ _ _ _ _)
    have I0 := Lib.hid (w0.below hb0 (Nat.le_refl _))
    have I1 := Lib.hid (v0.below hb0 (Nat.le_refl _))
    have HB := Lib.hid hb0
    obtain ⟨ob, hob⟩ : ∃ ob, okT a0 cs0 t0 ps0 = ob := ⟨_, rfl⟩
    have Hob := Lib.hid hob
    clear w0 v0 hb0 u0 q0 hob
    go_enter Try.func3, Try.ntmps3
    go_upto_region 1 with (fail)
    rw [← hy0]
    clear hy0
    have k0 := V0.out.cell0
    have k1 := V0.out.cell1
    have k2 := V0.out.cell2
    have k3 := V0.out.cell3
    go_wp2_with fail
    refine (x_szT _ _ _ _ _ _ _ _ _ (by omega)).mono ?_
    rintro e y1 ⟨kk, rfl, hb⟩
    have V0 := Lib.hid (V0.out.below hb V0.out.lt)
    have I0 := Lib.hid (I0.out.below hb (by omega))
    have I1 := Lib.hid (I1.out.below hb (by omega))
    have HB := Lib.hid (HB.out.trans (hb.mono (by omega)))
    have z_y1 := hb.size
    clear hb k0 k1 k2 k3
    have k0 := V0.out.cell0
    have k1 := V0.out.cell1
    have k2 := V0.out.cell2
    have k3 := V0.out.cell3
    go_wp2_with fail
    refine (x_toT _ _ _ _ _ _ _ _ _ _ _ cs0 ps0 I0.out I1.out (by omega) (by omega) hn0 hm0).mono ?_
    rintro e y2 ⟨A1, c1, P1, pc1, rfl, ho, hp, _, hb⟩
    have HO := Lib.hid ho
    have HP := Lib.hid hp
    have V0 := Lib.hid (V0.out.below hb V0.out.lt)
    have I0 := Lib.hid (I0.out.below hb (by omega))
    have I1 := Lib.hid (I1.out.below hb (by omega))
    have HB := Lib.hid (HB.out.trans (hb.mono (by omega)))
    have z_y2 := hb.size
    clear hb k0 k1 k2 k3 ho hp
    go_wp2_with fail
    refine (s_VT _ _ _ _ _ _ _ _ _ _ _ cs0 ps0 HO.out.ints HP.out.ints (Nat.le_refl _) (Nat.le_refl _) hn0 hm0).mono ?_
    rintro e y3 ⟨rfl, hb⟩
    rw [Hob.out]
    have V0 := Lib.hid (V0.out.below hb V0.out.lt)
    have I0 := Lib.hid (I0.out.below hb (by omega))
    have I1 := Lib.hid (I1.out.below hb (by omega))
    have HB := Lib.hid (HB.out.trans (hb.mono (by omega)))
    have z_y3 := hb.size
    clear hb HO HP
    have k0 := V0.out.cell0
    have k1 := V0.out.cell1
    have k2 := V0.out.cell2
    have k3 := V0.out.cell3
    go_wp2_with fail
    refine (x_toT _ _ _ _ _ _ _ _ _ _ _ cs0 ps0 I0.out I1.out (by omega) (by omega) hn0 hm0).mono ?_
    rintro e y4 ⟨A2, c2, P2, pc2, rfl, ho, hp, _, hb⟩
    have HO := Lib.hid ho
    have HP := Lib.hid hp
    have V0 := Lib.hid (V0.out.below hb V0.out.lt)
    have I0 := Lib.hid (I0.out.below hb (by omega))
    have I1 := Lib.hid (I1.out.below hb (by omega))
    have HB := Lib.hid (HB.out.trans (hb.mono (by omega)))
    have z_y4 := hb.size
    clear hb k0 k1 k2 k3 ho hp
    go_upto_region 7 with (fail)
    obtain ⟨y5, hy5, hb, z5, z5b⟩ := new_box y4 (.cells #[.int .i64 a0, .slice A2 n0 c2, .int .i64 t0, .slice P2 m0 pc2] 31)
    have V5 : Hid (Bt 31 y5 y4.heap.size a0 (.slice A2 n0 c2) t0 (.slice P2 m0 pc2)) := Lib.hid (by rw [hy5]; exact Bt.new _ _ _ _ _ _)
    rw [← hy5]
    clear hy5
    have V0 := Lib.hid (V0.out.below hb V0.out.lt)
    have I0 := Lib.hid (I0.out.below hb (by omega))
    have I1 := Lib.hid (I1.out.below hb (by omega))
    have HB := Lib.hid (HB.out.trans (hb.mono (by omega)))
    have z_y5 := hb.size
    have HO := Lib.hid (HO.out.below hb)
    have HP := Lib.hid (HP.out.below hb)
    clear hb
    have k0 := V5.out.cell0
    have k1 := V5.out.cell1
    have k2 := V5.out.cell2
    have k3 := V5.out.cell3
    go_wp2_with fail
    refine (i_VT _ _ _ _ _ _ _ _ _ _ _ cs0 ps0 HO.out.ints HP.out.ints (by omega) (by omega) hn0 hm0).mono ?_
    rintro e y6 ⟨rfl, hb⟩
    rw [Hob.out]
    have V0 := Lib.hid (V0.out.below hb V0.out.lt)
    have V5 := Lib.hid (V5.out.below hb V5.out.lt)
    have I0 := Lib.hid (I0.out.below hb (by omega))
    have I1 := Lib.hid (I1.out.below hb (by omega))
    have HB := Lib.hid (HB.out.trans (hb.mono (by omega)))
    have z_y6 := hb.size
    have HO := Lib.hid (HO.out.below hb)
    have HP := Lib.hid (HP.out.below hb)
    clear hb k0 k1 k2 k3
    have k0 := V5.out.cell0
    have l0 := V0.out.cell0
    have k1 := V5.out.cell1
    have l1 := V0.out.cell1
    have k2 := V5.out.cell2
    have l2 := V0.out.cell2
    have k3 := V5.out.cell3
    have l3 := V0.out.cell3
    have HOi := Lib.hid (HO.out.ints)
    have HPi := Lib.hid (HP.out.ints)
    go_wp2_with fail
    go_region_held3 (fun w' => w'.cell? ⟨y4.heap.size, 0, none⟩ = some (.int .i64 a0) ∧ w'.cell? ⟨y4.heap.size, 1, none⟩ = some (.slice A2 n0 c2) ∧ w'.cell? ⟨y4.heap.size, 2, none⟩ = some (.int .i64 t0) ∧ w'.cell? ⟨y4.heap.size, 3, none⟩ = some (.slice P2 m0 pc2) ∧ w'.cell? ⟨w.heap.size, 0, none⟩ = some (.int .i64 a0) ∧ w'.cell? ⟨w.heap.size, 1, none⟩ = some (.slice A0 n0 c0) ∧ w'.cell? ⟨w.heap.size, 2, none⟩ = some (.int .i64 t0) ∧ w'.cell? ⟨w.heap.size, 3, none⟩ = some (.slice P0 m0 pc0)) (first | exact ⟨k0, k1, k2, k3, l0, l1, l2, l3⟩ | go_keep) (first | (go_at_call 13; refine (x_toT _ _ _ w.heap.size w.heap.size _ _ _ _ _ _ cs0 ps0 (by exact I0.out) (by exact I1.out) (by show w.heap.size ≤ y6.heap.size; omega) (by show w.heap.size ≤ y6.heap.size; omega) hn0 hm0).mono ?_; rintro e y7 ⟨A3, c3, P3, pc3, rfl, ho, hp, _, hb⟩; have hbw : Below y6.heap.size y6 y7 := ⟨hb.os, hb.tape, hb.output, hb.size, hb.block⟩; have H3 : Hid (Own y7 y6.heap.size A3 n0 c3 cs0) := Lib.hid ho; have P3h : Hid (Own y7 y6.heap.size P3 m0 pc3 ps0) := Lib.hid hp; have V5 := Lib.hid (V5.out.below hbw V5.out.lt); have V0 := Lib.hid (V0.out.below hbw V0.out.lt); have HOj := Lib.hid (HO.out.below hbw); have HPj := Lib.hid (HP.out.below hbw); have HC := Lib.hid hbw; have k0 := V5.out.cell0; have l0 := V0.out.cell0; have k1 := V5.out.cell1; have l1 := V0.out.cell1; have k2 := V5.out.cell2; have l2 := V0.out.cell2; have k3 := V5.out.cell3; have l3 := V0.out.cell3; clear ho hp hb hbw) | (go_at_call 15; refine (x_eqT _ a0 t0 _ _ _ _ _ _ _ _ n0 _ _ m0 _ _ cs0 ps0 (by exact HOj.out.ints) (by exact H3.out.ints) (by exact HPj.out.ints) (by exact P3h.out.ints) (Nat.le_refl _) (Nat.le_refl _) (Nat.le_refl _) (Nat.le_refl _) (by omega) (by omega)).mono ?_; rintro e y8 ⟨rfl, hb⟩; have hbw : Below y7.heap.size y7 y8 := ⟨hb.os, hb.tape, hb.output, hb.size, hb.block⟩; have V5 := Lib.hid (V5.out.below hbw V5.out.lt); have V0 := Lib.hid (V0.out.below hbw V0.out.lt); have HC := Lib.hid (HC.out.trans (hbw.mono HC.out.size)); have k0 := V5.out.cell0; have l0 := V0.out.cell0; have k1 := V5.out.cell1; have l1 := V0.out.cell1; have k2 := V5.out.cell2; have l2 := V0.out.cell2; have k3 := V5.out.cell3; have l3 := V0.out.cell3; clear hb hbw))
    have HF := Lib.hid (HB.out.trans (HC.out.mono (by omega)))
    go_wp2_with fail
    go_ret
    exact ⟨rfl, HF.out⟩

set_option maxRecDepth 100000 in
theorem lifted (os : Os) (started : os.Started) (H : Type) (enc : TypeId × Value → H) :
    ReturnsInHanded {} Try.checked os 3 .any (Rows.fnExactValidTaskSpec.pre6 enc Try.prog Try.f3 Rows.fnExactValidTaskRow.domain false) (Rows.fnExactValidTaskSpec.post enc Try.prog Try.f3 false true false false) := by
  refine returnsInHanded_of_change (C := Try.checked) own started (by kernel_rfl) Try.func3
    (ChangeSpec.witness6 (enc := enc) (C := Try.checked) false ⟨#[], #[.agg #[.int .i64 0, .slice none 0 0, .int .i64 0, .slice none 0 0]], []⟩ 8 (by kernel_rfl) (by kernel_rfl) (by kernel_rfl) (by kernel_rfl)) ?_
  intro W base args ds gs before hval0 hW hcnd _
  have hval : ∀ (j : Nat) t v, Try.f3.params[j]? = some t → args[j]? = some v → Value.okWide Try.prog W .any base t v := hval0
  have hW' := hW
  obtain ⟨p, q, hA0, hV, rfl, hfz, hnd⟩ := hW
  have hA : DataW.TrodAll enc Try.prog W 0 (fun _ => true) true Try.f3.params.toList args.toList ds p := hA0
  rw [Try.params3] at hA hval
  obtain ⟨v0, vs0, d0, ds0, p0, q0, hargs, rfl, rfl, h0, r0⟩ := trodAll_cons hA
  obtain ⟨rfl, rfl, rfl⟩ := trodAll_nil r0
  obtain rfl : args = #[v0] := by cases args; simp_all
  obtain ⟨rfl, rfl⟩ := trodVars_none hV
  have k0 := h0
  have lt0 : ∀ x ∈ p0, x.block < W.heap.size := by obtain ⟨m, hm⟩ := k0; exact DataW.trod_lt m _ _ _ hm
  obtain ⟨a0, A0, n0, c0, cs0, t0, P0, m0, pc0, ps0, rfl, w0, u0, vv0, qq0⟩ := open_task (hval 0 26 v0 rfl rfl) h0
  clear hA0 hval0
  refine (walk a0 A0 n0 c0 cs0 t0 P0 m0 pc0 ps0 W w0 u0 vv0 qq0).mono fun e W' ⟨he, bel⟩ => ?_
  subst he
  exact ⟨_, rfl, _, _, _, [], _, [], hW', trodAll_mk1 (shut_bool Try.underlying4 _), (trodAll_cons_mk (Below.trod laidOut (by kernel_rfl) (of_decide_eq_true (by kernel_rfl)) k0 bel lt0) trodAll_mk0), rfl, bel.frame _, fun h => by cases h⟩

theorem over : Rows.fnExactValidTaskRow.holds Try.pinned (OpenSpec.ofChange Rows.fnExactValidTaskSpec) :=
  OpenClaim.holds_of_wide 3 Try.f3 rfl rfl rfl rfl rfl rfl rfl ⟨rfl, rfl, rfl, rfl, rfl⟩ rfl rfl rfl rfl rfl (by kernel_rfl) Try.func3 (by kernel_rfl)
    (of_decide_eq_true (by kernel_rfl)) (by unfold Func.isWrapper; first | (rw [if_pos (by decide +kernel)]; kernel_rfl) | (rw [if_neg (by decide +kernel)]; exact ⟨rfl, rfl⟩))
    (fun os started H enc _ => lifted os started H enc)

theorem proved : Rows.FnExactValidTaskSaid := over
end Go.Proofs.Ytmokpaofljdehaa.fnExactValidTask
