/-
  New boards are empty: the law holds for every code. No condition.
-/
import Derived.Test.YtmddkifadknlfaaLawBnKit
import Derived.Test.YtmddkifadknlfaaRows
import Derived.Deep.RegionHeld3
import Derived.Deep.RegionWith
import Derived.Deep.DeepCutAuto
import Derived.WalkKit
import Derived.ProofKit
import Derived.OpenShut
import Derived.ShutString
import Derived.ChangeOld
import Derived.Below
namespace Go.Proofs.Ytmddkifadknlfaa.fnBoardNew
set_option maxRecDepth 100000
open Go.ChangeShapes Go.WideShapes Go.ChangeAt Go.RowKit
open Go.ChangeMaps (open_string shut_string)
set_option linter.unusedVariables false

theorem own : ownKnob Try.prog.godebug = none := by kernel_rfl
theorem laidOut : laidOutB Try.prog = true := by kernel_rfl


set_option maxRecDepth 100000 in
set_option maxHeartbeats 16000000 in
theorem walk (a0 : Option Addr) (len0 cap0 : Nat) (z0 : List Int) (w : World) (w0 : IsRow .u8 w a0 len0 cap0 z0) :
    Calls Try.prog 4 #[.slice a0 len0 cap0] w fun e w' => e = .returned (.bool true) ∧ Below w.heap.size w w' := by
  by_cases hl : 1048576 < len0
  · go_enter Try.func4, Try.ntmps4
    go_wp2_with fail
    go_ret
    exact ⟨rfl, Below.refl _ _⟩
  · have hl' : decide ((1048576 : Int) < (len0 : Int)) = false := by rw [decide_eq_false_iff_not]; omega
    go_enter Try.func4, Try.ntmps4
    go_wp2_with fail
    refine (d_bn w a0 len0 cap0 z0 w0).mono ?_
    rintro e y0 ⟨s, rfl, s0, s8, hb⟩
    have HB := Lib.hid hb
    clear hb w0 hl'
    by_cases hv : Pt.okS s = true
    · obtain ⟨s1, s7⟩ := (Pt.okS_iff s).1 hv
      obtain ⟨n, hn⟩ : ∃ n, (s * s).toNat = n := ⟨_, rfl⟩
      obtain ⟨Z, hZ⟩ : ∃ Z, List.replicate (s * s).toNat (0 : Int) = Z := ⟨_, rfl⟩
      have hn49 : n ≤ 49 := by have := (sq_len s s1 s7).2; omega
      have hz : (s == 0) = false := by simp; omega
      have Hn := Lib.hid hn
      have HZ := Lib.hid hZ
      have Hv : Hid (Bd.okB s Z = true) := Lib.hid (by rw [← hZ]; exact okB_repl s s1 s7)
      have Hmv : Hid (∀ k, 0 ≤ k → k < 8 → Bd.mv s k Z = Z) := Lib.hid (fun k k1 k2 => by rw [← hZ]; exact mv_repl s s1 s7 k k1 k2)
      have Hct : Hid (cntB s Z 0 = s * s) := Lib.hid (by rw [← hZ]; exact cnt_repl s s1 s7)
      have hsq := Pt.sq_bd s s1 s7
      clear hn hZ hv
      go_wp2_with fail
      refine (i_newV s s1 s7 _ n Z Hn.out HZ.out).mono ?_
      rintro e x1 ⟨A1, c1, rfl, ho3, hb2⟩
      have HB := Lib.hid (bstep HB.out hb2)
      have I1 := Lib.hid ho3.ints
      have lenI1 := ho3.1
      clear lenI1
      clear hb2 ho3
      go_wp2_with fail
      obtain ⟨x4, hy6, hb5, z7, z8⟩ := new_box x1 (.cells #[.int .i64 s, .slice A1 n c1] 25)
      have X1 : Hid (Bx 25 x4 x1.heap.size s (.slice A1 n c1)) := Lib.hid (by rw [hy6]; exact Bx.new _ _ _ _)
      rw [← hy6]
      clear hy6
      have I1 := Lib.hid (I1.out.step hb5)
      have HB := Lib.hid (bstep HB.out hb5)
      clear hb5
      have X1_0 := X1.out.cell0
      have X1_1 := X1.out.cell1
      have X1_l := X1.out.lt
      go_wp2_with fail
      have HC := Lib.hid (Below.refl x4.heap.size x4)
      go_cut [22] (fun v wx => v = .bool false ∧ Below x4.heap.size x4 wx)
      case first =>
        go_region_with (first | (go_at_call 13; refine (s_newV s s1 s7 _ n Z Hn.out HZ.out).mono ?_; rintro e yc ⟨A2, c2, rfl, ho9, hb9⟩; (try replace hb9 := undrew hb9); (try (have X1 := Lib.hid (X1.out.step hb9))); (try (have I1 := Lib.hid (I1.out.step hb9))); (try (have R2 := Lib.hid (R2.out.step hb9))); have HC := Lib.hid (bstep HC.out hb9); have X1_0 := X1.out.cell0; have X1_1 := X1.out.cell1; have X1_l := X1.out.lt; have R2 := Lib.hid ho9.ints; have lenR2 := ho9.1; clear lenR2; clear hb9 ho9) | (go_at_call 12; refine (l_eqB s _ _ _ _ _ _ Z (by exact I1.out) (by exact R2.out) (by omega)).mono ?_; rintro e yc ⟨rfl, hb9⟩; (try replace hb9 := undrew hb9); (try (have X1 := Lib.hid (X1.out.step hb9))); (try (have I1 := Lib.hid (I1.out.step hb9))); (try (have R2 := Lib.hid (R2.out.step hb9))); have HC := Lib.hid (bstep HC.out hb9); have X1_0 := X1.out.cell0; have X1_1 := X1.out.cell1; have X1_l := X1.out.lt; clear hb9))
        all_goals go_wp2_with fail
        all_goals go_meet
        all_goals exact ⟨rfl, HC.out⟩
      case rest =>
        clear HC
        obtain ⟨rfl, hb9⟩ := hcut
        clear X1_0 X1_1 X1_l
        have X1 := Lib.hid (X1.out.step hb9)
        have I1 := Lib.hid (I1.out.step hb9)
        have HB := Lib.hid (bstep HB.out hb9)
        clear hb9
        have X1_0 := X1.out.cell0
        have X1_1 := X1.out.cell1
        have X1_l := X1.out.lt
        go_wp2_with fail
        clear X1_0 X1_1 X1_l
        go_loopw [5] (fun v wr => ∃ k : Nat, k ≤ 8 ∧ v = .int .i64 (k : Nat) ∧ Below wc.heap.size wc wr) (fun v _ => 8 - (intOf v).toNat)
        case atStart => exact ⟨0, by omega, rfl, Below.refl _ _⟩
        case round =>
          obtain ⟨k, hk, rfl, hbr⟩ := hrel
          have HL := Lib.hid hbr
          have X1 := Lib.hid (X1.out.step hbr)
          have I1 := Lib.hid (I1.out.step hbr)
          have HB := Lib.hid (bstep HB.out hbr)
          clear hbr
          have X1_0 := X1.out.cell0
          have X1_1 := X1.out.cell1
          have X1_l := X1.out.lt
          by_cases hkn : k < 8
          · have hkI : (k : Int) < 8 := by omega
            have Hkk := Lib.hid ((Pt.okK_iff (k : Nat)).2 ⟨by omega, hkI⟩)
            have Hmk := Lib.hid (Hmv.out (k : Nat) (by omega) hkI)
            clear Hmv
            go_wp2_with fail
            have HC := Lib.hid (Below.refl wr.heap.size wr)
            go_cut [36] (fun v wx => v = .bool false ∧ Below wr.heap.size wr wx)
            case first =>
              go_region_with (first | (go_at_call 14; refine (i_trW s (k : Nat) _ _ _ _ Z Z (by exact I1.out) hn49 Hv.out Hkk.out Hmk.out).mono ?_; rintro e yc ⟨A7, c7, rfl, ho9, hb9⟩; (try replace hb9 := undrew hb9); (try (have X1 := Lib.hid (X1.out.step hb9))); (try (have I1 := Lib.hid (I1.out.step hb9))); (try (have R7 := Lib.hid (R7.out.step hb9))); have HC := Lib.hid (bstep HC.out hb9); have X1_0 := X1.out.cell0; have X1_1 := X1.out.cell1; have X1_l := X1.out.lt; have R7 := Lib.hid ho9.ints; have lenR7 := ho9.1; clear lenR7; clear hb9 ho9) | (go_at_call 12; refine (l_eqB s _ _ _ _ _ _ Z (by exact R7.out) (by exact I1.out) (by omega)).mono ?_; rintro e yc ⟨rfl, hb9⟩; (try replace hb9 := undrew hb9); (try (have X1 := Lib.hid (X1.out.step hb9))); (try (have I1 := Lib.hid (I1.out.step hb9))); (try (have R7 := Lib.hid (R7.out.step hb9))); have HC := Lib.hid (bstep HC.out hb9); have X1_0 := X1.out.cell0; have X1_1 := X1.out.cell1; have X1_l := X1.out.lt; clear hb9))
              all_goals go_wp2_with fail
              all_goals go_meet
              all_goals exact ⟨rfl, HC.out⟩
            case rest =>
              clear HC
              obtain ⟨rfl, hb60⟩ := hcut
              clear X1_0 X1_1 X1_l
              have X1 := Lib.hid (X1.out.step hb60)
              have I1 := Lib.hid (I1.out.step hb60)
              have HB := Lib.hid (bstep HB.out hb60)
              have HL := Lib.hid (bstep HL.out hb60)
              clear hb60
              have X1_0 := X1.out.cell0
              have X1_1 := X1.out.cell1
              have X1_l := X1.out.lt
              go_wp2_with fail
              go_roundw
              case rel => exact ⟨k + 1, by omega, by go_num, HL.out⟩
              case measure => simp [intOf]; omega
          · go_wp2_with fail
            refine (i_vbW s _ _ _ _ Z true I1.out hn49 Hv.out).mono ?_
            rintro e x110 ⟨rfl, hb111⟩
            clear X1_0 X1_1 X1_l
            have X1 := Lib.hid (X1.out.step hb111)
            have I1 := Lib.hid (I1.out.step hb111)
            have HB := Lib.hid (bstep HB.out hb111)
            clear hb111
            have X1_0 := X1.out.cell0
            have X1_1 := X1.out.cell1
            have X1_l := X1.out.lt
            go_wp2_with fail
            refine (i_cntV s _ _ _ _ Z 0 (s * s) I1.out hn49 Hct.out).mono ?_
            rintro e x113 ⟨rfl, hb114⟩
            clear X1_0 X1_1 X1_l
            have X1 := Lib.hid (X1.out.step hb114)
            have I1 := Lib.hid (I1.out.step hb114)
            have HB := Lib.hid (bstep HB.out hb114)
            clear hb114
            have X1_0 := X1.out.cell0
            have X1_1 := X1.out.cell1
            have X1_l := X1.out.lt
            go_wp2_with fail
            go_ret
            exact ⟨by first | rfl | simp, HB.out⟩
    · have hv0 : Pt.okS s = false := by simpa using hv
      have Hv := Lib.hid hv0
      clear hv hv0
      go_wp2_with fail
      refine (i_newN s Hv.out _).mono ?_
      rintro e x701 ⟨A1, c1, rfl, ho703, hb702⟩
      have HB := Lib.hid (bstep HB.out hb702)
      have I1 := Lib.hid ho703.ints
      have lenI1 := ho703.1
      clear lenI1
      clear hb702 ho703
      go_wp2_with fail
      obtain ⟨x704, hy706, hb705, z707, z708⟩ := new_box x701 (.cells #[.int .i64 0, .slice A1 0 c1] 25)
      have X1 : Hid (Bx 25 x704 x701.heap.size 0 (.slice A1 0 c1)) := Lib.hid (by rw [hy706]; exact Bx.new _ _ _ _)
      rw [← hy706]
      clear hy706
      have I1 := Lib.hid (I1.out.step hb705)
      have HB := Lib.hid (bstep HB.out hb705)
      clear hb705
      have X1_0 := X1.out.cell0
      have X1_1 := X1.out.cell1
      have X1_l := X1.out.lt
      go_wp2_with fail
      have HC := Lib.hid (Below.refl x704.heap.size x704)
      go_cut [22] (fun v wx => v = .bool true ∧ Below x704.heap.size x704 wx)
      case first =>
        go_region_with (first | (go_at_call 13; refine (s_newN s Hv.out _).mono ?_; rintro e yc ⟨A2, c2, rfl, ho9, hb9⟩; (try replace hb9 := undrew hb9); (try (have X1 := Lib.hid (X1.out.step hb9))); (try (have I1 := Lib.hid (I1.out.step hb9))); (try (have R2 := Lib.hid (R2.out.step hb9))); have HC := Lib.hid (bstep HC.out hb9); have X1_0 := X1.out.cell0; have X1_1 := X1.out.cell1; have X1_l := X1.out.lt; have R2 := Lib.hid ho9.ints; have lenR2 := ho9.1; clear lenR2; clear hb9 ho9) | (go_at_call 12; refine (l_eqB 0 _ _ _ _ _ _ [] (by exact I1.out) (by exact R2.out) (by omega)).mono ?_; rintro e yc ⟨rfl, hb9⟩; (try replace hb9 := undrew hb9); (try (have X1 := Lib.hid (X1.out.step hb9))); (try (have I1 := Lib.hid (I1.out.step hb9))); (try (have R2 := Lib.hid (R2.out.step hb9))); have HC := Lib.hid (bstep HC.out hb9); have X1_0 := X1.out.cell0; have X1_1 := X1.out.cell1; have X1_l := X1.out.lt; clear hb9))
        all_goals go_wp2_with fail
        all_goals go_meet
        all_goals exact ⟨rfl, HC.out⟩
      case rest =>
        clear HC
        obtain ⟨rfl, hb709⟩ := hcut
        clear X1_0 X1_1 X1_l
        have X1 := Lib.hid (X1.out.step hb709)
        have I1 := Lib.hid (I1.out.step hb709)
        have HB := Lib.hid (bstep HB.out hb709)
        clear hb709
        have X1_0 := X1.out.cell0
        have X1_1 := X1.out.cell1
        have X1_l := X1.out.lt
        go_wp2_with fail
        have HC := Lib.hid (Below.refl wc.heap.size wc)
        go_cut [2] (fun v wx => v = .bool true ∧ Below wc.heap.size wc wx)
        case first =>
          go_region_with (first | (go_at_call 13; refine (s_newN s Hv.out _).mono ?_; rintro e yc ⟨A3, c3, rfl, ho9, hb9⟩; (try replace hb9 := undrew hb9); (try (have X1 := Lib.hid (X1.out.step hb9))); (try (have I1 := Lib.hid (I1.out.step hb9))); (try (have R3 := Lib.hid (R3.out.step hb9))); have HC := Lib.hid (bstep HC.out hb9); have X1_0 := X1.out.cell0; have X1_1 := X1.out.cell1; have X1_l := X1.out.lt; have R3 := Lib.hid ho9.ints; have lenR3 := ho9.1; clear lenR3; clear hb9 ho9) | (go_at_call 12; refine (l_eqB 0 _ _ _ _ _ _ [] (by exact I1.out) (by exact R3.out) (by omega)).mono ?_; rintro e yc ⟨rfl, hb9⟩; (try replace hb9 := undrew hb9); (try (have X1 := Lib.hid (X1.out.step hb9))); (try (have I1 := Lib.hid (I1.out.step hb9))); (try (have R3 := Lib.hid (R3.out.step hb9))); have HC := Lib.hid (bstep HC.out hb9); have X1_0 := X1.out.cell0; have X1_1 := X1.out.cell1; have X1_l := X1.out.lt; clear hb9))
          all_goals go_wp2_with fail
          all_goals go_meet
          all_goals exact ⟨rfl, HC.out⟩
        case rest =>
          clear HC
          obtain ⟨rfl, hb710⟩ := hcut
          clear X1_0 X1_1 X1_l
          have X1 := Lib.hid (X1.out.step hb710)
          have I1 := Lib.hid (I1.out.step hb710)
          have HB := Lib.hid (bstep HB.out hb710)
          clear hb710
          have X1_0 := X1.out.cell0
          have X1_1 := X1.out.cell1
          have X1_l := X1.out.lt
          go_wp2_with fail
          go_ret
          exact ⟨rfl, HB.out⟩


set_option maxRecDepth 100000 in
theorem lifted (os : Os) (started : os.Started) (H : Type) (enc : TypeId × Value → H) :
    ReturnsInHanded {} Try.checked os 4 .any (Rows.fnBoardNewSpec.pre6 enc Try.prog Try.f4 Rows.fnBoardNewRow.domain false) (Rows.fnBoardNewSpec.post enc Try.prog Try.f4 false true false false) := by
  refine returnsInHanded_of_change (C := Try.checked) own started (by kernel_rfl) Try.func4
    (ChangeSpec.witness6 (enc := enc) (C := Try.checked) false ⟨#[], #[.slice none 0 0], []⟩ 8 (by kernel_rfl) (by kernel_rfl) (by kernel_rfl) (by kernel_rfl)) ?_
  intro W base args ds gs before hval0 hW hcnd _
  have hval : ∀ (j : Nat) t v, Try.f4.params[j]? = some t → args[j]? = some v → Value.okWide Try.prog W .any base t v := hval0
  have hW' := hW
  obtain ⟨p, q, hA0, hV, rfl, hfz, hnd⟩ := hW
  have hA : DataW.TrodAll enc Try.prog W 0 (fun _ => true) true Try.f4.params.toList args.toList ds p := hA0
  rw [Try.params4] at hA hval
  obtain ⟨v0, vs0, d0, ds0, p0, q0, hargs, rfl, rfl, h0, r0⟩ := trodAll_cons hA
  obtain ⟨rfl, rfl, rfl⟩ := trodAll_nil r0
  obtain rfl : args = #[v0] := by cases args; simp_all
  obtain ⟨rfl, rfl⟩ := trodVars_none hV
  obtain ⟨a0, len0, cap0, rfl⟩ := okWide_slice Try.underlying22 (hval 0 22 v0 rfl rfl)
  have k0 := h0
  have lt0 : ∀ x ∈ p0, x.block < W.heap.size := by obtain ⟨m, hm⟩ := k0; exact DataW.trod_lt m _ _ _ hm
  obtain ⟨z0, w0⟩ : ∃ zs, IsRow .u8 W a0 len0 cap0 zs := by
    obtain ⟨fuel, hf⟩ := h0
    rcases open_ints Try.underlying22 Try.underlying5 (by kernel_rfl) hf with ⟨hcs, _⟩ | ⟨x, l, c, zs, hcs, _, hl, hm, hz, _, hcell, hwz⟩
    · simp [Value.cells] at hcs
      obtain ⟨rfl, rfl, rfl⟩ := hcs
      exact ⟨[], .inl ⟨rfl, rfl, rfl, rfl⟩⟩
    · simp [Value.cells] at hcs
      obtain ⟨rfl, rfl, rfl⟩ := hcs
      exact ⟨zs, .inr ⟨_, rfl, hl, hm, by simpa using hz, hcell, hwz⟩⟩
  clear hA0 hval0
  refine (walk a0 len0 cap0 z0 W w0).mono fun e W' ⟨he, bel⟩ => ?_
  subst he
  exact ⟨_, rfl, _, _, _, [], _, [], hW', trodAll_mk1 (shut_bool Try.underlying4 _), (trodAll_cons_mk (Below.trod laidOut (by kernel_rfl) (of_decide_eq_true (by kernel_rfl)) k0 bel lt0) trodAll_mk0), rfl, bel.frame _, fun h => by cases h⟩

theorem over : Rows.fnBoardNewRow.holds Try.pinned (OpenSpec.ofChange Rows.fnBoardNewSpec) :=
  OpenClaim.holds_of_wide 4 Try.f4 rfl rfl rfl rfl rfl rfl rfl ⟨rfl, rfl, rfl, rfl, rfl⟩ rfl rfl rfl rfl rfl (by kernel_rfl) Try.func4 (by kernel_rfl)
    (of_decide_eq_true (by kernel_rfl)) (by unfold Func.isWrapper; first | (rw [if_pos (by decide +kernel)]; kernel_rfl) | (rw [if_neg (by decide +kernel)]; exact ⟨rfl, rfl⟩))
    (fun os started H enc _ => lifted os started H enc)

theorem proved : Rows.FnBoardNewSaid := over
end Go.Proofs.Ytmddkifadknlfaa.fnBoardNew
