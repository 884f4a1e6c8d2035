/-
  Patterns move with the board: the law of PatternAt holds for every code. No condition.
-/
import Derived.Test.YtpopbcmfbcmojaaLawPaKit
import Derived.Test.YtpopbcmfbcmojaaRows
import Derived.Deep.LoopGhost
import Derived.Deep.RegionHeld3
import Derived.Deep.RegionWith
import Derived.Deep.DeepCutAuto
import Derived.WalkKit
import Derived.ProofKit
import Derived.OpenShut
import Derived.ShutString
import Derived.ChangeOld
import Derived.Below
namespace Go.Proofs.Ytpopbcmfbcmojaa.fnPatternAt
set_option maxRecDepth 100000
open Go.ChangeShapes Go.WideShapes Go.ChangeAt Go.RowKit
open Go.ChangeMaps (open_string shut_string)
set_option linter.unusedVariables false

theorem own : ownKnob Try.prog.godebug = none := by kernel_rfl
theorem laidOut : laidOutB Try.prog = true := by kernel_rfl


set_option maxRecDepth 100000 in
set_option maxHeartbeats 16000000 in
theorem walk (a0 : Option Addr) (len0 cap0 : Nat) (z0 : List Int) (w : World) (w0 : IsRow .u8 w a0 len0 cap0 z0) :
    Calls Try.prog 3 #[.slice a0 len0 cap0] w fun e w' => e = .returned (.bool true) ∧ Below w.heap.size w w' := by
  by_cases hl : 1048576 < len0
  · go_enter Try.func3, Try.ntmps3
    go_wp2_with fail
    go_ret
    exact ⟨rfl, Below.refl _ _⟩
  · have hl' : decide ((1048576 : Int) < (len0 : Int)) = false := by rw [decide_eq_false_iff_not]; omega
    go_enter Try.func3, Try.ntmps3
    go_wp2_with fail
    refine (d_patAt w a0 len0 cap0 z0 w0).mono ?_
    rintro e y0 ⟨s, A, n, c, cs, p, rfl, hi, hn49, s0, s8, hp9, hb⟩
    have I0 := Lib.hid hi
    have HB := Lib.hid hb
    clear hi hb w0 hl'
    obtain ⟨v, hv⟩ : ∃ v, Pa.ans s cs p = v := ⟨_, rfl⟩
    have Hv := Lib.hid hv
    have hvb : (v != v) = false := by simp
    have hvv : (v == v) = true := by simp
    go_wp2_with fail
    obtain ⟨x1, hy3, hb2, z4, z5⟩ := new_box y0 (.cells #[.int .i64 s, .slice A n c] 25)
    have X3 : Hid (Bx 25 x1 y0.heap.size s (.slice A n c)) := Lib.hid (by rw [hy3]; exact Bx.new _ _ _ _)
    rw [← hy3]
    clear hy3
    have I0 := Lib.hid (I0.out.step hb2)
    have HB := Lib.hid (bstep HB.out hb2)
    clear hb2
    have X3_0 := X3.out.cell0
    have X3_1 := X3.out.cell1
    have X3_l := X3.out.lt
    go_wp2_with fail
    refine (i_patW s p v _ A n c cs I0.out hn49 Hv).mono ?_
    rintro e x6 ⟨rfl, hb7⟩
    clear X3_0 X3_1 X3_l
    have X3 := Lib.hid (X3.out.step hb7)
    have I0 := Lib.hid (I0.out.step hb7)
    have HB := Lib.hid (bstep HB.out hb7)
    clear hb7
    have X3_0 := X3.out.cell0
    have X3_1 := X3.out.cell1
    have X3_l := X3.out.lt
    by_cases hok : (Bd.okB s cs && Pt.okP s p) = true
    · obtain ⟨hB, hP⟩ := (by simpa using hok : Bd.okB s cs = true ∧ Pt.okP s p = true)
      obtain ⟨v1, v2, v3, v4⟩ := (Bd.okB_iff s cs).1 hB
      obtain ⟨_, _, p3, p4⟩ := (Pt.okP_iff s p).1 hP
      have hsq := Pt.sq_bd s v1 v2
      have hva : Pa.pat s cs p = v := by rw [← hv]; exact (Pa.ans_ok hB hP).symm
      obtain ⟨t0, t1⟩ := Pa.pat_bd (p := p) hB
      rw [hva] at t0 t1
      have hn0 : ¬ v < 0 := by omega
      have HBo := Lib.hid hB
      have HPo := Lib.hid hP
      have Hva := Lib.hid hva
      have Hvs := Lib.hid v3
      clear hok hv hva hB hP v3 v4
      go_wp2_with fail
      refine (s_patW s p v _ A n c cs I0.out hn49 Hv).mono ?_
      rintro e x59 ⟨rfl, hb60⟩
      clear X3_0 X3_1 X3_l
      have X3 := Lib.hid (X3.out.step hb60)
      have I0 := Lib.hid (I0.out.step hb60)
      have HB := Lib.hid (bstep HB.out hb60)
      clear hb60
      have X3_0 := X3.out.cell0
      have X3_1 := X3.out.cell1
      have X3_l := X3.out.lt
      go_wp2_with fail
      obtain ⟨Y, hY⟩ : ∃ Y : World, Y = x59 := ⟨_, rfl⟩
      rw [← hY] at X3 I0 HB X3_0 X3_1 X3_l ⊢
      clear hY
      go_loopg [6] 9 (fun q v6 wr => ∃ k : Nat, k + q = 9 ∧ k ≤ 8 ∧ v6 = .int .i64 (k : Nat) ∧ BelowY Y wr)
      case atStart => exact ⟨0, by omega, by omega, rfl, Below.refl _ _⟩
      case round =>
        obtain ⟨k, hk, hkn, rfl, hbw⟩ := hrel
        obtain ⟨wi, rfl⟩ : ∃ wi : World, wi = wr := ⟨_, rfl⟩
        have HBY := Lib.hid hbw
        replace hbw : Below Y.heap.size Y wi := hbw
        clear X3_0 X3_1 X3_l
        have X3 := Lib.hid (X3.out.step hbw)
        have I0 := Lib.hid (I0.out.step hbw)
        have HB := Lib.hid (bstep HB.out hbw)
        clear hbw
        have X3_0 := X3.out.cell0
        have X3_1 := X3.out.cell1
        have X3_l := X3.out.lt
        by_cases hkk : k = 8
        · subst hkk
          have hlt : ¬ (((8 : Nat) : Int)) < 8 := by omega
          obtain ⟨X, hX⟩ : ∃ X, Pk.inv oth v = X := ⟨_, rfl⟩
          have hX1 : Pa.ans s (othCs cs) p = X := by rw [Pa.ans_ok (okB_oth HBo.out) HPo.out, Pa.pat_oth HBo.out, Hva.out, hX]
          have hX2 : Pk.invA v = X := by unfold Pk.invA; rw [if_pos (Pk.ok_iff.2 ⟨t0, t1⟩), hX]
          have HX1 := Lib.hid hX1
          have HX2 := Lib.hid hX2
          have hXX : (X == X) = true := by simp
          clear hX hX1 hX2
          go_wp2_with fail
          refine (i_invV s _ _ _ _ cs I0.out hn49 HBo.out).mono ?_
          rintro e x162 ⟨A1, n1, c1, rfl, ho164, hb163⟩
          clear X3_0 X3_1 X3_l
          have X3 := Lib.hid (X3.out.step hb163)
          have I0 := Lib.hid (I0.out.step hb163)
          have HBY := Lib.hid (HBY.out.step hb163)
          have HB := Lib.hid (bstep HB.out hb163)
          have R1 := Lib.hid ho164.ints
          have lenR1 := ho164.1
          obtain rfl : n = n1 := len_of lenR1 I0.out.1
          clear lenR1
          clear hb163 ho164
          have X3_0 := X3.out.cell0
          have X3_1 := X3.out.cell1
          have X3_l := X3.out.lt
          go_wp2_with fail
          refine (i_patW s p X _ A1 n c1 (othCs cs) R1.out hn49 HX1).mono ?_
          rintro e x165 ⟨rfl, hb166⟩
          clear X3_0 X3_1 X3_l
          have X3 := Lib.hid (X3.out.step hb166)
          have I0 := Lib.hid (I0.out.step hb166)
          have HBY := Lib.hid (HBY.out.step hb166)
          have R1 := Lib.hid (R1.out.step hb166)
          have HB := Lib.hid (bstep HB.out hb166)
          clear hb166
          have X3_0 := X3.out.cell0
          have X3_1 := X3.out.cell1
          have X3_l := X3.out.lt
          go_wp2_with fail
          refine (i_ipN v X _ HX2).mono ?_
          rintro e x168 ⟨rfl, hb169⟩
          clear X3_0 X3_1 X3_l
          have X3 := Lib.hid (X3.out.step hb169)
          have I0 := Lib.hid (I0.out.step hb169)
          have HBY := Lib.hid (HBY.out.step hb169)
          have R1 := Lib.hid (R1.out.step hb169)
          have HB := Lib.hid (bstep HB.out hb169)
          clear hb169
          have X3_0 := X3.out.cell0
          have X3_1 := X3.out.cell1
          have X3_l := X3.out.lt
          go_wp2_with fail
          go_ret
          exact ⟨rfl, HB.out⟩
        · have hlt : ((k : Nat) : Int) < 8 := by omega
          have hk0 : (0 : Int) ≤ (k : Nat) := by omega
          have hkk8 : Pt.okK (k : Nat) = true := (Pt.okK_iff _).2 ⟨by omega, by omega⟩
          have Hkk := Lib.hid hkk8
          obtain ⟨cs2, hc2⟩ : ∃ l, Bd.mv s (k : Nat) cs = l := ⟨_, rfl⟩
          obtain ⟨ip, hip⟩ : ∃ q, Pt.img s (k : Nat) p = q := ⟨_, rfl⟩
          have hib := Pt.img_bd s (k : Nat) p v1 v2 p3 p4
          obtain ⟨M, hM⟩ : ∃ M, Pk.im (k : Nat) v = M := ⟨_, rfl⟩
          have hM1 : Pa.ans s cs2 ip = M := by
            rw [← hc2, ← hip, Pa.ans_ok (okB_mv HBo.out) ((Pt.okP_iff _ _).2 ⟨v1, v2, hib.1, hib.2⟩), Pa.pat_mv HBo.out p3 p4 hk0 hlt, Hva.out, hM]
          have htr : Pt.tr s (k : Nat) p = ip := by rw [Pt.tr_in s (k : Nat) p v1 v2 p3 p4 hk0 hlt, hip]
          obtain ⟨U, hU⟩ : ∃ U, Pk.canA v = U := ⟨_, rfl⟩
          have hU2 : Pk.canA M = U := by
            have hb2 := Pk.im_bd (n := v) hk0 hlt
            rw [← hU, ← hM]
            unfold Pk.canA
            rw [if_pos (Pk.ok_iff.2 hb2), if_pos (Pk.ok_iff.2 ⟨t0, t1⟩), Pk.can_im hk0 hlt t0 t1]
          have HM := Lib.hid hM1
          have Ht := Lib.hid htr
          have Hc2 := Lib.hid hc2
          have HU := Lib.hid hU
          have HU2 := Lib.hid hU2
          have hUU : (U != U) = false := by simp
          clear hc2 hip hib hM hM1 htr hU hU2 hkk8
          go_wp2_with fail
          have HC := Lib.hid (Below.refl wi.heap.size wi)
          go_cut [7] (fun v wx => v = .int .i64 M ∧ Below wi.heap.size wi wx)
          case first =>
            go_region_held3 (fun w' => w'.cell? ⟨y0.heap.size, 0, none⟩ = some (.int .i64 s) ∧ w'.cell? ⟨y0.heap.size, 1, none⟩ = some (.slice A n c)) (first | exact ⟨X3_0, X3_1⟩ | go_keep) (first | (go_at_call 13; refine (i_trW s (k : Nat) _ _ _ _ cs cs2 (by first | with_reducible exact I0.out | with_reducible exact I0.out.dr) hn49 HBo.out Hkk.out Hc2.out).mono ?_; rintro e yc ⟨A5, c5, rfl, ho9, hb9⟩; (try replace hb9 := undrew hb9); (try (have X3 := Lib.hid (X3.out.step hb9))); (try (have I0 := Lib.hid (I0.out.step hb9))); (try (have HBY := Lib.hid (HBY.out.step hb9))); (try (have R5 := Lib.hid (R5.out.step hb9))); have HC := Lib.hid (bstep HC.out hb9); have X3_0 := X3.out.cell0; have X3_1 := X3.out.cell1; have X3_l := X3.out.lt; have R5 := Lib.hid ho9.ints; clear hb9 ho9) | (go_at_call 14; refine (i_trQ s (k : Nat) p ip _ Ht).mono ?_; rintro e yc ⟨rfl, hb9⟩; (try replace hb9 := undrew hb9); (try (have X3 := Lib.hid (X3.out.step hb9))); (try (have I0 := Lib.hid (I0.out.step hb9))); (try (have HBY := Lib.hid (HBY.out.step hb9))); (try (have R5 := Lib.hid (R5.out.step hb9))); have HC := Lib.hid (bstep HC.out hb9); have X3_0 := X3.out.cell0; have X3_1 := X3.out.cell1; have X3_l := X3.out.lt; clear hb9) | (go_at_call 11; refine (i_patW s ip M _ _ _ _ cs2 (by first | with_reducible exact R5.out | with_reducible exact R5.out.dr) hn49 HM).mono ?_; rintro e yc ⟨rfl, hb9⟩; (try replace hb9 := undrew hb9); (try (have X3 := Lib.hid (X3.out.step hb9))); (try (have I0 := Lib.hid (I0.out.step hb9))); (try (have HBY := Lib.hid (HBY.out.step hb9))); (try (have R5 := Lib.hid (R5.out.step hb9))); have HC := Lib.hid (bstep HC.out hb9); have X3_0 := X3.out.cell0; have X3_1 := X3.out.cell1; have X3_l := X3.out.lt; clear hb9))
            all_goals go_wp2_with fail
            all_goals go_meet
            all_goals exact ⟨rfl, HC.out⟩
          case rest =>
            clear HC
            obtain ⟨rfl, hb262⟩ := hcut
            clear X3_0 X3_1 X3_l
            have X3 := Lib.hid (X3.out.step hb262)
            have I0 := Lib.hid (I0.out.step hb262)
            have HBY := Lib.hid (HBY.out.step hb262)
            have HB := Lib.hid (bstep HB.out hb262)
            clear hb262
            have X3_0 := X3.out.cell0
            have X3_1 := X3.out.cell1
            have X3_l := X3.out.lt
            go_wp2_with fail
            refine (i_canN M U _ HU2).mono ?_
            rintro e x263 ⟨rfl, hb264⟩
            clear X3_0 X3_1 X3_l
            have X3 := Lib.hid (X3.out.step hb264)
            have I0 := Lib.hid (I0.out.step hb264)
            have HBY := Lib.hid (HBY.out.step hb264)
            have HB := Lib.hid (bstep HB.out hb264)
            clear hb264
            have X3_0 := X3.out.cell0
            have X3_1 := X3.out.cell1
            have X3_l := X3.out.lt
            go_wp2_with fail
            refine (i_canN v U _ HU).mono ?_
            rintro e x266 ⟨rfl, hb267⟩
            clear X3_0 X3_1 X3_l
            have X3 := Lib.hid (X3.out.step hb267)
            have I0 := Lib.hid (I0.out.step hb267)
            have HBY := Lib.hid (HBY.out.step hb267)
            have HB := Lib.hid (bstep HB.out hb267)
            clear hb267
            have X3_0 := X3.out.cell0
            have X3_1 := X3.out.cell1
            have X3_l := X3.out.lt
            go_wp2_with fail
            go_roundg (8 - k)
            case measure => omega
            case rel => exact ⟨k + 1, by omega, by omega, by go_num, HBY.out⟩
    · have hm : v = -1 := by rw [← hv]; exact Pa.ans_no (by simpa using hok)
      have hn0 : v < 0 := by omega
      clear hok hv hm
      go_wp2_with fail
      refine (s_patW s p v _ A n c cs I0.out hn49 Hv).mono ?_
      rintro e x709 ⟨rfl, hb710⟩
      clear X3_0 X3_1 X3_l
      have X3 := Lib.hid (X3.out.step hb710)
      have I0 := Lib.hid (I0.out.step hb710)
      have HB := Lib.hid (bstep HB.out hb710)
      clear hb710
      have X3_0 := X3.out.cell0
      have X3_1 := X3.out.cell1
      have X3_l := X3.out.lt
      go_wp2_with fail
      refine (s_patW s p v _ A n c cs I0.out hn49 Hv).mono ?_
      rintro e x712 ⟨rfl, hb713⟩
      clear X3_0 X3_1 X3_l
      have X3 := Lib.hid (X3.out.step hb713)
      have I0 := Lib.hid (I0.out.step hb713)
      have HB := Lib.hid (bstep HB.out hb713)
      clear hb713
      have X3_0 := X3.out.cell0
      have X3_1 := X3.out.cell1
      have X3_l := X3.out.lt
      go_wp2_with fail
      go_ret
      exact ⟨rfl, HB.out⟩

set_option maxRecDepth 100000 in
theorem lifted (os : Os) (started : os.Started) (H : Type) (enc : TypeId × Value → H) :
    ReturnsInHanded {} Try.checked os 3 .any (Rows.fnPatternAtSpec.pre6 enc Try.prog Try.f3 Rows.fnPatternAtRow.domain false) (Rows.fnPatternAtSpec.post enc Try.prog Try.f3 false true false false) := by
  refine returnsInHanded_of_change (C := Try.checked) own started (by kernel_rfl) Try.func3
    (ChangeSpec.witness6 (enc := enc) (C := Try.checked) false ⟨#[], #[.slice none 0 0], []⟩ 8 (by kernel_rfl) (by kernel_rfl) (by kernel_rfl) (by kernel_rfl)) ?_
  intro W base args ds gs before hval0 hW hcnd _
  have hval : ∀ (j : Nat) t v, Try.f3.params[j]? = some t → args[j]? = some v → Value.okWide Try.prog W .any base t v := hval0
  have hW' := hW
  obtain ⟨p, q, hA0, hV, rfl, hfz, hnd⟩ := hW
  have hA : DataW.TrodAll enc Try.prog W 0 (fun _ => true) true Try.f3.params.toList args.toList ds p := hA0
  rw [Try.params3] at hA hval
  obtain ⟨v0, vs0, d0, ds0, p0, q0, hargs, rfl, rfl, h0, r0⟩ := trodAll_cons hA
  obtain ⟨rfl, rfl, rfl⟩ := trodAll_nil r0
  obtain rfl : args = #[v0] := by cases args; simp_all
  obtain ⟨rfl, rfl⟩ := trodVars_none hV
  obtain ⟨a0, len0, cap0, rfl⟩ := okWide_slice Try.underlying22 (hval 0 22 v0 rfl rfl)
  have k0 := h0
  have lt0 : ∀ x ∈ p0, x.block < W.heap.size := by obtain ⟨m, hm⟩ := k0; exact DataW.trod_lt m _ _ _ hm
  obtain ⟨z0, w0⟩ : ∃ zs, IsRow .u8 W a0 len0 cap0 zs := by
    obtain ⟨fuel, hf⟩ := h0
    rcases open_ints Try.underlying22 Try.underlying5 (by kernel_rfl) hf with ⟨hcs, _⟩ | ⟨x, l, c, zs, hcs, _, hl, hm, hz, _, hcell, hwz⟩
    · simp [Value.cells] at hcs
      obtain ⟨rfl, rfl, rfl⟩ := hcs
      exact ⟨[], .inl ⟨rfl, rfl, rfl, rfl⟩⟩
    · simp [Value.cells] at hcs
      obtain ⟨rfl, rfl, rfl⟩ := hcs
      exact ⟨zs, .inr ⟨_, rfl, hl, hm, by simpa using hz, hcell, hwz⟩⟩
  clear hA0 hval0
  refine (walk a0 len0 cap0 z0 W w0).mono fun e W' ⟨he, bel⟩ => ?_
  subst he
  exact ⟨_, rfl, _, _, _, [], _, [], hW', trodAll_mk1 (shut_bool Try.underlying4 _), (trodAll_cons_mk (Below.trod laidOut (by kernel_rfl) (of_decide_eq_true (by kernel_rfl)) k0 bel lt0) trodAll_mk0), rfl, bel.frame _, fun h => by cases h⟩

theorem over : Rows.fnPatternAtRow.holds Try.pinned (OpenSpec.ofChange Rows.fnPatternAtSpec) :=
  OpenClaim.holds_of_wide 3 Try.f3 rfl rfl rfl rfl rfl rfl rfl ⟨rfl, rfl, rfl, rfl, rfl⟩ rfl rfl rfl rfl rfl (by kernel_rfl) Try.func3 (by kernel_rfl)
    (of_decide_eq_true (by kernel_rfl)) (by unfold Func.isWrapper; first | (rw [if_pos (by decide +kernel)]; kernel_rfl) | (rw [if_neg (by decide +kernel)]; exact ⟨rfl, rfl⟩))
    (fun os started H enc _ => lifted os started H enc)

theorem proved : Rows.FnPatternAtSaid := over
end Go.Proofs.Ytpopbcmfbcmojaa.fnPatternAt
