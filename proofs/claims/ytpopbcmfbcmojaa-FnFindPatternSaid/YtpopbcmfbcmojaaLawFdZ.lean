/-
  Patterns are found at empty points: the law of FindPattern holds for every code. No condition.
-/
import Derived.Test.YtpopbcmfbcmojaaLawFdKit
import Derived.Test.YtpopbcmfbcmojaaRows
import Derived.Test.YtpopbcmfbcmojaaBoardI
import Derived.Deep.LoopGhost
import Derived.Deep.RegionHeld3
import Derived.Deep.RegionWith
import Derived.Deep.DeepCutAuto
import Derived.WalkKit
import Derived.ProofKit
import Derived.OpenShut
import Derived.ShutString
import Derived.ChangeOld
import Derived.Below
namespace Go.Proofs.Ytpopbcmfbcmojaa.fnFindPattern
set_option maxRecDepth 100000
open Go.ChangeShapes Go.WideShapes Go.ChangeAt Go.RowKit
open Go.ChangeMaps (open_string shut_string)
set_option linter.unusedVariables false

theorem own : ownKnob Try.prog.godebug = none := by kernel_rfl
theorem laidOut : laidOutB Try.prog = true := by kernel_rfl


set_option maxRecDepth 100000 in
set_option maxHeartbeats 16000000 in
theorem walk (a0 : Option Addr) (len0 cap0 : Nat) (z0 : List Int) (w : World) (w0 : IsRow .u8 w a0 len0 cap0 z0) :
    Calls Try.prog 5 #[.slice a0 len0 cap0] w fun e w' => e = .returned (.bool true) ∧ Below w.heap.size w w' := by
  by_cases hl : 1048576 < len0
  · go_enter Try.func5, Try.ntmps5
    go_wp2_with fail
    go_ret
    exact ⟨rfl, Below.refl _ _⟩
  · have hl' : decide ((1048576 : Int) < (len0 : Int)) = false := by rw [decide_eq_false_iff_not]; omega
    go_enter Try.func5, Try.ntmps5
    go_wp2_with fail
    refine (d_find w a0 len0 cap0 z0 w0).mono ?_
    rintro e y0 ⟨s, A, n, c, cs, x, rfl, hi, hn49, s0, s8, _, hb⟩
    have I0 := Lib.hid hi
    have HB := Lib.hid hb
    clear hi hb w0 hl'
    obtain ⟨lr, hlr⟩ : ∃ l, Fd.ans s cs x = l := ⟨_, rfl⟩
    have Hl := Lib.hid hlr
    have hcl := I0.out.1
    have hlen : lr.length ≤ 49 := by have := Fd.ans_few s cs x; rw [hlr] at this; omega
    go_wp2_with fail
    obtain ⟨x1, hy3, hb2, z4, z5⟩ := new_box y0 (.cells #[.int .i64 s, .slice A n c] 25)
    have X3 : Hid (Bx 25 x1 y0.heap.size s (.slice A n c)) := Lib.hid (by rw [hy3]; exact Bx.new _ _ _ _)
    rw [← hy3]
    clear hy3
    have I0 := Lib.hid (I0.out.step hb2)
    have HB := Lib.hid (bstep HB.out hb2)
    clear hb2
    have X3_0 := X3.out.cell0
    have X3_1 := X3.out.cell1
    have X3_l := X3.out.lt
    go_wp2_with fail
    refine (i_findN s x _ A n c cs I0.out (by omega) lr Hl).mono ?_
    rintro e x6 ⟨A1, m1, c1, rfl, ho8, hb7⟩
    clear X3_0 X3_1 X3_l
    have X3 := Lib.hid (X3.out.step hb7)
    have I0 := Lib.hid (I0.out.step hb7)
    have HB := Lib.hid (bstep HB.out hb7)
    have R1 := Lib.hid ho8.ints
    have lenR1 := ho8.1
    clear hb7 ho8
    have X3_0 := X3.out.cell0
    have X3_1 := X3.out.cell1
    have X3_l := X3.out.lt
    go_wp2_with fail
    refine (s_findN s x _ A n c cs I0.out (by omega) lr Hl).mono ?_
    rintro e x9 ⟨A2, m2, c2, rfl, ho11, hb10⟩
    clear X3_0 X3_1 X3_l
    have X3 := Lib.hid (X3.out.step hb10)
    have I0 := Lib.hid (I0.out.step hb10)
    have R1 := Lib.hid (R1.out.step hb10)
    have HB := Lib.hid (bstep HB.out hb10)
    have R2 := Lib.hid ho11.ints
    have lenR2 := ho11.1
    obtain rfl : m1 = m2 := by rw [← lenR1, ← lenR2]
    clear lenR2
    clear hb10 ho11
    have X3_0 := X3.out.cell0
    have X3_1 := X3.out.cell1
    have X3_l := X3.out.lt
    go_wp2_with fail
    refine (l_eqi _ _ _ _ _ _ lr R1.out R2.out (by omega)).mono ?_
    rintro e x12 ⟨rfl, hb13⟩
    clear X3_0 X3_1 X3_l
    have X3 := Lib.hid (X3.out.step hb13)
    have I0 := Lib.hid (I0.out.step hb13)
    have R1 := Lib.hid (R1.out.step hb13)
    have R2 := Lib.hid (R2.out.step hb13)
    have HB := Lib.hid (bstep HB.out hb13)
    clear hb13
    have X3_0 := X3.out.cell0
    have X3_1 := X3.out.cell1
    have X3_l := X3.out.lt
    cases hv : Bd.okB s cs with
    | false =>
      have Hv := Lib.hid hv
      clear hv
      go_wp2_with fail
      refine (i_validBoard s _ _ A n c cs I0.out (Nat.le_refl _) (by omega)).mono ?_
      rintro e x315 ⟨rfl, hb316⟩
      clear X3_0 X3_1 X3_l
      have X3 := Lib.hid (X3.out.step hb316)
      have I0 := Lib.hid (I0.out.step hb316)
      have R1 := Lib.hid (R1.out.step hb316)
      have R2 := Lib.hid (R2.out.step hb316)
      have HB := Lib.hid (bstep HB.out hb316)
      rw [Hv.out]
      clear hb316
      have X3_0 := X3.out.cell0
      have X3_1 := X3.out.cell1
      have X3_l := X3.out.lt
      go_wp2_with fail
      refine (s_findN s x _ A n c cs I0.out (by omega) lr Hl).mono ?_
      rintro e x368 ⟨A3, m3, c3, rfl, ho370, hb369⟩
      clear X3_0 X3_1 X3_l
      have X3 := Lib.hid (X3.out.step hb369)
      have I0 := Lib.hid (I0.out.step hb369)
      have R1 := Lib.hid (R1.out.step hb369)
      have R2 := Lib.hid (R2.out.step hb369)
      have HB := Lib.hid (bstep HB.out hb369)
      have R3 := Lib.hid ho370.ints
      have lenR3 := ho370.1
      obtain rfl : m1 = m3 := by rw [← lenR1, ← lenR3]
      clear lenR3
      clear hb369 ho370
      have X3_0 := X3.out.cell0
      have X3_1 := X3.out.cell1
      have X3_l := X3.out.lt
      go_wp2_with fail
      refine (l_eqi _ _ _ _ _ _ lr R1.out R3.out (by omega)).mono ?_
      rintro e x371 ⟨rfl, hb372⟩
      clear X3_0 X3_1 X3_l
      have X3 := Lib.hid (X3.out.step hb372)
      have I0 := Lib.hid (I0.out.step hb372)
      have R1 := Lib.hid (R1.out.step hb372)
      have R2 := Lib.hid (R2.out.step hb372)
      have R3 := Lib.hid (R3.out.step hb372)
      have HB := Lib.hid (bstep HB.out hb372)
      clear hb372
      have X3_0 := X3.out.cell0
      have X3_1 := X3.out.cell1
      have X3_l := X3.out.lt
      go_wp2_with fail
      go_ret
      exact ⟨rfl, HB.out⟩
    | true =>
      have Hv := Lib.hid hv
      clear hv
      go_wp2_with fail
      refine (i_validBoard s _ _ A n c cs I0.out (Nat.le_refl _) (by omega)).mono ?_
      rintro e x415 ⟨rfl, hb416⟩
      clear X3_0 X3_1 X3_l
      have X3 := Lib.hid (X3.out.step hb416)
      have I0 := Lib.hid (I0.out.step hb416)
      have R1 := Lib.hid (R1.out.step hb416)
      have R2 := Lib.hid (R2.out.step hb416)
      have HB := Lib.hid (bstep HB.out hb416)
      rw [Hv.out]
      clear hb416
      have X3_0 := X3.out.cell0
      have X3_1 := X3.out.cell1
      have X3_l := X3.out.lt
      by_cases hx0 : x < 0
      · go_wp2_with fail
        refine (s_findN s x _ A n c cs I0.out (by omega) lr Hl).mono ?_
        rintro e x468 ⟨A3, m3, c3, rfl, ho470, hb469⟩
        clear X3_0 X3_1 X3_l
        have X3 := Lib.hid (X3.out.step hb469)
        have I0 := Lib.hid (I0.out.step hb469)
        have R1 := Lib.hid (R1.out.step hb469)
        have R2 := Lib.hid (R2.out.step hb469)
        have HB := Lib.hid (bstep HB.out hb469)
        have R3 := Lib.hid ho470.ints
        have lenR3 := ho470.1
        obtain rfl : m1 = m3 := by rw [← lenR1, ← lenR3]
        clear lenR3
        clear hb469 ho470
        have X3_0 := X3.out.cell0
        have X3_1 := X3.out.cell1
        have X3_l := X3.out.lt
        go_wp2_with fail
        refine (l_eqi _ _ _ _ _ _ lr R1.out R3.out (by omega)).mono ?_
        rintro e x471 ⟨rfl, hb472⟩
        clear X3_0 X3_1 X3_l
        have X3 := Lib.hid (X3.out.step hb472)
        have I0 := Lib.hid (I0.out.step hb472)
        have R1 := Lib.hid (R1.out.step hb472)
        have R2 := Lib.hid (R2.out.step hb472)
        have R3 := Lib.hid (R3.out.step hb472)
        have HB := Lib.hid (bstep HB.out hb472)
        clear hb472
        have X3_0 := X3.out.cell0
        have X3_1 := X3.out.cell1
        have X3_l := X3.out.lt
        go_wp2_with fail
        go_ret
        exact ⟨rfl, HB.out⟩
      · by_cases hx1 : 65535 < x
        · go_wp2_with fail
          refine (s_findN s x _ A n c cs I0.out (by omega) lr Hl).mono ?_
          rintro e x508 ⟨A3, m3, c3, rfl, ho510, hb509⟩
          clear X3_0 X3_1 X3_l
          have X3 := Lib.hid (X3.out.step hb509)
          have I0 := Lib.hid (I0.out.step hb509)
          have R1 := Lib.hid (R1.out.step hb509)
          have R2 := Lib.hid (R2.out.step hb509)
          have HB := Lib.hid (bstep HB.out hb509)
          have R3 := Lib.hid ho510.ints
          have lenR3 := ho510.1
          obtain rfl : m1 = m3 := by rw [← lenR1, ← lenR3]
          clear lenR3
          clear hb509 ho510
          have X3_0 := X3.out.cell0
          have X3_1 := X3.out.cell1
          have X3_l := X3.out.lt
          go_wp2_with fail
          refine (l_eqi _ _ _ _ _ _ lr R1.out R3.out (by omega)).mono ?_
          rintro e x511 ⟨rfl, hb512⟩
          clear X3_0 X3_1 X3_l
          have X3 := Lib.hid (X3.out.step hb512)
          have I0 := Lib.hid (I0.out.step hb512)
          have R1 := Lib.hid (R1.out.step hb512)
          have R2 := Lib.hid (R2.out.step hb512)
          have R3 := Lib.hid (R3.out.step hb512)
          have HB := Lib.hid (bstep HB.out hb512)
          clear hb512
          have X3_0 := X3.out.cell0
          have X3_1 := X3.out.cell1
          have X3_l := X3.out.lt
          go_wp2_with fail
          go_ret
          exact ⟨rfl, HB.out⟩
        · have hok : Pk.ok x = true := Pk.ok_iff.2 ⟨by omega, by omega⟩
          obtain ⟨v1, v2, v3, v4⟩ := (Bd.okB_iff s cs).1 Hv.out
          have hsq := Pt.sq_bd s v1 v2
          have hfu : lr = Fd.upto s cs x n := by rw [← hlr]; unfold Fd.ans; rw [Hv.out, hok, if_pos (by decide), hcl]
          have Hfu := Lib.hid hfu
          have Hvs := Lib.hid v3
          have Hok := Lib.hid hok
          obtain ⟨V, hV⟩ : ∃ V, Pk.canA x = V := ⟨_, rfl⟩
          have HV := Lib.hid hV
          have hVc : Pk.can x = V := by rw [← hV]; unfold Pk.canA; rw [if_pos hok]
          have HVc := Lib.hid hVc
          clear hfu v3 hok hV hVc hlr
          go_wp2_with fail
          obtain ⟨Y, hY⟩ : ∃ Y : World, Y = x415 := ⟨_, rfl⟩
          rw [← hY] at X3 I0 R1 R2 HB X3_0 X3_1 X3_l ⊢
          clear hY
          go_loopg [6] (n + 1) (fun q v6 wr => ∃ k : Nat, k + q = n + 1 ∧ k ≤ n ∧ v6 = .int .i64 (k : Nat) ∧ BelowY Y wr)
          case atStart => exact ⟨0, by omega, by omega, rfl, Below.refl _ _⟩
          case round =>
            obtain ⟨k, hk, hkn, rfl, hbw⟩ := hrel
            obtain ⟨wi, rfl⟩ : ∃ wi : World, wi = wr := ⟨_, rfl⟩
            have HBY := Lib.hid hbw
            replace hbw : Below Y.heap.size Y wi := hbw
            clear X3_0 X3_1 X3_l
            have X3 := Lib.hid (X3.out.step hbw)
            have I0 := Lib.hid (I0.out.step hbw)
            have R1 := Lib.hid (R1.out.step hbw)
            have R2 := Lib.hid (R2.out.step hbw)
            have HB := Lib.hid (bstep HB.out hbw)
            clear hbw
            have X3_0 := X3.out.cell0
            have X3_1 := X3.out.cell1
            have X3_l := X3.out.lt
            by_cases hkk : k = n
            · obtain rfl : n = k := hkk.symm
              have hlt : ¬ ((n : Nat) : Int) < (n : Nat) := by omega
              obtain ⟨K, hK⟩ : ∃ K, ((len0 : Nat) : Int) % 8 = K := ⟨_, rfl⟩
              have hKt : ((len0 : Nat) : Int).tmod 8 = K := by rw [Int.tmod_eq_emod_of_nonneg (by omega)]; exact hK
              have hK0 : 0 ≤ K := by omega
              have hK8 : K < 8 := by omega
              have hkk8 : Pt.okK K = true := (Pt.okK_iff _).2 ⟨hK0, hK8⟩
              have Hkk := Lib.hid hkk8
              obtain ⟨cs2, hc2⟩ : ∃ l, Bd.mv s K cs = l := ⟨_, rfl⟩
              obtain ⟨ys, hys⟩ : ∃ l, Pt.imagesOf s K lr = l := ⟨_, rfl⟩
              have hans : Fd.ans s cs2 x = ys := by rw [← hc2, ← hys]; exact Fd.ans_mv Hv.out Hok.out hK0 hK8 Hl.out
              have hylen : ys.length ≤ 49 := by have := Fd.ans_few s cs2 x; rw [hans, ← hc2, Bd.mv_len] at this; omega
              have Hc2 := Lib.hid hc2
              have Hys := Lib.hid hys
              have Hans := Lib.hid hans
              clear hK hkk8 hc2 hys hans
              go_wp2_with fail
              have HC := Lib.hid (Below.refl wi.heap.size wi)
              go_cut [2] (fun v wx => v = .bool true ∧ Below wi.heap.size wi wx)
              case first =>
                go_region_held3 (fun w' => w'.cell? ⟨y0.heap.size, 0, none⟩ = some (.int .i64 s) ∧ w'.cell? ⟨y0.heap.size, 1, none⟩ = some (.slice A n c)) (first | exact ⟨X3_0, X3_1⟩ | go_keep) (first | (go_at_call 13; refine (i_trW s K _ _ _ _ cs cs2 (by first | with_reducible exact I0.out | with_reducible exact I0.out.dr) hn49 Hv.out Hkk.out Hc2.out).mono ?_; rintro e yc ⟨A5, c5, rfl, ho9, hb9⟩; (try replace hb9 := undrew hb9); (try (have X3 := Lib.hid (X3.out.step hb9))); (try (have I0 := Lib.hid (I0.out.step hb9))); (try (have R1 := Lib.hid (R1.out.step hb9))); (try (have R2 := Lib.hid (R2.out.step hb9))); (try (have HBY := Lib.hid (HBY.out.step hb9))); (try (have R5 := Lib.hid (R5.out.step hb9))); (try (have R6 := Lib.hid (R6.out.step hb9))); (try (have R7 := Lib.hid (R7.out.step hb9))); have HC := Lib.hid (bstep HC.out hb9); have X3_0 := X3.out.cell0; have X3_1 := X3.out.cell1; have X3_l := X3.out.lt; have R5 := Lib.hid ho9.ints; clear hb9 ho9) | (go_at_call 22; refine (i_findN s x _ _ _ _ cs2 (by first | with_reducible exact R5.out | with_reducible exact R5.out.dr) (by omega) ys Hans).mono ?_; rintro e yc ⟨A6, m6, c6, rfl, ho9, hb9⟩; (try replace hb9 := undrew hb9); (try (have X3 := Lib.hid (X3.out.step hb9))); (try (have I0 := Lib.hid (I0.out.step hb9))); (try (have R1 := Lib.hid (R1.out.step hb9))); (try (have R2 := Lib.hid (R2.out.step hb9))); (try (have HBY := Lib.hid (HBY.out.step hb9))); (try (have R5 := Lib.hid (R5.out.step hb9))); (try (have R6 := Lib.hid (R6.out.step hb9))); (try (have R7 := Lib.hid (R7.out.step hb9))); have HC := Lib.hid (bstep HC.out hb9); have X3_0 := X3.out.cell0; have X3_1 := X3.out.cell1; have X3_l := X3.out.lt; have R6 := Lib.hid ho9.ints; clear hb9 ho9) | (go_at_call 27; refine (l_imgN s K _ _ _ _ lr ys v1 v2 (by first | with_reducible exact R1.out | with_reducible exact R1.out.dr) (by omega) Hys).mono ?_; rintro e yc ⟨A7, m7, c7, rfl, ho9, hb9⟩; (try replace hb9 := undrew hb9); (try (have X3 := Lib.hid (X3.out.step hb9))); (try (have I0 := Lib.hid (I0.out.step hb9))); (try (have R1 := Lib.hid (R1.out.step hb9))); (try (have R2 := Lib.hid (R2.out.step hb9))); (try (have HBY := Lib.hid (HBY.out.step hb9))); (try (have R5 := Lib.hid (R5.out.step hb9))); (try (have R6 := Lib.hid (R6.out.step hb9))); (try (have R7 := Lib.hid (R7.out.step hb9))); have HC := Lib.hid (bstep HC.out hb9); have X3_0 := X3.out.cell0; have X3_1 := X3.out.cell1; have X3_l := X3.out.lt; have R7 := Lib.hid ho9.ints; clear hb9 ho9) | (go_at_call 23; refine (l_eqW _ _ _ m6 m7 _ _ ys (by exact R6.out) (by exact R7.out) (by omega)).mono ?_; rintro e yc ⟨rfl, hb9⟩; (try replace hb9 := undrew hb9); (try (have X3 := Lib.hid (X3.out.step hb9))); (try (have I0 := Lib.hid (I0.out.step hb9))); (try (have R1 := Lib.hid (R1.out.step hb9))); (try (have R2 := Lib.hid (R2.out.step hb9))); (try (have HBY := Lib.hid (HBY.out.step hb9))); (try (have R5 := Lib.hid (R5.out.step hb9))); (try (have R6 := Lib.hid (R6.out.step hb9))); (try (have R7 := Lib.hid (R7.out.step hb9))); have HC := Lib.hid (bstep HC.out hb9); have X3_0 := X3.out.cell0; have X3_1 := X3.out.cell1; have X3_l := X3.out.lt; clear hb9))
                all_goals go_wp2_with fail
                all_goals go_meet
                all_goals exact ⟨rfl, HC.out⟩
              case rest =>
                clear HC
                obtain ⟨rfl, hb718⟩ := hcut
                clear X3_0 X3_1 X3_l
                have X3 := Lib.hid (X3.out.step hb718)
                have I0 := Lib.hid (I0.out.step hb718)
                have R1 := Lib.hid (R1.out.step hb718)
                have R2 := Lib.hid (R2.out.step hb718)
                have HBY := Lib.hid (HBY.out.step hb718)
                have HB := Lib.hid (bstep HB.out hb718)
                clear hb718
                have X3_0 := X3.out.cell0
                have X3_1 := X3.out.cell1
                have X3_l := X3.out.lt
                go_wp2_with fail
                go_ret
                exact ⟨rfl, HB.out⟩
            · have hlt : ((k : Nat) : Int) < n := by omega
              have hk0 : (0 : Int) ≤ (k : Nat) := by omega
              have hks : ((k : Nat) : Int) < s * s := by have := Hvs.out; omega
              obtain ⟨b, o, hA, hbB, hc⟩ : ∃ b o, A = some ⟨b, o, none⟩ ∧ b < wi.heap.size ∧ ∀ j, j < n → wi.cell? ⟨b, o + j, none⟩ = some (.int .i64 (cs.getD j 0)) := I0.out.2.resolve_left (by omega)
              have ck := hc k (by omega)
              have hmem : decide (((k : Nat) : Int) ∈ lr) = Fd.has s cs x k := by
                rw [Hfu.out, Bool.eq_iff_iff, decide_eq_true_iff, Fd.mem]
                constructor
                · rintro ⟨p, hp, e, hh⟩
                  have : p = k := by omega
                  rwa [this] at hh
                · intro hh; exact ⟨k, by omega, rfl, hh⟩
              have hhas : Fd.has s cs x k = ((cs.getD k 0 == 0) && (Pk.can (Pa.pat s cs (k : Int)) == Pk.can x)) := rfl
              obtain ⟨col, hcol⟩ : ∃ y, cs.getD k 0 = y := ⟨_, rfl⟩
              rw [hcol] at ck hhas
              rw [HVc.out] at hhas
              rw [hhas] at hmem
              clear hc hhas hcol
              subst hA
              by_cases h0 : col = 0
              · have q0 : (col == 0) = true := by simpa using h0
                obtain ⟨M, hM⟩ : ∃ M, Pa.pat s cs (k : Nat) = M := ⟨_, rfl⟩
                obtain ⟨m0, m1⟩ := Pa.pat_bd (p := ((k : Nat) : Int)) Hv.out
                rw [hM] at m0 m1 hmem
                have hans : Pa.ans s cs (k : Nat) = M := by rw [Pa.ans_ok Hv.out ((Pt.okP_iff _ _).2 ⟨v1, v2, hk0, hks⟩), hM]
                obtain ⟨U, hU⟩ : ∃ U, Pk.can M = U := ⟨_, rfl⟩
                have hUA : Pk.canA M = U := by unfold Pk.canA; rw [if_pos (Pk.ok_iff.2 ⟨m0, m1⟩), hU]
                rw [hU, q0, Bool.true_and] at hmem
                obtain ⟨b8, hb8⟩ : ∃ b : Bool, (U == V) = b := ⟨_, rfl⟩
                rw [hb8] at hmem
                have Hmem := Lib.hid hmem
                have Hans := Lib.hid hans
                have HU := Lib.hid hUA
                have hbb : (b8 != b8) = false := by simp
                clear h0 hM hans hU hUA hmem
                go_wp2_with fail
                refine (i_patW s (k : Nat) M _ _ n c cs I0.out hn49 Hans).mono ?_
                rintro e x1118 ⟨rfl, hb1119⟩
                clear X3_0 X3_1 X3_l
                have X3 := Lib.hid (X3.out.step hb1119)
                have I0 := Lib.hid (I0.out.step hb1119)
                have R1 := Lib.hid (R1.out.step hb1119)
                have R2 := Lib.hid (R2.out.step hb1119)
                have HBY := Lib.hid (HBY.out.step hb1119)
                have HB := Lib.hid (bstep HB.out hb1119)
                clear hb1119
                have X3_0 := X3.out.cell0
                have X3_1 := X3.out.cell1
                have X3_l := X3.out.lt
                go_wp2_with fail
                refine (i_canN M U _ HU).mono ?_
                rintro e x1121 ⟨rfl, hb1122⟩
                clear X3_0 X3_1 X3_l
                have X3 := Lib.hid (X3.out.step hb1122)
                have I0 := Lib.hid (I0.out.step hb1122)
                have R1 := Lib.hid (R1.out.step hb1122)
                have R2 := Lib.hid (R2.out.step hb1122)
                have HBY := Lib.hid (HBY.out.step hb1122)
                have HB := Lib.hid (bstep HB.out hb1122)
                clear hb1122
                have X3_0 := X3.out.cell0
                have X3_1 := X3.out.cell1
                have X3_l := X3.out.lt
                go_wp2_with fail
                refine (i_canN x V _ HV).mono ?_
                rintro e x1124 ⟨rfl, hb1125⟩
                clear X3_0 X3_1 X3_l
                have X3 := Lib.hid (X3.out.step hb1125)
                have I0 := Lib.hid (I0.out.step hb1125)
                have R1 := Lib.hid (R1.out.step hb1125)
                have R2 := Lib.hid (R2.out.step hb1125)
                have HBY := Lib.hid (HBY.out.step hb1125)
                have HB := Lib.hid (bstep HB.out hb1125)
                clear hb1125
                have X3_0 := X3.out.cell0
                have X3_1 := X3.out.cell1
                have X3_l := X3.out.lt
                go_wp2_with fail
                refine (l_isInD _ _ _ _ _ _ _ R1.out (by omega)).mono ?_
                rintro e yq ⟨rfl, rfl⟩
                rw [Hmem.out]
                go_wp2_with fail
                go_roundg (n - k)
                case measure => omega
                case rel => exact ⟨k + 1, by omega, by omega, by go_num, HBY.out⟩
              · have q0 : (col == 0) = false := by simpa using h0
                rw [q0, Bool.false_and] at hmem
                have Hmem := Lib.hid hmem
                clear h0 hmem
                go_wp2_with fail
                refine (l_isInD _ _ _ _ _ _ _ R1.out (by omega)).mono ?_
                rintro e yq ⟨rfl, rfl⟩
                rw [Hmem.out]
                go_wp2_with fail
                go_roundg (n - k)
                case measure => omega
                case rel => exact ⟨k + 1, by omega, by omega, by go_num, HBY.out⟩

set_option maxRecDepth 100000 in
theorem lifted (os : Os) (started : os.Started) (H : Type) (enc : TypeId × Value → H) :
    ReturnsInHanded {} Try.checked os 5 .any (Rows.fnFindPatternSpec.pre6 enc Try.prog Try.f5 Rows.fnFindPatternRow.domain false) (Rows.fnFindPatternSpec.post enc Try.prog Try.f5 false true false false) := by
  refine returnsInHanded_of_change (C := Try.checked) own started (by kernel_rfl) Try.func5
    (ChangeSpec.witness6 (enc := enc) (C := Try.checked) false ⟨#[], #[.slice none 0 0], []⟩ 8 (by kernel_rfl) (by kernel_rfl) (by kernel_rfl) (by kernel_rfl)) ?_
  intro W base args ds gs before hval0 hW hcnd _
  have hval : ∀ (j : Nat) t v, Try.f5.params[j]? = some t → args[j]? = some v → Value.okWide Try.prog W .any base t v := hval0
  have hW' := hW
  obtain ⟨p, q, hA0, hV, rfl, hfz, hnd⟩ := hW
  have hA : DataW.TrodAll enc Try.prog W 0 (fun _ => true) true Try.f5.params.toList args.toList ds p := hA0
  rw [Try.params5] at hA hval
  obtain ⟨v0, vs0, d0, ds0, p0, q0, hargs, rfl, rfl, h0, r0⟩ := trodAll_cons hA
  obtain ⟨rfl, rfl, rfl⟩ := trodAll_nil r0
  obtain rfl : args = #[v0] := by cases args; simp_all
  obtain ⟨rfl, rfl⟩ := trodVars_none hV
  obtain ⟨a0, len0, cap0, rfl⟩ := okWide_slice Try.underlying22 (hval 0 22 v0 rfl rfl)
  have k0 := h0
  have lt0 : ∀ x ∈ p0, x.block < W.heap.size := by obtain ⟨m, hm⟩ := k0; exact DataW.trod_lt m _ _ _ hm
  obtain ⟨z0, w0⟩ : ∃ zs, IsRow .u8 W a0 len0 cap0 zs := by
    obtain ⟨fuel, hf⟩ := h0
    rcases open_ints Try.underlying22 Try.underlying5 (by kernel_rfl) hf with ⟨hcs, _⟩ | ⟨x, l, c, zs, hcs, _, hl, hm, hz, _, hcell, hwz⟩
    · simp [Value.cells] at hcs
      obtain ⟨rfl, rfl, rfl⟩ := hcs
      exact ⟨[], .inl ⟨rfl, rfl, rfl, rfl⟩⟩
    · simp [Value.cells] at hcs
      obtain ⟨rfl, rfl, rfl⟩ := hcs
      exact ⟨zs, .inr ⟨_, rfl, hl, hm, by simpa using hz, hcell, hwz⟩⟩
  clear hA0 hval0
  refine (walk a0 len0 cap0 z0 W w0).mono fun e W' ⟨he, bel⟩ => ?_
  subst he
  exact ⟨_, rfl, _, _, _, [], _, [], hW', trodAll_mk1 (shut_bool Try.underlying4 _), (trodAll_cons_mk (Below.trod laidOut (by kernel_rfl) (of_decide_eq_true (by kernel_rfl)) k0 bel lt0) trodAll_mk0), rfl, bel.frame _, fun h => by cases h⟩

theorem over : Rows.fnFindPatternRow.holds Try.pinned (OpenSpec.ofChange Rows.fnFindPatternSpec) :=
  OpenClaim.holds_of_wide 5 Try.f5 rfl rfl rfl rfl rfl rfl rfl ⟨rfl, rfl, rfl, rfl, rfl⟩ rfl rfl rfl rfl rfl (by kernel_rfl) Try.func5 (by kernel_rfl)
    (of_decide_eq_true (by kernel_rfl)) (by unfold Func.isWrapper; first | (rw [if_pos (by decide +kernel)]; kernel_rfl) | (rw [if_neg (by decide +kernel)]; exact ⟨rfl, rfl⟩))
    (fun os started H enc _ => lifted os started H enc)

theorem proved : Rows.FnFindPatternSaid := over
end Go.Proofs.Ytpopbcmfbcmojaa.fnFindPattern
