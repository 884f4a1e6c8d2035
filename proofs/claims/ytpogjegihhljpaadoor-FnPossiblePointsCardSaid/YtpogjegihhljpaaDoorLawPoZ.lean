/-
  Possible points can be played: the law holds for every code. No condition but the laid variables.
-/
import Derived.Test.YtpogjegihhljpaaDoorRows
import Derived.Deep.RegionHeld3
import Derived.Test.YtpogjegihhljpaaDoorLawPoKitB
import Derived.Deep.RegionWith
import Derived.Deep.DeepCutAuto
import Derived.Test.YtpogjegihhljpaaDoorCards
import Derived.Test.YtpogjegihhljpaaDoorTie
import Derived.Test.YtpogjegihhljpaaDoorTz
import Derived.LaidMore
import Derived.Stop.Joined
import Derived.Stop.LaidErr
import Derived.SevenTiedAt
import Derived.RowKitTokens
import Derived.LaidLaws
import Derived.ChangeVars
import Derived.ChangeSame
import Derived.WalkKit
import Derived.ProofKit
import Derived.OpenShut
import Derived.ShutString
import Derived.ChangeOld
import Derived.Below
import Derived.Test.YtpogjegihhljpaaDoorLawPoKitA
namespace Go.Proofs.YtpogjegihhljpaaDoor.fnPossiblePoints
set_option maxRecDepth 100000
open Go.WideMaps Go.WideElems
open Go.ChangeShapes Go.WideShapes Go.ChangeAt Go.RowKit
open Go.ChangeMaps (open_string shut_string)
set_option linter.unusedVariables false

theorem own : ownKnob Tryd.prog.godebug = none := by kernel_rfl
theorem laidOut : laidOutB Tryd.prog = true := by kernel_rfl


set_option maxRecDepth 100000 in
set_option maxHeartbeats 16000000 in
theorem walk (a0 : Option Addr) (len0 cap0 : Nat) (z0 : List Int) (w : World) (ht : Tab w) (hE : ErrW w) (w0 : IsRow .u8 w a0 len0 cap0 z0) :
    Calls Tryd.prog 5 #[.slice a0 len0 cap0] w fun e w' => e = .returned (.bool true) ∧ Below w.heap.size w w' := by
  by_cases hl : 1048576 < len0
  · go_enter Tryd.func5, Tryd.ntmps5
    go_wp2_with fail
    go_ret
    exact ⟨rfl, Below.refl _ _⟩
  · have hl' : decide ((1048576 : Int) < (len0 : Int)) = false := by rw [decide_eq_false_iff_not]; omega
    go_enter Tryd.func5, Tryd.ntmps5
    go_wp2_with fail
    refine (d_poss w a0 len0 cap0 z0 w0).mono ?_
    rintro e y0 ⟨s, A, n, c, cs, x, su, rfl, hi, hn49, s0, s8, hx1, hx2, hb⟩
    have I0 := Lib.hid hi
    have HB := Lib.hid hb
    have HT := Lib.hid ht
    have HE := Lib.hid hE
    clear hE
    clear hi hb w0 hl'
    go_wp2_with fail
    obtain ⟨x1, hy3, hb2, z4, z5⟩ := new_box y0 (.cells #[.int .i64 s, .slice A n c] 25)
    have X3 : Hid (Bx 25 x1 y0.heap.size s (.slice A n c)) := Lib.hid (by rw [hy3]; exact Bx.new _ _ _ _)
    rw [← hy3]
    clear hy3
    have I0 := Lib.hid (I0.out.step hb2)
    have HB := Lib.hid (bstep HB.out hb2)
    clear hb2
    have X3_0 := X3.out.cell0
    have X3_1 := X3.out.cell1
    have X3_l := X3.out.lt
    have hl0 := I0.out.1
    obtain ⟨lr, hlr⟩ := PosIs.make s n cs x su
    have hlen := hlr.len
    have Hlr := Lib.hid hlr
    have Hl := Lib.hid hl0
    clear hlr hl0
    go_wp2_with fail
    refine (i_Poss s x su _ _ _ n _ cs lr I0.out (Nat.le_refl _) (by omega) Hlr (HT.out.below HB.out) (HE.out.below HB.out)).mono ?_
    rintro e x6 ⟨A1, n1, c1, rfl, ho8, hb7⟩
    clear X3_0 X3_1 X3_l
    have X3 := Lib.hid (X3.out.step hb7)
    have I0 := Lib.hid (I0.out.step hb7)
    have HB := Lib.hid (bstep HB.out hb7)
    have I1 := Lib.hid ho8.ints
    have lenI1 := ho8.1
    clear hb7 ho8
    have X3_0 := X3.out.cell0
    have X3_1 := X3.out.cell1
    have X3_l := X3.out.lt
    go_wp2_with fail
    refine (s_Poss s x su _ _ _ n _ cs lr I0.out (Nat.le_refl _) (by omega) Hlr).mono ?_
    rintro e x9 ⟨A2, n2, c2, rfl, ho11, hb10⟩
    clear X3_0 X3_1 X3_l
    have X3 := Lib.hid (X3.out.step hb10)
    have I0 := Lib.hid (I0.out.step hb10)
    have I1 := Lib.hid (I1.out.step hb10)
    have HB := Lib.hid (bstep HB.out hb10)
    have I2 := Lib.hid ho11.ints
    have lenI2 := ho11.1
    clear hb10 ho11
    have X3_0 := X3.out.cell0
    have X3_1 := X3.out.cell1
    have X3_l := X3.out.lt
    obtain rfl : n2 = n1 := by omega
    have hn1 : n2 ≤ 49 := by omega
    clear lenI1 lenI2 hlen
    go_wp2_with fail
    refine (eq_b _ _ _ _ _ _ lr I1.out I2.out (by omega)).mono ?_
    rintro e x12 ⟨rfl, hb13⟩
    clear X3_0 X3_1 X3_l
    have X3 := Lib.hid (X3.out.step hb13)
    have I0 := Lib.hid (I0.out.step hb13)
    have I1 := Lib.hid (I1.out.step hb13)
    have I2 := Lib.hid (I2.out.step hb13)
    have HB := Lib.hid (bstep HB.out hb13)
    clear hb13
    have X3_0 := X3.out.cell0
    have X3_1 := X3.out.cell1
    have X3_l := X3.out.lt
    by_cases hv : Bd.okB s cs = true
    · have Hv := Lib.hid hv
      clear hv
      go_wp2_with fail
      refine (vb_b s _ _ _ _ cs true I0.out hn49 Hv.out).mono ?_
      rintro e x65 ⟨rfl, hb66⟩
      clear X3_0 X3_1 X3_l
      have X3 := Lib.hid (X3.out.step hb66)
      have I0 := Lib.hid (I0.out.step hb66)
      have I1 := Lib.hid (I1.out.step hb66)
      have I2 := Lib.hid (I2.out.step hb66)
      have HB := Lib.hid (bstep HB.out hb66)
      clear hb66
      have X3_0 := X3.out.cell0
      have X3_1 := X3.out.cell1
      have X3_l := X3.out.lt
      by_cases hlo : x < 1
      · have d1 : decide (x < 1) = true := decide_eq_true hlo
        go_wp2_with fail
        refine (s_Poss s x su _ _ _ n _ cs lr I0.out (Nat.le_refl _) (by omega) Hlr).mono ?_
        rintro e x168 ⟨A9, n9, c9, rfl, ho170, hb169⟩
        clear X3_0 X3_1 X3_l
        have X3 := Lib.hid (X3.out.step hb169)
        have I0 := Lib.hid (I0.out.step hb169)
        have I1 := Lib.hid (I1.out.step hb169)
        have I2 := Lib.hid (I2.out.step hb169)
        have HB := Lib.hid (bstep HB.out hb169)
        have I9 := Lib.hid ho170.ints
        have lenI9 := ho170.1
        clear hb169 ho170
        have X3_0 := X3.out.cell0
        have X3_1 := X3.out.cell1
        have X3_l := X3.out.lt
        obtain rfl : n9 = n2 := by have := I1.out.1; omega
        clear lenI9
        go_wp2_with fail
        refine (eq_b _ _ _ _ _ _ lr I1.out I9.out (by omega)).mono ?_
        rintro e x171 ⟨rfl, hb172⟩
        clear X3_0 X3_1 X3_l
        have X3 := Lib.hid (X3.out.step hb172)
        have I0 := Lib.hid (I0.out.step hb172)
        have I1 := Lib.hid (I1.out.step hb172)
        have I2 := Lib.hid (I2.out.step hb172)
        have I9 := Lib.hid (I9.out.step hb172)
        have HB := Lib.hid (bstep HB.out hb172)
        clear hb172
        have X3_0 := X3.out.cell0
        have X3_1 := X3.out.cell1
        have X3_l := X3.out.lt
        go_wp2_with fail
        go_ret
        exact ⟨by first | rfl | simp, HB.out⟩
      · have d1 : decide (x < 1) = false := decide_eq_false hlo
        by_cases hhi : 2 < x
        · have d2 : decide (2 < x) = true := decide_eq_true hhi
          go_wp2_with fail
          refine (s_Poss s x su _ _ _ n _ cs lr I0.out (Nat.le_refl _) (by omega) Hlr).mono ?_
          rintro e x518 ⟨A9, n9, c9, rfl, ho520, hb519⟩
          clear X3_0 X3_1 X3_l
          have X3 := Lib.hid (X3.out.step hb519)
          have I0 := Lib.hid (I0.out.step hb519)
          have I1 := Lib.hid (I1.out.step hb519)
          have I2 := Lib.hid (I2.out.step hb519)
          have HB := Lib.hid (bstep HB.out hb519)
          have I9 := Lib.hid ho520.ints
          have lenI9 := ho520.1
          clear hb519 ho520
          have X3_0 := X3.out.cell0
          have X3_1 := X3.out.cell1
          have X3_l := X3.out.lt
          obtain rfl : n9 = n2 := by have := I1.out.1; omega
          clear lenI9
          go_wp2_with fail
          refine (eq_b _ _ _ _ _ _ lr I1.out I9.out (by omega)).mono ?_
          rintro e x521 ⟨rfl, hb522⟩
          clear X3_0 X3_1 X3_l
          have X3 := Lib.hid (X3.out.step hb522)
          have I0 := Lib.hid (I0.out.step hb522)
          have I1 := Lib.hid (I1.out.step hb522)
          have I2 := Lib.hid (I2.out.step hb522)
          have I9 := Lib.hid (I9.out.step hb522)
          have HB := Lib.hid (bstep HB.out hb522)
          clear hb522
          have X3_0 := X3.out.cell0
          have X3_1 := X3.out.cell1
          have X3_l := X3.out.lt
          go_wp2_with fail
          go_ret
          exact ⟨by first | rfl | simp, HB.out⟩
        · have d2 : decide (2 < x) = false := decide_eq_false hhi
          have x1 : 1 ≤ x := by omega
          have x2 : x ≤ 2 := by omega
          go_wp2_with fail
          clear X3_0 X3_1 X3_l
          clear d1 d2 hlo hhi
          go_loopw [7] (fun v wr => ∃ k : Nat, k ≤ n ∧ v = .int .i64 (k : Nat) ∧ Below x65.heap.size x65 wr) (fun v _ => n - (intOf v).toNat)
          case atStart => exact ⟨0, by omega, rfl, Below.refl _ _⟩
          case round =>
            obtain ⟨k, hk, rfl, hbr⟩ := hrel
            have HL := Lib.hid hbr
            have X3 := Lib.hid (X3.out.step hbr)
            have I0 := Lib.hid (I0.out.step hbr)
            have I1 := Lib.hid (I1.out.step hbr)
            have I2 := Lib.hid (I2.out.step hbr)
            have HB := Lib.hid (bstep HB.out hbr)
            clear hbr
            have X3_0 := X3.out.cell0
            have X3_1 := X3.out.cell1
            have X3_l := X3.out.lt
            by_cases hkn : k < n
            · have hkI : (k : Int) < n := by omega
              obtain ⟨R, hR⟩ := PlB.make s n cs x (k : Nat) su Hl.out
              have hin := pos_in Hv.out Hl.out x1 x2 hkn Hlr.out hR
              obtain ⟨rs, h1⟩ : ∃ l, vS s R = l := ⟨_, rfl⟩
              obtain ⟨rc, h2⟩ : ∃ l, vC R = l := ⟨_, rfl⟩
              obtain ⟨rg, h3⟩ : ∃ l, vG R = l := ⟨_, rfl⟩
              obtain ⟨ok, h4⟩ : ∃ l, R.isSome = l := ⟨_, rfl⟩
              rw [h4] at hin
              have HVw := Lib.hid (View.mk h1 h2 h3 h4)
              have HR := Lib.hid hR
              have Hin := Lib.hid hin
              have hbb : (ok != ok) = false := by cases ok <;> rfl
              clear hin h1 h2 h3 h4 hR
              go_wp2_with fail
              refine (i_PlV s x (k : Nat) su _ _ _ n _ cs R rs rc rg ok I0.out (Nat.le_refl _) (by omega) HR HVw (HT.out.below HB.out) (HE.out.below HB.out)).mono ?_
              rintro e x618 ⟨A3, n3, c3, A4, n4, c4, mid, rfl, _, _, _, _, _, hb619⟩
              clear X3_0 X3_1 X3_l
              have X3 := Lib.hid (X3.out.step hb619)
              have I0 := Lib.hid (I0.out.step hb619)
              have I1 := Lib.hid (I1.out.step hb619)
              have I2 := Lib.hid (I2.out.step hb619)
              have HB := Lib.hid (bstep HB.out hb619)
              have HL := Lib.hid (bstep HL.out hb619)
              clear hb619
              have X3_0 := X3.out.cell0
              have X3_1 := X3.out.cell1
              have X3_l := X3.out.lt
              go_wp2_with fail
              obtain ⟨x620, hy622, hb621, z623, z624⟩ := new_box x618 (.cells #[.int .i64 rs, .slice A3 n3 c3] 25)
              have X8 : Hid (Bx 25 x620 x618.heap.size rs (.slice A3 n3 c3)) := Lib.hid (by rw [hy622]; exact Bx.new _ _ _ _)
              rw [← hy622]
              clear hy622
              clear X3_0 X3_1 X3_l
              have X3 := Lib.hid (X3.out.step hb621)
              have I0 := Lib.hid (I0.out.step hb621)
              have I1 := Lib.hid (I1.out.step hb621)
              have I2 := Lib.hid (I2.out.step hb621)
              have HB := Lib.hid (bstep HB.out hb621)
              have HL := Lib.hid (bstep HL.out hb621)
              clear hb621
              have X3_0 := X3.out.cell0
              have X3_1 := X3.out.cell1
              have X3_l := X3.out.lt
              have X8_0 := X8.out.cell0
              have X8_1 := X8.out.cell1
              have X8_l := X8.out.lt
              go_wp2_with fail
              refine (in_b _ _ _ _ lr (k : Nat) ok I1.out (by omega) Hin.out).mono ?_
              rintro e x625 ⟨rfl, hb626⟩
              clear X3_0 X3_1 X3_l X8_0 X8_1 X8_l
              have X3 := Lib.hid (X3.out.step hb626)
              have X8 := Lib.hid (X8.out.step hb626)
              have I0 := Lib.hid (I0.out.step hb626)
              have I1 := Lib.hid (I1.out.step hb626)
              have I2 := Lib.hid (I2.out.step hb626)
              have HB := Lib.hid (bstep HB.out hb626)
              have HL := Lib.hid (bstep HL.out hb626)
              clear hb626
              have X3_0 := X3.out.cell0
              have X3_1 := X3.out.cell1
              have X3_l := X3.out.lt
              have X8_0 := X8.out.cell0
              have X8_1 := X8.out.cell1
              have X8_l := X8.out.lt
              go_wp2_with fail
              go_roundw
              case rel => exact ⟨k + 1, by omega, by go_num, HL.out⟩
              case measure => simp [intOf]; omega
            · obtain ⟨lt, hlt⟩ := PosIs.make s n cs x true
              have hac := all_can Hv.out Hl.out x1 x2 hlt
              have htl := hlt.len
              obtain ⟨N, hN⟩ : ∃ N, lt.length = N := ⟨_, rfl⟩
              rw [hN] at hac htl
              have Hlt := Lib.hid hlt
              have HN := Lib.hid hN
              have Hac := Lib.hid hac
              have HTn := Lib.hid (HT.out.below HB.out)
              have HEn := Lib.hid (HE.out.below HB.out)
              clear hlt hac hN
              go_wp2_with fail
              have HC := Lib.hid (Below.refl wr.heap.size wr)
              go_cut [2] (fun v wx => v = .bool true ∧ Below wr.heap.size wr wx)
              case first =>
                go_region_held3 (fun w' => w'.cell? ⟨y0.heap.size, 0, none⟩ = some (.int .i64 s) ∧ w'.cell? ⟨y0.heap.size, 1, none⟩ = some (.slice A n c)) (first | exact ⟨X3_0, X3_1⟩ | go_keep) (first | (go_at_call 21; refine (i_PossT s x true _ _ n _ cs lt N (by first | with_reducible exact I0.out | with_reducible exact I0.out.dr) hn49 (by first | with_reducible exact HTn.out | with_reducible exact HTn.out.dr) (by first | with_reducible exact HEn.out | with_reducible exact HEn.out.dr) Hlt HN.out).mono ?_; rintro e yc ⟨A5, c5, rfl, ho9, hb9⟩; (try replace hb9 := undrew hb9); (try (have X3 := Lib.hid (X3.out.step hb9))); (try (have I0 := Lib.hid (I0.out.step hb9))); (try (have I1 := Lib.hid (I1.out.step hb9))); (try (have I2 := Lib.hid (I2.out.step hb9))); (try (have I5 := Lib.hid (I5.out.step hb9))); have HC := Lib.hid (bstep HC.out hb9); have X3_0 := X3.out.cell0; have X3_1 := X3.out.cell1; have X3_l := X3.out.lt; have I5 := Lib.hid ho9.ints; have HTn := Lib.hid (HTn.out.below hb9); have HEn := Lib.hid (HEn.out.below hb9); clear hb9 ho9) | (go_at_call 24; refine (cb_b s _ _ _ _ cs 0 (N : Nat) (by first | with_reducible exact I0.out | with_reducible exact I0.out.dr) hn49 Hac.out).mono ?_; rintro e yc ⟨rfl, hb9⟩; (try replace hb9 := undrew hb9); (try (have X3 := Lib.hid (X3.out.step hb9))); (try (have I0 := Lib.hid (I0.out.step hb9))); (try (have I1 := Lib.hid (I1.out.step hb9))); (try (have I2 := Lib.hid (I2.out.step hb9))); (try (have I5 := Lib.hid (I5.out.step hb9))); have HC := Lib.hid (bstep HC.out hb9); have X3_0 := X3.out.cell0; have X3_1 := X3.out.cell1; have X3_l := X3.out.lt; have HTn := Lib.hid (HTn.out.below hb9); have HEn := Lib.hid (HEn.out.below hb9); clear hb9))
                all_goals go_wp2_with fail
                all_goals go_meet
                all_goals exact ⟨(by first | rfl | simp), HC.out⟩
              case rest =>
                clear HC
                obtain ⟨rfl, hb968⟩ := hcut
                clear X3_0 X3_1 X3_l
                have X3 := Lib.hid (X3.out.step hb968)
                have I0 := Lib.hid (I0.out.step hb968)
                have I1 := Lib.hid (I1.out.step hb968)
                have I2 := Lib.hid (I2.out.step hb968)
                have HB := Lib.hid (bstep HB.out hb968)
                clear hb968
                have X3_0 := X3.out.cell0
                have X3_1 := X3.out.cell1
                have X3_l := X3.out.lt
                go_wp2_with fail
                go_ret
                exact ⟨rfl, HB.out⟩
    · have hv0 : Bd.okB s cs = false := by simpa using hv
      have Hv := Lib.hid hv0
      clear hv hv0
      go_wp2_with fail
      refine (vb_b s _ _ _ _ cs false I0.out hn49 Hv.out).mono ?_
      rintro e x715 ⟨rfl, hb716⟩
      clear X3_0 X3_1 X3_l
      have X3 := Lib.hid (X3.out.step hb716)
      have I0 := Lib.hid (I0.out.step hb716)
      have I1 := Lib.hid (I1.out.step hb716)
      have I2 := Lib.hid (I2.out.step hb716)
      have HB := Lib.hid (bstep HB.out hb716)
      clear hb716
      have X3_0 := X3.out.cell0
      have X3_1 := X3.out.cell1
      have X3_l := X3.out.lt
      go_wp2_with fail
      refine (s_Poss s x su _ _ _ n _ cs lr I0.out (Nat.le_refl _) (by omega) Hlr).mono ?_
      rintro e x718 ⟨A9, n9, c9, rfl, ho720, hb719⟩
      clear X3_0 X3_1 X3_l
      have X3 := Lib.hid (X3.out.step hb719)
      have I0 := Lib.hid (I0.out.step hb719)
      have I1 := Lib.hid (I1.out.step hb719)
      have I2 := Lib.hid (I2.out.step hb719)
      have HB := Lib.hid (bstep HB.out hb719)
      have I9 := Lib.hid ho720.ints
      have lenI9 := ho720.1
      clear hb719 ho720
      have X3_0 := X3.out.cell0
      have X3_1 := X3.out.cell1
      have X3_l := X3.out.lt
      obtain rfl : n9 = n2 := by have := I1.out.1; omega
      clear lenI9
      go_wp2_with fail
      refine (eq_b _ _ _ _ _ _ lr I1.out I9.out (by omega)).mono ?_
      rintro e x721 ⟨rfl, hb722⟩
      clear X3_0 X3_1 X3_l
      have X3 := Lib.hid (X3.out.step hb722)
      have I0 := Lib.hid (I0.out.step hb722)
      have I1 := Lib.hid (I1.out.step hb722)
      have I2 := Lib.hid (I2.out.step hb722)
      have I9 := Lib.hid (I9.out.step hb722)
      have HB := Lib.hid (bstep HB.out hb722)
      clear hb722
      have X3_0 := X3.out.cell0
      have X3_1 := X3.out.cell1
      have X3_l := X3.out.lt
      go_wp2_with fail
      go_ret
      exact ⟨by first | rfl | simp, HB.out⟩


abbrev listed : List (String × DataW Unit) := [("math/bits.deBruijn64tab", Rows.laid_math_bits_deBruijn64tab), ("loop.example/goboard/impl.errOccupied", Rows.laid_loop_example_goboard_impl_errOccupied), ("loop.example/goboard/impl.errNoLiberty", Rows.laid_loop_example_goboard_impl_errNoLiberty)]
theorem door_met (os : Os) (args : Array Value) : laidMetH Tryd.prog listed ((World.doorLaid Tryd.prog 400 os).forCall (fun _ _ => 0) ⟨#[], args, []⟩).memory :=
  laidMetH_of_parts3 (fuel := 8) (laidMet_of_run' 8 (by kernel_rfl) (by kernel_rfl)) (by kernel_rfl) (by kernel_rfl)
theorem tabOf {W : World} (h : laidMetH Tryd.prog listed W) : Tab W := by
  rw [MakeChecks.laidMetH_plain _ _ _ (by kernel_rfl)] at h
  exact Tab.of (Lib.tabIs_of_head (g := 2) (t := 110) (e := 5) (n := 64) (by kernel_rfl) (by kernel_rfl) (by kernel_rfl) (by kernel_rfl) (by kernel_rfl) (by kernel_rfl) h) (by kernel_rfl)

theorem gv0 : Tryd.prog.globalNamed "loop.example/goboard/impl.errOccupied" = some 0 := by kernel_rfl
theorem gv1 : Tryd.prog.globalNamed "loop.example/goboard/impl.errNoLiberty" = some 1 := by kernel_rfl
theorem tv0 : (Tryd.prog.globals[0]?).map (·.type) = some 69 := by kernel_rfl
theorem tv1 : (Tryd.prog.globals[1]?).map (·.type) = some 69 := by kernel_rfl
theorem cellsE : Tryd.prog.cellsOf 139 = 1 := by kernel_rfl
theorem cellsS : Tryd.prog.cellsOf 9 = 1 := by kernel_rfl
theorem starE : "*" ++ "errors.errorString" = "*errors.errorString" := by decide
theorem rowE (u : TypeId) (h : Tryd.prog.typeName? 3 u = some "*errors.errorString") : u = 122 :=
  typeName_ptr_named (nm := "errors.errorString") (by rw [starE]; kernel_rfl) (by kernel_rfl) (by decide) u (by rw [starE]; exact h)
theorem sents {W : World} (h0 : laidMetH Tryd.prog listed W) : ∃ a0 a1 : Addr,
    W.var? Tryd.prog "loop.example/goboard/impl.errOccupied" = some #[.iface 122 (.pointer (some a0))] ∧ W.var? Tryd.prog "loop.example/goboard/impl.errNoLiberty" = some #[.iface 122 (.pointer (some a1))] := by
  rw [MakeChecks.laidMetH_plain _ _ _ (by kernel_rfl)] at h0
  obtain ⟨ps, ⟨g0, t0, cs0, f0, p0, q0, hg0, ht0, hv0, hd0, ⟨g1, t1, cs1, f1, p1, q1, hg1, ht1, hv1, hd1, hq1, e1⟩, e0⟩, hnd, hrows⟩ := h0.tail
  obtain rfl := Option.some.inj (gv0.symm.trans hg0)
  obtain rfl := Option.some.inj (gv1.symm.trans hg1)
  obtain rfl := Option.some.inj (tv0.symm.trans ht0)
  obtain rfl := Option.some.inj (tv1.symm.trans ht1)
  have hq1' : q1 = [] := hq1
  subst hq1'
  subst e1
  subst e0
  obtain ⟨l0⟩ := cs0
  obtain ⟨l1⟩ := cs1
  have ok0 : ∀ u v, l0 = [.iface u v] → Value.okWide Tryd.prog W .any 0 u v := fun u v e => by
    subst e
    exact (hrows 0 0 (by simp [MemPlace.row])).2 u v (by simpa using World.var?_cell hg0 hv0 0)
  have ok1 : ∀ u v, l1 = [.iface u v] → Value.okWide Tryd.prog W .any 0 u v := fun u v e => by
    subst e
    exact (hrows 1 0 (by simp [MemPlace.row])).2 u v (by simpa using World.var?_cell hg1 hv1 0)
  obtain ⟨a0, s0, rfl, hc0, hs0, hz0, rfl⟩ := errorString_of_trod Tryd.underlying69 rowE Tryd.underlying122 Tryd.underlying139 rfl rfl Tryd.underlying9 cellsE cellsS hd0 ok0
  obtain ⟨a1, s1, rfl, hc1, hs1, hz1, rfl⟩ := errorString_of_trod Tryd.underlying69 rowE Tryd.underlying122 Tryd.underlying139 rfl rfl Tryd.underlying9 cellsE cellsS hd1 ok1
  exact ⟨a0, a1, hv0, hv1⟩
theorem glt {W : World} {g : Nat} {v : Value} (h : W.cell? ⟨g, 0, none⟩ = some v) : g < W.heap.size := by
  rcases Nat.lt_or_ge g W.heap.size with hlt | hge
  · exact hlt
  · simp [World.cell?, Array.getElem?_eq_none hge] at h
theorem errs {W : World} {a0 a1 : Addr} (hv0 : W.var? Tryd.prog "loop.example/goboard/impl.errOccupied" = some #[.iface 122 (.pointer (some a0))]) (hv1 : W.var? Tryd.prog "loop.example/goboard/impl.errNoLiberty" = some #[.iface 122 (.pointer (some a1))]) : ErrW W := by
  have h0 : W.cell? ⟨0, 0, none⟩ = some (.iface 122 (.pointer (some a0))) := by simpa using World.var?_cell gv0 hv0 0
  have h1 : W.cell? ⟨1, 0, none⟩ = some (.iface 122 (.pointer (some a1))) := by simpa using World.var?_cell gv1 hv1 0
  exact ⟨a0, a1, h0, h1, glt h0, glt h1⟩
theorem vars_read {H : Type} (enc : TypeId × Value → H) {W : World} {x0 x1 : Value} (h0 : W.var? Tryd.prog "loop.example/goboard/impl.errOccupied" = some #[x0]) (h1 : W.var? Tryd.prog "loop.example/goboard/impl.errNoLiberty" = some #[x1]) (i0 : IsIface x0) (i1 : IsIface x1) (sp : Nat → Bool) :
    DataW.TrodVars enc Tryd.prog W sp ["loop.example/goboard/impl.errOccupied", "loop.example/goboard/impl.errNoLiberty"] [tok enc x0, tok enc x1] [.cell 0 0, .cell 1 0] :=
  ⟨_, _, #[x0], 1, [], [.cell 1 0], gv0, tv0, h0, trod_held Tryd.underlying69 i0 0, ⟨_, _, #[x1], 1, [], [], gv1, tv1, h1, trod_held Tryd.underlying69 i1 0, rfl, rfl⟩, rfl⟩
theorem var_below {W W' : World} {n : String} {g : Nat} {cs : Array Value} (hg : Tryd.prog.globalNamed n = some g) (h : W.var? Tryd.prog n = some cs) (hb : Below W.heap.size W W') : W'.var? Tryd.prog n = some cs := by
  unfold World.var? at h ⊢
  simp only [hg, Option.bind_some] at h ⊢
  have hlt : g < W.heap.size := by
    rcases Nat.lt_or_ge g W.heap.size with h' | h'
    · exact h'
    · simp [Array.getElem?_eq_none h'] at h
  rw [hb.block g hlt]
  exact h

set_option maxRecDepth 100000 in
theorem lifted (os : Os) (started : os.Started) (H : Type) (enc : TypeId × Value → H) :
    ReturnsInHanded {} Tryd.checked os 5 .any (fun w args => (Rows.fnPossiblePointsSpec.pre enc Tryd.prog Tryd.f5 [] false w args ∧ laidMetH Tryd.prog listed w) ∧ sizedMet enc Tryd.prog Tryd.f5 (OpenSpec.ofChange Rows.fnPossiblePointsSpec) false w args) (Rows.fnPossiblePointsSpec.post enc Tryd.prog Tryd.f5 false true false false) := by
  refine returnsInHanded_of_change_and (C := Tryd.checked) (X := fun w _ => laidMetH Tryd.prog listed w) (fun _ _ _ hh h => h.of_heap hh) own started (by kernel_rfl) Tryd.func5
    (ChangeSpec.witness_shaped (enc := enc) (C := Tryd.checked) (os := os) (X := fun w _ => laidMetH Tryd.prog listed w) false (World.doorLaid Tryd.prog 400 os) #[.slice none 0 0] 8 rfl (World.shaped_of_RefB (by kernel_rfl) (by kernel_rfl)) (by kernel_rfl) (by kernel_rfl) (by kernel_rfl) (door_met os _)) ?_
  intro W base args ds gs before hval0 hW _ _ hL _
  have hval : ∀ (j : Nat) t v, Tryd.f5.params[j]? = some t → args[j]? = some v → Value.okWide Tryd.prog W .any base t v := hval0
  have hW' := hW
  obtain ⟨p, q, hA0, hV, rfl, hfz, hnd⟩ := hW
  have hA : DataW.TrodAll enc Tryd.prog W 0 (fun _ => true) true Tryd.f5.params.toList args.toList ds p := hA0
  rw [Tryd.params5] at hA hval
  obtain ⟨v0, vs0, d0, ds0, p0, q0, hargs, rfl, rfl, h0, r0⟩ := trodAll_cons hA
  obtain ⟨rfl, rfl, rfl⟩ := trodAll_nil r0
  obtain rfl : args = #[v0] := by cases args; simp_all
  have hVv : DataW.TrodVars enc Tryd.prog W (fun _ => true) ["loop.example/goboard/impl.errOccupied", "loop.example/goboard/impl.errNoLiberty"] gs q := hV
  obtain ⟨er0, er1, hv0, hv1⟩ := sents hL
  obtain ⟨rfl, rfl⟩ := hVv.unique (vars_read enc hv0 hv1 trivial trivial _)
  have hE := errs hv0 hv1
  clear hVv hV
  obtain ⟨a0, len0, cap0, rfl⟩ := okWide_slice Tryd.underlying22 (hval 0 22 v0 rfl rfl)
  have k0 := h0
  have lt0 : ∀ x ∈ p0, x.block < W.heap.size := by obtain ⟨m, hm⟩ := k0; exact DataW.trod_lt m _ _ _ hm
  obtain ⟨z0, w0⟩ : ∃ zs, IsRow .u8 W a0 len0 cap0 zs := by
    obtain ⟨fuel, hf⟩ := h0
    rcases open_ints Tryd.underlying22 Tryd.underlying5 (by kernel_rfl) hf with ⟨hcs, _⟩ | ⟨x, l, c, zs, hcs, _, hl, hm, hz, _, hcell, hwz⟩
    · simp [Value.cells] at hcs
      obtain ⟨rfl, rfl, rfl⟩ := hcs
      exact ⟨[], .inl ⟨rfl, rfl, rfl, rfl⟩⟩
    · simp [Value.cells] at hcs
      obtain ⟨rfl, rfl, rfl⟩ := hcs
      exact ⟨zs, .inr ⟨_, rfl, hl, hm, by simpa using hz, hcell, hwz⟩⟩
  clear hA0 hval0
  refine (walk a0 len0 cap0 z0 W (tabOf hL) hE w0).mono fun e W' ⟨he, bel⟩ => ?_
  subst he
  exact ⟨_, rfl, _, _, _, [], _, [.cell 0 0, .cell 1 0], hW', trodAll_mk1 (shut_bool Tryd.underlying4 _), (trodAll_cons_mk (Below.trod laidOut (by kernel_rfl) (of_decide_eq_true (by kernel_rfl)) k0 bel lt0) trodAll_mk0), vars_read enc (var_below gv0 hv0 bel) (var_below gv1 hv1 bel) trivial trivial _, bel.frame _, fun h => by cases h⟩

theorem over : Rows.fnPossiblePointsRow.holds Tryd.pinned (OpenSpec.ofChange Rows.fnPossiblePointsSpec) :=
  OpenClaim.holds_of_wide 5 Tryd.f5 rfl rfl rfl rfl rfl rfl rfl ⟨rfl, rfl, rfl, rfl, rfl⟩ rfl rfl rfl rfl rfl (by kernel_rfl) Tryd.func5 (by kernel_rfl)
    (of_decide_eq_true (by kernel_rfl)) (by unfold Func.isWrapper; first | (rw [if_pos (by decide +kernel)]; kernel_rfl) | (rw [if_neg (by decide +kernel)]; exact ⟨rfl, rfl⟩))
    (fun os started H enc _ => lifted os started H enc)

theorem proved : Rows.FnPossiblePointsCardSaid :=
  Claim7.holds_tied_plain_at .later [] [.data, .sentinel, .sentinel] true Rows.fnPossiblePointsCard.stood.harness false
    over (fun _ h => by cases h) (by kernel_rfl) (fun _ h => by cases h) fnPossiblePoints_row_tie rfl ⟨rfl, rfl⟩ (by kernel_rfl) rfl
    (fun f fn hf hfn => by
      obtain rfl : f = 5 := Option.some.inj ((show Tryd.prog.funcNamed "loop.example/goboard/laws.FnPossiblePoints" = some 5 by kernel_rfl).symm.trans hf) |>.symm
      obtain rfl : fn = Tryd.f5 := (Option.some.inj (Tryd.func5.symm.trans hfn)).symm
      exact ⟨by kernel_rfl, fun j t ht => by
        have hm : t ∈ Tryd.f5.params.toList := by simpa using Array.mem_of_getElem? ht
        have hall : (Tryd.f5.params.toList.all fun u => !Tryd.prog.wantsStandIn u) = true := by kernel_rfl
        exact (show Tryd.prog.wantsStandIn t = false by simpa using List.all_eq_true.1 hall t hm)⟩)
    (by kernel_rfl)
end Go.Proofs.YtpogjegihhljpaaDoor.fnPossiblePoints
