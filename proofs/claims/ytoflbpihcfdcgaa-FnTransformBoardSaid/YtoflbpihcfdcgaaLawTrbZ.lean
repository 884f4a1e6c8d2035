/-
  The law of images: for every drawn board and symmetry, what is at a point of the board is at its image in the image. For every code. No condition.
-/
import Derived.Test.YtoflbpihcfdcgaaLawKitB
import Derived.Test.YtoflbpihcfdcgaaRows
import Derived.Deep.RegionHeld3
import Derived.Deep.RegionWith
import Derived.Deep.DeepCutAuto
import Derived.WalkKit
import Derived.ProofKit
import Derived.OpenShut
import Derived.ShutString
import Derived.ChangeOld
import Derived.Below
namespace Go.Proofs.Ytoflbpihcfdcgaa.fnTransformBoard
open Go.ChangeShapes Go.WideShapes Go.ChangeAt Go.RowKit
open Go.ChangeMaps (open_string shut_string)
set_option linter.unusedVariables false

theorem own : ownKnob Try.prog.godebug = none := by kernel_rfl
theorem laidOut : laidOutB Try.prog = true := by kernel_rfl


set_option maxRecDepth 100000 in
set_option maxHeartbeats 16000000 in
theorem walk (a0 : Option Addr) (len0 cap0 : Nat) (z0 : List Int) (w : World) (w0 : IsRow .u8 w a0 len0 cap0 z0) :
    Calls Try.prog 4 #[.slice a0 len0 cap0] w fun e w' => e = .returned (.bool true) ∧ Below w.heap.size w w' := by
  by_cases hl : 1048576 < len0
  · go_enter Try.func4, Try.ntmps4
    go_wp2_with fail
    go_ret
    exact ⟨rfl, Below.refl _ _⟩
  · have hl' : decide ((1048576 : Int) < (len0 : Int)) = false := by rw [decide_eq_false_iff_not]; omega
    go_enter Try.func4, Try.ntmps4
    go_wp2_with fail
    refine (d_trb w a0 len0 cap0 z0 w0).mono ?_
    rintro e y0 ⟨s, A, n, c, cs, x, rfl, hi, hn49, s0, s8, hx, hb⟩
    have I0 := Lib.hid hi
    have HB := Lib.hid hb
    clear hi hb w0 hl'
    go_wp2_with fail
    obtain ⟨x1, hy3, hb2, z4, z5⟩ := new_box y0 (.cells #[.int .i64 s, .slice A n c] 25)
    have X3 : Hid (Bx 25 x1 y0.heap.size s (.slice A n c)) := Lib.hid (by rw [hy3]; exact Bx.new _ _ _ _)
    rw [← hy3]
    clear hy3
    have I0 := Lib.hid (I0.out.step hb2)
    have HB := Lib.hid (bstep HB.out hb2)
    clear hb2
    have X3_0 := X3.out.cell0
    have X3_1 := X3.out.cell1
    have X3_l := X3.out.lt
    by_cases hv : trOk s cs x = true
    · have hb2 : Bd.okB s cs = true ∧ Pt.okK x = true := by rw [trOk] at hv; simpa using hv
      have Hv := Lib.hid hb2.1
      have Hk := Lib.hid hb2.2
      obtain ⟨s1, s7, hsn, _⟩ := (Bd.okB_iff s cs).1 hb2.1
      obtain ⟨k1, k2⟩ := (Pt.okK_iff x).1 hb2.2
      have Hsn := Lib.hid hsn
      have hz : (s == 0) = false := by simp; omega
      have hsq := Pt.sq_bd s s1 s7
      obtain ⟨cs1, hc1⟩ : ∃ l, Bd.mv s x cs = l := ⟨_, rfl⟩
      have Hc1 := Lib.hid hc1
      clear hv hb2 hsn hc1
      go_wp2_with fail
      refine (i_trW s x _ _ _ _ cs cs1 I0.out hn49 Hv.out Hk.out Hc1.out).mono ?_
      rintro e x56 ⟨A1, c1, rfl, ho58, hb57⟩
      clear X3_0 X3_1 X3_l
      have X3 := Lib.hid (X3.out.step hb57)
      have I0 := Lib.hid (I0.out.step hb57)
      have HB := Lib.hid (bstep HB.out hb57)
      have I1 := Lib.hid ho58.ints
      have lenI1 := ho58.1
      clear lenI1
      clear hb57 ho58
      have X3_0 := X3.out.cell0
      have X3_1 := X3.out.cell1
      have X3_l := X3.out.lt
      go_wp2_with fail
      obtain ⟨x59, hy61, hb60, z62, z63⟩ := new_box x56 (.cells #[.int .i64 s, .slice A1 n c1] 25)
      have X4 : Hid (Bx 25 x59 x56.heap.size s (.slice A1 n c1)) := Lib.hid (by rw [hy61]; exact Bx.new _ _ _ _)
      rw [← hy61]
      clear hy61
      clear X3_0 X3_1 X3_l
      have X3 := Lib.hid (X3.out.step hb60)
      have I0 := Lib.hid (I0.out.step hb60)
      have I1 := Lib.hid (I1.out.step hb60)
      have HB := Lib.hid (bstep HB.out hb60)
      clear hb60
      have X3_0 := X3.out.cell0
      have X3_1 := X3.out.cell1
      have X3_l := X3.out.lt
      have X4_0 := X4.out.cell0
      have X4_1 := X4.out.cell1
      have X4_l := X4.out.lt
      go_wp2_with fail
      have HC := Lib.hid (Below.refl x59.heap.size x59)
      go_cut [28] (fun v wx => v = .bool false ∧ Below x59.heap.size x59 wx)
      case first =>
        go_region_held3 (fun w' => w'.cell? ⟨y0.heap.size, 0, none⟩ = some (.int .i64 s) ∧ w'.cell? ⟨y0.heap.size, 1, none⟩ = some (.slice A n c) ∧ w'.cell? ⟨x56.heap.size, 0, none⟩ = some (.int .i64 s) ∧ w'.cell? ⟨x56.heap.size, 1, none⟩ = some (.slice A1 n c1)) (first | exact ⟨X3_0, X3_1, X4_0, X4_1⟩ | go_keep) (first | (go_at_call 18; refine (s_trW s x _ _ _ _ cs cs1 (by first | with_reducible exact I0.out | with_reducible exact I0.out.dr) hn49 Hv.out Hk.out Hc1.out).mono ?_; rintro e yc ⟨A2, c2, rfl, ho9, hb9⟩; (try replace hb9 := undrew hb9); (try (have X3 := Lib.hid (X3.out.step hb9))); (try (have X4 := Lib.hid (X4.out.step hb9))); (try (have I0 := Lib.hid (I0.out.step hb9))); (try (have I1 := Lib.hid (I1.out.step hb9))); (try (have R2 := Lib.hid (R2.out.step hb9))); have HC := Lib.hid (bstep HC.out hb9); have X3_0 := X3.out.cell0; have X3_1 := X3.out.cell1; have X3_l := X3.out.lt; have X4_0 := X4.out.cell0; have X4_1 := X4.out.cell1; have X4_l := X4.out.lt; have R2 := Lib.hid ho9.ints; clear hb9 ho9) | (go_at_call 17; refine (l_eqB s _ _ _ _ _ _ cs1 (by first | with_reducible exact I1.out | with_reducible exact I1.out.dr) (by first | with_reducible exact R2.out | with_reducible exact R2.out.dr) (by omega)).mono ?_; rintro e yc ⟨rfl, hb9⟩; (try replace hb9 := undrew hb9); (try (have X3 := Lib.hid (X3.out.step hb9))); (try (have X4 := Lib.hid (X4.out.step hb9))); (try (have I0 := Lib.hid (I0.out.step hb9))); (try (have I1 := Lib.hid (I1.out.step hb9))); (try (have R2 := Lib.hid (R2.out.step hb9))); have HC := Lib.hid (bstep HC.out hb9); have X3_0 := X3.out.cell0; have X3_1 := X3.out.cell1; have X3_l := X3.out.lt; have X4_0 := X4.out.cell0; have X4_1 := X4.out.cell1; have X4_l := X4.out.lt; clear hb9))
        all_goals go_wp2_with fail
        all_goals go_meet
        all_goals exact ⟨rfl, HC.out⟩
      case rest =>
        clear HC
        obtain ⟨rfl, hb64⟩ := hcut
        clear X3_0 X3_1 X3_l X4_0 X4_1 X4_l
        have X3 := Lib.hid (X3.out.step hb64)
        have X4 := Lib.hid (X4.out.step hb64)
        have I0 := Lib.hid (I0.out.step hb64)
        have I1 := Lib.hid (I1.out.step hb64)
        have HB := Lib.hid (bstep HB.out hb64)
        clear hb64
        have X3_0 := X3.out.cell0
        have X3_1 := X3.out.cell1
        have X3_l := X3.out.lt
        have X4_0 := X4.out.cell0
        have X4_1 := X4.out.cell1
        have X4_l := X4.out.lt
        have hlI := I0.out.1
        have Hcs := Lib.hid hlI
        obtain ⟨b, o, hA, hbB, hc⟩ : ∃ b o, A = some ⟨b, o, none⟩ ∧ b < wc.heap.size ∧ ∀ j, j < n → wc.cell? ⟨b, o + j, none⟩ = some (.int .i64 (cs.getD j 0)) := by
          rcases I0.out.2 with h0 | ⟨b, o, hA, hbB, hc⟩
          · have := Hsn.out; omega
          · exact ⟨b, o, hA, hbB, hc⟩
        have Hc := Lib.hid hc
        clear hlI hc
        clear X3_0 X3_1 X3_l X4_0 X4_1 X4_l
        have X3 : Hid (Bx 25 wc y0.heap.size s (.slice (some ⟨b, o, none⟩) n c)) := Lib.hid (by rw [← hA]; exact X3.out)
        have X3_0 := X3.out.cell0
        have X3_1 := X3.out.cell1
        have X3_l := X3.out.lt
        have X4_0 := X4.out.cell0
        have X4_1 := X4.out.cell1
        have X4_l := X4.out.lt
        go_wp2_with fail
        clear X3_0 X3_1 X3_l X4_0 X4_1 X4_l
        go_loopw [6] (fun v wr => ∃ k : Nat, k ≤ n ∧ v = .int .i64 (k : Nat) ∧ Below wc.heap.size wc wr) (fun v _ => n - (intOf v).toNat)
        case atStart => exact ⟨0, by omega, rfl, Below.refl _ _⟩
        case round =>
          obtain ⟨k, hk, rfl, hbr⟩ := hrel
          have HL := Lib.hid hbr
          have X3 := Lib.hid (X3.out.step hbr)
          have X4 := Lib.hid (X4.out.step hbr)
          have I0 := Lib.hid (I0.out.step hbr)
          have I1 := Lib.hid (I1.out.step hbr)
          have HB := Lib.hid (bstep HB.out hbr)
          clear hbr
          have X3_0 := X3.out.cell0
          have X3_1 := X3.out.cell1
          have X3_l := X3.out.lt
          have X4_0 := X4.out.cell0
          have X4_1 := X4.out.cell1
          have X4_l := X4.out.lt
          by_cases hkn : k < n
          · have hkI : (k : Int) < n := by omega
            obtain ⟨q1, q2⟩ := Bd.imgN_lt s x n k s1 s7 (by have := Hsn.out; have := Hcs.out; omega) hkn
            obtain ⟨q, hq⟩ : ∃ q, Bd.imgN s x k = q := ⟨_, rfl⟩
            obtain ⟨e, he⟩ : ∃ e, cs.getD k 0 = e := ⟨_, rfl⟩
            have htr : Pt.tr s x (k : Nat) = (q : Nat) := by
              have := Pt.tr_in s x k s1 s7 (by omega) (by have := Hsn.out; have := Hcs.out; omega) k1 k2
              rw [this, ← hq]; exact q2.symm
            have Htr : Hid (∀ w, Calls Try.prog 21 #[.int .i64 s, .int .i64 x, .int .i64 (k : Nat)] w fun e w' => e = .returned (.int .i64 (q : Nat)) ∧ Below w.heap.size w w') := Lib.hid (fun w => by rw [← htr]; exact i_tr s x (k : Nat) w)
            have Hee : Hid (cs1.getD q 0 = e) := Lib.hid (by
              rw [← Hc1.out, ← hq, ← he, List.getD_eq_getElem?_getD, mv_at s1 s7 Hsn.out k1 k2 (by rw [Hcs.out]; exact hkn)]; rfl)
            have Hck : Hid (∀ w9, Below wr.heap.size wr w9 → w9.cell? ⟨b, o + k, none⟩ = some (.int .i64 e)) := Lib.hid (fun w9 hb9 => by
              rw [← he]; exact (hb9.cell (p := ⟨b, o + k, none⟩) (by show b < _; have := HL.out.size; omega)).trans ((HL.out.cell (p := ⟨b, o + k, none⟩) hbB).trans (Hc.out k hkn)))
            have hqn : q < n := by omega
            clear q1 q2 hq he htr
            go_wp2_with fail
            have HC := Lib.hid (Below.refl wr.heap.size wr)
            go_cut [53] (fun v wx => v = .bool false ∧ Below wr.heap.size wr wx)
            case first =>
              have ck := Hck.out _ HC.out
              go_region_held3 (fun w' => w'.cell? ⟨y0.heap.size, 0, none⟩ = some (.int .i64 s) ∧ w'.cell? ⟨y0.heap.size, 1, none⟩ = some (.slice (some ⟨b, o, none⟩) n c) ∧ w'.cell? ⟨x56.heap.size, 0, none⟩ = some (.int .i64 s) ∧ w'.cell? ⟨x56.heap.size, 1, none⟩ = some (.slice A1 n c1) ∧ w'.cell? ⟨b, o + k, none⟩ = some (.int .i64 e)) (first | exact ⟨X3_0, X3_1, X4_0, X4_1, ck⟩ | go_keep) (first | (go_at_call 21; refine (Htr.out _).mono ?_; rintro e yc ⟨rfl, hb9⟩; (try replace hb9 := undrew hb9); (try (have X3 := Lib.hid (X3.out.step hb9))); (try (have X4 := Lib.hid (X4.out.step hb9))); (try (have I0 := Lib.hid (I0.out.step hb9))); (try (have I1 := Lib.hid (I1.out.step hb9))); have HC := Lib.hid (bstep HC.out hb9); have X3_0 := X3.out.cell0; have X3_1 := X3.out.cell1; have X3_l := X3.out.lt; have X4_0 := X4.out.cell0; have X4_1 := X4.out.cell1; have X4_l := X4.out.lt; have ck := Hck.out _ HC.out; clear hb9) | (go_at_call 20; refine (l_colorAt s _ _ _ _ cs1 q e (by first | with_reducible exact I1.out | with_reducible exact I1.out.dr) hqn Hee.out).mono ?_; rintro e yc ⟨rfl, hb9⟩; (try replace hb9 := undrew hb9); (try (have X3 := Lib.hid (X3.out.step hb9))); (try (have X4 := Lib.hid (X4.out.step hb9))); (try (have I0 := Lib.hid (I0.out.step hb9))); (try (have I1 := Lib.hid (I1.out.step hb9))); have HC := Lib.hid (bstep HC.out hb9); have X3_0 := X3.out.cell0; have X3_1 := X3.out.cell1; have X3_l := X3.out.lt; have X4_0 := X4.out.cell0; have X4_1 := X4.out.cell1; have X4_l := X4.out.lt; have ck := Hck.out _ HC.out; clear hb9))
              all_goals go_wp2_with fail
              all_goals go_meet
              all_goals exact ⟨rfl, HC.out⟩
            case rest =>
              clear HC
              obtain ⟨rfl, hb115⟩ := hcut
              clear X3_0 X3_1 X3_l X4_0 X4_1 X4_l
              have X3 := Lib.hid (X3.out.step hb115)
              have X4 := Lib.hid (X4.out.step hb115)
              have I0 := Lib.hid (I0.out.step hb115)
              have I1 := Lib.hid (I1.out.step hb115)
              have HB := Lib.hid (bstep HB.out hb115)
              have HL := Lib.hid (bstep HL.out hb115)
              clear hb115
              have X3_0 := X3.out.cell0
              have X3_1 := X3.out.cell1
              have X3_l := X3.out.lt
              have X4_0 := X4.out.cell0
              have X4_1 := X4.out.cell1
              have X4_l := X4.out.lt
              go_wp2_with fail
              go_roundw
              case rel => exact ⟨k + 1, by omega, by go_num, HL.out⟩
              case measure => simp [intOf]; omega
          · go_wp2_with fail
            go_ret
            exact ⟨rfl, HB.out⟩
    · have hv0 : trOk s cs x = false := by simpa using hv
      have Hv := Lib.hid hv0
      clear hv hv0
      go_wp2_with fail
      refine (i_trN s _ _ _ _ cs x I0.out hn49 Hv.out).mono ?_
      rintro e x706 ⟨A1, n1, c1, rfl, ho708, hb707⟩
      clear X3_0 X3_1 X3_l
      have X3 := Lib.hid (X3.out.step hb707)
      have I0 := Lib.hid (I0.out.step hb707)
      have HB := Lib.hid (bstep HB.out hb707)
      have I1 := Lib.hid ho708.ints
      have lenI1 := ho708.1
      clear hb707 ho708
      have X3_0 := X3.out.cell0
      have X3_1 := X3.out.cell1
      have X3_l := X3.out.lt
      obtain rfl : 0 = n1 := lenI1
      try clear lenI1
      go_wp2_with fail
      obtain ⟨x709, hy711, hb710, z712, z713⟩ := new_box x706 (.cells #[.int .i64 0, .slice A1 0 c1] 25)
      have X4 : Hid (Bx 25 x709 x706.heap.size 0 (.slice A1 0 c1)) := Lib.hid (by rw [hy711]; exact Bx.new _ _ _ _)
      rw [← hy711]
      clear hy711
      clear X3_0 X3_1 X3_l
      have X3 := Lib.hid (X3.out.step hb710)
      have I0 := Lib.hid (I0.out.step hb710)
      have I1 := Lib.hid (I1.out.step hb710)
      have HB := Lib.hid (bstep HB.out hb710)
      clear hb710
      have X3_0 := X3.out.cell0
      have X3_1 := X3.out.cell1
      have X3_l := X3.out.lt
      have X4_0 := X4.out.cell0
      have X4_1 := X4.out.cell1
      have X4_l := X4.out.lt
      go_wp2_with fail
      have HC := Lib.hid (Below.refl x709.heap.size x709)
      go_cut [28] (fun v wx => v = .bool true ∧ Below x709.heap.size x709 wx)
      case first =>
        go_region_with (first | (go_at_call 18; refine (s_trN s _ _ _ _ cs x (by exact I0.out) hn49 Hv.out).mono ?_; rintro e yc ⟨A2, n2, c2, rfl, ho9, hb9⟩; (try replace hb9 := undrew hb9); (try (have X3 := Lib.hid (X3.out.step hb9))); (try (have X4 := Lib.hid (X4.out.step hb9))); (try (have I0 := Lib.hid (I0.out.step hb9))); (try (have I1 := Lib.hid (I1.out.step hb9))); (try (have R2 := Lib.hid (R2.out.step hb9))); have HC := Lib.hid (bstep HC.out hb9); have X3_0 := X3.out.cell0; have X3_1 := X3.out.cell1; have X3_l := X3.out.lt; have X4_0 := X4.out.cell0; have X4_1 := X4.out.cell1; have X4_l := X4.out.lt; have R2 := Lib.hid ho9.ints; have lenR2 := ho9.1; obtain rfl : 0 = n2 := lenR2; (try clear lenR2); clear hb9 ho9) | (go_at_call 17; refine (l_eqB 0 _ _ _ _ _ _ [] (by exact I1.out) (by exact R2.out) (by omega)).mono ?_; rintro e yc ⟨rfl, hb9⟩; (try replace hb9 := undrew hb9); (try (have X3 := Lib.hid (X3.out.step hb9))); (try (have X4 := Lib.hid (X4.out.step hb9))); (try (have I0 := Lib.hid (I0.out.step hb9))); (try (have I1 := Lib.hid (I1.out.step hb9))); (try (have R2 := Lib.hid (R2.out.step hb9))); have HC := Lib.hid (bstep HC.out hb9); have X3_0 := X3.out.cell0; have X3_1 := X3.out.cell1; have X3_l := X3.out.lt; have X4_0 := X4.out.cell0; have X4_1 := X4.out.cell1; have X4_l := X4.out.lt; clear hb9))
        all_goals go_wp2_with fail
        all_goals go_meet
        all_goals exact ⟨rfl, HC.out⟩
      case rest =>
        clear HC
        obtain ⟨rfl, hb714⟩ := hcut
        clear X3_0 X3_1 X3_l X4_0 X4_1 X4_l
        have X3 := Lib.hid (X3.out.step hb714)
        have X4 := Lib.hid (X4.out.step hb714)
        have I0 := Lib.hid (I0.out.step hb714)
        have I1 := Lib.hid (I1.out.step hb714)
        have HB := Lib.hid (bstep HB.out hb714)
        clear hb714
        have X3_0 := X3.out.cell0
        have X3_1 := X3.out.cell1
        have X3_l := X3.out.lt
        have X4_0 := X4.out.cell0
        have X4_1 := X4.out.cell1
        have X4_l := X4.out.lt
        go_wp2_with fail
        have HC := Lib.hid (Below.refl wc.heap.size wc)
        go_cut [2] (fun v wx => v = .bool true ∧ Below wc.heap.size wc wx)
        case first =>
          go_region_with (first | (go_at_call 18; refine (s_trN s _ _ _ _ cs x (by exact I0.out) hn49 Hv.out).mono ?_; rintro e yc ⟨A2, n2, c2, rfl, ho9, hb9⟩; (try replace hb9 := undrew hb9); (try (have X3 := Lib.hid (X3.out.step hb9))); (try (have X4 := Lib.hid (X4.out.step hb9))); (try (have I0 := Lib.hid (I0.out.step hb9))); (try (have I1 := Lib.hid (I1.out.step hb9))); (try (have R2 := Lib.hid (R2.out.step hb9))); have HC := Lib.hid (bstep HC.out hb9); have X3_0 := X3.out.cell0; have X3_1 := X3.out.cell1; have X3_l := X3.out.lt; have X4_0 := X4.out.cell0; have X4_1 := X4.out.cell1; have X4_l := X4.out.lt; have R2 := Lib.hid ho9.ints; have lenR2 := ho9.1; obtain rfl : 0 = n2 := lenR2; (try clear lenR2); clear hb9 ho9) | (go_at_call 17; refine (l_eqB 0 _ _ _ _ _ _ [] (by exact I1.out) (by exact R2.out) (by omega)).mono ?_; rintro e yc ⟨rfl, hb9⟩; (try replace hb9 := undrew hb9); (try (have X3 := Lib.hid (X3.out.step hb9))); (try (have X4 := Lib.hid (X4.out.step hb9))); (try (have I0 := Lib.hid (I0.out.step hb9))); (try (have I1 := Lib.hid (I1.out.step hb9))); (try (have R2 := Lib.hid (R2.out.step hb9))); have HC := Lib.hid (bstep HC.out hb9); have X3_0 := X3.out.cell0; have X3_1 := X3.out.cell1; have X3_l := X3.out.lt; have X4_0 := X4.out.cell0; have X4_1 := X4.out.cell1; have X4_l := X4.out.lt; clear hb9))
          all_goals go_wp2_with fail
          all_goals go_meet
          all_goals exact ⟨rfl, HC.out⟩
        case rest =>
          clear HC
          obtain ⟨rfl, hb715⟩ := hcut
          clear X3_0 X3_1 X3_l X4_0 X4_1 X4_l
          have X3 := Lib.hid (X3.out.step hb715)
          have X4 := Lib.hid (X4.out.step hb715)
          have I0 := Lib.hid (I0.out.step hb715)
          have I1 := Lib.hid (I1.out.step hb715)
          have HB := Lib.hid (bstep HB.out hb715)
          clear hb715
          have X3_0 := X3.out.cell0
          have X3_1 := X3.out.cell1
          have X3_l := X3.out.lt
          have X4_0 := X4.out.cell0
          have X4_1 := X4.out.cell1
          have X4_l := X4.out.lt
          go_wp2_with fail
          go_ret
          exact ⟨rfl, HB.out⟩


set_option maxRecDepth 100000 in
theorem lifted (os : Os) (started : os.Started) (H : Type) (enc : TypeId × Value → H) :
    ReturnsInHanded {} Try.checked os 4 .any (Rows.fnTransformBoardSpec.pre6 enc Try.prog Try.f4 Rows.fnTransformBoardRow.domain false) (Rows.fnTransformBoardSpec.post enc Try.prog Try.f4 false true false false) := by
  refine returnsInHanded_of_change (C := Try.checked) own started (by kernel_rfl) Try.func4
    (ChangeSpec.witness6 (enc := enc) (C := Try.checked) false ⟨#[], #[.slice none 0 0], []⟩ 8 (by kernel_rfl) (by kernel_rfl) (by kernel_rfl) (by kernel_rfl)) ?_
  intro W base args ds gs before hval0 hW hcnd _
  have hval : ∀ (j : Nat) t v, Try.f4.params[j]? = some t → args[j]? = some v → Value.okWide Try.prog W .any base t v := hval0
  have hW' := hW
  obtain ⟨p, q, hA0, hV, rfl, hfz, hnd⟩ := hW
  have hA : DataW.TrodAll enc Try.prog W 0 (fun _ => true) true Try.f4.params.toList args.toList ds p := hA0
  rw [Try.params4] at hA hval
  obtain ⟨v0, vs0, d0, ds0, p0, q0, hargs, rfl, rfl, h0, r0⟩ := trodAll_cons hA
  obtain ⟨rfl, rfl, rfl⟩ := trodAll_nil r0
  obtain rfl : args = #[v0] := by cases args; simp_all
  obtain ⟨rfl, rfl⟩ := trodVars_none hV
  obtain ⟨a0, len0, cap0, rfl⟩ := okWide_slice Try.underlying22 (hval 0 22 v0 rfl rfl)
  have k0 := h0
  have lt0 : ∀ x ∈ p0, x.block < W.heap.size := by obtain ⟨m, hm⟩ := k0; exact DataW.trod_lt m _ _ _ hm
  obtain ⟨z0, w0⟩ : ∃ zs, IsRow .u8 W a0 len0 cap0 zs := by
    obtain ⟨fuel, hf⟩ := h0
    rcases open_ints Try.underlying22 Try.underlying5 (by kernel_rfl) hf with ⟨hcs, _⟩ | ⟨x, l, c, zs, hcs, _, hl, hm, hz, _, hcell, hwz⟩
    · simp [Value.cells] at hcs
      obtain ⟨rfl, rfl, rfl⟩ := hcs
      exact ⟨[], .inl ⟨rfl, rfl, rfl, rfl⟩⟩
    · simp [Value.cells] at hcs
      obtain ⟨rfl, rfl, rfl⟩ := hcs
      exact ⟨zs, .inr ⟨_, rfl, hl, hm, by simpa using hz, hcell, hwz⟩⟩
  clear hA0 hval0
  refine (walk a0 len0 cap0 z0 W w0).mono fun e W' ⟨he, bel⟩ => ?_
  subst he
  exact ⟨_, rfl, _, _, _, [], _, [], hW', trodAll_mk1 (shut_bool Try.underlying4 _), (trodAll_cons_mk (Below.trod laidOut (by kernel_rfl) (of_decide_eq_true (by kernel_rfl)) k0 bel lt0) trodAll_mk0), rfl, bel.frame _, fun h => by cases h⟩

theorem over : Rows.fnTransformBoardRow.holds Try.pinned (OpenSpec.ofChange Rows.fnTransformBoardSpec) :=
  OpenClaim.holds_of_wide 4 Try.f4 rfl rfl rfl rfl rfl rfl rfl ⟨rfl, rfl, rfl, rfl, rfl⟩ rfl rfl rfl rfl rfl (by kernel_rfl) Try.func4 (by kernel_rfl)
    (of_decide_eq_true (by kernel_rfl)) (by unfold Func.isWrapper; first | (rw [if_pos (by decide +kernel)]; kernel_rfl) | (rw [if_neg (by decide +kernel)]; exact ⟨rfl, rfl⟩))
    (fun os started H enc _ => lifted os started H enc)

theorem proved : Rows.FnTransformBoardSaid := over
end Go.Proofs.Ytoflbpihcfdcgaa.fnTransformBoard
