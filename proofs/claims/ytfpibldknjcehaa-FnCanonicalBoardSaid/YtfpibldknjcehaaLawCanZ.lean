/-
  Images have one canonical board: the law holds for every code. No condition.
-/
import Derived.Test.YtfpibldknjcehaaLawCanKit
import Derived.Test.YtfpibldknjcehaaRows
import Derived.Deep.RegionHeld3
import Derived.Deep.RegionWith
import Derived.Deep.DeepCutAuto
import Derived.WalkKit
import Derived.ProofKit
import Derived.OpenShut
import Derived.ShutString
import Derived.ChangeOld
import Derived.Below
namespace Go.Proofs.Ytfpibldknjcehaa.fnCanonicalBoard
set_option maxRecDepth 100000
open Go.ChangeShapes Go.WideShapes Go.ChangeAt Go.RowKit
open Go.ChangeMaps (open_string shut_string)
set_option linter.unusedVariables false

theorem own : ownKnob Try.prog.godebug = none := by kernel_rfl
theorem laidOut : laidOutB Try.prog = true := by kernel_rfl


set_option maxRecDepth 100000 in
set_option maxHeartbeats 16000000 in
theorem walk (a0 : Option Addr) (len0 cap0 : Nat) (z0 : List Int) (w : World) (w0 : IsRow .u8 w a0 len0 cap0 z0) :
    Calls Try.prog 3 #[.slice a0 len0 cap0] w fun e w' => e = .returned (.bool true) ∧ Below w.heap.size w w' := by
  by_cases hl : 1048576 < len0
  · go_enter Try.func3, Try.ntmps3
    go_wp2_with fail
    go_ret
    exact ⟨rfl, Below.refl _ _⟩
  · have hl' : decide ((1048576 : Int) < (len0 : Int)) = false := by rw [decide_eq_false_iff_not]; omega
    go_enter Try.func3, Try.ntmps3
    go_wp2_with fail
    refine (d_can w a0 len0 cap0 z0 w0).mono ?_
    rintro e y0 ⟨s, A, n, c, cs, rfl, hi, hn49, s0, s8, hb⟩
    have I0 := Lib.hid hi
    have HB := Lib.hid hb
    clear hi hb w0 hl'
    go_wp2_with fail
    obtain ⟨x1, hy3, hb2, z4, z5⟩ := new_box y0 (.cells #[.int .i64 s, .slice A n c] 25)
    have X3 : Hid (Bx 25 x1 y0.heap.size s (.slice A n c)) := Lib.hid (by rw [hy3]; exact Bx.new _ _ _ _)
    rw [← hy3]
    clear hy3
    have I0 := Lib.hid (I0.out.step hb2)
    have HB := Lib.hid (bstep HB.out hb2)
    clear hb2
    have X3_0 := X3.out.cell0
    have X3_1 := X3.out.cell1
    have X3_l := X3.out.lt
    by_cases hv : Bd.okB s cs = true
    · have Hv := Lib.hid hv
      obtain ⟨s1, s7, hsn, _⟩ := (Bd.okB_iff s cs).1 hv
      have Hsn := Lib.hid hsn
      have hsq := Pt.sq_bd s s1 s7
      have hlen0 := I0.out.1
      obtain ⟨ds, a, hd⟩ := Cn.make s n cs 7
      obtain ⟨⟨hmv, a1, a2⟩, _⟩ := hd.min s1 s7 hsn
      have a7 : a ≤ 7 := by simpa using a2
      have hdl := hd.len hlen0
      have Hd := Lib.hid hd
      have Hmv := Lib.hid hmv.symm
      have Hl0 := Lib.hid hlen0
      have Hka := Lib.hid ((Pt.okK_iff a).2 ⟨a1, by omega⟩)
      have Hown := Lib.hid (hd.own s1 s7 hsn 7 (Nat.le_refl _))
      have Hvd := Lib.hid (show Bd.okB s ds = true by rw [hmv]; exact okB_mv hv)
      have ha0 : decide (a < 0) = false := by rw [decide_eq_false_iff_not]; omega
      clear hv hsn hlen0 hd hmv a2 hdl
      go_wp2_with fail
      refine (i_CanW s _ _ _ _ cs I0.out hn49 Hv.out ds a Hd).mono ?_
      rintro e x56 ⟨A1, c1, rfl, ho58, hb57⟩
      clear X3_0 X3_1 X3_l
      have X3 := Lib.hid (X3.out.step hb57)
      have I0 := Lib.hid (I0.out.step hb57)
      have HB := Lib.hid (bstep HB.out hb57)
      have I1 := Lib.hid ho58.ints
      have lenI1 := ho58.1
      clear lenI1
      clear hb57 ho58
      have X3_0 := X3.out.cell0
      have X3_1 := X3.out.cell1
      have X3_l := X3.out.lt
      go_wp2_with fail
      obtain ⟨x59, hy61, hb60, z62, z63⟩ := new_box x56 (.cells #[.int .i64 s, .slice A1 n c1] 25)
      have X4 : Hid (Bx 25 x59 x56.heap.size s (.slice A1 n c1)) := Lib.hid (by rw [hy61]; exact Bx.new _ _ _ _)
      rw [← hy61]
      clear hy61
      clear X3_0 X3_1 X3_l
      have X3 := Lib.hid (X3.out.step hb60)
      have I0 := Lib.hid (I0.out.step hb60)
      have I1 := Lib.hid (I1.out.step hb60)
      have HB := Lib.hid (bstep HB.out hb60)
      clear hb60
      have X3_0 := X3.out.cell0
      have X3_1 := X3.out.cell1
      have X3_l := X3.out.lt
      have X4_0 := X4.out.cell0
      have X4_1 := X4.out.cell1
      have X4_l := X4.out.lt
      go_wp2_with fail
      refine (s_CanW s _ _ _ _ cs I0.out hn49 Hv.out ds a Hd).mono ?_
      rintro e x64 ⟨A2, c2, rfl, ho66, hb65⟩
      clear X3_0 X3_1 X3_l X4_0 X4_1 X4_l
      have X3 := Lib.hid (X3.out.step hb65)
      have X4 := Lib.hid (X4.out.step hb65)
      have I0 := Lib.hid (I0.out.step hb65)
      have I1 := Lib.hid (I1.out.step hb65)
      have HB := Lib.hid (bstep HB.out hb65)
      have I2 := Lib.hid ho66.ints
      have lenI2 := ho66.1
      clear lenI2
      clear hb65 ho66
      have X3_0 := X3.out.cell0
      have X3_1 := X3.out.cell1
      have X3_l := X3.out.lt
      have X4_0 := X4.out.cell0
      have X4_1 := X4.out.cell1
      have X4_l := X4.out.lt
      go_wp2_with fail
      obtain ⟨x67, hy69, hb68, z70, z71⟩ := new_box x64 (.cells #[.int .i64 s, .slice A2 n c2] 25)
      have X6 : Hid (Bx 25 x67 x64.heap.size s (.slice A2 n c2)) := Lib.hid (by rw [hy69]; exact Bx.new _ _ _ _)
      rw [← hy69]
      clear hy69
      clear X3_0 X3_1 X3_l X4_0 X4_1 X4_l
      have X3 := Lib.hid (X3.out.step hb68)
      have X4 := Lib.hid (X4.out.step hb68)
      have I0 := Lib.hid (I0.out.step hb68)
      have I1 := Lib.hid (I1.out.step hb68)
      have I2 := Lib.hid (I2.out.step hb68)
      have HB := Lib.hid (bstep HB.out hb68)
      clear hb68
      have X3_0 := X3.out.cell0
      have X3_1 := X3.out.cell1
      have X3_l := X3.out.lt
      have X4_0 := X4.out.cell0
      have X4_1 := X4.out.cell1
      have X4_l := X4.out.lt
      have X6_0 := X6.out.cell0
      have X6_1 := X6.out.cell1
      have X6_l := X6.out.lt
      go_wp2_with fail
      refine (l_eqB s _ _ _ _ _ _ ds (by exact I1.out) (by exact I2.out) (by omega)).mono ?_
      rintro e x72 ⟨rfl, hb73⟩
      clear X3_0 X3_1 X3_l X4_0 X4_1 X4_l X6_0 X6_1 X6_l
      have X3 := Lib.hid (X3.out.step hb73)
      have X4 := Lib.hid (X4.out.step hb73)
      have X6 := Lib.hid (X6.out.step hb73)
      have I0 := Lib.hid (I0.out.step hb73)
      have I1 := Lib.hid (I1.out.step hb73)
      have I2 := Lib.hid (I2.out.step hb73)
      have HB := Lib.hid (bstep HB.out hb73)
      clear hb73
      have X3_0 := X3.out.cell0
      have X3_1 := X3.out.cell1
      have X3_l := X3.out.lt
      have X4_0 := X4.out.cell0
      have X4_1 := X4.out.cell1
      have X4_l := X4.out.lt
      have X6_0 := X6.out.cell0
      have X6_1 := X6.out.cell1
      have X6_l := X6.out.lt
      go_wp2_with fail
      clear X3_0 X3_1 X3_l X4_0 X4_1 X4_l X6_0 X6_1 X6_l
      go_loopw [8] (fun v wr => ∃ k : Nat, k ≤ 8 ∧ v = .int .i64 (k : Nat) ∧ Below x72.heap.size x72 wr) (fun v _ => 8 - (intOf v).toNat)
      case atStart => exact ⟨0, by omega, rfl, Below.refl _ _⟩
      case round =>
        obtain ⟨k, hk, rfl, hbr⟩ := hrel
        have HL := Lib.hid hbr
        have X3 := Lib.hid (X3.out.step hbr)
        have X4 := Lib.hid (X4.out.step hbr)
        have X6 := Lib.hid (X6.out.step hbr)
        have I0 := Lib.hid (I0.out.step hbr)
        have I1 := Lib.hid (I1.out.step hbr)
        have I2 := Lib.hid (I2.out.step hbr)
        have HB := Lib.hid (bstep HB.out hbr)
        clear hbr
        have X3_0 := X3.out.cell0
        have X3_1 := X3.out.cell1
        have X3_l := X3.out.lt
        have X4_0 := X4.out.cell0
        have X4_1 := X4.out.cell1
        have X4_l := X4.out.lt
        have X6_0 := X6.out.cell0
        have X6_1 := X6.out.cell1
        have X6_l := X6.out.lt
        by_cases hkn : k < 8
        · have hkI : (k : Int) < 8 := by omega
          have Hkk := Lib.hid ((Pt.okK_iff (k : Nat)).2 ⟨by omega, hkI⟩)
          obtain ⟨cs1, hc1⟩ : ∃ l, Bd.mv s (k : Nat) cs = l := ⟨_, rfl⟩
          obtain ⟨ds1, a1, hd1⟩ := Cn.make s n (Bd.mv s (k : Nat) cs) 7
          have he1 : ds1 = ds := Cn.image s1 s7 Hsn.out Hl0.out (by omega) hkI Hd.out hd1
          subst he1
          rw [hc1] at hd1
          have Hd1 := Lib.hid hd1
          have Hc1 := Lib.hid hc1
          have Hv1 := Lib.hid (show Bd.okB s cs1 = true by rw [← hc1]; exact okB_mv Hv.out)
          clear hc1 hd1
          go_wp2_with fail
          refine (i_trW s (k : Nat) _ _ _ _ cs cs1 I0.out hn49 Hv.out Hkk.out Hc1.out).mono ?_
          rintro e x125 ⟨A7, c7, rfl, ho127, hb126⟩
          clear X3_0 X3_1 X3_l X4_0 X4_1 X4_l X6_0 X6_1 X6_l
          have X3 := Lib.hid (X3.out.step hb126)
          have X4 := Lib.hid (X4.out.step hb126)
          have X6 := Lib.hid (X6.out.step hb126)
          have I0 := Lib.hid (I0.out.step hb126)
          have I1 := Lib.hid (I1.out.step hb126)
          have I2 := Lib.hid (I2.out.step hb126)
          have HB := Lib.hid (bstep HB.out hb126)
          have HL := Lib.hid (bstep HL.out hb126)
          have I7 := Lib.hid ho127.ints
          have lenI7 := ho127.1
          clear lenI7
          clear hb126 ho127
          have X3_0 := X3.out.cell0
          have X3_1 := X3.out.cell1
          have X3_l := X3.out.lt
          have X4_0 := X4.out.cell0
          have X4_1 := X4.out.cell1
          have X4_l := X4.out.lt
          have X6_0 := X6.out.cell0
          have X6_1 := X6.out.cell1
          have X6_l := X6.out.lt
          go_wp2_with fail
          refine (i_CanW s _ _ _ _ cs1 I7.out hn49 Hv1.out ds1 a1 Hd1).mono ?_
          rintro e x128 ⟨A9, c9, rfl, ho130, hb129⟩
          clear X3_0 X3_1 X3_l X4_0 X4_1 X4_l X6_0 X6_1 X6_l
          have X3 := Lib.hid (X3.out.step hb129)
          have X4 := Lib.hid (X4.out.step hb129)
          have X6 := Lib.hid (X6.out.step hb129)
          have I0 := Lib.hid (I0.out.step hb129)
          have I1 := Lib.hid (I1.out.step hb129)
          have I2 := Lib.hid (I2.out.step hb129)
          have I7 := Lib.hid (I7.out.step hb129)
          have HB := Lib.hid (bstep HB.out hb129)
          have HL := Lib.hid (bstep HL.out hb129)
          have I9 := Lib.hid ho130.ints
          have lenI9 := ho130.1
          clear lenI9
          clear hb129 ho130
          have X3_0 := X3.out.cell0
          have X3_1 := X3.out.cell1
          have X3_l := X3.out.lt
          have X4_0 := X4.out.cell0
          have X4_1 := X4.out.cell1
          have X4_l := X4.out.lt
          have X6_0 := X6.out.cell0
          have X6_1 := X6.out.cell1
          have X6_l := X6.out.lt
          go_wp2_with fail
          obtain ⟨x131, hy133, hb132, z134, z135⟩ := new_box x128 (.cells #[.int .i64 s, .slice A9 n c9] 25)
          have X9 : Hid (Bx 25 x131 x128.heap.size s (.slice A9 n c9)) := Lib.hid (by rw [hy133]; exact Bx.new _ _ _ _)
          rw [← hy133]
          clear hy133
          clear X3_0 X3_1 X3_l X4_0 X4_1 X4_l X6_0 X6_1 X6_l
          have X3 := Lib.hid (X3.out.step hb132)
          have X4 := Lib.hid (X4.out.step hb132)
          have X6 := Lib.hid (X6.out.step hb132)
          have I0 := Lib.hid (I0.out.step hb132)
          have I1 := Lib.hid (I1.out.step hb132)
          have I2 := Lib.hid (I2.out.step hb132)
          have I7 := Lib.hid (I7.out.step hb132)
          have I9 := Lib.hid (I9.out.step hb132)
          have HB := Lib.hid (bstep HB.out hb132)
          have HL := Lib.hid (bstep HL.out hb132)
          clear hb132
          have X3_0 := X3.out.cell0
          have X3_1 := X3.out.cell1
          have X3_l := X3.out.lt
          have X4_0 := X4.out.cell0
          have X4_1 := X4.out.cell1
          have X4_l := X4.out.lt
          have X6_0 := X6.out.cell0
          have X6_1 := X6.out.cell1
          have X6_l := X6.out.lt
          have X9_0 := X9.out.cell0
          have X9_1 := X9.out.cell1
          have X9_l := X9.out.lt
          go_wp2_with fail
          refine (l_eqB s _ _ _ _ _ _ ds1 (by exact I9.out) (by exact I1.out) (by omega)).mono ?_
          rintro e x136 ⟨rfl, hb137⟩
          clear X3_0 X3_1 X3_l X4_0 X4_1 X4_l X6_0 X6_1 X6_l X9_0 X9_1 X9_l
          have X3 := Lib.hid (X3.out.step hb137)
          have X4 := Lib.hid (X4.out.step hb137)
          have X6 := Lib.hid (X6.out.step hb137)
          have X9 := Lib.hid (X9.out.step hb137)
          have I0 := Lib.hid (I0.out.step hb137)
          have I1 := Lib.hid (I1.out.step hb137)
          have I2 := Lib.hid (I2.out.step hb137)
          have I7 := Lib.hid (I7.out.step hb137)
          have I9 := Lib.hid (I9.out.step hb137)
          have HB := Lib.hid (bstep HB.out hb137)
          have HL := Lib.hid (bstep HL.out hb137)
          clear hb137
          have X3_0 := X3.out.cell0
          have X3_1 := X3.out.cell1
          have X3_l := X3.out.lt
          have X4_0 := X4.out.cell0
          have X4_1 := X4.out.cell1
          have X4_l := X4.out.lt
          have X6_0 := X6.out.cell0
          have X6_1 := X6.out.cell1
          have X6_l := X6.out.lt
          have X9_0 := X9.out.cell0
          have X9_1 := X9.out.cell1
          have X9_l := X9.out.lt
          go_wp2_with fail
          go_roundw
          case rel => exact ⟨k + 1, by omega, by go_num, HL.out⟩
          case measure => simp [intOf]; omega
        · go_wp2_with fail
          refine (i_CanW s _ _ _ _ ds I1.out hn49 Hvd.out ds 0 Hown).mono ?_
          rintro e x175 ⟨A11, c11, rfl, ho177, hb176⟩
          clear X3_0 X3_1 X3_l X4_0 X4_1 X4_l X6_0 X6_1 X6_l
          have X3 := Lib.hid (X3.out.step hb176)
          have X4 := Lib.hid (X4.out.step hb176)
          have X6 := Lib.hid (X6.out.step hb176)
          have I0 := Lib.hid (I0.out.step hb176)
          have I1 := Lib.hid (I1.out.step hb176)
          have I2 := Lib.hid (I2.out.step hb176)
          have HB := Lib.hid (bstep HB.out hb176)
          have I11 := Lib.hid ho177.ints
          have lenI11 := ho177.1
          clear lenI11
          clear hb176 ho177
          have X3_0 := X3.out.cell0
          have X3_1 := X3.out.cell1
          have X3_l := X3.out.lt
          have X4_0 := X4.out.cell0
          have X4_1 := X4.out.cell1
          have X4_l := X4.out.lt
          have X6_0 := X6.out.cell0
          have X6_1 := X6.out.cell1
          have X6_l := X6.out.lt
          go_wp2_with fail
          obtain ⟨x178, hy180, hb179, z181, z182⟩ := new_box x175 (.cells #[.int .i64 s, .slice A11 n c11] 25)
          have X11 : Hid (Bx 25 x178 x175.heap.size s (.slice A11 n c11)) := Lib.hid (by rw [hy180]; exact Bx.new _ _ _ _)
          rw [← hy180]
          clear hy180
          clear X3_0 X3_1 X3_l X4_0 X4_1 X4_l X6_0 X6_1 X6_l
          have X3 := Lib.hid (X3.out.step hb179)
          have X4 := Lib.hid (X4.out.step hb179)
          have X6 := Lib.hid (X6.out.step hb179)
          have I0 := Lib.hid (I0.out.step hb179)
          have I1 := Lib.hid (I1.out.step hb179)
          have I2 := Lib.hid (I2.out.step hb179)
          have I11 := Lib.hid (I11.out.step hb179)
          have HB := Lib.hid (bstep HB.out hb179)
          clear hb179
          have X3_0 := X3.out.cell0
          have X3_1 := X3.out.cell1
          have X3_l := X3.out.lt
          have X4_0 := X4.out.cell0
          have X4_1 := X4.out.cell1
          have X4_l := X4.out.lt
          have X6_0 := X6.out.cell0
          have X6_1 := X6.out.cell1
          have X6_l := X6.out.lt
          have X11_0 := X11.out.cell0
          have X11_1 := X11.out.cell1
          have X11_l := X11.out.lt
          go_wp2_with fail
          have HC := Lib.hid (Below.refl x178.heap.size x178)
          go_cut [2] (fun v wx => v = .bool true ∧ Below x178.heap.size x178 wx)
          case first =>
            go_region_held3 (fun w' => w'.cell? ⟨y0.heap.size, 0, none⟩ = some (.int .i64 s) ∧ w'.cell? ⟨y0.heap.size, 1, none⟩ = some (.slice A n c) ∧ w'.cell? ⟨x56.heap.size, 0, none⟩ = some (.int .i64 s) ∧ w'.cell? ⟨x56.heap.size, 1, none⟩ = some (.slice A1 n c1) ∧ w'.cell? ⟨x64.heap.size, 0, none⟩ = some (.int .i64 s) ∧ w'.cell? ⟨x64.heap.size, 1, none⟩ = some (.slice A2 n c2) ∧ w'.cell? ⟨x175.heap.size, 0, none⟩ = some (.int .i64 s) ∧ w'.cell? ⟨x175.heap.size, 1, none⟩ = some (.slice A11 n c11)) (first | exact ⟨X3_0, X3_1, X4_0, X4_1, X6_0, X6_1, X11_0, X11_1⟩ | go_keep) (first | (go_at_call 17; refine (i_trW s a _ _ _ _ cs ds (by first | with_reducible exact I0.out | with_reducible exact I0.out.dr) hn49 Hv.out Hka.out Hmv.out).mono ?_; rintro e yc ⟨A12, c12, rfl, ho9, hb9⟩; (try replace hb9 := undrew hb9); (try (have X3 := Lib.hid (X3.out.step hb9))); (try (have X4 := Lib.hid (X4.out.step hb9))); (try (have X6 := Lib.hid (X6.out.step hb9))); (try (have X11 := Lib.hid (X11.out.step hb9))); (try (have I0 := Lib.hid (I0.out.step hb9))); (try (have I1 := Lib.hid (I1.out.step hb9))); (try (have I2 := Lib.hid (I2.out.step hb9))); (try (have I11 := Lib.hid (I11.out.step hb9))); (try (have I12 := Lib.hid (I12.out.step hb9))); have HC := Lib.hid (bstep HC.out hb9); have X3_0 := X3.out.cell0; have X3_1 := X3.out.cell1; have X3_l := X3.out.lt; have X4_0 := X4.out.cell0; have X4_1 := X4.out.cell1; have X4_l := X4.out.lt; have X6_0 := X6.out.cell0; have X6_1 := X6.out.cell1; have X6_l := X6.out.lt; have X11_0 := X11.out.cell0; have X11_1 := X11.out.cell1; have X11_l := X11.out.lt; have I12 := Lib.hid ho9.ints; clear hb9 ho9) | (go_at_call 16; with_reducible show Calls _ _ #[.agg #[.int .i64 s, .slice A11 n c11], _] _ _; refine (l_eqB s _ _ _ _ _ _ ds (by first | with_reducible exact I11.out | with_reducible exact I11.out.dr) (by first | with_reducible exact I1.out | with_reducible exact I1.out.dr) (by omega)).mono ?_; rintro e yc ⟨rfl, hb9⟩; (try replace hb9 := undrew hb9); (try (have X3 := Lib.hid (X3.out.step hb9))); (try (have X4 := Lib.hid (X4.out.step hb9))); (try (have X6 := Lib.hid (X6.out.step hb9))); (try (have X11 := Lib.hid (X11.out.step hb9))); (try (have I0 := Lib.hid (I0.out.step hb9))); (try (have I1 := Lib.hid (I1.out.step hb9))); (try (have I2 := Lib.hid (I2.out.step hb9))); (try (have I11 := Lib.hid (I11.out.step hb9))); (try (have I12 := Lib.hid (I12.out.step hb9))); have HC := Lib.hid (bstep HC.out hb9); have X3_0 := X3.out.cell0; have X3_1 := X3.out.cell1; have X3_l := X3.out.lt; have X4_0 := X4.out.cell0; have X4_1 := X4.out.cell1; have X4_l := X4.out.lt; have X6_0 := X6.out.cell0; have X6_1 := X6.out.cell1; have X6_l := X6.out.lt; have X11_0 := X11.out.cell0; have X11_1 := X11.out.cell1; have X11_l := X11.out.lt; clear hb9) | (go_at_call 16; with_reducible show Calls _ _ #[.agg #[.int .i64 s, .slice A12 n c12], _] _ _; refine (l_eqB s _ _ _ _ _ _ ds (by first | with_reducible exact I12.out | with_reducible exact I12.out.dr) (by first | with_reducible exact I1.out | with_reducible exact I1.out.dr) (by omega)).mono ?_; rintro e yc ⟨rfl, hb9⟩; (try replace hb9 := undrew hb9); (try (have X3 := Lib.hid (X3.out.step hb9))); (try (have X4 := Lib.hid (X4.out.step hb9))); (try (have X6 := Lib.hid (X6.out.step hb9))); (try (have X11 := Lib.hid (X11.out.step hb9))); (try (have I0 := Lib.hid (I0.out.step hb9))); (try (have I1 := Lib.hid (I1.out.step hb9))); (try (have I2 := Lib.hid (I2.out.step hb9))); (try (have I11 := Lib.hid (I11.out.step hb9))); (try (have I12 := Lib.hid (I12.out.step hb9))); have HC := Lib.hid (bstep HC.out hb9); have X3_0 := X3.out.cell0; have X3_1 := X3.out.cell1; have X3_l := X3.out.lt; have X4_0 := X4.out.cell0; have X4_1 := X4.out.cell1; have X4_l := X4.out.lt; have X6_0 := X6.out.cell0; have X6_1 := X6.out.cell1; have X6_l := X6.out.lt; have X11_0 := X11.out.cell0; have X11_1 := X11.out.cell1; have X11_l := X11.out.lt; clear hb9))
            all_goals go_wp2_with fail
            all_goals go_meet
            all_goals exact ⟨rfl, HC.out⟩
          case rest =>
            clear HC
            obtain ⟨rfl, hb183⟩ := hcut
            clear X3_0 X3_1 X3_l X4_0 X4_1 X4_l X6_0 X6_1 X6_l X11_0 X11_1 X11_l
            have X3 := Lib.hid (X3.out.step hb183)
            have X4 := Lib.hid (X4.out.step hb183)
            have X6 := Lib.hid (X6.out.step hb183)
            have X11 := Lib.hid (X11.out.step hb183)
            have I0 := Lib.hid (I0.out.step hb183)
            have I1 := Lib.hid (I1.out.step hb183)
            have I2 := Lib.hid (I2.out.step hb183)
            have I11 := Lib.hid (I11.out.step hb183)
            have HB := Lib.hid (bstep HB.out hb183)
            clear hb183
            have X3_0 := X3.out.cell0
            have X3_1 := X3.out.cell1
            have X3_l := X3.out.lt
            have X4_0 := X4.out.cell0
            have X4_1 := X4.out.cell1
            have X4_l := X4.out.lt
            have X6_0 := X6.out.cell0
            have X6_1 := X6.out.cell1
            have X6_l := X6.out.lt
            have X11_0 := X11.out.cell0
            have X11_1 := X11.out.cell1
            have X11_l := X11.out.lt
            go_wp2_with fail
            go_ret
            exact ⟨rfl, HB.out⟩
    · have hv0 : Bd.okB s cs = false := by simpa using hv
      have Hv := Lib.hid hv0
      clear hv hv0
      go_wp2_with fail
      refine (i_CanN s _ _ _ _ cs I0.out hn49 Hv.out).mono ?_
      rintro e x706 ⟨A1, c1, rfl, ho708, hb707⟩
      clear X3_0 X3_1 X3_l
      have X3 := Lib.hid (X3.out.step hb707)
      have I0 := Lib.hid (I0.out.step hb707)
      have HB := Lib.hid (bstep HB.out hb707)
      have I1 := Lib.hid ho708.ints
      have lenI1 := ho708.1
      clear lenI1
      clear hb707 ho708
      have X3_0 := X3.out.cell0
      have X3_1 := X3.out.cell1
      have X3_l := X3.out.lt
      go_wp2_with fail
      obtain ⟨x709, hy711, hb710, z712, z713⟩ := new_box x706 (.cells #[.int .i64 0, .slice A1 0 c1] 25)
      have X4 : Hid (Bx 25 x709 x706.heap.size 0 (.slice A1 0 c1)) := Lib.hid (by rw [hy711]; exact Bx.new _ _ _ _)
      rw [← hy711]
      clear hy711
      clear X3_0 X3_1 X3_l
      have X3 := Lib.hid (X3.out.step hb710)
      have I0 := Lib.hid (I0.out.step hb710)
      have I1 := Lib.hid (I1.out.step hb710)
      have HB := Lib.hid (bstep HB.out hb710)
      clear hb710
      have X3_0 := X3.out.cell0
      have X3_1 := X3.out.cell1
      have X3_l := X3.out.lt
      have X4_0 := X4.out.cell0
      have X4_1 := X4.out.cell1
      have X4_l := X4.out.lt
      go_wp2_with fail
      refine (s_CanN s _ _ _ _ cs I0.out hn49 Hv.out).mono ?_
      rintro e x714 ⟨A2, c2, rfl, ho716, hb715⟩
      clear X3_0 X3_1 X3_l X4_0 X4_1 X4_l
      have X3 := Lib.hid (X3.out.step hb715)
      have X4 := Lib.hid (X4.out.step hb715)
      have I0 := Lib.hid (I0.out.step hb715)
      have I1 := Lib.hid (I1.out.step hb715)
      have HB := Lib.hid (bstep HB.out hb715)
      have I2 := Lib.hid ho716.ints
      have lenI2 := ho716.1
      clear lenI2
      clear hb715 ho716
      have X3_0 := X3.out.cell0
      have X3_1 := X3.out.cell1
      have X3_l := X3.out.lt
      have X4_0 := X4.out.cell0
      have X4_1 := X4.out.cell1
      have X4_l := X4.out.lt
      go_wp2_with fail
      obtain ⟨x717, hy719, hb718, z720, z721⟩ := new_box x714 (.cells #[.int .i64 0, .slice A2 0 c2] 25)
      have X6 : Hid (Bx 25 x717 x714.heap.size 0 (.slice A2 0 c2)) := Lib.hid (by rw [hy719]; exact Bx.new _ _ _ _)
      rw [← hy719]
      clear hy719
      clear X3_0 X3_1 X3_l X4_0 X4_1 X4_l
      have X3 := Lib.hid (X3.out.step hb718)
      have X4 := Lib.hid (X4.out.step hb718)
      have I0 := Lib.hid (I0.out.step hb718)
      have I1 := Lib.hid (I1.out.step hb718)
      have I2 := Lib.hid (I2.out.step hb718)
      have HB := Lib.hid (bstep HB.out hb718)
      clear hb718
      have X3_0 := X3.out.cell0
      have X3_1 := X3.out.cell1
      have X3_l := X3.out.lt
      have X4_0 := X4.out.cell0
      have X4_1 := X4.out.cell1
      have X4_l := X4.out.lt
      have X6_0 := X6.out.cell0
      have X6_1 := X6.out.cell1
      have X6_l := X6.out.lt
      go_wp2_with fail
      refine (l_eqB 0 _ _ _ _ _ _ [] (by exact I1.out) (by exact I2.out) (by omega)).mono ?_
      rintro e x722 ⟨rfl, hb723⟩
      clear X3_0 X3_1 X3_l X4_0 X4_1 X4_l X6_0 X6_1 X6_l
      have X3 := Lib.hid (X3.out.step hb723)
      have X4 := Lib.hid (X4.out.step hb723)
      have X6 := Lib.hid (X6.out.step hb723)
      have I0 := Lib.hid (I0.out.step hb723)
      have I1 := Lib.hid (I1.out.step hb723)
      have I2 := Lib.hid (I2.out.step hb723)
      have HB := Lib.hid (bstep HB.out hb723)
      clear hb723
      have X3_0 := X3.out.cell0
      have X3_1 := X3.out.cell1
      have X3_l := X3.out.lt
      have X4_0 := X4.out.cell0
      have X4_1 := X4.out.cell1
      have X4_l := X4.out.lt
      have X6_0 := X6.out.cell0
      have X6_1 := X6.out.cell1
      have X6_l := X6.out.lt
      go_wp2_with fail
      refine (l_eqB 0 _ _ _ _ _ _ [] (by exact I1.out) (by exact I2.out) (by omega)).mono ?_
      rintro e x725 ⟨rfl, hb726⟩
      clear X3_0 X3_1 X3_l X4_0 X4_1 X4_l X6_0 X6_1 X6_l
      have X3 := Lib.hid (X3.out.step hb726)
      have X4 := Lib.hid (X4.out.step hb726)
      have X6 := Lib.hid (X6.out.step hb726)
      have I0 := Lib.hid (I0.out.step hb726)
      have I1 := Lib.hid (I1.out.step hb726)
      have I2 := Lib.hid (I2.out.step hb726)
      have HB := Lib.hid (bstep HB.out hb726)
      clear hb726
      have X3_0 := X3.out.cell0
      have X3_1 := X3.out.cell1
      have X3_l := X3.out.lt
      have X4_0 := X4.out.cell0
      have X4_1 := X4.out.cell1
      have X4_l := X4.out.lt
      have X6_0 := X6.out.cell0
      have X6_1 := X6.out.cell1
      have X6_l := X6.out.lt
      go_wp2_with fail
      go_ret
      exact ⟨rfl, HB.out⟩


set_option maxRecDepth 100000 in
theorem lifted (os : Os) (started : os.Started) (H : Type) (enc : TypeId × Value → H) :
    ReturnsInHanded {} Try.checked os 3 .any (Rows.fnCanonicalBoardSpec.pre6 enc Try.prog Try.f3 Rows.fnCanonicalBoardRow.domain false) (Rows.fnCanonicalBoardSpec.post enc Try.prog Try.f3 false true false false) := by
  refine returnsInHanded_of_change (C := Try.checked) own started (by kernel_rfl) Try.func3
    (ChangeSpec.witness6 (enc := enc) (C := Try.checked) false ⟨#[], #[.slice none 0 0], []⟩ 8 (by kernel_rfl) (by kernel_rfl) (by kernel_rfl) (by kernel_rfl)) ?_
  intro W base args ds gs before hval0 hW hcnd _
  have hval : ∀ (j : Nat) t v, Try.f3.params[j]? = some t → args[j]? = some v → Value.okWide Try.prog W .any base t v := hval0
  have hW' := hW
  obtain ⟨p, q, hA0, hV, rfl, hfz, hnd⟩ := hW
  have hA : DataW.TrodAll enc Try.prog W 0 (fun _ => true) true Try.f3.params.toList args.toList ds p := hA0
  rw [Try.params3] at hA hval
  obtain ⟨v0, vs0, d0, ds0, p0, q0, hargs, rfl, rfl, h0, r0⟩ := trodAll_cons hA
  obtain ⟨rfl, rfl, rfl⟩ := trodAll_nil r0
  obtain rfl : args = #[v0] := by cases args; simp_all
  obtain ⟨rfl, rfl⟩ := trodVars_none hV
  obtain ⟨a0, len0, cap0, rfl⟩ := okWide_slice Try.underlying22 (hval 0 22 v0 rfl rfl)
  have k0 := h0
  have lt0 : ∀ x ∈ p0, x.block < W.heap.size := by obtain ⟨m, hm⟩ := k0; exact DataW.trod_lt m _ _ _ hm
  obtain ⟨z0, w0⟩ : ∃ zs, IsRow .u8 W a0 len0 cap0 zs := by
    obtain ⟨fuel, hf⟩ := h0
    rcases open_ints Try.underlying22 Try.underlying5 (by kernel_rfl) hf with ⟨hcs, _⟩ | ⟨x, l, c, zs, hcs, _, hl, hm, hz, _, hcell, hwz⟩
    · simp [Value.cells] at hcs
      obtain ⟨rfl, rfl, rfl⟩ := hcs
      exact ⟨[], .inl ⟨rfl, rfl, rfl, rfl⟩⟩
    · simp [Value.cells] at hcs
      obtain ⟨rfl, rfl, rfl⟩ := hcs
      exact ⟨zs, .inr ⟨_, rfl, hl, hm, by simpa using hz, hcell, hwz⟩⟩
  clear hA0 hval0
  refine (walk a0 len0 cap0 z0 W w0).mono fun e W' ⟨he, bel⟩ => ?_
  subst he
  exact ⟨_, rfl, _, _, _, [], _, [], hW', trodAll_mk1 (shut_bool Try.underlying4 _), (trodAll_cons_mk (Below.trod laidOut (by kernel_rfl) (of_decide_eq_true (by kernel_rfl)) k0 bel lt0) trodAll_mk0), rfl, bel.frame _, fun h => by cases h⟩

theorem over : Rows.fnCanonicalBoardRow.holds Try.pinned (OpenSpec.ofChange Rows.fnCanonicalBoardSpec) :=
  OpenClaim.holds_of_wide 3 Try.f3 rfl rfl rfl rfl rfl rfl rfl ⟨rfl, rfl, rfl, rfl, rfl⟩ rfl rfl rfl rfl rfl (by kernel_rfl) Try.func3 (by kernel_rfl)
    (of_decide_eq_true (by kernel_rfl)) (by unfold Func.isWrapper; first | (rw [if_pos (by decide +kernel)]; kernel_rfl) | (rw [if_neg (by decide +kernel)]; exact ⟨rfl, rfl⟩))
    (fun os started H enc _ => lifted os started H enc)

theorem proved : Rows.FnCanonicalBoardSaid := over
end Go.Proofs.Ytfpibldknjcehaa.fnCanonicalBoard
