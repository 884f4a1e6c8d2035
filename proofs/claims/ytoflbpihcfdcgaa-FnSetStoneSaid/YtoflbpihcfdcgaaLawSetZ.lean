/-
  The law of SetStone: for every drawn board, point and color, the stone is there and setting it back yields the board again. For every code. No condition.
-/
import Derived.Test.YtoflbpihcfdcgaaLawKitD
import Derived.Test.YtoflbpihcfdcgaaRows
import Derived.Deep.RegionHeld3
import Derived.Deep.RegionWith
import Derived.Deep.DeepCutAuto
import Derived.WalkKit
import Derived.ProofKit
import Derived.OpenShut
import Derived.ShutString
import Derived.ChangeOld
import Derived.Below
namespace Go.Proofs.Ytoflbpihcfdcgaa.fnSetStone
open Go.ChangeShapes Go.WideShapes Go.ChangeAt Go.RowKit
open Go.ChangeMaps (open_string shut_string)
set_option linter.unusedVariables false

theorem own : ownKnob Try.prog.godebug = none := by kernel_rfl
theorem laidOut : laidOutB Try.prog = true := by kernel_rfl


set_option maxRecDepth 100000 in
set_option maxHeartbeats 16000000 in
theorem walk (a0 : Option Addr) (len0 cap0 : Nat) (z0 : List Int) (w : World) (w0 : IsRow .u8 w a0 len0 cap0 z0) :
    Calls Try.prog 5 #[.slice a0 len0 cap0] w fun e w' => e = .returned (.bool true) ∧ Below w.heap.size w w' := by
  by_cases hl : 1048576 < len0
  · go_enter Try.func5, Try.ntmps5
    go_wp2_with fail
    go_ret
    exact ⟨rfl, Below.refl _ _⟩
  · have hl' : decide ((1048576 : Int) < (len0 : Int)) = false := by rw [decide_eq_false_iff_not]; omega
    go_enter Try.func5, Try.ntmps5
    go_wp2_with fail
    refine (d_set w a0 len0 cap0 z0 w0).mono ?_
    rintro e y0 ⟨s, A, n, c, cs, p, x, rfl, hi, hn49, s0, s8, hp9, hx9, hb⟩
    have I0 := Lib.hid hi
    have HB := Lib.hid hb
    clear hi hb w0 hl'
    go_wp2_with fail
    obtain ⟨x1, hy3, hb2, z4, z5⟩ := new_box y0 (.cells #[.int .i64 s, .slice A n c] 25)
    have X3 : Hid (Bx 25 x1 y0.heap.size s (.slice A n c)) := Lib.hid (by rw [hy3]; exact Bx.new _ _ _ _)
    rw [← hy3]
    clear hy3
    have I0 := Lib.hid (I0.out.step hb2)
    have HB := Lib.hid (bstep HB.out hb2)
    clear hb2
    have X3_0 := X3.out.cell0
    have X3_1 := X3.out.cell1
    have X3_l := X3.out.lt
    by_cases hv : setB s cs p x = true
    · have Hv := Lib.hid hv
      obtain ⟨cs1, hc1⟩ : ∃ l, cs.set p.toNat x = l := ⟨_, rfl⟩
      have Hc1 := Lib.hid hc1
      clear hv hc1
      go_wp2_with fail
      refine (i_setW s p x _ _ _ _ cs cs1 I0.out hn49 Hv.out Hc1.out).mono ?_
      rintro e x56 ⟨A1, c1, rfl, ho58, hb57⟩
      clear X3_0 X3_1 X3_l
      have X3 := Lib.hid (X3.out.step hb57)
      have I0 := Lib.hid (I0.out.step hb57)
      have HB := Lib.hid (bstep HB.out hb57)
      have I1 := Lib.hid ho58.ints
      have lenI1 := ho58.1
      clear lenI1
      clear hb57 ho58
      have X3_0 := X3.out.cell0
      have X3_1 := X3.out.cell1
      have X3_l := X3.out.lt
      go_wp2_with fail
      obtain ⟨x59, hy61, hb60, z62, z63⟩ := new_box x56 (.cells #[.int .i64 s, .slice A1 n c1] 25)
      have X4 : Hid (Bx 25 x59 x56.heap.size s (.slice A1 n c1)) := Lib.hid (by rw [hy61]; exact Bx.new _ _ _ _)
      rw [← hy61]
      clear hy61
      clear X3_0 X3_1 X3_l
      have X3 := Lib.hid (X3.out.step hb60)
      have I0 := Lib.hid (I0.out.step hb60)
      have I1 := Lib.hid (I1.out.step hb60)
      have HB := Lib.hid (bstep HB.out hb60)
      clear hb60
      have X3_0 := X3.out.cell0
      have X3_1 := X3.out.cell1
      have X3_l := X3.out.lt
      have X4_0 := X4.out.cell0
      have X4_1 := X4.out.cell1
      have X4_l := X4.out.lt
      go_wp2_with fail
      refine (s_setW s p x _ _ _ _ cs cs1 I0.out hn49 Hv.out Hc1.out).mono ?_
      rintro e x64 ⟨A2, c2, rfl, ho66, hb65⟩
      clear X3_0 X3_1 X3_l X4_0 X4_1 X4_l
      have X3 := Lib.hid (X3.out.step hb65)
      have X4 := Lib.hid (X4.out.step hb65)
      have I0 := Lib.hid (I0.out.step hb65)
      have I1 := Lib.hid (I1.out.step hb65)
      have HB := Lib.hid (bstep HB.out hb65)
      have I2 := Lib.hid ho66.ints
      have lenI2 := ho66.1
      clear lenI2
      clear hb65 ho66
      have X3_0 := X3.out.cell0
      have X3_1 := X3.out.cell1
      have X3_l := X3.out.lt
      have X4_0 := X4.out.cell0
      have X4_1 := X4.out.cell1
      have X4_l := X4.out.lt
      go_wp2_with fail
      obtain ⟨x67, hy69, hb68, z70, z71⟩ := new_box x64 (.cells #[.int .i64 s, .slice A2 n c2] 25)
      have X5 : Hid (Bx 25 x67 x64.heap.size s (.slice A2 n c2)) := Lib.hid (by rw [hy69]; exact Bx.new _ _ _ _)
      rw [← hy69]
      clear hy69
      clear X3_0 X3_1 X3_l X4_0 X4_1 X4_l
      have X3 := Lib.hid (X3.out.step hb68)
      have X4 := Lib.hid (X4.out.step hb68)
      have I0 := Lib.hid (I0.out.step hb68)
      have I1 := Lib.hid (I1.out.step hb68)
      have I2 := Lib.hid (I2.out.step hb68)
      have HB := Lib.hid (bstep HB.out hb68)
      clear hb68
      have X3_0 := X3.out.cell0
      have X3_1 := X3.out.cell1
      have X3_l := X3.out.lt
      have X4_0 := X4.out.cell0
      have X4_1 := X4.out.cell1
      have X4_l := X4.out.lt
      have X5_0 := X5.out.cell0
      have X5_1 := X5.out.cell1
      have X5_l := X5.out.lt
      go_wp2_with fail
      refine (l_eqB s _ _ _ _ _ _ cs1 I1.out I2.out (by omega)).mono ?_
      rintro e x72 ⟨rfl, hb73⟩
      clear X3_0 X3_1 X3_l X4_0 X4_1 X4_l X5_0 X5_1 X5_l
      have X3 := Lib.hid (X3.out.step hb73)
      have X4 := Lib.hid (X4.out.step hb73)
      have X5 := Lib.hid (X5.out.step hb73)
      have I0 := Lib.hid (I0.out.step hb73)
      have I1 := Lib.hid (I1.out.step hb73)
      have I2 := Lib.hid (I2.out.step hb73)
      have HB := Lib.hid (bstep HB.out hb73)
      clear hb73
      have X3_0 := X3.out.cell0
      have X3_1 := X3.out.cell1
      have X3_l := X3.out.lt
      have X4_0 := X4.out.cell0
      have X4_1 := X4.out.cell1
      have X4_l := X4.out.lt
      have X5_0 := X5.out.cell0
      have X5_1 := X5.out.cell1
      have X5_l := X5.out.lt
      obtain ⟨a1, a2, a3⟩ := setB_iff.1 Hv.out
      obtain ⟨s1, s7, hsn, hall⟩ := (Bd.okB_iff s cs).1 a1
      obtain ⟨_, _, p1, p2⟩ := (Pt.okP_iff s p).1 a2
      have hlI := I0.out.1
      obtain ⟨q, rfl⟩ := Int.eq_ofNat_of_zero_le p1
      have hqn : q < n := by omega
      have hqI : (q : Int) < n := by omega
      obtain ⟨e0, he0⟩ : ∃ e, cs.getD q 0 = e := ⟨_, rfl⟩
      have Hoc : Hid (Bd.okC e0 = true) := Lib.hid (by
        have hm : e0 ∈ cs := by rw [← he0, List.getD_eq_getElem?_getD, List.getElem?_eq_getElem (by omega)]; exact List.getElem_mem _
        have := hall e0 hm
        simpa [Bd.okC] using this)
      have Hv1 : Hid (setB s cs1 (q : Int) e0 = true) := Lib.hid (by rw [← Hc1.out]; exact setB_set Hv.out Hoc.out)
      have Hback : Hid (cs1.set (q : Int).toNat e0 = cs) := Lib.hid (by rw [← Hc1.out, ← he0, Int.toNat_natCast]; exact set_back x (by omega))
      have Hat1 : Hid (cs1.getD q 0 = x) := Lib.hid (by rw [← Hc1.out, Int.toNat_natCast]; simp [List.getD_eq_getElem?_getD, show q < cs.length by omega])
      have hn0 : n ≠ 0 := by omega
      clear a1 a2 a3 hsn hall p2
      obtain ⟨b, o, hA, hbB, hc⟩ : ∃ b o, A = some ⟨b, o, none⟩ ∧ b < x72.heap.size ∧ ∀ j, j < n → x72.cell? ⟨b, o + j, none⟩ = some (.int .i64 (cs.getD j 0)) := by
        rcases I0.out.2 with h0 | ⟨b, o, hA, hbB, hc⟩
        · exact absurd h0 hn0
        · exact ⟨b, o, hA, hbB, hc⟩
      have ck := hc q hqn
      rw [he0] at ck
      clear he0 hc
      clear X3_0 X3_1 X3_l X4_0 X4_1 X4_l X5_0 X5_1 X5_l
      have X3 : Hid (Bx 25 x72 y0.heap.size s (.slice (some ⟨b, o, none⟩) n c)) := Lib.hid (by rw [← hA]; exact X3.out)
      have X3_0 := X3.out.cell0
      have X3_1 := X3.out.cell1
      have X3_l := X3.out.lt
      have X4_0 := X4.out.cell0
      have X4_1 := X4.out.cell1
      have X4_l := X4.out.lt
      have X5_0 := X5.out.cell0
      have X5_1 := X5.out.cell1
      have X5_l := X5.out.lt
      go_upto_region 8 with (fail)
      have HC := Lib.hid (Below.refl x72.heap.size x72)
      go_cut [10, 11] (fun v u wx => ∃ g9 A9 c9, v = .pointer (some ⟨g9, 0, none⟩) ∧ u = .bool true ∧ Bx 25 wx g9 s (.slice A9 n c9) ∧ Ints wx wx.heap.size A9 n cs ∧ Below x72.heap.size x72 wx)
      case first =>
        go_region_with (first | (go_at_call 23; refine (i_setW s (q : Int) e0 _ _ _ _ cs1 cs (by exact I1.out) hn49 Hv1.out Hback.out).mono ?_; rintro e y9 ⟨A9, c9, rfl, ho9, hb9⟩; (try replace hb9 := undrew hb9); have HC9 : Hid (Below x72.heap.size x72 y9) := Lib.hid (bstep HC.out hb9); have HO9 := Lib.hid ho9; clear ho9 hb9) | (go_at_call 23; have HbZ := ((Below.refl x72.heap.size x72).alloc (Nat.le_refl _) (.cells #[.int .i64 0, .slice none 0 0] 25)); have I1Z : Ints (x72.alloc (.cells #[.int .i64 0, .slice none 0 0] 25)) (x72.alloc (.cells #[.int .i64 0, .slice none 0 0] 25)).heap.size A1 n cs1 := (I1.out.below HbZ (Nat.le_refl _)).more (by simp); refine (i_setW s (q : Int) e0 _ _ _ _ cs1 cs (by exact I1Z) hn49 Hv1.out Hback.out).mono ?_; rintro e y9 ⟨A9, c9, rfl, ho9, hb9⟩; have hb8 : Below (x72.alloc (.cells #[.int .i64 0, .slice none 0 0] 25)).heap.size (x72.alloc (.cells #[.int .i64 0, .slice none 0 0] 25)) y9 := ⟨hb9.os, hb9.tape, hb9.output, hb9.size, hb9.block⟩; have X9Z := Lib.hid ((Bx.new 25 x72 0 (.slice none 0 0)).step hb8); have HC9 : Hid (Below x72.heap.size x72 y9) := Lib.hid (HbZ.trans (hb8.mono (by simp))); have HO9 : Hid (Own y9 (x72.heap.size + 1) A9 n c9 cs) := Lib.hid (ho9.weaken (by simp)); have r0 := X9Z.out.cell0; have r1 := X9Z.out.cell1; have r2 := X9Z.out.frozen 0; have r3 := X9Z.out.frozen 1; have r4 := X9Z.out.lt; clear ho9 hb9 hb8 I1Z HbZ))
        all_goals go_wp2_with fail
        all_goals go_meet
        all_goals first | exact ⟨_, _, _, rfl, rfl, Bx.new _ _ _ _, (HO9.out.ints.below ((Below.refl _ _).alloc (Nat.le_refl _) _) (Nat.le_refl _)).more (by simp), HC9.out.alloc HC9.out.size _⟩ | exact ⟨x72.heap.size, _, _, rfl, rfl, (X9Z.out.set0 s).set1 _, ((HO9.out.far ⟨x72.heap.size, 0, none⟩ (fun g hA => by have := (HO9.out.ge hA).1; show g ≠ x72.heap.size; omega) (.int .i64 s)).far ⟨x72.heap.size, 1, none⟩ (fun g hA => by have := (HO9.out.ge hA).1; show g ≠ x72.heap.size; omega) (.slice A9 n c9)).ints, (HC9.out.setCell (p := ⟨x72.heap.size, 0, none⟩) (Nat.le_refl _) (.int .i64 s)).setCell (p := ⟨x72.heap.size, 1, none⟩) (Nat.le_refl _) (.slice A9 n c9)⟩
      case rest =>
        obtain ⟨g9, A9, c9, rfl, rfl, hx9b, hi9, hb9⟩ := hcut
        clear HC ck
        have X9 := Lib.hid hx9b
        have I9 := Lib.hid hi9
        clear X3_0 X3_1 X3_l X4_0 X4_1 X4_l X5_0 X5_1 X5_l
        have X3 := Lib.hid (X3.out.step hb9)
        have X4 := Lib.hid (X4.out.step hb9)
        have X5 := Lib.hid (X5.out.step hb9)
        have I0 := Lib.hid (I0.out.step hb9)
        have I1 := Lib.hid (I1.out.step hb9)
        have I2 := Lib.hid (I2.out.step hb9)
        have HB := Lib.hid (bstep HB.out hb9)
        clear hx9b hi9 hb9
        obtain ⟨b1, o1, hA1, hbB1, hc1⟩ : ∃ b o, A1 = some ⟨b, o, none⟩ ∧ b < wc.heap.size ∧ ∀ j, j < n → wc.cell? ⟨b, o + j, none⟩ = some (.int .i64 (cs1.getD j 0)) := by
          rcases I1.out.2 with h0 | ⟨b, o, hA, hbB, hc⟩
          · exact absurd h0 hn0
          · exact ⟨b, o, hA, hbB, hc⟩
        have ck1 := hc1 q hqn
        rw [Hat1.out] at ck1
        clear hc1
        have X4 : Hid (Bx 25 wc x56.heap.size s (.slice (some ⟨b1, o1, none⟩) n c1)) := Lib.hid (by rw [← hA1]; exact X4.out)
        have X3_0 := X3.out.cell0
        have X3_1 := X3.out.cell1
        have X3_l := X3.out.lt
        have X4_0 := X4.out.cell0
        have X4_1 := X4.out.cell1
        have X4_l := X4.out.lt
        have X5_0 := X5.out.cell0
        have X5_1 := X5.out.cell1
        have X5_l := X5.out.lt
        have X9_0 := X9.out.cell0
        have X9_1 := X9.out.cell1
        have X9_l := X9.out.lt
        have I0 : Hid (Ints wc wc.heap.size (some ⟨b, o, none⟩) n cs) := Lib.hid (by rw [← hA]; exact I0.out)
        go_wp2_with fail
        refine (l_eqB s _ _ _ _ _ _ cs I9.out I0.out (by omega)).mono ?_
        rintro e x75 ⟨rfl, hb76⟩
        clear X3_0 X3_1 X3_l X4_0 X4_1 X4_l X5_0 X5_1 X5_l X9_0 X9_1 X9_l
        have X3 := Lib.hid (X3.out.step hb76)
        have X4 := Lib.hid (X4.out.step hb76)
        have X5 := Lib.hid (X5.out.step hb76)
        have X9 := Lib.hid (X9.out.step hb76)
        have I0 := Lib.hid (I0.out.step hb76)
        have I1 := Lib.hid (I1.out.step hb76)
        have I2 := Lib.hid (I2.out.step hb76)
        have I9 := Lib.hid (I9.out.step hb76)
        have HB := Lib.hid (bstep HB.out hb76)
        clear hb76
        have X3_0 := X3.out.cell0
        have X3_1 := X3.out.cell1
        have X3_l := X3.out.lt
        have X4_0 := X4.out.cell0
        have X4_1 := X4.out.cell1
        have X4_l := X4.out.lt
        have X5_0 := X5.out.cell0
        have X5_1 := X5.out.cell1
        have X5_l := X5.out.lt
        have X9_0 := X9.out.cell0
        have X9_1 := X9.out.cell1
        have X9_l := X9.out.lt
        go_wp2_with fail
        go_ret
        exact ⟨rfl, HB.out⟩
    · have hv0 : setB s cs p x = false := by simpa using hv
      have Hv := Lib.hid hv0
      clear hv hv0
      go_wp2_with fail
      refine (i_setN s p x _ _ _ _ cs I0.out hn49 Hv.out).mono ?_
      rintro e x706 ⟨A1, c1, rfl, ho708, hb707⟩
      clear X3_0 X3_1 X3_l
      have X3 := Lib.hid (X3.out.step hb707)
      have I0 := Lib.hid (I0.out.step hb707)
      have HB := Lib.hid (bstep HB.out hb707)
      have I1 := Lib.hid ho708.ints
      have lenI1 := ho708.1
      clear lenI1
      clear hb707 ho708
      have X3_0 := X3.out.cell0
      have X3_1 := X3.out.cell1
      have X3_l := X3.out.lt
      go_wp2_with fail
      obtain ⟨x709, hy711, hb710, z712, z713⟩ := new_box x706 (.cells #[.int .i64 0, .slice A1 0 c1] 25)
      have X4 : Hid (Bx 25 x709 x706.heap.size 0 (.slice A1 0 c1)) := Lib.hid (by rw [hy711]; exact Bx.new _ _ _ _)
      rw [← hy711]
      clear hy711
      clear X3_0 X3_1 X3_l
      have X3 := Lib.hid (X3.out.step hb710)
      have I0 := Lib.hid (I0.out.step hb710)
      have I1 := Lib.hid (I1.out.step hb710)
      have HB := Lib.hid (bstep HB.out hb710)
      clear hb710
      have X3_0 := X3.out.cell0
      have X3_1 := X3.out.cell1
      have X3_l := X3.out.lt
      have X4_0 := X4.out.cell0
      have X4_1 := X4.out.cell1
      have X4_l := X4.out.lt
      go_wp2_with fail
      refine (s_setN s p x _ _ _ _ cs I0.out hn49 Hv.out).mono ?_
      rintro e x714 ⟨A2, c2, rfl, ho716, hb715⟩
      clear X3_0 X3_1 X3_l X4_0 X4_1 X4_l
      have X3 := Lib.hid (X3.out.step hb715)
      have X4 := Lib.hid (X4.out.step hb715)
      have I0 := Lib.hid (I0.out.step hb715)
      have I1 := Lib.hid (I1.out.step hb715)
      have HB := Lib.hid (bstep HB.out hb715)
      have I2 := Lib.hid ho716.ints
      have lenI2 := ho716.1
      clear lenI2
      clear hb715 ho716
      have X3_0 := X3.out.cell0
      have X3_1 := X3.out.cell1
      have X3_l := X3.out.lt
      have X4_0 := X4.out.cell0
      have X4_1 := X4.out.cell1
      have X4_l := X4.out.lt
      go_wp2_with fail
      obtain ⟨x717, hy719, hb718, z720, z721⟩ := new_box x714 (.cells #[.int .i64 0, .slice A2 0 c2] 25)
      have X5 : Hid (Bx 25 x717 x714.heap.size 0 (.slice A2 0 c2)) := Lib.hid (by rw [hy719]; exact Bx.new _ _ _ _)
      rw [← hy719]
      clear hy719
      clear X3_0 X3_1 X3_l X4_0 X4_1 X4_l
      have X3 := Lib.hid (X3.out.step hb718)
      have X4 := Lib.hid (X4.out.step hb718)
      have I0 := Lib.hid (I0.out.step hb718)
      have I1 := Lib.hid (I1.out.step hb718)
      have I2 := Lib.hid (I2.out.step hb718)
      have HB := Lib.hid (bstep HB.out hb718)
      clear hb718
      have X3_0 := X3.out.cell0
      have X3_1 := X3.out.cell1
      have X3_l := X3.out.lt
      have X4_0 := X4.out.cell0
      have X4_1 := X4.out.cell1
      have X4_l := X4.out.lt
      have X5_0 := X5.out.cell0
      have X5_1 := X5.out.cell1
      have X5_l := X5.out.lt
      go_wp2_with fail
      refine (l_eqB 0 _ _ _ _ _ _ [] I1.out I2.out (by omega)).mono ?_
      rintro e x722 ⟨rfl, hb723⟩
      clear X3_0 X3_1 X3_l X4_0 X4_1 X4_l X5_0 X5_1 X5_l
      have X3 := Lib.hid (X3.out.step hb723)
      have X4 := Lib.hid (X4.out.step hb723)
      have X5 := Lib.hid (X5.out.step hb723)
      have I0 := Lib.hid (I0.out.step hb723)
      have I1 := Lib.hid (I1.out.step hb723)
      have I2 := Lib.hid (I2.out.step hb723)
      have HB := Lib.hid (bstep HB.out hb723)
      clear hb723
      have X3_0 := X3.out.cell0
      have X3_1 := X3.out.cell1
      have X3_l := X3.out.lt
      have X4_0 := X4.out.cell0
      have X4_1 := X4.out.cell1
      have X4_l := X4.out.lt
      have X5_0 := X5.out.cell0
      have X5_1 := X5.out.cell1
      have X5_l := X5.out.lt
      go_wp2_with fail
      refine (l_eqB 0 _ _ _ _ _ _ [] I1.out I2.out (by omega)).mono ?_
      rintro e x725 ⟨rfl, hb726⟩
      clear X3_0 X3_1 X3_l X4_0 X4_1 X4_l X5_0 X5_1 X5_l
      have X3 := Lib.hid (X3.out.step hb726)
      have X4 := Lib.hid (X4.out.step hb726)
      have X5 := Lib.hid (X5.out.step hb726)
      have I0 := Lib.hid (I0.out.step hb726)
      have I1 := Lib.hid (I1.out.step hb726)
      have I2 := Lib.hid (I2.out.step hb726)
      have HB := Lib.hid (bstep HB.out hb726)
      clear hb726
      have X3_0 := X3.out.cell0
      have X3_1 := X3.out.cell1
      have X3_l := X3.out.lt
      have X4_0 := X4.out.cell0
      have X4_1 := X4.out.cell1
      have X4_l := X4.out.lt
      have X5_0 := X5.out.cell0
      have X5_1 := X5.out.cell1
      have X5_l := X5.out.lt
      go_wp2_with fail
      go_ret
      exact ⟨rfl, HB.out⟩


set_option maxRecDepth 100000 in
theorem lifted (os : Os) (started : os.Started) (H : Type) (enc : TypeId × Value → H) :
    ReturnsInHanded {} Try.checked os 5 .any (Rows.fnSetStoneSpec.pre6 enc Try.prog Try.f5 Rows.fnSetStoneRow.domain false) (Rows.fnSetStoneSpec.post enc Try.prog Try.f5 false true false false) := by
  refine returnsInHanded_of_change (C := Try.checked) own started (by kernel_rfl) Try.func5
    (ChangeSpec.witness6 (enc := enc) (C := Try.checked) false ⟨#[], #[.slice none 0 0], []⟩ 8 (by kernel_rfl) (by kernel_rfl) (by kernel_rfl) (by kernel_rfl)) ?_
  intro W base args ds gs before hval0 hW hcnd _
  have hval : ∀ (j : Nat) t v, Try.f5.params[j]? = some t → args[j]? = some v → Value.okWide Try.prog W .any base t v := hval0
  have hW' := hW
  obtain ⟨p, q, hA0, hV, rfl, hfz, hnd⟩ := hW
  have hA : DataW.TrodAll enc Try.prog W 0 (fun _ => true) true Try.f5.params.toList args.toList ds p := hA0
  rw [Try.params5] at hA hval
  obtain ⟨v0, vs0, d0, ds0, p0, q0, hargs, rfl, rfl, h0, r0⟩ := trodAll_cons hA
  obtain ⟨rfl, rfl, rfl⟩ := trodAll_nil r0
  obtain rfl : args = #[v0] := by cases args; simp_all
  obtain ⟨rfl, rfl⟩ := trodVars_none hV
  obtain ⟨a0, len0, cap0, rfl⟩ := okWide_slice Try.underlying22 (hval 0 22 v0 rfl rfl)
  have k0 := h0
  have lt0 : ∀ x ∈ p0, x.block < W.heap.size := by obtain ⟨m, hm⟩ := k0; exact DataW.trod_lt m _ _ _ hm
  obtain ⟨z0, w0⟩ : ∃ zs, IsRow .u8 W a0 len0 cap0 zs := by
    obtain ⟨fuel, hf⟩ := h0
    rcases open_ints Try.underlying22 Try.underlying5 (by kernel_rfl) hf with ⟨hcs, _⟩ | ⟨x, l, c, zs, hcs, _, hl, hm, hz, _, hcell, hwz⟩
    · simp [Value.cells] at hcs
      obtain ⟨rfl, rfl, rfl⟩ := hcs
      exact ⟨[], .inl ⟨rfl, rfl, rfl, rfl⟩⟩
    · simp [Value.cells] at hcs
      obtain ⟨rfl, rfl, rfl⟩ := hcs
      exact ⟨zs, .inr ⟨_, rfl, hl, hm, by simpa using hz, hcell, hwz⟩⟩
  clear hA0 hval0
  refine (walk a0 len0 cap0 z0 W w0).mono fun e W' ⟨he, bel⟩ => ?_
  subst he
  exact ⟨_, rfl, _, _, _, [], _, [], hW', trodAll_mk1 (shut_bool Try.underlying4 _), (trodAll_cons_mk (Below.trod laidOut (by kernel_rfl) (of_decide_eq_true (by kernel_rfl)) k0 bel lt0) trodAll_mk0), rfl, bel.frame _, fun h => by cases h⟩

theorem over : Rows.fnSetStoneRow.holds Try.pinned (OpenSpec.ofChange Rows.fnSetStoneSpec) :=
  OpenClaim.holds_of_wide 5 Try.f5 rfl rfl rfl rfl rfl rfl rfl ⟨rfl, rfl, rfl, rfl, rfl⟩ rfl rfl rfl rfl rfl (by kernel_rfl) Try.func5 (by kernel_rfl)
    (of_decide_eq_true (by kernel_rfl)) (by unfold Func.isWrapper; first | (rw [if_pos (by decide +kernel)]; kernel_rfl) | (rw [if_neg (by decide +kernel)]; exact ⟨rfl, rfl⟩))
    (fun os started H enc _ => lifted os started H enc)

theorem proved : Rows.FnSetStoneSaid := over
end Go.Proofs.Ytoflbpihcfdcgaa.fnSetStone
