/-
  Dead stones are taken away whole: the law holds for every code. No condition.
-/
import Derived.Test.YtkjlcokbgpnejaaLawTmKitA
import Derived.Test.YtkjlcokbgpnejaaLawTmKitB
import Derived.Test.YtkjlcokbgpnejaaRows
import Derived.Deep.DeepCutAuto
import Derived.WalkKit
import Derived.ProofKit
import Derived.OpenShut
import Derived.ShutString
import Derived.ChangeOld
import Derived.Below
namespace Go.Proofs.Ytkjlcokbgpnejaa
set_option maxRecDepth 100000
open Go.RowKit

theorem Rmv.cells {s : Int} {cs ds : List Int} {s' : Int} {cs' : List Int} (h : Rmv s cs ds true s' cs') : Bd.okB s cs = true ∧ s' = s ∧ cs'.length = cs.length ∧ ∀ k : Nat, cs'.getD k 0 = if (k : Int) ∈ ds then 0 else cs.getD k 0 := by
  rcases h with ⟨_, h1, h2, h3, rfl⟩ | ⟨e, _⟩
  · refine ⟨h1, h3, clr_len ds cs, clr_getD ds cs fun d hd => ?_⟩
    obtain ⟨i, hi, rfl⟩ := mem_getD hd
    exact (h2.on i hi).1
  · cases e
theorem Rmv.none_ {s : Int} {cs : List Int} (h : Bd.okB s cs = true) : Rmv s cs [] true s cs :=
  .inl ⟨rfl, h, ⟨fun i hi => absurd hi (by simp), fun i hi => absurd hi (by simp), fun i hi => absurd hi (by simp), fun i hi => absurd hi (by simp)⟩, rfl, rfl⟩

section
variable (s : Int) (w : World) (A P : Option Addr) (n c m pc : Nat) (cs ds : List Int) (ok : Bool) (s' : Int) (cs' : List Int) (h : Ints w w.heap.size A n cs) (h' : Ints w w.heap.size P m ds) (hn : n ≤ 49) (hm : m ≤ 4803) (hR : Hid (Rmv s cs ds ok s' cs'))
include h h' hn hm hR
theorem i_RmA : Calls Try.prog 34 #[.agg #[.int .i64 s, .slice A n c], .slice P m pc] w fun e w' => ∃ A n c, e = .returned (.tuple #[.agg #[.int .i64 s', .slice A n c], .bool ok]) ∧ Own w' w.heap.size A n c cs' ∧ Below w.heap.size w w' :=
  i_RmvX s w _ _ A P n c m pc cs ds ok s' cs' h h' (Nat.le_refl _) (Nat.le_refl _) (by omega) (by omega) hR
theorem s_RmA : Calls Try.prog 35 #[.agg #[.int .i64 s, .slice A n c], .slice P m pc] w fun e w' => ∃ A n c, e = .returned (.tuple #[.agg #[.int .i64 s', .slice A n c], .bool ok]) ∧ Own w' w.heap.size A n c cs' ∧ Below w.heap.size w w' :=
  s_RmvX s w _ _ A P n c m pc cs ds ok s' cs' h h' (Nat.le_refl _) (Nat.le_refl _) (by omega) (by omega) hR
end
end Go.Proofs.Ytkjlcokbgpnejaa

namespace Go.Proofs.Ytkjlcokbgpnejaa.fnRemoveDead
set_option maxRecDepth 100000
open Go.ChangeShapes Go.WideShapes Go.ChangeAt Go.RowKit
open Go.ChangeMaps (open_string shut_string)
set_option linter.unusedVariables false

theorem own : ownKnob Try.prog.godebug = none := by kernel_rfl
theorem laidOut : laidOutB Try.prog = true := by kernel_rfl


set_option maxRecDepth 100000 in
set_option maxHeartbeats 16000000 in
theorem walk (a0 : Option Addr) (len0 cap0 : Nat) (z0 : List Int) (w : World) (w0 : IsRow .u8 w a0 len0 cap0 z0) :
    Calls Try.prog 9 #[.slice a0 len0 cap0] w fun e w' => e = .returned (.bool true) ∧ Below w.heap.size w w' := by
  by_cases hl : 1048576 < len0
  · go_enter Try.func9, Try.ntmps9
    go_wp2_with fail
    go_ret
    exact ⟨rfl, Below.refl _ _⟩
  · have hl' : decide ((1048576 : Int) < (len0 : Int)) = false := by rw [decide_eq_false_iff_not]; omega
    go_enter Try.func9, Try.ntmps9
    go_wp2_with fail
    refine (d_rd w a0 len0 cap0 z0 w0).mono ?_
    rintro e y0 ⟨s, A, n, c, cs, P, m, pc, ds, rfl, hi, hn49, s0, s8, hip, hm, hb⟩
    have I0 := Lib.hid hi
    have HB := Lib.hid hb
    clear hi hb w0 hl'
    have I1 := Lib.hid hip
    clear hip
    obtain ⟨ok, s', cs', hR⟩ := Rmv.ex s cs ds
    have HR := Lib.hid hR
    have hl49 := hR.len
    clear hR
    go_wp2_with fail
    obtain ⟨x1, hy3, hb2, z4, z5⟩ := new_box y0 (.cells #[.int .i64 s, .slice A n c] 28)
    have X3 : Hid (Bx 28 x1 y0.heap.size s (.slice A n c)) := Lib.hid (by rw [hy3]; exact Bx.new _ _ _ _)
    rw [← hy3]
    clear hy3
    have I0 := Lib.hid (I0.out.step hb2)
    have I1 := Lib.hid (I1.out.step hb2)
    have HB := Lib.hid (bstep HB.out hb2)
    clear hb2
    have X3_0 := X3.out.cell0
    have X3_1 := X3.out.cell1
    have X3_l := X3.out.lt
    go_wp2_with fail
    refine (i_RmA s _ A P n c m pc cs ds ok s' cs' I0.out I1.out hn49 hm HR).mono ?_
    rintro e x6 ⟨A1, n1, c1, rfl, ho8, hb7⟩
    clear X3_0 X3_1 X3_l
    have X3 := Lib.hid (X3.out.step hb7)
    have I0 := Lib.hid (I0.out.step hb7)
    have I1 := Lib.hid (I1.out.step hb7)
    have HB := Lib.hid (bstep HB.out hb7)
    have R1 := Lib.hid ho8.ints
    have lenR1 := ho8.1
    clear hb7 ho8
    have X3_0 := X3.out.cell0
    have X3_1 := X3.out.cell1
    have X3_l := X3.out.lt
    go_wp2_with fail
    obtain ⟨x9, hy11, hb10, z12, z13⟩ := new_box x6 (.cells #[.int .i64 s', .slice A1 n1 c1] 28)
    have X5 : Hid (Bx 28 x9 x6.heap.size s' (.slice A1 n1 c1)) := Lib.hid (by rw [hy11]; exact Bx.new _ _ _ _)
    rw [← hy11]
    clear hy11
    clear X3_0 X3_1 X3_l
    have X3 := Lib.hid (X3.out.step hb10)
    have I0 := Lib.hid (I0.out.step hb10)
    have I1 := Lib.hid (I1.out.step hb10)
    have R1 := Lib.hid (R1.out.step hb10)
    have HB := Lib.hid (bstep HB.out hb10)
    clear hb10
    have X3_0 := X3.out.cell0
    have X3_1 := X3.out.cell1
    have X3_l := X3.out.lt
    have X5_0 := X5.out.cell0
    have X5_1 := X5.out.cell1
    have X5_l := X5.out.lt
    go_wp2_with fail
    refine (s_RmA s _ A P n c m pc cs ds ok s' cs' I0.out I1.out hn49 hm HR).mono ?_
    rintro e x14 ⟨A2, n2, c2, rfl, ho16, hb15⟩
    clear X3_0 X3_1 X3_l X5_0 X5_1 X5_l
    have X3 := Lib.hid (X3.out.step hb15)
    have X5 := Lib.hid (X5.out.step hb15)
    have I0 := Lib.hid (I0.out.step hb15)
    have I1 := Lib.hid (I1.out.step hb15)
    have R1 := Lib.hid (R1.out.step hb15)
    have HB := Lib.hid (bstep HB.out hb15)
    have R2 := Lib.hid ho16.ints
    have lenR2 := ho16.1
    clear hb15 ho16
    have X3_0 := X3.out.cell0
    have X3_1 := X3.out.cell1
    have X3_l := X3.out.lt
    have X5_0 := X5.out.cell0
    have X5_1 := X5.out.cell1
    have X5_l := X5.out.lt
    obtain rfl : n1 = n2 := lenR1.symm.trans lenR2
    clear lenR2
    go_wp2_with fail
    obtain ⟨x17, hy19, hb18, z20, z21⟩ := new_box x14 (.cells #[.int .i64 s', .slice A2 n1 c2] 28)
    have X7 : Hid (Bx 28 x17 x14.heap.size s' (.slice A2 n1 c2)) := Lib.hid (by rw [hy19]; exact Bx.new _ _ _ _)
    rw [← hy19]
    clear hy19
    clear X3_0 X3_1 X3_l X5_0 X5_1 X5_l
    have X3 := Lib.hid (X3.out.step hb18)
    have X5 := Lib.hid (X5.out.step hb18)
    have I0 := Lib.hid (I0.out.step hb18)
    have I1 := Lib.hid (I1.out.step hb18)
    have R1 := Lib.hid (R1.out.step hb18)
    have R2 := Lib.hid (R2.out.step hb18)
    have HB := Lib.hid (bstep HB.out hb18)
    clear hb18
    have X3_0 := X3.out.cell0
    have X3_1 := X3.out.cell1
    have X3_l := X3.out.lt
    have X5_0 := X5.out.cell0
    have X5_1 := X5.out.cell1
    have X5_l := X5.out.lt
    have X7_0 := X7.out.cell0
    have X7_1 := X7.out.cell1
    have X7_l := X7.out.lt
    go_wp2_with fail
    refine (l_eqB s' _ _ _ n1 _ _ cs' R1.out R2.out (by omega)).mono ?_
    rintro e x22 ⟨rfl, hb23⟩
    clear X3_0 X3_1 X3_l X5_0 X5_1 X5_l X7_0 X7_1 X7_l
    have X3 := Lib.hid (X3.out.step hb23)
    have X5 := Lib.hid (X5.out.step hb23)
    have X7 := Lib.hid (X7.out.step hb23)
    have I0 := Lib.hid (I0.out.step hb23)
    have I1 := Lib.hid (I1.out.step hb23)
    have R1 := Lib.hid (R1.out.step hb23)
    have R2 := Lib.hid (R2.out.step hb23)
    have HB := Lib.hid (bstep HB.out hb23)
    clear hb23
    have X3_0 := X3.out.cell0
    have X3_1 := X3.out.cell1
    have X3_l := X3.out.lt
    have X5_0 := X5.out.cell0
    have X5_1 := X5.out.cell1
    have X5_l := X5.out.lt
    have X7_0 := X7.out.cell0
    have X7_1 := X7.out.cell1
    have X7_l := X7.out.lt
    rcases Bool.eq_false_or_eq_true ok with hok | hok
    · subst hok
      obtain ⟨hv, hss, hcl, hcc⟩ := HR.out.cells
      have Hcc := Lib.hid hcc
      have Hv := Lib.hid hv
      have hI0 := I0.out.1
      have hnn : n1 = n := by omega
      have Hss := Lib.hid hss
      clear hcc hv hcl hss
      go_wp2_with fail
      go_loopw [9] (fun i wr => ∃ k : Nat, k ≤ n ∧ i = .int .i64 (k : Nat) ∧ Below x22.heap.size x22 wr) (fun i _ => n - (intOf i).toNat)
      case atStart => exact ⟨0, by omega, rfl, Below.refl _ _⟩
      case round =>
        obtain ⟨wo, rfl⟩ : ∃ wo : World, wo = wr := ⟨_, rfl⟩
        obtain ⟨k, hk, rfl, hbr⟩ := hrel
        have Hbr := Lib.hid hbr
        clear X3_0 X3_1 X3_l X5_0 X5_1 X5_l X7_0 X7_1 X7_l
        have X3 := Lib.hid (X3.out.step hbr)
        have X5 := Lib.hid (X5.out.step hbr)
        have X7 := Lib.hid (X7.out.step hbr)
        have I0 := Lib.hid (I0.out.step hbr)
        have I1 := Lib.hid (I1.out.step hbr)
        have R1 := Lib.hid (R1.out.step hbr)
        have R2 := Lib.hid (R2.out.step hbr)
        have HB := Lib.hid (bstep HB.out hbr)
        clear hbr
        have X3_0 := X3.out.cell0
        have X3_1 := X3.out.cell1
        have X3_l := X3.out.lt
        have X5_0 := X5.out.cell0
        have X5_1 := X5.out.cell1
        have X5_l := X5.out.lt
        have X7_0 := X7.out.cell0
        have X7_1 := X7.out.cell1
        have X7_l := X7.out.lt
        by_cases hkn : k < n
        · obtain ⟨b, o, hA, _, hc⟩ : ∃ b o, A = some ⟨b, o, none⟩ ∧ b < wo.heap.size ∧ ∀ j, j < n → wo.cell? ⟨b, o + j, none⟩ = some (.int .i64 (cs.getD j 0)) := by
            rcases I0.out.2 with h0 | ⟨b, o, hA, hbB, hc⟩
            · omega
            · exact ⟨b, o, hA, hbB, hc⟩
          obtain ⟨b1, o1, hA1, _, hc1⟩ : ∃ b o, A1 = some ⟨b, o, none⟩ ∧ b < wo.heap.size ∧ ∀ j, j < n1 → wo.cell? ⟨b, o + j, none⟩ = some (.int .i64 (cs'.getD j 0)) := by
            rcases R1.out.2 with h0 | ⟨b, o, hA, hbB, hc⟩
            · omega
            · exact ⟨b, o, hA, hbB, hc⟩
          have ck := hc k hkn
          have ck1 := hc1 k (by omega)
          rw [Hcc.out k] at ck1
          have hkI : (k : Int) < n := by omega
          have hkI1 : (k : Int) < n1 := by omega
          obtain ⟨x, hx⟩ : ∃ x, cs.getD k 0 = x := ⟨_, rfl⟩
          rw [hx] at ck ck1
          clear hc hc1 hx
          rw [hA] at X3_1
          rw [hA1] at X5_1
          clear hA hA1
          by_cases hin : (k : Int) ∈ ds
          · rw [if_pos hin] at ck1
            have hd : decide ((k : Int) ∈ ds) = true := decide_eq_true hin
            go_wp2_with fail
            refine (l_isInD _ _ P m pc ds (k : Nat) I1.out (by omega)).mono ?_
            rintro e w9 ⟨rfl, rfl⟩
            rw [hd]
            clear hd hin
            go_wp2_with fail
            go_roundw
            case rel => exact ⟨k + 1, by omega, by go_num, Hbr.out⟩
            case measure => simp [intOf]; omega
          · rw [if_neg hin] at ck1
            have hd : decide ((k : Int) ∈ ds) = false := decide_eq_false hin
            go_wp2_with fail
            refine (l_isInD _ _ P m pc ds (k : Nat) I1.out (by omega)).mono ?_
            rintro e w9 ⟨rfl, rfl⟩
            rw [hd]
            clear hd hin
            go_wp2_with fail
            go_roundw
            case rel => exact ⟨k + 1, by omega, by go_num, Hbr.out⟩
            case measure => simp [intOf]; omega
        · have hI2 : Ints wo wo.heap.size none 0 [] := ⟨rfl, .inl rfl⟩
          have HR0 := Lib.hid (Rmv.none_ Hv.out)
          go_wp2_with fail
          refine (i_RmA s _ A none n c 0 0 cs [] true s cs I0.out hI2 hn49 (by omega) HR0).mono ?_
          rintro e x375 ⟨A4, n4, c4, rfl, ho377, hb376⟩
          clear X3_0 X3_1 X3_l X5_0 X5_1 X5_l X7_0 X7_1 X7_l
          have X3 := Lib.hid (X3.out.step hb376)
          have X5 := Lib.hid (X5.out.step hb376)
          have X7 := Lib.hid (X7.out.step hb376)
          have I0 := Lib.hid (I0.out.step hb376)
          have I1 := Lib.hid (I1.out.step hb376)
          have R1 := Lib.hid (R1.out.step hb376)
          have R2 := Lib.hid (R2.out.step hb376)
          have HB := Lib.hid (bstep HB.out hb376)
          have R4 := Lib.hid ho377.ints
          have lenR4 := ho377.1
          clear hb376 ho377
          have X3_0 := X3.out.cell0
          have X3_1 := X3.out.cell1
          have X3_l := X3.out.lt
          have X5_0 := X5.out.cell0
          have X5_1 := X5.out.cell1
          have X5_l := X5.out.lt
          have X7_0 := X7.out.cell0
          have X7_1 := X7.out.cell1
          have X7_l := X7.out.lt
          have hn4 : n = n4 := I0.out.1.symm.trans lenR4
          subst hn4
          go_wp2_with fail
          obtain ⟨x378, hy380, hb379, z381, z382⟩ := new_box x375 (.cells #[.int .i64 s, .slice A4 n c4] 28)
          have X11 : Hid (Bx 28 x378 x375.heap.size s (.slice A4 n c4)) := Lib.hid (by rw [hy380]; exact Bx.new _ _ _ _)
          rw [← hy380]
          clear hy380
          clear X3_0 X3_1 X3_l X5_0 X5_1 X5_l X7_0 X7_1 X7_l
          have X3 := Lib.hid (X3.out.step hb379)
          have X5 := Lib.hid (X5.out.step hb379)
          have X7 := Lib.hid (X7.out.step hb379)
          have I0 := Lib.hid (I0.out.step hb379)
          have I1 := Lib.hid (I1.out.step hb379)
          have R1 := Lib.hid (R1.out.step hb379)
          have R2 := Lib.hid (R2.out.step hb379)
          have R4 := Lib.hid (R4.out.step hb379)
          have HB := Lib.hid (bstep HB.out hb379)
          clear hb379
          have X3_0 := X3.out.cell0
          have X3_1 := X3.out.cell1
          have X3_l := X3.out.lt
          have X5_0 := X5.out.cell0
          have X5_1 := X5.out.cell1
          have X5_l := X5.out.lt
          have X7_0 := X7.out.cell0
          have X7_1 := X7.out.cell1
          have X7_l := X7.out.lt
          have X11_0 := X11.out.cell0
          have X11_1 := X11.out.cell1
          have X11_l := X11.out.lt
          go_wp2_with fail
          refine (l_eqB s _ _ _ n _ _ cs R4.out I0.out (by omega)).mono ?_
          rintro e x383 ⟨rfl, hb384⟩
          clear X3_0 X3_1 X3_l X5_0 X5_1 X5_l X7_0 X7_1 X7_l X11_0 X11_1 X11_l
          have X3 := Lib.hid (X3.out.step hb384)
          have X5 := Lib.hid (X5.out.step hb384)
          have X7 := Lib.hid (X7.out.step hb384)
          have X11 := Lib.hid (X11.out.step hb384)
          have I0 := Lib.hid (I0.out.step hb384)
          have I1 := Lib.hid (I1.out.step hb384)
          have R1 := Lib.hid (R1.out.step hb384)
          have R2 := Lib.hid (R2.out.step hb384)
          have R4 := Lib.hid (R4.out.step hb384)
          have HB := Lib.hid (bstep HB.out hb384)
          clear hb384
          have X3_0 := X3.out.cell0
          have X3_1 := X3.out.cell1
          have X3_l := X3.out.lt
          have X5_0 := X5.out.cell0
          have X5_1 := X5.out.cell1
          have X5_l := X5.out.lt
          have X7_0 := X7.out.cell0
          have X7_1 := X7.out.cell1
          have X7_l := X7.out.lt
          have X11_0 := X11.out.cell0
          have X11_1 := X11.out.cell1
          have X11_l := X11.out.lt
          go_wp2_with fail
          go_ret
          exact ⟨by first | rfl | simp, HB.out⟩
    · subst hok
      go_wp2_with fail
      refine (l_eqB s' _ _ _ n1 _ _ cs' R1.out R2.out (by omega)).mono ?_
      rintro e x725 ⟨rfl, hb726⟩
      clear X3_0 X3_1 X3_l X5_0 X5_1 X5_l X7_0 X7_1 X7_l
      have X3 := Lib.hid (X3.out.step hb726)
      have X5 := Lib.hid (X5.out.step hb726)
      have X7 := Lib.hid (X7.out.step hb726)
      have I0 := Lib.hid (I0.out.step hb726)
      have I1 := Lib.hid (I1.out.step hb726)
      have R1 := Lib.hid (R1.out.step hb726)
      have R2 := Lib.hid (R2.out.step hb726)
      have HB := Lib.hid (bstep HB.out hb726)
      clear hb726
      have X3_0 := X3.out.cell0
      have X3_1 := X3.out.cell1
      have X3_l := X3.out.lt
      have X5_0 := X5.out.cell0
      have X5_1 := X5.out.cell1
      have X5_l := X5.out.lt
      have X7_0 := X7.out.cell0
      have X7_1 := X7.out.cell1
      have X7_l := X7.out.lt
      go_wp2_with fail
      go_ret
      exact ⟨by first | rfl | simp, HB.out⟩


set_option maxRecDepth 100000 in
theorem lifted (os : Os) (started : os.Started) (H : Type) (enc : TypeId × Value → H) :
    ReturnsInHanded {} Try.checked os 9 .any (Rows.fnRemoveDeadSpec.pre6 enc Try.prog Try.f9 Rows.fnRemoveDeadRow.domain false) (Rows.fnRemoveDeadSpec.post enc Try.prog Try.f9 false true false false) := by
  refine returnsInHanded_of_change (C := Try.checked) own started (by kernel_rfl) Try.func9
    (ChangeSpec.witness6 (enc := enc) (C := Try.checked) false ⟨#[], #[.slice none 0 0], []⟩ 8 (by kernel_rfl) (by kernel_rfl) (by kernel_rfl) (by kernel_rfl)) ?_
  intro W base args ds gs before hval0 hW hcnd _
  have hval : ∀ (j : Nat) t v, Try.f9.params[j]? = some t → args[j]? = some v → Value.okWide Try.prog W .any base t v := hval0
  have hW' := hW
  obtain ⟨p, q, hA0, hV, rfl, hfz, hnd⟩ := hW
  have hA : DataW.TrodAll enc Try.prog W 0 (fun _ => true) true Try.f9.params.toList args.toList ds p := hA0
  rw [Try.params9] at hA hval
  obtain ⟨v0, vs0, d0, ds0, p0, q0, hargs, rfl, rfl, h0, r0⟩ := trodAll_cons hA
  obtain ⟨rfl, rfl, rfl⟩ := trodAll_nil r0
  obtain rfl : args = #[v0] := by cases args; simp_all
  obtain ⟨rfl, rfl⟩ := trodVars_none hV
  obtain ⟨a0, len0, cap0, rfl⟩ := okWide_slice Try.underlying41 (hval 0 41 v0 rfl rfl)
  have k0 := h0
  have lt0 : ∀ x ∈ p0, x.block < W.heap.size := by obtain ⟨m, hm⟩ := k0; exact DataW.trod_lt m _ _ _ hm
  obtain ⟨z0, w0⟩ : ∃ zs, IsRow .u8 W a0 len0 cap0 zs := by
    obtain ⟨fuel, hf⟩ := h0
    rcases open_ints Try.underlying41 Try.underlying5 (by kernel_rfl) hf with ⟨hcs, _⟩ | ⟨x, l, c, zs, hcs, _, hl, hm, hz, _, hcell, hwz⟩
    · simp [Value.cells] at hcs
      obtain ⟨rfl, rfl, rfl⟩ := hcs
      exact ⟨[], .inl ⟨rfl, rfl, rfl, rfl⟩⟩
    · simp [Value.cells] at hcs
      obtain ⟨rfl, rfl, rfl⟩ := hcs
      exact ⟨zs, .inr ⟨_, rfl, hl, hm, by simpa using hz, hcell, hwz⟩⟩
  clear hA0 hval0
  refine (walk a0 len0 cap0 z0 W w0).mono fun e W' ⟨he, bel⟩ => ?_
  subst he
  exact ⟨_, rfl, _, _, _, [], _, [], hW', trodAll_mk1 (shut_bool Try.underlying4 _), (trodAll_cons_mk (Below.trod laidOut (by kernel_rfl) (of_decide_eq_true (by kernel_rfl)) k0 bel lt0) trodAll_mk0), rfl, bel.frame _, fun h => by cases h⟩

theorem over : Rows.fnRemoveDeadRow.holds Try.pinned (OpenSpec.ofChange Rows.fnRemoveDeadSpec) :=
  OpenClaim.holds_of_wide 9 Try.f9 rfl rfl rfl rfl rfl rfl rfl ⟨rfl, rfl, rfl, rfl, rfl⟩ rfl rfl rfl rfl rfl (by kernel_rfl) Try.func9 (by kernel_rfl)
    (of_decide_eq_true (by kernel_rfl)) (by unfold Func.isWrapper; first | (rw [if_pos (by decide +kernel)]; kernel_rfl) | (rw [if_neg (by decide +kernel)]; exact ⟨rfl, rfl⟩))
    (fun os started H enc _ => lifted os started H enc)

theorem proved : Rows.FnRemoveDeadSaid := over
end Go.Proofs.Ytkjlcokbgpnejaa.fnRemoveDead
