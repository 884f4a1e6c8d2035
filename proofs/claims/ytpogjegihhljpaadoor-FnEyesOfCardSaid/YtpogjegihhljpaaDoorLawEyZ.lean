/-
  Eyes and false eyes are told apart: the law holds for every code. No condition but the laid table.
-/
import Derived.Test.YtpogjegihhljpaaDoorLawEyKit
import Derived.Test.YtpogjegihhljpaaDoorRows
import Derived.Deep.RegionWith
import Derived.Deep.DeepCutAuto
import Derived.Test.YtpogjegihhljpaaDoorCards
import Derived.Test.YtpogjegihhljpaaDoorTie
import Derived.LaidMore
import Derived.Stop.Joined
import Derived.Stop.LaidErr
import Derived.SevenTiedAt
import Derived.WalkKit
import Derived.ProofKit
import Derived.OpenShut
import Derived.ShutString
import Derived.ChangeOld
import Derived.Below
namespace Go.Proofs.YtpogjegihhljpaaDoor.fnEyesOf
set_option maxRecDepth 100000
open Go.WideMaps Go.WideElems
open Go.ChangeShapes Go.WideShapes Go.ChangeAt Go.RowKit
open Go.ChangeMaps (open_string shut_string)
set_option linter.unusedVariables false

theorem own : ownKnob Tryd.prog.godebug = none := by kernel_rfl
theorem laidOut : laidOutB Tryd.prog = true := by kernel_rfl


set_option maxRecDepth 100000 in
set_option maxHeartbeats 16000000 in
theorem walk (a0 : Option Addr) (len0 cap0 : Nat) (z0 : List Int) (w : World) (ht : Tab w) (w0 : IsRow .u8 w a0 len0 cap0 z0) :
    Calls Tryd.prog 7 #[.slice a0 len0 cap0] w fun e w' => e = .returned (.bool true) ∧ Below w.heap.size w w' := by
  by_cases hl : 1048576 < len0
  · go_enter Tryd.func7, Tryd.ntmps7
    go_wp2_with fail
    go_ret
    exact ⟨rfl, Below.refl _ _⟩
  · have hl' : decide ((1048576 : Int) < (len0 : Int)) = false := by rw [decide_eq_false_iff_not]; omega
    go_enter Tryd.func7, Tryd.ntmps7
    go_wp2_with fail
    refine (d_ey w a0 len0 cap0 z0 w0).mono ?_
    rintro e y0 ⟨s, A, n, c, cs, x, rfl, hi, hn49, s0, s8, hx, hb⟩
    have I0 := Lib.hid hi
    have HB := Lib.hid hb
    have HT := Lib.hid ht
    clear hi hb w0 hl'
    go_wp2_with fail
    obtain ⟨x1, hy3, hb2, z4, z5⟩ := new_box y0 (.cells #[.int .i64 s, .slice A n c] 25)
    have X3 : Hid (Bx 25 x1 y0.heap.size s (.slice A n c)) := Lib.hid (by rw [hy3]; exact Bx.new _ _ _ _)
    rw [← hy3]
    clear hy3
    have I0 := Lib.hid (I0.out.step hb2)
    have HB := Lib.hid (bstep HB.out hb2)
    clear hb2
    have X3_0 := X3.out.cell0
    have X3_1 := X3.out.cell1
    have X3_l := X3.out.lt
    have hl0 := I0.out.1
    have hlen1 := eyL_len s cs x
    have hlen2 := eyW_len s cs x
    obtain ⟨la, hla⟩ : ∃ l, eyL s cs x = l := ⟨_, rfl⟩
    obtain ⟨lb, hlb⟩ : ∃ l, eyW s cs x = l := ⟨_, rfl⟩
    rw [hla] at hlen1
    rw [hlb] at hlen2
    have Hla := Lib.hid hla
    have Hlb := Lib.hid hlb
    have Hl := Lib.hid hl0
    clear hla hlb
    go_wp2_with fail
    refine (i_EyL s x _ _ _ n _ cs la lb Hla Hlb I0.out (Nat.le_refl _) (by omega) (HT.out.below HB.out)).mono ?_
    rintro e x6 ⟨A1, n1, c1, D1, m1, d1, mid, rfl, ho8, _, ho9, _, _, hb7⟩
    clear X3_0 X3_1 X3_l
    have X3 := Lib.hid (X3.out.step hb7)
    have I0 := Lib.hid (I0.out.step hb7)
    have HB := Lib.hid (bstep HB.out hb7)
    have P1 := Lib.hid ho8.ints
    have lenP1 := ho8.1
    have P2 := Lib.hid ho9.ints
    have lenP2 := ho9.1
    clear hb7 ho8 ho9
    have X3_0 := X3.out.cell0
    have X3_1 := X3.out.cell1
    have X3_l := X3.out.lt
    go_wp2_with fail
    refine (s_EyL s x _ _ _ n _ cs la lb Hla Hlb I0.out (Nat.le_refl _) (by omega)).mono ?_
    rintro e x10 ⟨A2, n2, c2, D2, m2, d2, rfl, ho12, hb11⟩
    clear X3_0 X3_1 X3_l
    have X3 := Lib.hid (X3.out.step hb11)
    have I0 := Lib.hid (I0.out.step hb11)
    have P1 := Lib.hid (P1.out.step hb11)
    have P2 := Lib.hid (P2.out.step hb11)
    have HB := Lib.hid (bstep HB.out hb11)
    have Q1 := Lib.hid ho12.one.ints
    have lenQ1 := ho12.one.1
    have Q2 := Lib.hid ho12.two.ints
    have lenQ2 := ho12.two.1
    clear hb11 ho12
    have X3_0 := X3.out.cell0
    have X3_1 := X3.out.cell1
    have X3_l := X3.out.lt
    obtain rfl : n2 = n1 := by omega
    obtain rfl : m2 = m1 := by omega
    have hn1 : n2 ≤ 49 := by omega
    have hm1 : m2 ≤ 49 := by omega
    clear hl0 hlen1 hlen2 lenP1 lenP2 lenQ1 lenQ2
    go_wp2_with fail
    refine (eq_b _ _ _ _ _ _ la P1.out Q1.out (by omega)).mono ?_
    rintro e x14 ⟨rfl, hb15⟩
    clear X3_0 X3_1 X3_l
    have X3 := Lib.hid (X3.out.step hb15)
    have I0 := Lib.hid (I0.out.step hb15)
    have P1 := Lib.hid (P1.out.step hb15)
    have P2 := Lib.hid (P2.out.step hb15)
    have Q1 := Lib.hid (Q1.out.step hb15)
    have Q2 := Lib.hid (Q2.out.step hb15)
    have HB := Lib.hid (bstep HB.out hb15)
    clear hb15
    have X3_0 := X3.out.cell0
    have X3_1 := X3.out.cell1
    have X3_l := X3.out.lt
    go_wp2_with fail
    refine (eq_b _ _ _ _ _ _ lb P2.out Q2.out (by omega)).mono ?_
    rintro e x17 ⟨rfl, hb18⟩
    clear X3_0 X3_1 X3_l
    have X3 := Lib.hid (X3.out.step hb18)
    have I0 := Lib.hid (I0.out.step hb18)
    have P1 := Lib.hid (P1.out.step hb18)
    have P2 := Lib.hid (P2.out.step hb18)
    have Q1 := Lib.hid (Q1.out.step hb18)
    have Q2 := Lib.hid (Q2.out.step hb18)
    have HB := Lib.hid (bstep HB.out hb18)
    clear hb18
    have X3_0 := X3.out.cell0
    have X3_1 := X3.out.cell1
    have X3_l := X3.out.lt
    by_cases hv : Bd.okB s cs = true
    · have Hv := Lib.hid hv
      clear hv
      go_wp2_with fail
      refine (vb_b s _ _ _ _ cs true I0.out hn49 Hv.out).mono ?_
      rintro e x70 ⟨rfl, hb71⟩
      clear X3_0 X3_1 X3_l
      have X3 := Lib.hid (X3.out.step hb71)
      have I0 := Lib.hid (I0.out.step hb71)
      have P1 := Lib.hid (P1.out.step hb71)
      have P2 := Lib.hid (P2.out.step hb71)
      have Q1 := Lib.hid (Q1.out.step hb71)
      have Q2 := Lib.hid (Q2.out.step hb71)
      have HB := Lib.hid (bstep HB.out hb71)
      clear hb71
      have X3_0 := X3.out.cell0
      have X3_1 := X3.out.cell1
      have X3_l := X3.out.lt
      go_wp2_with fail
      clear X3_0 X3_1 X3_l
      go_loopw [9] (fun v wr => ∃ k : Nat, k ≤ n ∧ v = .int .i64 (k : Nat) ∧ Below x70.heap.size x70 wr) (fun v _ => n - (intOf v).toNat)
      case atStart => exact ⟨0, by omega, rfl, Below.refl _ _⟩
      case round =>
        obtain ⟨k, hk, rfl, hbr⟩ := hrel
        have HL := Lib.hid hbr
        have X3 := Lib.hid (X3.out.step hbr)
        have I0 := Lib.hid (I0.out.step hbr)
        have P1 := Lib.hid (P1.out.step hbr)
        have P2 := Lib.hid (P2.out.step hbr)
        have Q1 := Lib.hid (Q1.out.step hbr)
        have Q2 := Lib.hid (Q2.out.step hbr)
        have HB := Lib.hid (bstep HB.out hbr)
        clear hbr
        have X3_0 := X3.out.cell0
        have X3_1 := X3.out.cell1
        have X3_l := X3.out.lt
        by_cases hkn : k < n
        · have hkI : (k : Int) < n := by omega
          obtain ⟨b1, hb1⟩ : ∃ b, eyB s cs (k : Nat) x = b := ⟨_, rfl⟩
          have hb2 := mem_eyL (x := x) Hv.out k (by rw [Hl.out]; exact hkn)
          rw [Hla.out, hb1] at hb2
          obtain ⟨b3, hb3⟩ : ∃ b, decide ((k : Int) ∈ lb) = b := ⟨_, rfl⟩
          have hnb : b3 = true → b1 = false := fun e => by rw [e] at hb3; rw [← hb2]; have := of_decide_eq_true hb3; rw [← Hlb.out] at this; have := not_both this; rw [Hla.out] at this; exact decide_eq_false this
          have H1 := Lib.hid hb1
          have H2 := Lib.hid hb2
          have H3 := Lib.hid hb3
          clear hb1 hb2 hb3
          cases b3
          · clear hnb
            go_wp2_with fail
            refine (eye_b s (k : Nat) x _ _ _ _ cs _ I0.out hn49 (HT.out.below HB.out) H1.out).mono ?_
            rintro e x273 ⟨rfl, hb274⟩
            clear X3_0 X3_1 X3_l
            have X3 := Lib.hid (X3.out.step hb274)
            have I0 := Lib.hid (I0.out.step hb274)
            have P1 := Lib.hid (P1.out.step hb274)
            have P2 := Lib.hid (P2.out.step hb274)
            have Q1 := Lib.hid (Q1.out.step hb274)
            have Q2 := Lib.hid (Q2.out.step hb274)
            have HB := Lib.hid (bstep HB.out hb274)
            have HL := Lib.hid (bstep HL.out hb274)
            clear hb274
            have X3_0 := X3.out.cell0
            have X3_1 := X3.out.cell1
            have X3_l := X3.out.lt
            go_wp2_with fail
            refine (in_b _ _ _ _ la (k : Nat) _ P1.out (by omega) H2.out).mono ?_
            rintro e x276 ⟨rfl, hb277⟩
            clear X3_0 X3_1 X3_l
            have X3 := Lib.hid (X3.out.step hb277)
            have I0 := Lib.hid (I0.out.step hb277)
            have P1 := Lib.hid (P1.out.step hb277)
            have P2 := Lib.hid (P2.out.step hb277)
            have Q1 := Lib.hid (Q1.out.step hb277)
            have Q2 := Lib.hid (Q2.out.step hb277)
            have HB := Lib.hid (bstep HB.out hb277)
            have HL := Lib.hid (bstep HL.out hb277)
            clear hb277
            have X3_0 := X3.out.cell0
            have X3_1 := X3.out.cell1
            have X3_l := X3.out.lt
            have hbb : (b1 != b1) = false := by cases b1 <;> rfl
            go_wp2_with fail
            refine (in_b _ _ _ _ lb (k : Nat) _ P2.out (by omega) H3.out).mono ?_
            rintro e x279 ⟨rfl, hb280⟩
            clear X3_0 X3_1 X3_l
            have X3 := Lib.hid (X3.out.step hb280)
            have I0 := Lib.hid (I0.out.step hb280)
            have P1 := Lib.hid (P1.out.step hb280)
            have P2 := Lib.hid (P2.out.step hb280)
            have Q1 := Lib.hid (Q1.out.step hb280)
            have Q2 := Lib.hid (Q2.out.step hb280)
            have HB := Lib.hid (bstep HB.out hb280)
            have HL := Lib.hid (bstep HL.out hb280)
            clear hb280
            have X3_0 := X3.out.cell0
            have X3_1 := X3.out.cell1
            have X3_l := X3.out.lt
            go_wp2_with fail
            go_roundw
            case rel => exact ⟨k + 1, by omega, by go_num, HL.out⟩
            case measure => simp [intOf]; omega
          · obtain rfl : b1 = false := hnb rfl
            clear hnb
            go_wp2_with fail
            refine (eye_b s (k : Nat) x _ _ _ _ cs _ I0.out hn49 (HT.out.below HB.out) H1.out).mono ?_
            rintro e x273 ⟨rfl, hb274⟩
            clear X3_0 X3_1 X3_l
            have X3 := Lib.hid (X3.out.step hb274)
            have I0 := Lib.hid (I0.out.step hb274)
            have P1 := Lib.hid (P1.out.step hb274)
            have P2 := Lib.hid (P2.out.step hb274)
            have Q1 := Lib.hid (Q1.out.step hb274)
            have Q2 := Lib.hid (Q2.out.step hb274)
            have HB := Lib.hid (bstep HB.out hb274)
            have HL := Lib.hid (bstep HL.out hb274)
            clear hb274
            have X3_0 := X3.out.cell0
            have X3_1 := X3.out.cell1
            have X3_l := X3.out.lt
            go_wp2_with fail
            refine (in_b _ _ _ _ la (k : Nat) _ P1.out (by omega) H2.out).mono ?_
            rintro e x276 ⟨rfl, hb277⟩
            clear X3_0 X3_1 X3_l
            have X3 := Lib.hid (X3.out.step hb277)
            have I0 := Lib.hid (I0.out.step hb277)
            have P1 := Lib.hid (P1.out.step hb277)
            have P2 := Lib.hid (P2.out.step hb277)
            have Q1 := Lib.hid (Q1.out.step hb277)
            have Q2 := Lib.hid (Q2.out.step hb277)
            have HB := Lib.hid (bstep HB.out hb277)
            have HL := Lib.hid (bstep HL.out hb277)
            clear hb277
            have X3_0 := X3.out.cell0
            have X3_1 := X3.out.cell1
            have X3_l := X3.out.lt
            go_wp2_with fail
            refine (in_b _ _ _ _ lb (k : Nat) _ P2.out (by omega) H3.out).mono ?_
            rintro e x279 ⟨rfl, hb280⟩
            clear X3_0 X3_1 X3_l
            have X3 := Lib.hid (X3.out.step hb280)
            have I0 := Lib.hid (I0.out.step hb280)
            have P1 := Lib.hid (P1.out.step hb280)
            have P2 := Lib.hid (P2.out.step hb280)
            have Q1 := Lib.hid (Q1.out.step hb280)
            have Q2 := Lib.hid (Q2.out.step hb280)
            have HB := Lib.hid (bstep HB.out hb280)
            have HL := Lib.hid (bstep HL.out hb280)
            clear hb280
            have X3_0 := X3.out.cell0
            have X3_1 := X3.out.cell1
            have X3_l := X3.out.lt
            go_wp2_with fail
            refine (in_b _ _ _ _ la (k : Nat) _ P1.out (by omega) H2.out).mono ?_
            rintro e x282 ⟨rfl, hb283⟩
            clear X3_0 X3_1 X3_l
            have X3 := Lib.hid (X3.out.step hb283)
            have I0 := Lib.hid (I0.out.step hb283)
            have P1 := Lib.hid (P1.out.step hb283)
            have P2 := Lib.hid (P2.out.step hb283)
            have Q1 := Lib.hid (Q1.out.step hb283)
            have Q2 := Lib.hid (Q2.out.step hb283)
            have HB := Lib.hid (bstep HB.out hb283)
            have HL := Lib.hid (bstep HL.out hb283)
            clear hb283
            have X3_0 := X3.out.cell0
            have X3_1 := X3.out.cell1
            have X3_l := X3.out.lt
            go_wp2_with fail
            go_roundw
            case rel => exact ⟨k + 1, by omega, by go_num, HL.out⟩
            case measure => simp [intOf]; omega
        · go_wp2_with fail
          go_ret
          exact ⟨rfl, HB.out⟩
    · have hv0 : Bd.okB s cs = false := by simpa using hv
      have Hv := Lib.hid hv0
      clear hv hv0
      go_wp2_with fail
      refine (vb_b s _ _ _ _ cs false I0.out hn49 Hv.out).mono ?_
      rintro e x720 ⟨rfl, hb721⟩
      clear X3_0 X3_1 X3_l
      have X3 := Lib.hid (X3.out.step hb721)
      have I0 := Lib.hid (I0.out.step hb721)
      have P1 := Lib.hid (P1.out.step hb721)
      have P2 := Lib.hid (P2.out.step hb721)
      have Q1 := Lib.hid (Q1.out.step hb721)
      have Q2 := Lib.hid (Q2.out.step hb721)
      have HB := Lib.hid (bstep HB.out hb721)
      clear hb721
      have X3_0 := X3.out.cell0
      have X3_1 := X3.out.cell1
      have X3_l := X3.out.lt
      go_wp2_with fail
      refine (eq_b _ _ _ _ _ _ la P1.out Q1.out (by omega)).mono ?_
      rintro e x723 ⟨rfl, hb724⟩
      clear X3_0 X3_1 X3_l
      have X3 := Lib.hid (X3.out.step hb724)
      have I0 := Lib.hid (I0.out.step hb724)
      have P1 := Lib.hid (P1.out.step hb724)
      have P2 := Lib.hid (P2.out.step hb724)
      have Q1 := Lib.hid (Q1.out.step hb724)
      have Q2 := Lib.hid (Q2.out.step hb724)
      have HB := Lib.hid (bstep HB.out hb724)
      clear hb724
      have X3_0 := X3.out.cell0
      have X3_1 := X3.out.cell1
      have X3_l := X3.out.lt
      go_wp2_with fail
      refine (eq_b _ _ _ _ _ _ lb P2.out Q2.out (by omega)).mono ?_
      rintro e x726 ⟨rfl, hb727⟩
      clear X3_0 X3_1 X3_l
      have X3 := Lib.hid (X3.out.step hb727)
      have I0 := Lib.hid (I0.out.step hb727)
      have P1 := Lib.hid (P1.out.step hb727)
      have P2 := Lib.hid (P2.out.step hb727)
      have Q1 := Lib.hid (Q1.out.step hb727)
      have Q2 := Lib.hid (Q2.out.step hb727)
      have HB := Lib.hid (bstep HB.out hb727)
      clear hb727
      have X3_0 := X3.out.cell0
      have X3_1 := X3.out.cell1
      have X3_l := X3.out.lt
      go_wp2_with fail
      go_ret
      exact ⟨by first | rfl | simp, HB.out⟩


abbrev listed : List (String × DataW Unit) := [("math/bits.deBruijn64tab", Rows.laid_math_bits_deBruijn64tab)]
theorem door_met (os : Os) (args : Array Value) : laidMetH Tryd.prog listed ((World.doorLaid Tryd.prog 400 os).forCall (fun _ _ => 0) ⟨#[], args, []⟩).memory :=
  laidMetH_of_parts3 (fuel := 8) (laidMet_of_run' 8 (by kernel_rfl) (by kernel_rfl)) (by kernel_rfl) (by kernel_rfl)
theorem tabOf {W : World} (h : laidMetH Tryd.prog listed W) : Tab W := by
  rw [MakeChecks.laidMetH_plain _ _ _ (by kernel_rfl)] at h
  exact Tab.of (Lib.tabIs_of_head (g := 2) (t := 110) (e := 5) (n := 64) (by kernel_rfl) (by kernel_rfl) (by kernel_rfl) (by kernel_rfl) (by kernel_rfl) (by kernel_rfl) h) (by kernel_rfl)

set_option maxRecDepth 100000 in
theorem lifted (os : Os) (started : os.Started) (H : Type) (enc : TypeId × Value → H) :
    ReturnsInHanded {} Tryd.checked os 7 .any (fun w args => (Rows.fnEyesOfSpec.pre enc Tryd.prog Tryd.f7 [] false w args ∧ laidMetH Tryd.prog listed w) ∧ sizedMet enc Tryd.prog Tryd.f7 (OpenSpec.ofChange Rows.fnEyesOfSpec) false w args) (Rows.fnEyesOfSpec.post enc Tryd.prog Tryd.f7 false true false false) := by
  refine returnsInHanded_of_change_and (C := Tryd.checked) (X := fun w _ => laidMetH Tryd.prog listed w) (fun _ _ _ hh h => h.of_heap hh) own started (by kernel_rfl) Tryd.func7
    (ChangeSpec.witness_shaped (enc := enc) (C := Tryd.checked) (os := os) (X := fun w _ => laidMetH Tryd.prog listed w) false (World.doorLaid Tryd.prog 400 os) #[.slice none 0 0] 8 rfl (World.shaped_of_RefB (by kernel_rfl) (by kernel_rfl)) (by kernel_rfl) (by kernel_rfl) (by kernel_rfl) (door_met os _)) ?_
  intro W base args ds gs before hval0 hW _ _ hL _
  have hval : ∀ (j : Nat) t v, Tryd.f7.params[j]? = some t → args[j]? = some v → Value.okWide Tryd.prog W .any base t v := hval0
  have hW' := hW
  obtain ⟨p, q, hA0, hV, rfl, hfz, hnd⟩ := hW
  have hA : DataW.TrodAll enc Tryd.prog W 0 (fun _ => true) true Tryd.f7.params.toList args.toList ds p := hA0
  rw [Tryd.params7] at hA hval
  obtain ⟨v0, vs0, d0, ds0, p0, q0, hargs, rfl, rfl, h0, r0⟩ := trodAll_cons hA
  obtain ⟨rfl, rfl, rfl⟩ := trodAll_nil r0
  obtain rfl : args = #[v0] := by cases args; simp_all
  obtain ⟨rfl, rfl⟩ := trodVars_none hV
  obtain ⟨a0, len0, cap0, rfl⟩ := okWide_slice Tryd.underlying22 (hval 0 22 v0 rfl rfl)
  have k0 := h0
  have lt0 : ∀ x ∈ p0, x.block < W.heap.size := by obtain ⟨m, hm⟩ := k0; exact DataW.trod_lt m _ _ _ hm
  obtain ⟨z0, w0⟩ : ∃ zs, IsRow .u8 W a0 len0 cap0 zs := by
    obtain ⟨fuel, hf⟩ := h0
    rcases open_ints Tryd.underlying22 Tryd.underlying5 (by kernel_rfl) hf with ⟨hcs, _⟩ | ⟨x, l, c, zs, hcs, _, hl, hm, hz, _, hcell, hwz⟩
    · simp [Value.cells] at hcs
      obtain ⟨rfl, rfl, rfl⟩ := hcs
      exact ⟨[], .inl ⟨rfl, rfl, rfl, rfl⟩⟩
    · simp [Value.cells] at hcs
      obtain ⟨rfl, rfl, rfl⟩ := hcs
      exact ⟨zs, .inr ⟨_, rfl, hl, hm, by simpa using hz, hcell, hwz⟩⟩
  clear hA0 hval0
  refine (walk a0 len0 cap0 z0 W (tabOf hL) w0).mono fun e W' ⟨he, bel⟩ => ?_
  subst he
  exact ⟨_, rfl, _, _, _, [], _, [], hW', trodAll_mk1 (shut_bool Tryd.underlying4 _), (trodAll_cons_mk (Below.trod laidOut (by kernel_rfl) (of_decide_eq_true (by kernel_rfl)) k0 bel lt0) trodAll_mk0), rfl, bel.frame _, fun h => by cases h⟩

theorem over : Rows.fnEyesOfRow.holds Tryd.pinned (OpenSpec.ofChange Rows.fnEyesOfSpec) :=
  OpenClaim.holds_of_wide 7 Tryd.f7 rfl rfl rfl rfl rfl rfl rfl ⟨rfl, rfl, rfl, rfl, rfl⟩ rfl rfl rfl rfl rfl (by kernel_rfl) Tryd.func7 (by kernel_rfl)
    (of_decide_eq_true (by kernel_rfl)) (by unfold Func.isWrapper; first | (rw [if_pos (by decide +kernel)]; kernel_rfl) | (rw [if_neg (by decide +kernel)]; exact ⟨rfl, rfl⟩))
    (fun os started H enc _ => lifted os started H enc)

theorem proved : Rows.FnEyesOfCardSaid :=
  Claim7.holds_tied_plain_at .later [] [.data] true Rows.fnEyesOfCard.stood.harness false
    over (fun _ h => by cases h) (by kernel_rfl) (fun _ h => by cases h) fnEyesOf_row_tie rfl ⟨rfl, rfl⟩ (by kernel_rfl) rfl
    (fun f fn hf hfn => by
      obtain rfl : f = 7 := Option.some.inj ((show Tryd.prog.funcNamed "loop.example/goboard/laws.FnEyesOf" = some 7 by kernel_rfl).symm.trans hf) |>.symm
      obtain rfl : fn = Tryd.f7 := (Option.some.inj (Tryd.func7.symm.trans hfn)).symm
      exact ⟨by kernel_rfl, fun j t ht => by
        have hm : t ∈ Tryd.f7.params.toList := by simpa using Array.mem_of_getElem? ht
        have hall : (Tryd.f7.params.toList.all fun u => !Tryd.prog.wantsStandIn u) = true := by kernel_rfl
        exact (show Tryd.prog.wantsStandIn t = false by simpa using List.all_eq_true.1 hall t hm)⟩)
    (by kernel_rfl)
end Go.Proofs.YtpogjegihhljpaaDoor.fnEyesOf
