/-
  Empty boards have empty patterns: the law of PatternAt holds for every code. No condition.
-/
import Derived.Test.YtpopbcmfbcmojaaDoorLawPeKit
import Derived.Test.YtpopbcmfbcmojaaDoorRows
import Derived.Test.YtpopbcmfbcmojaaDoorBoardI
import Derived.Deep.LoopGhost
import Derived.Deep.RegionHeld3
import Derived.Deep.RegionWith
import Derived.Deep.DeepCutAuto
import Derived.Test.YtpopbcmfbcmojaaDoorCards
import Derived.Test.YtpopbcmfbcmojaaDoorTie
import Derived.LaidMore
import Derived.Stop.Joined
import Derived.Stop.LaidErr
import Derived.SevenTiedAt
import Derived.WalkKit
import Derived.ProofKit
import Derived.OpenShut
import Derived.ShutString
import Derived.ChangeOld
import Derived.Below
namespace Go.Proofs.YtpopbcmfbcmojaaDoor.fnPatternAtEmpty
set_option maxRecDepth 100000
open Go.WideMaps Go.WideElems
open Go.ChangeShapes Go.WideShapes Go.ChangeAt Go.RowKit
open Go.ChangeMaps (open_string shut_string)
set_option linter.unusedVariables false

theorem own : ownKnob Tryd.prog.godebug = none := by kernel_rfl
theorem laidOut : laidOutB Tryd.prog = true := by kernel_rfl


set_option maxRecDepth 100000 in
set_option maxHeartbeats 16000000 in
theorem walk (a0 : Option Addr) (len0 cap0 : Nat) (z0 : List Int) (w : World) (ht : Tab w) (w0 : IsRow .u8 w a0 len0 cap0 z0) :
    Calls Tryd.prog 3 #[.slice a0 len0 cap0] w fun e w' => e = .returned (.bool true) ∧ Below w.heap.size w w' := by
  have HT := Lib.hid ht
  clear ht
  by_cases hl : 1048576 < len0
  · go_enter Tryd.func3, Tryd.ntmps3
    go_wp2_with fail
    go_ret
    exact ⟨rfl, Below.refl _ _⟩
  · have hl' : decide ((1048576 : Int) < (len0 : Int)) = false := by rw [decide_eq_false_iff_not]; omega
    go_enter Tryd.func3, Tryd.ntmps3
    go_wp2_with fail
    refine (d_patAt w a0 len0 cap0 z0 w0).mono ?_
    rintro e y0 ⟨s, A, n, c, cs, p, rfl, hi, hn49, s0, s8, hp9, hb⟩
    have HT := Lib.hid (HT.out.step hb)
    have I0 := Lib.hid hi
    have HB := Lib.hid hb
    clear hi hb w0 hl'
    obtain ⟨v, hv⟩ : ∃ v, Pa.ans s cs p = v := ⟨_, rfl⟩
    have Hv := Lib.hid hv
    have hvb : (v != v) = false := by simp
    have hvv : (v == v) = true := by simp
    go_wp2_with fail
    obtain ⟨x1, hy3, hb2, z4, z5⟩ := new_box y0 (.cells #[.int .i64 s, .slice A n c] 25)
    have X3 : Hid (Bx 25 x1 y0.heap.size s (.slice A n c)) := Lib.hid (by rw [hy3]; exact Bx.new _ _ _ _)
    rw [← hy3]
    clear hy3
    have I0 := Lib.hid (I0.out.step hb2)
    have HT := Lib.hid (HT.out.step hb2)
    have HB := Lib.hid (bstep HB.out hb2)
    clear hb2
    have X3_0 := X3.out.cell0
    have X3_1 := X3.out.cell1
    have X3_l := X3.out.lt
    go_wp2_with fail
    refine (i_patW s p v _ A n c cs I0.out hn49 Hv).mono ?_
    rintro e x6 ⟨rfl, hb7⟩
    clear X3_0 X3_1 X3_l
    have X3 := Lib.hid (X3.out.step hb7)
    have I0 := Lib.hid (I0.out.step hb7)
    have HT := Lib.hid (HT.out.step hb7)
    have HB := Lib.hid (bstep HB.out hb7)
    clear hb7
    have X3_0 := X3.out.cell0
    have X3_1 := X3.out.cell1
    have X3_l := X3.out.lt
    by_cases hok : (Bd.okB s cs && Pt.okP s p) = true
    · obtain ⟨hB, hP⟩ := (by simpa using hok : Bd.okB s cs = true ∧ Pt.okP s p = true)
      obtain ⟨v1, v2, v3, v4⟩ := (Bd.okB_iff s cs).1 hB
      obtain ⟨_, _, p3, p4⟩ := (Pt.okP_iff s p).1 hP
      have hsq := Pt.sq_bd s v1 v2
      have hva : Pa.pat s cs p = v := by rw [← hv]; exact (Pa.ans_ok hB hP).symm
      obtain ⟨t0, t1⟩ := Pa.pat_bd (p := p) hB
      rw [hva] at t0 t1
      have hn0 : ¬ v < 0 := by omega
      obtain ⟨cs1, hc1⟩ : ∃ l, cs.set p.toNat 2 = l := ⟨_, rfl⟩
      have hset : setB s cs p 2 = true := setB_iff.2 ⟨hB, hP, by decide⟩
      have hans1 : Pa.ans s cs1 p = v := by rw [← hc1, Pa.ans_ok (setB_iff.1 (setB_set (y := 2) hset (by decide))).1 hP, Pa.pat_set v1 v2 p3, hva]
      obtain ⟨Z, hZ⟩ : ∃ Z, Pa.pat s (List.replicate (s * s).toNat 0) p = Z := ⟨_, rfl⟩
      have hz := Pa.zero_dia hP
      rw [hZ] at hz
      have hzb : Bd.okB s (List.replicate (s * s).toNat 0) = true := (Bd.okB_iff s _).2 ⟨v1, v2, by rw [List.length_replicate]; omega, by intro x hx; rw [List.mem_replicate] at hx; omega⟩
      have hansZ : Pa.ans s (List.replicate (s * s).toNat 0) p = Z := by rw [Pa.ans_ok hzb hP, hZ]
      obtain ⟨b8, hb8⟩ : ∃ b : Bool, (((Bt.diag s p).length : Int) == 4) = b := ⟨_, rfl⟩
      rw [hb8] at hz
      have hs : newS s = s := by rw [newS, if_pos ((Pt.okS_iff s).2 ⟨v1, v2⟩)]
      have hcz : newCs s = List.replicate (s * s).toNat 0 := by rw [newCs, if_pos ((Pt.okS_iff s).2 ⟨v1, v2⟩)]
      have HS := Lib.hid hs
      have HCz := Lib.hid hcz
      have Hb8 := Lib.hid hb8
      have Hset := Lib.hid hset
      have Hc1 := Lib.hid hc1
      have Hans1 := Lib.hid hans1
      have HansZ := Lib.hid hansZ
      have hbb : (b8 == b8) = true := by simp
      clear hok hv hva hB hP v3 v4 hc1 hset hans1 hZ hzb hansZ hb8 hs hcz
      go_wp2_with fail
      refine (s_patW s p v _ A n c cs I0.out hn49 Hv).mono ?_
      rintro e x59 ⟨rfl, hb60⟩
      clear X3_0 X3_1 X3_l
      have X3 := Lib.hid (X3.out.step hb60)
      have I0 := Lib.hid (I0.out.step hb60)
      have HT := Lib.hid (HT.out.step hb60)
      have HB := Lib.hid (bstep HB.out hb60)
      clear hb60
      have X3_0 := X3.out.cell0
      have X3_1 := X3.out.cell1
      have X3_l := X3.out.lt
      go_wp2_with fail
      refine (i_setW s p 2 _ _ _ _ cs cs1 I0.out hn49 Hset.out Hc1.out).mono ?_
      rintro e x62 ⟨A1, c1, rfl, ho64, hb63⟩
      clear X3_0 X3_1 X3_l
      have X3 := Lib.hid (X3.out.step hb63)
      have I0 := Lib.hid (I0.out.step hb63)
      have HT := Lib.hid (HT.out.step hb63)
      have HB := Lib.hid (bstep HB.out hb63)
      have I1 := Lib.hid ho64.ints
      have lenI1 := ho64.1
      clear lenI1
      clear hb63 ho64
      have X3_0 := X3.out.cell0
      have X3_1 := X3.out.cell1
      have X3_l := X3.out.lt
      go_wp2_with fail
      obtain ⟨x65, hy67, hb66, z68, z69⟩ := new_box x62 (.cells #[.int .i64 s, .slice A1 n c1] 25)
      have X4 : Hid (Bx 25 x65 x62.heap.size s (.slice A1 n c1)) := Lib.hid (by rw [hy67]; exact Bx.new _ _ _ _)
      rw [← hy67]
      clear hy67
      clear X3_0 X3_1 X3_l
      have X3 := Lib.hid (X3.out.step hb66)
      have I0 := Lib.hid (I0.out.step hb66)
      have HT := Lib.hid (HT.out.step hb66)
      have I1 := Lib.hid (I1.out.step hb66)
      have HB := Lib.hid (bstep HB.out hb66)
      clear hb66
      have X3_0 := X3.out.cell0
      have X3_1 := X3.out.cell1
      have X3_l := X3.out.lt
      have X4_0 := X4.out.cell0
      have X4_1 := X4.out.cell1
      have X4_l := X4.out.lt
      go_wp2_with fail
      refine (i_Diag s p _ HT.out).mono ?_
      rintro e x70 ⟨A5, n5, c5, rfl, ho72, hb71⟩
      clear X3_0 X3_1 X3_l X4_0 X4_1 X4_l
      have X3 := Lib.hid (X3.out.step hb71)
      have X4 := Lib.hid (X4.out.step hb71)
      have I0 := Lib.hid (I0.out.step hb71)
      have HT := Lib.hid (HT.out.step hb71)
      have I1 := Lib.hid (I1.out.step hb71)
      have HB := Lib.hid (bstep HB.out hb71)
      have I5 := Lib.hid ho72.ints
      have lenI5 := ho72.1
      have hb5 := Hb8.out
      rw [lenI5] at hb5
      clear lenI5
      clear hb71 ho72
      have X3_0 := X3.out.cell0
      have X3_1 := X3.out.cell1
      have X3_l := X3.out.lt
      have X4_0 := X4.out.cell0
      have X4_1 := X4.out.cell1
      have X4_l := X4.out.lt
      go_wp2_with fail
      refine (i_patW s p v _ A1 n c1 cs1 I1.out hn49 Hans1).mono ?_
      rintro e x73 ⟨rfl, hb74⟩
      clear X3_0 X3_1 X3_l X4_0 X4_1 X4_l
      have X3 := Lib.hid (X3.out.step hb74)
      have X4 := Lib.hid (X4.out.step hb74)
      have I0 := Lib.hid (I0.out.step hb74)
      have HT := Lib.hid (HT.out.step hb74)
      have I1 := Lib.hid (I1.out.step hb74)
      have I5 := Lib.hid (I5.out.step hb74)
      have HB := Lib.hid (bstep HB.out hb74)
      clear hb74
      have X3_0 := X3.out.cell0
      have X3_1 := X3.out.cell1
      have X3_l := X3.out.lt
      have X4_0 := X4.out.cell0
      have X4_1 := X4.out.cell1
      have X4_l := X4.out.lt
      go_wp2_with fail
      refine (i_new s _).mono ?_
      rintro e ym ⟨A6, n6, c6, rfl, ho, hb6⟩
      rw [HCz.out] at ho
      rw [HS.out]
      have hl6 : n6 ≤ 49 := by have := ho.1; rw [List.length_replicate] at this; omega
      have I6 := Lib.hid ho.ints
      clear X3_0 X3_1 X3_l X4_0 X4_1 X4_l
      have X3 := Lib.hid (X3.out.step hb6)
      have X4 := Lib.hid (X4.out.step hb6)
      have I0 := Lib.hid (I0.out.step hb6)
      have HT := Lib.hid (HT.out.step hb6)
      have I1 := Lib.hid (I1.out.step hb6)
      have I5 := Lib.hid (I5.out.step hb6)
      have HB := Lib.hid (bstep HB.out hb6)
      clear hb6 ho
      have X3_0 := X3.out.cell0
      have X3_1 := X3.out.cell1
      have X3_l := X3.out.lt
      have X4_0 := X4.out.cell0
      have X4_1 := X4.out.cell1
      have X4_l := X4.out.lt
      go_wp2_with fail
      refine (i_patW s p Z _ A6 n6 c6 _ I6.out hl6 HansZ).mono ?_
      rintro e x76 ⟨rfl, hb77⟩
      clear X3_0 X3_1 X3_l X4_0 X4_1 X4_l
      have X3 := Lib.hid (X3.out.step hb77)
      have X4 := Lib.hid (X4.out.step hb77)
      have I0 := Lib.hid (I0.out.step hb77)
      have HT := Lib.hid (HT.out.step hb77)
      have I1 := Lib.hid (I1.out.step hb77)
      have I5 := Lib.hid (I5.out.step hb77)
      have I6 := Lib.hid (I6.out.step hb77)
      have HB := Lib.hid (bstep HB.out hb77)
      clear hb77
      have X3_0 := X3.out.cell0
      have X3_1 := X3.out.cell1
      have X3_l := X3.out.lt
      have X4_0 := X4.out.cell0
      have X4_1 := X4.out.cell1
      have X4_l := X4.out.lt
      go_wp2_with fail
      go_ret
      exact ⟨rfl, HB.out⟩
    · have hm : v = -1 := by rw [← hv]; exact Pa.ans_no (by simpa using hok)
      have hn0 : v < 0 := by omega
      clear hok hv hm
      go_wp2_with fail
      refine (s_patW s p v _ A n c cs I0.out hn49 Hv).mono ?_
      rintro e x709 ⟨rfl, hb710⟩
      clear X3_0 X3_1 X3_l
      have X3 := Lib.hid (X3.out.step hb710)
      have I0 := Lib.hid (I0.out.step hb710)
      have HT := Lib.hid (HT.out.step hb710)
      have HB := Lib.hid (bstep HB.out hb710)
      clear hb710
      have X3_0 := X3.out.cell0
      have X3_1 := X3.out.cell1
      have X3_l := X3.out.lt
      go_wp2_with fail
      refine (s_patW s p v _ A n c cs I0.out hn49 Hv).mono ?_
      rintro e x712 ⟨rfl, hb713⟩
      clear X3_0 X3_1 X3_l
      have X3 := Lib.hid (X3.out.step hb713)
      have I0 := Lib.hid (I0.out.step hb713)
      have HT := Lib.hid (HT.out.step hb713)
      have HB := Lib.hid (bstep HB.out hb713)
      clear hb713
      have X3_0 := X3.out.cell0
      have X3_1 := X3.out.cell1
      have X3_l := X3.out.lt
      go_wp2_with fail
      go_ret
      exact ⟨rfl, HB.out⟩

abbrev listed : List (String × DataW Unit) := [("math/bits.deBruijn64tab", Rows.laid_math_bits_deBruijn64tab)]
theorem door_met (os : Os) (args : Array Value) : laidMetH Tryd.prog listed ((World.doorLaid Tryd.prog 400 os).forCall (fun _ _ => 0) ⟨#[], args, []⟩).memory :=
  laidMetH_of_parts3 (fuel := 8) (laidMet_of_run' 8 (by kernel_rfl) (by kernel_rfl)) (by kernel_rfl) (by kernel_rfl)
theorem tabOf {W : World} (h : laidMetH Tryd.prog listed W) : Tab W := by
  rw [MakeChecks.laidMetH_plain _ _ _ (by kernel_rfl)] at h
  exact Tab.of (Lib.tabIs_of_head (g := 0) (t := 63) (e := 5) (n := 64) (by kernel_rfl) (by kernel_rfl) (by kernel_rfl) (by kernel_rfl) (by kernel_rfl) (by kernel_rfl) h) (by kernel_rfl)

set_option maxRecDepth 100000 in
theorem lifted (os : Os) (started : os.Started) (H : Type) (enc : TypeId × Value → H) :
    ReturnsInHanded {} Tryd.checked os 3 .any (fun w args => (Rows.fnPatternAtEmptySpec.pre enc Tryd.prog Tryd.f3 [] false w args ∧ laidMetH Tryd.prog listed w) ∧ sizedMet enc Tryd.prog Tryd.f3 (OpenSpec.ofChange Rows.fnPatternAtEmptySpec) false w args) (Rows.fnPatternAtEmptySpec.post enc Tryd.prog Tryd.f3 false true false false) := by
  refine returnsInHanded_of_change_and (C := Tryd.checked) (X := fun w _ => laidMetH Tryd.prog listed w) (fun _ _ _ hh h => h.of_heap hh) own started (by kernel_rfl) Tryd.func3
    (ChangeSpec.witness_shaped (enc := enc) (C := Tryd.checked) (os := os) (X := fun w _ => laidMetH Tryd.prog listed w) false (World.doorLaid Tryd.prog 400 os) #[.slice none 0 0] 8 rfl (World.shaped_of_RefB (by kernel_rfl) (by kernel_rfl)) (by kernel_rfl) (by kernel_rfl) (by kernel_rfl) (door_met os _)) ?_
  intro W base args ds gs before hval0 hW _ _ hL _
  have hval : ∀ (j : Nat) t v, Tryd.f3.params[j]? = some t → args[j]? = some v → Value.okWide Tryd.prog W .any base t v := hval0
  have hW' := hW
  obtain ⟨p, q, hA0, hV, rfl, hfz, hnd⟩ := hW
  have hA : DataW.TrodAll enc Tryd.prog W 0 (fun _ => true) true Tryd.f3.params.toList args.toList ds p := hA0
  rw [Tryd.params3] at hA hval
  obtain ⟨v0, vs0, d0, ds0, p0, q0, hargs, rfl, rfl, h0, r0⟩ := trodAll_cons hA
  obtain ⟨rfl, rfl, rfl⟩ := trodAll_nil r0
  obtain rfl : args = #[v0] := by cases args; simp_all
  obtain ⟨rfl, rfl⟩ := trodVars_none hV
  obtain ⟨a0, len0, cap0, rfl⟩ := okWide_slice Tryd.underlying22 (hval 0 22 v0 rfl rfl)
  have k0 := h0
  have lt0 : ∀ x ∈ p0, x.block < W.heap.size := by obtain ⟨m, hm⟩ := k0; exact DataW.trod_lt m _ _ _ hm
  obtain ⟨z0, w0⟩ : ∃ zs, IsRow .u8 W a0 len0 cap0 zs := by
    obtain ⟨fuel, hf⟩ := h0
    rcases open_ints Tryd.underlying22 Tryd.underlying5 (by kernel_rfl) hf with ⟨hcs, _⟩ | ⟨x, l, c, zs, hcs, _, hl, hm, hz, _, hcell, hwz⟩
    · simp [Value.cells] at hcs
      obtain ⟨rfl, rfl, rfl⟩ := hcs
      exact ⟨[], .inl ⟨rfl, rfl, rfl, rfl⟩⟩
    · simp [Value.cells] at hcs
      obtain ⟨rfl, rfl, rfl⟩ := hcs
      exact ⟨zs, .inr ⟨_, rfl, hl, hm, by simpa using hz, hcell, hwz⟩⟩
  clear hA0 hval0
  refine (walk a0 len0 cap0 z0 W (tabOf hL) w0).mono fun e W' ⟨he, bel⟩ => ?_
  subst he
  exact ⟨_, rfl, _, _, _, [], _, [], hW', trodAll_mk1 (shut_bool Tryd.underlying4 _), (trodAll_cons_mk (Below.trod laidOut (by kernel_rfl) (of_decide_eq_true (by kernel_rfl)) k0 bel lt0) trodAll_mk0), rfl, bel.frame _, fun h => by cases h⟩

theorem over : Rows.fnPatternAtEmptyRow.holds Tryd.pinned (OpenSpec.ofChange Rows.fnPatternAtEmptySpec) :=
  OpenClaim.holds_of_wide 3 Tryd.f3 rfl rfl rfl rfl rfl rfl rfl ⟨rfl, rfl, rfl, rfl, rfl⟩ rfl rfl rfl rfl rfl (by kernel_rfl) Tryd.func3 (by kernel_rfl)
    (of_decide_eq_true (by kernel_rfl)) (by unfold Func.isWrapper; first | (rw [if_pos (by decide +kernel)]; kernel_rfl) | (rw [if_neg (by decide +kernel)]; exact ⟨rfl, rfl⟩))
    (fun os started H enc _ => lifted os started H enc)

theorem proved : Rows.FnPatternAtEmptyCardSaid :=
  Claim7.holds_tied_plain_at .later [] [.data] true Rows.fnPatternAtEmptyCard.stood.harness false
    over (fun _ h => by cases h) (by kernel_rfl) (fun _ h => by cases h) fnPatternAtEmpty_row_tie rfl ⟨rfl, rfl⟩ (by kernel_rfl) rfl
    (fun f fn hf hfn => by
      obtain rfl : f = 3 := Option.some.inj ((show Tryd.prog.funcNamed "loop.example/goboard/laws.FnPatternAtEmpty" = some 3 by kernel_rfl).symm.trans hf) |>.symm
      obtain rfl : fn = Tryd.f3 := (Option.some.inj (Tryd.func3.symm.trans hfn)).symm
      exact ⟨by kernel_rfl, fun j t ht => by
        have hm : t ∈ Tryd.f3.params.toList := by simpa using Array.mem_of_getElem? ht
        have hall : (Tryd.f3.params.toList.all fun u => !Tryd.prog.wantsStandIn u) = true := by kernel_rfl
        exact (show Tryd.prog.wantsStandIn t = false by simpa using List.all_eq_true.1 hall t hm)⟩)
    (by kernel_rfl)
end Go.Proofs.YtpopbcmfbcmojaaDoor.fnPatternAtEmpty
