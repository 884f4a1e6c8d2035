/-
  Quotients are in lowest terms: the law of MakeDyadic holds for every code. No condition.
-/
import Derived.Test.YtocjlhlohlkkmaaRows
import Derived.Test.YtocjlhlohlkkmaaDyL
import Derived.Test.YtocjlhlohlkkmaaDyF
import Derived.Test.YtocjlhlohlkkmaaDyB
import Derived.Deep.RegionHeld3
import Derived.Deep.DeepCutAuto
import Derived.BigQuiet
import Derived.WalkKit
import Derived.ProofKit
import Derived.OpenShut
import Derived.ShutString
import Derived.ChangeOld
import Derived.Below
namespace Go.Proofs.Ytocjlhlohlkkmaa.fnMakeDyadic
set_option maxRecDepth 100000
open Go.ChangeShapes Go.WideShapes Go.ChangeAt Go.RowKit
open Go.ChangeMaps (open_string shut_string)
set_option linter.unusedVariables false

theorem own : ownKnob Try.prog.godebug = none := by kernel_rfl
theorem laidOut : laidOutB Try.prog = true := by kernel_rfl


set_option maxRecDepth 100000 in
set_option maxHeartbeats 16000000 in
theorem walk (a0 : Option Addr) (len0 cap0 : Nat) (z0 : List Int) (w : World) (w0 : IsRow .u8 w a0 len0 cap0 z0) :
    Calls Try.prog 3 #[.slice a0 len0 cap0] w fun e w' => e = .returned (.bool true) ∧ Below w.heap.size w w' := by
  by_cases hl : 1048576 < len0
  · go_enter Try.func3, Try.ntmps3
    go_wp2_with fail
    go_ret
    exact ⟨rfl, Below.refl _ _⟩
  · have hl' : decide ((1048576 : Int) < (len0 : Int)) = false := by rw [decide_eq_false_iff_not]; omega
    go_enter Try.func3, Try.ntmps3
    go_wp2_with fail
    refine (d_mk w a0 len0 cap0 z0 w0).mono ?_
    rintro e0 y0 ⟨n, e, rfl, hb⟩
    have HB := Lib.hid hb
    clear hb w0 hl'
    obtain ⟨⟨⟨p, q⟩, b⟩, hp⟩ : ∃ x, Dy.mk n e = x := ⟨_, rfl⟩
    have Hp := Lib.hid hp
    have hbb : (b != b) = false := by simp
    clear hp
    go_wp2_with fail
    refine (i_makeW n e p q b _ Hp).mono ?_
    rintro e x1 ⟨rfl, hb2⟩
    have HB := Lib.hid (bstep HB.out hb2)
    clear hb2
    go_wp2_with fail
    obtain ⟨x4, hy6, hb5, z7, z8⟩ := new_box x1 (.cells #[.int .i64 p, .int .i64 q] 26)
    have X5 : Hid (Bx 26 x4 x1.heap.size p (.int .i64 q)) := Lib.hid (by rw [hy6]; exact Bx.new _ _ _ _)
    rw [← hy6]
    clear hy6
    have HB := Lib.hid (bstep HB.out hb5)
    clear hb5
    have X5_0 := X5.out.cell0
    have X5_1 := X5.out.cell1
    have X5_l := X5.out.lt
    go_wp2_with fail
    refine (s_makeW n e p q b _ Hp).mono ?_
    rintro e x9 ⟨rfl, hb10⟩
    clear X5_0 X5_1 X5_l
    have X5 := Lib.hid (X5.out.step hb10)
    have HB := Lib.hid (bstep HB.out hb10)
    clear hb10
    have X5_0 := X5.out.cell0
    have X5_1 := X5.out.cell1
    have X5_l := X5.out.lt
    cases b with
    | false =>
      clear hbb
      go_wp2_with fail
      obtain ⟨x112, hy114, hb113, z115, z116⟩ := new_box x9 (.cells #[.int .i64 p, .int .i64 q] 26)
      have X7 : Hid (Bx 26 x112 x9.heap.size p (.int .i64 q)) := Lib.hid (by rw [hy114]; exact Bx.new _ _ _ _)
      rw [← hy114]
      clear hy114
      clear X5_0 X5_1 X5_l
      have X5 := Lib.hid (X5.out.step hb113)
      have HB := Lib.hid (bstep HB.out hb113)
      clear hb113
      have X5_0 := X5.out.cell0
      have X5_1 := X5.out.cell1
      have X5_l := X5.out.lt
      have X7_0 := X7.out.cell0
      have X7_1 := X7.out.cell1
      have X7_l := X7.out.lt
      go_wp2_with fail
      go_ret
      exact ⟨rfl, HB.out⟩
    | true =>
      clear hbb
      obtain ⟨⟨e1, e2, q1, q2, p1, p2, n1, n2⟩, hodd, hx⟩ := Dy.mk_cross Hp.out
      have hz7 : True := trivial
      have bb1 := Dy.mul_bd p1 p2 e1 e2
      obtain ⟨M, hM⟩ : ∃ M, n * 2 ^ q.toNat = M := ⟨_, rfl⟩
      rw [hx, hM] at bb1
      rw [hM] at hx
      obtain ⟨bb11, bb12⟩ := bb1
      by_cases hg : e < 8 ∧ n * 2 ≤ 9999 ∧ -9999 ≤ n * 2
      · obtain ⟨g1, g2, g3⟩ := hg
        go_wp2_with fail
        obtain ⟨x512, hy514, hb513, z515, z516⟩ := new_box x9 (.cells #[.int .i64 p, .int .i64 q] 26)
        have X7 : Hid (Bx 26 x512 x9.heap.size p (.int .i64 q)) := Lib.hid (by rw [hy514]; exact Bx.new _ _ _ _)
        rw [← hy514]
        clear hy514
        clear X5_0 X5_1 X5_l
        have X5 := Lib.hid (X5.out.step hb513)
        have HB := Lib.hid (bstep HB.out hb513)
        clear hb513
        have X5_0 := X5.out.cell0
        have X5_1 := X5.out.cell1
        have X5_l := X5.out.lt
        have X7_0 := X7.out.cell0
        have X7_1 := X7.out.cell1
        have X7_l := X7.out.lt
        have Hp2 := Lib.hid (Dy.mk_twice Hp.out g1 g2 g3)
        go_wp2_with fail
        refine (i_makeW (2 * n) (e + 1) p q true _ Hp2).mono ?_
        rintro e x517 ⟨rfl, hb518⟩
        clear X5_0 X5_1 X5_l X7_0 X7_1 X7_l
        have X5 := Lib.hid (X5.out.step hb518)
        have X7 := Lib.hid (X7.out.step hb518)
        have HB := Lib.hid (bstep HB.out hb518)
        clear hb518
        have X5_0 := X5.out.cell0
        have X5_1 := X5.out.cell1
        have X5_l := X5.out.lt
        have X7_0 := X7.out.cell0
        have X7_1 := X7.out.cell1
        have X7_l := X7.out.lt
        go_wp2_with fail
        obtain ⟨x520, hy522, hb521, z523, z524⟩ := new_box x517 (.cells #[.int .i64 p, .int .i64 q] 26)
        have X9 : Hid (Bx 26 x520 x517.heap.size p (.int .i64 q)) := Lib.hid (by rw [hy522]; exact Bx.new _ _ _ _)
        rw [← hy522]
        clear hy522
        clear X5_0 X5_1 X5_l X7_0 X7_1 X7_l
        have X5 := Lib.hid (X5.out.step hb521)
        have X7 := Lib.hid (X7.out.step hb521)
        have HB := Lib.hid (bstep HB.out hb521)
        clear hb521
        have X5_0 := X5.out.cell0
        have X5_1 := X5.out.cell1
        have X5_l := X5.out.lt
        have X7_0 := X7.out.cell0
        have X7_1 := X7.out.cell1
        have X7_l := X7.out.lt
        have X9_0 := X9.out.cell0
        have X9_1 := X9.out.cell1
        have X9_l := X9.out.lt
        by_cases h0 : q = 0
        · have hq0 : (q == 0) = true := by simpa using h0
          clear h0 hodd
          go_wp2_with fail
          go_quiet (fail)
          go_wp2_with fail
          go_ret
          exact ⟨rfl, (fun h => ⟨h.os, h.tape, h.output, h.size, h.block⟩) HB.out⟩
        · have hq0 : (q == 0) = false := by simpa using h0
          have hmt : ¬ p.tmod 2 = 0 := fun h => by
            have := Int.emod_eq_zero_of_dvd (Int.dvd_of_tmod_eq_zero h)
            omega
          have hmb : (p.tmod 2 != 0) = true := by simpa using hmt
          clear h0 hodd
          go_wp2_with fail
          go_quiet (fail)
          go_wp2_with fail
          go_ret
          exact ⟨rfl, (fun h => ⟨h.os, h.tape, h.output, h.size, h.block⟩) HB.out⟩
      · by_cases g1 : e < 8
        · by_cases g2 : n * 2 ≤ 9999
          · have g3 : ¬ -9999 ≤ n * 2 := fun h => hg ⟨g1, g2, h⟩
            clear hg
            go_wp2_with fail
            obtain ⟨x712, hy714, hb713, z715, z716⟩ := new_box x9 (.cells #[.int .i64 p, .int .i64 q] 26)
            have X7 : Hid (Bx 26 x712 x9.heap.size p (.int .i64 q)) := Lib.hid (by rw [hy714]; exact Bx.new _ _ _ _)
            rw [← hy714]
            clear hy714
            clear X5_0 X5_1 X5_l
            have X5 := Lib.hid (X5.out.step hb713)
            have HB := Lib.hid (bstep HB.out hb713)
            clear hb713
            have X5_0 := X5.out.cell0
            have X5_1 := X5.out.cell1
            have X5_l := X5.out.lt
            have X7_0 := X7.out.cell0
            have X7_1 := X7.out.cell1
            have X7_l := X7.out.lt
            by_cases h0 : q = 0
            · have hq0 : (q == 0) = true := by simpa using h0
              clear h0 hodd
              go_wp2_with fail
              go_quiet (fail)
              go_wp2_with fail
              go_ret
              exact ⟨rfl, (fun h => ⟨h.os, h.tape, h.output, h.size, h.block⟩) HB.out⟩
            · have hq0 : (q == 0) = false := by simpa using h0
              have hmt : ¬ p.tmod 2 = 0 := fun h => by
                have := Int.emod_eq_zero_of_dvd (Int.dvd_of_tmod_eq_zero h)
                omega
              have hmb : (p.tmod 2 != 0) = true := by simpa using hmt
              clear h0 hodd
              go_wp2_with fail
              go_quiet (fail)
              go_wp2_with fail
              go_ret
              exact ⟨rfl, (fun h => ⟨h.os, h.tape, h.output, h.size, h.block⟩) HB.out⟩
          · clear hg
            go_wp2_with fail
            obtain ⟨x812, hy814, hb813, z815, z816⟩ := new_box x9 (.cells #[.int .i64 p, .int .i64 q] 26)
            have X7 : Hid (Bx 26 x812 x9.heap.size p (.int .i64 q)) := Lib.hid (by rw [hy814]; exact Bx.new _ _ _ _)
            rw [← hy814]
            clear hy814
            clear X5_0 X5_1 X5_l
            have X5 := Lib.hid (X5.out.step hb813)
            have HB := Lib.hid (bstep HB.out hb813)
            clear hb813
            have X5_0 := X5.out.cell0
            have X5_1 := X5.out.cell1
            have X5_l := X5.out.lt
            have X7_0 := X7.out.cell0
            have X7_1 := X7.out.cell1
            have X7_l := X7.out.lt
            by_cases h0 : q = 0
            · have hq0 : (q == 0) = true := by simpa using h0
              clear h0 hodd
              go_wp2_with fail
              go_quiet (fail)
              go_wp2_with fail
              go_ret
              exact ⟨rfl, (fun h => ⟨h.os, h.tape, h.output, h.size, h.block⟩) HB.out⟩
            · have hq0 : (q == 0) = false := by simpa using h0
              have hmt : ¬ p.tmod 2 = 0 := fun h => by
                have := Int.emod_eq_zero_of_dvd (Int.dvd_of_tmod_eq_zero h)
                omega
              have hmb : (p.tmod 2 != 0) = true := by simpa using hmt
              clear h0 hodd
              go_wp2_with fail
              go_quiet (fail)
              go_wp2_with fail
              go_ret
              exact ⟨rfl, (fun h => ⟨h.os, h.tape, h.output, h.size, h.block⟩) HB.out⟩
        · clear hg
          go_wp2_with fail
          obtain ⟨x912, hy914, hb913, z915, z916⟩ := new_box x9 (.cells #[.int .i64 p, .int .i64 q] 26)
          have X7 : Hid (Bx 26 x912 x9.heap.size p (.int .i64 q)) := Lib.hid (by rw [hy914]; exact Bx.new _ _ _ _)
          rw [← hy914]
          clear hy914
          clear X5_0 X5_1 X5_l
          have X5 := Lib.hid (X5.out.step hb913)
          have HB := Lib.hid (bstep HB.out hb913)
          clear hb913
          have X5_0 := X5.out.cell0
          have X5_1 := X5.out.cell1
          have X5_l := X5.out.lt
          have X7_0 := X7.out.cell0
          have X7_1 := X7.out.cell1
          have X7_l := X7.out.lt
          by_cases h0 : q = 0
          · have hq0 : (q == 0) = true := by simpa using h0
            clear h0 hodd
            go_wp2_with fail
            go_quiet (fail)
            go_wp2_with fail
            go_ret
            exact ⟨rfl, (fun h => ⟨h.os, h.tape, h.output, h.size, h.block⟩) HB.out⟩
          · have hq0 : (q == 0) = false := by simpa using h0
            have hmt : ¬ p.tmod 2 = 0 := fun h => by
              have := Int.emod_eq_zero_of_dvd (Int.dvd_of_tmod_eq_zero h)
              omega
            have hmb : (p.tmod 2 != 0) = true := by simpa using hmt
            clear h0 hodd
            go_wp2_with fail
            go_quiet (fail)
            go_wp2_with fail
            go_ret
            exact ⟨rfl, (fun h => ⟨h.os, h.tape, h.output, h.size, h.block⟩) HB.out⟩


set_option maxRecDepth 100000 in
theorem lifted (os : Os) (started : os.Started) (H : Type) (enc : TypeId × Value → H) :
    ReturnsInHanded {} Try.checked os 3 .any (Rows.fnMakeDyadicSpec.pre6 enc Try.prog Try.f3 Rows.fnMakeDyadicRow.domain false) (Rows.fnMakeDyadicSpec.post enc Try.prog Try.f3 false true false false) := by
  refine returnsInHanded_of_change (C := Try.checked) own started (by kernel_rfl) Try.func3
    (ChangeSpec.witness6 (enc := enc) (C := Try.checked) false ⟨#[], #[.slice none 0 0], []⟩ 8 (by kernel_rfl) (by kernel_rfl) (by kernel_rfl) (by kernel_rfl)) ?_
  intro W base args ds gs before hval0 hW hcnd _
  have hval : ∀ (j : Nat) t v, Try.f3.params[j]? = some t → args[j]? = some v → Value.okWide Try.prog W .any base t v := hval0
  have hW' := hW
  obtain ⟨p, q, hA0, hV, rfl, hfz, hnd⟩ := hW
  have hA : DataW.TrodAll enc Try.prog W 0 (fun _ => true) true Try.f3.params.toList args.toList ds p := hA0
  rw [Try.params3] at hA hval
  obtain ⟨v0, vs0, d0, ds0, p0, q0, hargs, rfl, rfl, h0, r0⟩ := trodAll_cons hA
  obtain ⟨rfl, rfl, rfl⟩ := trodAll_nil r0
  obtain rfl : args = #[v0] := by cases args; simp_all
  obtain ⟨rfl, rfl⟩ := trodVars_none hV
  obtain ⟨a0, len0, cap0, rfl⟩ := okWide_slice Try.underlying22 (hval 0 22 v0 rfl rfl)
  have k0 := h0
  have lt0 : ∀ x ∈ p0, x.block < W.heap.size := by obtain ⟨m, hm⟩ := k0; exact DataW.trod_lt m _ _ _ hm
  obtain ⟨z0, w0⟩ : ∃ zs, IsRow .u8 W a0 len0 cap0 zs := by
    obtain ⟨fuel, hf⟩ := h0
    rcases open_ints Try.underlying22 Try.underlying5 (by kernel_rfl) hf with ⟨hcs, _⟩ | ⟨x, l, c, zs, hcs, _, hl, hm, hz, _, hcell, hwz⟩
    · simp [Value.cells] at hcs
      obtain ⟨rfl, rfl, rfl⟩ := hcs
      exact ⟨[], .inl ⟨rfl, rfl, rfl, rfl⟩⟩
    · simp [Value.cells] at hcs
      obtain ⟨rfl, rfl, rfl⟩ := hcs
      exact ⟨zs, .inr ⟨_, rfl, hl, hm, by simpa using hz, hcell, hwz⟩⟩
  clear hA0 hval0
  refine (walk a0 len0 cap0 z0 W w0).mono fun e W' ⟨he, bel⟩ => ?_
  subst he
  exact ⟨_, rfl, _, _, _, [], _, [], hW', trodAll_mk1 (shut_bool Try.underlying4 _), (trodAll_cons_mk (Below.trod laidOut (by kernel_rfl) (of_decide_eq_true (by kernel_rfl)) k0 bel lt0) trodAll_mk0), rfl, bel.frame _, fun h => by cases h⟩

theorem over : Rows.fnMakeDyadicRow.holds Try.pinned (OpenSpec.ofChange Rows.fnMakeDyadicSpec) :=
  OpenClaim.holds_of_wide 3 Try.f3 rfl rfl rfl rfl rfl rfl rfl ⟨rfl, rfl, rfl, rfl, rfl⟩ rfl rfl rfl rfl rfl (by kernel_rfl) Try.func3 (by kernel_rfl)
    (of_decide_eq_true (by kernel_rfl)) (by unfold Func.isWrapper; first | (rw [if_pos (by decide +kernel)]; kernel_rfl) | (rw [if_neg (by decide +kernel)]; exact ⟨rfl, rfl⟩))
    (fun os started H enc _ => lifted os started H enc)

theorem proved : Rows.FnMakeDyadicSaid := over
end Go.Proofs.Ytocjlhlohlkkmaa.fnMakeDyadic
