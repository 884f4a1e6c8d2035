/-
  Adding keeps the order: the law holds for every code. No condition.
-/
import Derived.Test.YtocjlhlohlkkmaaRows
import Derived.Test.YtocjlhlohlkkmaaDyL
import Derived.Test.YtocjlhlohlkkmaaDyF
import Derived.Test.YtocjlhlohlkkmaaDyB
import Derived.Deep.RegionHeld3
import Derived.Deep.DeepCutAuto
import Derived.BigQuiet
import Derived.WalkKit
import Derived.ProofKit
import Derived.OpenShut
import Derived.ShutString
import Derived.ChangeOld
import Derived.Below
namespace Go.Proofs.Ytocjlhlohlkkmaa.fnCompareDyadicAdd
set_option maxRecDepth 100000
open Go.ChangeShapes Go.WideShapes Go.ChangeAt Go.RowKit
open Go.ChangeMaps (open_string shut_string)
set_option linter.unusedVariables false

theorem own : ownKnob Try.prog.godebug = none := by kernel_rfl
theorem laidOut : laidOutB Try.prog = true := by kernel_rfl


set_option maxRecDepth 100000 in
set_option maxHeartbeats 16000000 in
theorem walk (a0 : Option Addr) (len0 cap0 : Nat) (z0 : List Int) (w : World) (w0 : IsRow .u8 w a0 len0 cap0 z0) :
    Calls Try.prog 8 #[.slice a0 len0 cap0] w fun e w' => e = .returned (.bool true) ∧ Below w.heap.size w w' := by
  by_cases hl : 1048576 < len0
  · go_enter Try.func8, Try.ntmps8
    go_wp2_with fail
    go_ret
    exact ⟨rfl, Below.refl _ _⟩
  · have hl' : decide ((1048576 : Int) < (len0 : Int)) = false := by rw [decide_eq_false_iff_not]; omega
    go_enter Try.func8, Try.ntmps8
    go_wp2_with fail
    refine (d_cm w a0 len0 cap0 z0 w0).mono ?_
    rintro e0 y0 ⟨x, y, u, v, rfl, hb⟩
    have HB := Lib.hid hb
    clear hb w0 hl'
    obtain ⟨c, hc⟩ : ∃ c, Dy.cmp x y u v = c := ⟨_, rfl⟩
    have Hc := Lib.hid hc
    go_wp2_with fail
    obtain ⟨x1, hy3, hb2, z4, z5⟩ := new_box y0 (.cells #[.int .i64 x, .int .i64 y] 26)
    have X3 : Hid (Bx 26 x1 y0.heap.size x (.int .i64 y)) := Lib.hid (by rw [hy3]; exact Bx.new _ _ _ _)
    rw [← hy3]
    clear hy3
    have HB := Lib.hid (bstep HB.out hb2)
    clear hb2
    have X3_0 := X3.out.cell0
    have X3_1 := X3.out.cell1
    have X3_l := X3.out.lt
    obtain ⟨x6, hy8, hb7, z9, z10⟩ := new_box x1 (.cells #[.int .i64 u, .int .i64 v] 26)
    have X4 : Hid (Bx 26 x6 x1.heap.size u (.int .i64 v)) := Lib.hid (by rw [hy8]; exact Bx.new _ _ _ _)
    rw [← hy8]
    clear hy8
    clear X3_0 X3_1 X3_l
    have X3 := Lib.hid (X3.out.step hb7)
    have HB := Lib.hid (bstep HB.out hb7)
    clear hb7
    have X3_0 := X3.out.cell0
    have X3_1 := X3.out.cell1
    have X3_l := X3.out.lt
    have X4_0 := X4.out.cell0
    have X4_1 := X4.out.cell1
    have X4_l := X4.out.lt
    clear X4_0 X4_1 X4_l
    have X4 : Hid (Bx 26 x6 (y0.heap.size + 1) u (.int .i64 v)) := Lib.hid (by have h := X4.out; rw [show x1.heap.size = y0.heap.size + 1 by omega] at h; exact h)
    have X4_0 := X4.out.cell0
    have X4_1 := X4.out.cell1
    have X4_l := X4.out.lt
    go_wp2_with fail
    refine (i_cmpW x y u v c _ Hc).mono ?_
    rintro e x11 ⟨rfl, hb12⟩
    clear X3_0 X3_1 X3_l X4_0 X4_1 X4_l
    have X3 := Lib.hid (X3.out.step hb12)
    have X4 := Lib.hid (X4.out.step hb12)
    have HB := Lib.hid (bstep HB.out hb12)
    clear hb12
    have X3_0 := X3.out.cell0
    have X3_1 := X3.out.cell1
    have X3_l := X3.out.lt
    have X4_0 := X4.out.cell0
    have X4_1 := X4.out.cell1
    have X4_l := X4.out.lt
    go_wp2_with fail
    refine (s_cmpW x y u v c _ Hc).mono ?_
    rintro e x14 ⟨rfl, hb15⟩
    clear X3_0 X3_1 X3_l X4_0 X4_1 X4_l
    have X3 := Lib.hid (X3.out.step hb15)
    have X4 := Lib.hid (X4.out.step hb15)
    have HB := Lib.hid (bstep HB.out hb15)
    clear hb15
    have X3_0 := X3.out.cell0
    have X3_1 := X3.out.cell1
    have X3_l := X3.out.lt
    have X4_0 := X4.out.cell0
    have X4_1 := X4.out.cell1
    have X4_l := X4.out.lt
    by_cases h2 : c = 2
    · have hcb : (c == 2) = true := by simpa using h2
      clear h2 hc
      go_wp2_with fail
      refine (s_cmpW x y u v c _ Hc).mono ?_
      rintro e x117 ⟨rfl, hb118⟩
      clear X3_0 X3_1 X3_l X4_0 X4_1 X4_l
      have X3 := Lib.hid (X3.out.step hb118)
      have X4 := Lib.hid (X4.out.step hb118)
      have HB := Lib.hid (bstep HB.out hb118)
      clear hb118
      have X3_0 := X3.out.cell0
      have X3_1 := X3.out.cell1
      have X3_l := X3.out.lt
      have X4_0 := X4.out.cell0
      have X4_1 := X4.out.cell1
      have X4_l := X4.out.lt
      go_wp2_with fail
      go_ret
      exact ⟨rfl, HB.out⟩
    · have hcb : (c == 2) = false := by simpa using h2
      obtain ⟨o1, o2, _⟩ := Dy.cmp_cases hc h2
      clear h2 hc
      obtain ⟨⟨⟨p, q⟩, b⟩, hp⟩ : ∃ r, Dy.ad x y 1 0 = r := ⟨_, rfl⟩
      have Hp := Lib.hid hp
      obtain ⟨⟨⟨r, s⟩, d⟩, hd⟩ : ∃ z, Dy.ad u v 1 0 = z := ⟨_, rfl⟩
      have Hd := Lib.hid hd
      have hz : b = true → d = true → Dy.cmp p q r s = c := fun h1 h2 => by
        subst h1 h2
        obtain ⟨a1, a2⟩ := Dy.ad_true hp
        obtain ⟨d1, d2⟩ := Dy.ad_true hd
        have := Dy.cmp_add o1 o2 a1 d1
        rw [a2, d2] at this
        exact this.trans Hc.out
      have Hz := Lib.hid hz
      clear hz hp hd o1 o2
      go_wp2_with fail
      refine (i_addW x y 1 0 p q b _ Hp).mono ?_
      rintro e x217 ⟨rfl, hb218⟩
      clear X3_0 X3_1 X3_l X4_0 X4_1 X4_l
      have X3 := Lib.hid (X3.out.step hb218)
      have X4 := Lib.hid (X4.out.step hb218)
      have HB := Lib.hid (bstep HB.out hb218)
      clear hb218
      have X3_0 := X3.out.cell0
      have X3_1 := X3.out.cell1
      have X3_l := X3.out.lt
      have X4_0 := X4.out.cell0
      have X4_1 := X4.out.cell1
      have X4_l := X4.out.lt
      go_wp2_with fail
      obtain ⟨x220, hy222, hb221, z223, z224⟩ := new_box x217 (.cells #[.int .i64 p, .int .i64 q] 26)
      have X6 : Hid (Bx 26 x220 x217.heap.size p (.int .i64 q)) := Lib.hid (by rw [hy222]; exact Bx.new _ _ _ _)
      rw [← hy222]
      clear hy222
      clear X3_0 X3_1 X3_l X4_0 X4_1 X4_l
      have X3 := Lib.hid (X3.out.step hb221)
      have X4 := Lib.hid (X4.out.step hb221)
      have HB := Lib.hid (bstep HB.out hb221)
      clear hb221
      have X3_0 := X3.out.cell0
      have X3_1 := X3.out.cell1
      have X3_l := X3.out.lt
      have X4_0 := X4.out.cell0
      have X4_1 := X4.out.cell1
      have X4_l := X4.out.lt
      have X6_0 := X6.out.cell0
      have X6_1 := X6.out.cell1
      have X6_l := X6.out.lt
      go_wp2_with fail
      refine (i_addW u v 1 0 r s d _ Hd).mono ?_
      rintro e x225 ⟨rfl, hb226⟩
      clear X3_0 X3_1 X3_l X4_0 X4_1 X4_l X6_0 X6_1 X6_l
      have X3 := Lib.hid (X3.out.step hb226)
      have X4 := Lib.hid (X4.out.step hb226)
      have X6 := Lib.hid (X6.out.step hb226)
      have HB := Lib.hid (bstep HB.out hb226)
      clear hb226
      have X3_0 := X3.out.cell0
      have X3_1 := X3.out.cell1
      have X3_l := X3.out.lt
      have X4_0 := X4.out.cell0
      have X4_1 := X4.out.cell1
      have X4_l := X4.out.lt
      have X6_0 := X6.out.cell0
      have X6_1 := X6.out.cell1
      have X6_l := X6.out.lt
      cases b with
      | false =>
        clear Hz
        go_wp2_with fail
        obtain ⟨x328, hy330, hb329, z331, z332⟩ := new_box x225 (.cells #[.int .i64 r, .int .i64 s] 26)
        have X8 : Hid (Bx 26 x328 x225.heap.size r (.int .i64 s)) := Lib.hid (by rw [hy330]; exact Bx.new _ _ _ _)
        rw [← hy330]
        clear hy330
        clear X3_0 X3_1 X3_l X4_0 X4_1 X4_l X6_0 X6_1 X6_l
        have X3 := Lib.hid (X3.out.step hb329)
        have X4 := Lib.hid (X4.out.step hb329)
        have X6 := Lib.hid (X6.out.step hb329)
        have HB := Lib.hid (bstep HB.out hb329)
        clear hb329
        have X3_0 := X3.out.cell0
        have X3_1 := X3.out.cell1
        have X3_l := X3.out.lt
        have X4_0 := X4.out.cell0
        have X4_1 := X4.out.cell1
        have X4_l := X4.out.lt
        have X6_0 := X6.out.cell0
        have X6_1 := X6.out.cell1
        have X6_l := X6.out.lt
        have X8_0 := X8.out.cell0
        have X8_1 := X8.out.cell1
        have X8_l := X8.out.lt
        go_wp2_with fail
        go_ret
        exact ⟨rfl, HB.out⟩
      | true =>
        cases d with
        | false =>
          clear Hz
          go_wp2_with fail
          obtain ⟨x428, hy430, hb429, z431, z432⟩ := new_box x225 (.cells #[.int .i64 r, .int .i64 s] 26)
          have X8 : Hid (Bx 26 x428 x225.heap.size r (.int .i64 s)) := Lib.hid (by rw [hy430]; exact Bx.new _ _ _ _)
          rw [← hy430]
          clear hy430
          clear X3_0 X3_1 X3_l X4_0 X4_1 X4_l X6_0 X6_1 X6_l
          have X3 := Lib.hid (X3.out.step hb429)
          have X4 := Lib.hid (X4.out.step hb429)
          have X6 := Lib.hid (X6.out.step hb429)
          have HB := Lib.hid (bstep HB.out hb429)
          clear hb429
          have X3_0 := X3.out.cell0
          have X3_1 := X3.out.cell1
          have X3_l := X3.out.lt
          have X4_0 := X4.out.cell0
          have X4_1 := X4.out.cell1
          have X4_l := X4.out.lt
          have X6_0 := X6.out.cell0
          have X6_1 := X6.out.cell1
          have X6_l := X6.out.lt
          have X8_0 := X8.out.cell0
          have X8_1 := X8.out.cell1
          have X8_l := X8.out.lt
          go_wp2_with fail
          go_ret
          exact ⟨rfl, HB.out⟩
        | true =>
          have Hw := Lib.hid (Hz.out rfl rfl)
          clear Hz
          go_wp2_with fail
          obtain ⟨x528, hy530, hb529, z531, z532⟩ := new_box x225 (.cells #[.int .i64 r, .int .i64 s] 26)
          have X8 : Hid (Bx 26 x528 x225.heap.size r (.int .i64 s)) := Lib.hid (by rw [hy530]; exact Bx.new _ _ _ _)
          rw [← hy530]
          clear hy530
          clear X3_0 X3_1 X3_l X4_0 X4_1 X4_l X6_0 X6_1 X6_l
          have X3 := Lib.hid (X3.out.step hb529)
          have X4 := Lib.hid (X4.out.step hb529)
          have X6 := Lib.hid (X6.out.step hb529)
          have HB := Lib.hid (bstep HB.out hb529)
          clear hb529
          have X3_0 := X3.out.cell0
          have X3_1 := X3.out.cell1
          have X3_l := X3.out.lt
          have X4_0 := X4.out.cell0
          have X4_1 := X4.out.cell1
          have X4_l := X4.out.lt
          have X6_0 := X6.out.cell0
          have X6_1 := X6.out.cell1
          have X6_l := X6.out.lt
          have X8_0 := X8.out.cell0
          have X8_1 := X8.out.cell1
          have X8_l := X8.out.lt
          go_wp2_with fail
          refine (i_cmpW p q r s c _ Hw).mono ?_
          rintro e x533 ⟨rfl, hb534⟩
          clear X3_0 X3_1 X3_l X4_0 X4_1 X4_l X6_0 X6_1 X6_l X8_0 X8_1 X8_l
          have X3 := Lib.hid (X3.out.step hb534)
          have X4 := Lib.hid (X4.out.step hb534)
          have X6 := Lib.hid (X6.out.step hb534)
          have X8 := Lib.hid (X8.out.step hb534)
          have HB := Lib.hid (bstep HB.out hb534)
          clear hb534
          have X3_0 := X3.out.cell0
          have X3_1 := X3.out.cell1
          have X3_l := X3.out.lt
          have X4_0 := X4.out.cell0
          have X4_1 := X4.out.cell1
          have X4_l := X4.out.lt
          have X6_0 := X6.out.cell0
          have X6_1 := X6.out.cell1
          have X6_l := X6.out.lt
          have X8_0 := X8.out.cell0
          have X8_1 := X8.out.cell1
          have X8_l := X8.out.lt
          go_wp2_with fail
          go_ret
          exact ⟨rfl, HB.out⟩


set_option maxRecDepth 100000 in
theorem lifted (os : Os) (started : os.Started) (H : Type) (enc : TypeId × Value → H) :
    ReturnsInHanded {} Try.checked os 8 .any (Rows.fnCompareDyadicAddSpec.pre6 enc Try.prog Try.f8 Rows.fnCompareDyadicAddRow.domain false) (Rows.fnCompareDyadicAddSpec.post enc Try.prog Try.f8 false true false false) := by
  refine returnsInHanded_of_change (C := Try.checked) own started (by kernel_rfl) Try.func8
    (ChangeSpec.witness6 (enc := enc) (C := Try.checked) false ⟨#[], #[.slice none 0 0], []⟩ 8 (by kernel_rfl) (by kernel_rfl) (by kernel_rfl) (by kernel_rfl)) ?_
  intro W base args ds gs before hval0 hW hcnd _
  have hval : ∀ (j : Nat) t v, Try.f8.params[j]? = some t → args[j]? = some v → Value.okWide Try.prog W .any base t v := hval0
  have hW' := hW
  obtain ⟨p, q, hA0, hV, rfl, hfz, hnd⟩ := hW
  have hA : DataW.TrodAll enc Try.prog W 0 (fun _ => true) true Try.f8.params.toList args.toList ds p := hA0
  rw [Try.params8] at hA hval
  obtain ⟨v0, vs0, d0, ds0, p0, q0, hargs, rfl, rfl, h0, r0⟩ := trodAll_cons hA
  obtain ⟨rfl, rfl, rfl⟩ := trodAll_nil r0
  obtain rfl : args = #[v0] := by cases args; simp_all
  obtain ⟨rfl, rfl⟩ := trodVars_none hV
  obtain ⟨a0, len0, cap0, rfl⟩ := okWide_slice Try.underlying22 (hval 0 22 v0 rfl rfl)
  have k0 := h0
  have lt0 : ∀ x ∈ p0, x.block < W.heap.size := by obtain ⟨m, hm⟩ := k0; exact DataW.trod_lt m _ _ _ hm
  obtain ⟨z0, w0⟩ : ∃ zs, IsRow .u8 W a0 len0 cap0 zs := by
    obtain ⟨fuel, hf⟩ := h0
    rcases open_ints Try.underlying22 Try.underlying5 (by kernel_rfl) hf with ⟨hcs, _⟩ | ⟨x, l, c, zs, hcs, _, hl, hm, hz, _, hcell, hwz⟩
    · simp [Value.cells] at hcs
      obtain ⟨rfl, rfl, rfl⟩ := hcs
      exact ⟨[], .inl ⟨rfl, rfl, rfl, rfl⟩⟩
    · simp [Value.cells] at hcs
      obtain ⟨rfl, rfl, rfl⟩ := hcs
      exact ⟨zs, .inr ⟨_, rfl, hl, hm, by simpa using hz, hcell, hwz⟩⟩
  clear hA0 hval0
  refine (walk a0 len0 cap0 z0 W w0).mono fun e W' ⟨he, bel⟩ => ?_
  subst he
  exact ⟨_, rfl, _, _, _, [], _, [], hW', trodAll_mk1 (shut_bool Try.underlying4 _), (trodAll_cons_mk (Below.trod laidOut (by kernel_rfl) (of_decide_eq_true (by kernel_rfl)) k0 bel lt0) trodAll_mk0), rfl, bel.frame _, fun h => by cases h⟩

theorem over : Rows.fnCompareDyadicAddRow.holds Try.pinned (OpenSpec.ofChange Rows.fnCompareDyadicAddSpec) :=
  OpenClaim.holds_of_wide 8 Try.f8 rfl rfl rfl rfl rfl rfl rfl ⟨rfl, rfl, rfl, rfl, rfl⟩ rfl rfl rfl rfl rfl (by kernel_rfl) Try.func8 (by kernel_rfl)
    (of_decide_eq_true (by kernel_rfl)) (by unfold Func.isWrapper; first | (rw [if_pos (by decide +kernel)]; kernel_rfl) | (rw [if_neg (by decide +kernel)]; exact ⟨rfl, rfl⟩))
    (fun os started H enc _ => lifted os started H enc)

theorem proved : Rows.FnCompareDyadicAddSaid := over
end Go.Proofs.Ytocjlhlohlkkmaa.fnCompareDyadicAdd
