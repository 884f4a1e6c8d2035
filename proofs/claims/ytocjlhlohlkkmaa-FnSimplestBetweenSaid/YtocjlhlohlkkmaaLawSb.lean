/-
  The simplest number is between: the law of SimplestBetween holds for every code. No condition.
-/
import Derived.Test.YtocjlhlohlkkmaaRows
import Derived.Test.YtocjlhlohlkkmaaDyL
import Derived.Test.YtocjlhlohlkkmaaDyF
import Derived.Test.YtocjlhlohlkkmaaDyB
import Derived.Deep.RegionHeld3
import Derived.Deep.DeepCutAuto
import Derived.BigQuiet
import Derived.Test.YtocjlhlohlkkmaaDyX
import Derived.WalkKit
import Derived.ProofKit
import Derived.OpenShut
import Derived.ShutString
import Derived.ChangeOld
import Derived.Below
namespace Go.Proofs.Ytocjlhlohlkkmaa.fnSimplestBetween
set_option maxRecDepth 100000
open Go.ChangeShapes Go.WideShapes Go.ChangeAt Go.RowKit
open Go.ChangeMaps (open_string shut_string)
set_option linter.unusedVariables false

theorem own : ownKnob Try.prog.godebug = none := by kernel_rfl
theorem laidOut : laidOutB Try.prog = true := by kernel_rfl


set_option maxRecDepth 100000 in
set_option maxHeartbeats 16000000 in
theorem walk (a0 : Option Addr) (len0 cap0 : Nat) (z0 : List Int) (w : World) (w0 : IsRow .u8 w a0 len0 cap0 z0) :
    Calls Try.prog 6 #[.slice a0 len0 cap0] w fun e w' => e = .returned (.bool true) ∧ Below w.heap.size w w' := by
  by_cases hl : 1048576 < len0
  · go_enter Try.func6, Try.ntmps6
    go_wp2_with fail
    go_ret
    exact ⟨rfl, Below.refl _ _⟩
  · have hl' : decide ((1048576 : Int) < (len0 : Int)) = false := by rw [decide_eq_false_iff_not]; omega
    go_enter Try.func6, Try.ntmps6
    go_wp2_with fail
    refine (d_si w a0 len0 cap0 z0 w0).mono ?_
    rintro e0 y0 ⟨x, y, u, v, rfl, hb⟩
    have HB := Lib.hid hb
    clear hb w0 hl'
    obtain ⟨p, q, b, hp, h0⟩ := Dy.simP x y u v
    have Hp := Lib.hid hp
    have H0 := Lib.hid h0
    have hbb : (b != b) = false := by simp
    clear hp h0
    go_wp2_with fail
    obtain ⟨x1, hy3, hb2, z4, z5⟩ := new_box y0 (.cells #[.int .i64 x, .int .i64 y] 26)
    have X3 : Hid (Bx 26 x1 y0.heap.size x (.int .i64 y)) := Lib.hid (by rw [hy3]; exact Bx.new _ _ _ _)
    rw [← hy3]
    clear hy3
    have HB := Lib.hid (bstep HB.out hb2)
    clear hb2
    have X3_0 := X3.out.cell0
    have X3_1 := X3.out.cell1
    have X3_l := X3.out.lt
    obtain ⟨x6, hy8, hb7, z9, z10⟩ := new_box x1 (.cells #[.int .i64 u, .int .i64 v] 26)
    have X4 : Hid (Bx 26 x6 x1.heap.size u (.int .i64 v)) := Lib.hid (by rw [hy8]; exact Bx.new _ _ _ _)
    rw [← hy8]
    clear hy8
    clear X3_0 X3_1 X3_l
    have X3 := Lib.hid (X3.out.step hb7)
    have HB := Lib.hid (bstep HB.out hb7)
    clear hb7
    have X3_0 := X3.out.cell0
    have X3_1 := X3.out.cell1
    have X3_l := X3.out.lt
    have X4_0 := X4.out.cell0
    have X4_1 := X4.out.cell1
    have X4_l := X4.out.lt
    clear X4_0 X4_1 X4_l
    have X4 : Hid (Bx 26 x6 (y0.heap.size + 1) u (.int .i64 v)) := Lib.hid (by have h := X4.out; rw [show x1.heap.size = y0.heap.size + 1 by omega] at h; exact h)
    have X4_0 := X4.out.cell0
    have X4_1 := X4.out.cell1
    have X4_l := X4.out.lt
    go_wp2_with fail
    refine (i_simW x y u v p q b _ Hp H0).mono ?_
    rintro e x11 ⟨rfl, hb12⟩
    clear X3_0 X3_1 X3_l X4_0 X4_1 X4_l
    have X3 := Lib.hid (X3.out.step hb12)
    have X4 := Lib.hid (X4.out.step hb12)
    have HB := Lib.hid (bstep HB.out hb12)
    clear hb12
    have X3_0 := X3.out.cell0
    have X3_1 := X3.out.cell1
    have X3_l := X3.out.lt
    have X4_0 := X4.out.cell0
    have X4_1 := X4.out.cell1
    have X4_l := X4.out.lt
    go_wp2_with fail
    obtain ⟨x14, hy16, hb15, z17, z18⟩ := new_box x11 (.cells #[.int .i64 p, .int .i64 q] 26)
    have X5 : Hid (Bx 26 x14 x11.heap.size p (.int .i64 q)) := Lib.hid (by rw [hy16]; exact Bx.new _ _ _ _)
    rw [← hy16]
    clear hy16
    clear X3_0 X3_1 X3_l X4_0 X4_1 X4_l
    have X3 := Lib.hid (X3.out.step hb15)
    have X4 := Lib.hid (X4.out.step hb15)
    have HB := Lib.hid (bstep HB.out hb15)
    clear hb15
    have X3_0 := X3.out.cell0
    have X3_1 := X3.out.cell1
    have X3_l := X3.out.lt
    have X4_0 := X4.out.cell0
    have X4_1 := X4.out.cell1
    have X4_l := X4.out.lt
    have X5_0 := X5.out.cell0
    have X5_1 := X5.out.cell1
    have X5_l := X5.out.lt
    go_wp2_with fail
    refine (s_simW x y u v p q b _ Hp H0).mono ?_
    rintro e x19 ⟨rfl, hb20⟩
    clear X3_0 X3_1 X3_l X4_0 X4_1 X4_l X5_0 X5_1 X5_l
    have X3 := Lib.hid (X3.out.step hb20)
    have X4 := Lib.hid (X4.out.step hb20)
    have X5 := Lib.hid (X5.out.step hb20)
    have HB := Lib.hid (bstep HB.out hb20)
    clear hb20
    have X3_0 := X3.out.cell0
    have X3_1 := X3.out.cell1
    have X3_l := X3.out.lt
    have X4_0 := X4.out.cell0
    have X4_1 := X4.out.cell1
    have X4_l := X4.out.lt
    have X5_0 := X5.out.cell0
    have X5_1 := X5.out.cell1
    have X5_l := X5.out.lt
    cases b with
    | false =>
      clear hbb
      go_wp2_with fail
      obtain ⟨x122, hy124, hb123, z125, z126⟩ := new_box x19 (.cells #[.int .i64 p, .int .i64 q] 26)
      have X7 : Hid (Bx 26 x122 x19.heap.size p (.int .i64 q)) := Lib.hid (by rw [hy124]; exact Bx.new _ _ _ _)
      rw [← hy124]
      clear hy124
      clear X3_0 X3_1 X3_l X4_0 X4_1 X4_l X5_0 X5_1 X5_l
      have X3 := Lib.hid (X3.out.step hb123)
      have X4 := Lib.hid (X4.out.step hb123)
      have X5 := Lib.hid (X5.out.step hb123)
      have HB := Lib.hid (bstep HB.out hb123)
      clear hb123
      have X3_0 := X3.out.cell0
      have X3_1 := X3.out.cell1
      have X3_l := X3.out.lt
      have X4_0 := X4.out.cell0
      have X4_1 := X4.out.cell1
      have X4_l := X4.out.lt
      have X5_0 := X5.out.cell0
      have X5_1 := X5.out.cell1
      have X5_l := X5.out.lt
      have X7_0 := X7.out.cell0
      have X7_1 := X7.out.cell1
      have X7_l := X7.out.lt
      go_wp2_with fail
      go_ret
      exact ⟨rfl, HB.out⟩
    | true =>
      clear hbb
      have hs : Dy.simR x y u v = some (p, q) := by have := Hp.out; rw [if_pos rfl] at this; exact this
      have Hs := Lib.hid hs
      have Hc1 := Lib.hid (Dy.simR_cmp hs).1
      have Hc2 := Lib.hid (Dy.simR_cmp hs).2
      have o3 := (Dy.sim_ok (Dy.simR_some hs).2.2).1
      obtain ⟨⟨p1', p2', q1', q2'⟩, _⟩ := Dy.ok_iff.1 o3
      clear hs o3
      by_cases hq0 : 0 < q
      · obtain ⟨⟨⟨l1, l2⟩, bl⟩, hl⟩ : ∃ r, Dy.mk (p - 1) q = r := ⟨_, rfl⟩
        obtain ⟨⟨⟨h1, h2⟩, bh⟩, hh⟩ : ∃ r, Dy.mk (p + 1) q = r := ⟨_, rfl⟩
        have Hl := Lib.hid hl
        have Hh := Lib.hid hh
        obtain ⟨c1, hc1⟩ : ∃ c, Dy.cmp l1 l2 x y = c := ⟨_, rfl⟩
        obtain ⟨c2, hc2⟩ : ∃ c, Dy.cmp h1 h2 u v = c := ⟨_, rfl⟩
        have Hd1 := Lib.hid hc1
        have Hd2 := Lib.hid hc2
        have HL : Hid (bl = true → c1 ≤ 0) := Lib.hid (fun h => by subst h; rw [← hc1]; exact Dy.simR_lo Hs.out hq0 hl)
        have HH : Hid (bh = true → 0 ≤ c2) := Lib.hid (fun h => by subst h; rw [← hc2]; exact Dy.simR_hi Hs.out hq0 hh)
        clear hl hh hc1 hc2
        go_wp2_with fail
        obtain ⟨x522, hy524, hb523, z525, z526⟩ := new_box x19 (.cells #[.int .i64 p, .int .i64 q] 26)
        have X7 : Hid (Bx 26 x522 x19.heap.size p (.int .i64 q)) := Lib.hid (by rw [hy524]; exact Bx.new _ _ _ _)
        rw [← hy524]
        clear hy524
        clear X3_0 X3_1 X3_l X4_0 X4_1 X4_l X5_0 X5_1 X5_l
        have X3 := Lib.hid (X3.out.step hb523)
        have X4 := Lib.hid (X4.out.step hb523)
        have X5 := Lib.hid (X5.out.step hb523)
        have HB := Lib.hid (bstep HB.out hb523)
        clear hb523
        have X3_0 := X3.out.cell0
        have X3_1 := X3.out.cell1
        have X3_l := X3.out.lt
        have X4_0 := X4.out.cell0
        have X4_1 := X4.out.cell1
        have X4_l := X4.out.lt
        have X5_0 := X5.out.cell0
        have X5_1 := X5.out.cell1
        have X5_l := X5.out.lt
        have X7_0 := X7.out.cell0
        have X7_1 := X7.out.cell1
        have X7_l := X7.out.lt
        go_wp2_with fail
        refine (i_makeW (p - 1) q l1 l2 bl _ Hl).mono ?_
        rintro e x527 ⟨rfl, hb528⟩
        clear X3_0 X3_1 X3_l X4_0 X4_1 X4_l X5_0 X5_1 X5_l X7_0 X7_1 X7_l
        have X3 := Lib.hid (X3.out.step hb528)
        have X4 := Lib.hid (X4.out.step hb528)
        have X5 := Lib.hid (X5.out.step hb528)
        have X7 := Lib.hid (X7.out.step hb528)
        have HB := Lib.hid (bstep HB.out hb528)
        clear hb528
        have X3_0 := X3.out.cell0
        have X3_1 := X3.out.cell1
        have X3_l := X3.out.lt
        have X4_0 := X4.out.cell0
        have X4_1 := X4.out.cell1
        have X4_l := X4.out.lt
        have X5_0 := X5.out.cell0
        have X5_1 := X5.out.cell1
        have X5_l := X5.out.lt
        have X7_0 := X7.out.cell0
        have X7_1 := X7.out.cell1
        have X7_l := X7.out.lt
        go_wp2_with fail
        obtain ⟨x530, hy532, hb531, z533, z534⟩ := new_box x527 (.cells #[.int .i64 l1, .int .i64 l2] 26)
        have X9 : Hid (Bx 26 x530 x527.heap.size l1 (.int .i64 l2)) := Lib.hid (by rw [hy532]; exact Bx.new _ _ _ _)
        rw [← hy532]
        clear hy532
        clear X3_0 X3_1 X3_l X4_0 X4_1 X4_l X5_0 X5_1 X5_l X7_0 X7_1 X7_l
        have X3 := Lib.hid (X3.out.step hb531)
        have X4 := Lib.hid (X4.out.step hb531)
        have X5 := Lib.hid (X5.out.step hb531)
        have X7 := Lib.hid (X7.out.step hb531)
        have HB := Lib.hid (bstep HB.out hb531)
        clear hb531
        have X3_0 := X3.out.cell0
        have X3_1 := X3.out.cell1
        have X3_l := X3.out.lt
        have X4_0 := X4.out.cell0
        have X4_1 := X4.out.cell1
        have X4_l := X4.out.lt
        have X5_0 := X5.out.cell0
        have X5_1 := X5.out.cell1
        have X5_l := X5.out.lt
        have X7_0 := X7.out.cell0
        have X7_1 := X7.out.cell1
        have X7_l := X7.out.lt
        have X9_0 := X9.out.cell0
        have X9_1 := X9.out.cell1
        have X9_l := X9.out.lt
        go_wp2_with fail
        refine (i_makeW (p + 1) q h1 h2 bh _ Hh).mono ?_
        rintro e x535 ⟨rfl, hb536⟩
        clear X3_0 X3_1 X3_l X4_0 X4_1 X4_l X5_0 X5_1 X5_l X7_0 X7_1 X7_l X9_0 X9_1 X9_l
        have X3 := Lib.hid (X3.out.step hb536)
        have X4 := Lib.hid (X4.out.step hb536)
        have X5 := Lib.hid (X5.out.step hb536)
        have X7 := Lib.hid (X7.out.step hb536)
        have X9 := Lib.hid (X9.out.step hb536)
        have HB := Lib.hid (bstep HB.out hb536)
        clear hb536
        have X3_0 := X3.out.cell0
        have X3_1 := X3.out.cell1
        have X3_l := X3.out.lt
        have X4_0 := X4.out.cell0
        have X4_1 := X4.out.cell1
        have X4_l := X4.out.lt
        have X5_0 := X5.out.cell0
        have X5_1 := X5.out.cell1
        have X5_l := X5.out.lt
        have X7_0 := X7.out.cell0
        have X7_1 := X7.out.cell1
        have X7_l := X7.out.lt
        have X9_0 := X9.out.cell0
        have X9_1 := X9.out.cell1
        have X9_l := X9.out.lt
        cases bl with
        | false =>
          cases bh with
          | false =>
            clear HL HH
            go_wp2_with fail
            obtain ⟨x638, hy640, hb639, z641, z642⟩ := new_box x535 (.cells #[.int .i64 h1, .int .i64 h2] 26)
            have X11 : Hid (Bx 26 x638 x535.heap.size h1 (.int .i64 h2)) := Lib.hid (by rw [hy640]; exact Bx.new _ _ _ _)
            rw [← hy640]
            clear hy640
            clear X3_0 X3_1 X3_l X4_0 X4_1 X4_l X5_0 X5_1 X5_l X7_0 X7_1 X7_l X9_0 X9_1 X9_l
            have X3 := Lib.hid (X3.out.step hb639)
            have X4 := Lib.hid (X4.out.step hb639)
            have X5 := Lib.hid (X5.out.step hb639)
            have X7 := Lib.hid (X7.out.step hb639)
            have X9 := Lib.hid (X9.out.step hb639)
            have HB := Lib.hid (bstep HB.out hb639)
            clear hb639
            have X3_0 := X3.out.cell0
            have X3_1 := X3.out.cell1
            have X3_l := X3.out.lt
            have X4_0 := X4.out.cell0
            have X4_1 := X4.out.cell1
            have X4_l := X4.out.lt
            have X5_0 := X5.out.cell0
            have X5_1 := X5.out.cell1
            have X5_l := X5.out.lt
            have X7_0 := X7.out.cell0
            have X7_1 := X7.out.cell1
            have X7_l := X7.out.lt
            have X9_0 := X9.out.cell0
            have X9_1 := X9.out.cell1
            have X9_l := X9.out.lt
            have X11_0 := X11.out.cell0
            have X11_1 := X11.out.cell1
            have X11_l := X11.out.lt
            go_wp2_with fail
            refine (i_cmpW x y p q (-1) _ Hc1).mono ?_
            rintro e x643 ⟨rfl, hb644⟩
            clear X3_0 X3_1 X3_l X4_0 X4_1 X4_l X5_0 X5_1 X5_l X7_0 X7_1 X7_l X9_0 X9_1 X9_l X11_0 X11_1 X11_l
            have X3 := Lib.hid (X3.out.step hb644)
            have X4 := Lib.hid (X4.out.step hb644)
            have X5 := Lib.hid (X5.out.step hb644)
            have X7 := Lib.hid (X7.out.step hb644)
            have X9 := Lib.hid (X9.out.step hb644)
            have X11 := Lib.hid (X11.out.step hb644)
            have HB := Lib.hid (bstep HB.out hb644)
            clear hb644
            have X3_0 := X3.out.cell0
            have X3_1 := X3.out.cell1
            have X3_l := X3.out.lt
            have X4_0 := X4.out.cell0
            have X4_1 := X4.out.cell1
            have X4_l := X4.out.lt
            have X5_0 := X5.out.cell0
            have X5_1 := X5.out.cell1
            have X5_l := X5.out.lt
            have X7_0 := X7.out.cell0
            have X7_1 := X7.out.cell1
            have X7_l := X7.out.lt
            have X9_0 := X9.out.cell0
            have X9_1 := X9.out.cell1
            have X9_l := X9.out.lt
            have X11_0 := X11.out.cell0
            have X11_1 := X11.out.cell1
            have X11_l := X11.out.lt
            go_wp2_with fail
            refine (i_cmpW p q u v (-1) _ Hc2).mono ?_
            rintro e x646 ⟨rfl, hb647⟩
            clear X3_0 X3_1 X3_l X4_0 X4_1 X4_l X5_0 X5_1 X5_l X7_0 X7_1 X7_l X9_0 X9_1 X9_l X11_0 X11_1 X11_l
            have X3 := Lib.hid (X3.out.step hb647)
            have X4 := Lib.hid (X4.out.step hb647)
            have X5 := Lib.hid (X5.out.step hb647)
            have X7 := Lib.hid (X7.out.step hb647)
            have X9 := Lib.hid (X9.out.step hb647)
            have X11 := Lib.hid (X11.out.step hb647)
            have HB := Lib.hid (bstep HB.out hb647)
            clear hb647
            have X3_0 := X3.out.cell0
            have X3_1 := X3.out.cell1
            have X3_l := X3.out.lt
            have X4_0 := X4.out.cell0
            have X4_1 := X4.out.cell1
            have X4_l := X4.out.lt
            have X5_0 := X5.out.cell0
            have X5_1 := X5.out.cell1
            have X5_l := X5.out.lt
            have X7_0 := X7.out.cell0
            have X7_1 := X7.out.cell1
            have X7_l := X7.out.lt
            have X9_0 := X9.out.cell0
            have X9_1 := X9.out.cell1
            have X9_l := X9.out.lt
            have X11_0 := X11.out.cell0
            have X11_1 := X11.out.cell1
            have X11_l := X11.out.lt
            go_wp2_with fail
            go_ret
            exact ⟨rfl, HB.out⟩
          | true =>
            have hn2 : ¬ c2 < 0 := by have := HH.out rfl; omega
            clear HL HH
            go_wp2_with fail
            obtain ⟨x1038, hy1040, hb1039, z1041, z1042⟩ := new_box x535 (.cells #[.int .i64 h1, .int .i64 h2] 26)
            have X11 : Hid (Bx 26 x1038 x535.heap.size h1 (.int .i64 h2)) := Lib.hid (by rw [hy1040]; exact Bx.new _ _ _ _)
            rw [← hy1040]
            clear hy1040
            clear X3_0 X3_1 X3_l X4_0 X4_1 X4_l X5_0 X5_1 X5_l X7_0 X7_1 X7_l X9_0 X9_1 X9_l
            have X3 := Lib.hid (X3.out.step hb1039)
            have X4 := Lib.hid (X4.out.step hb1039)
            have X5 := Lib.hid (X5.out.step hb1039)
            have X7 := Lib.hid (X7.out.step hb1039)
            have X9 := Lib.hid (X9.out.step hb1039)
            have HB := Lib.hid (bstep HB.out hb1039)
            clear hb1039
            have X3_0 := X3.out.cell0
            have X3_1 := X3.out.cell1
            have X3_l := X3.out.lt
            have X4_0 := X4.out.cell0
            have X4_1 := X4.out.cell1
            have X4_l := X4.out.lt
            have X5_0 := X5.out.cell0
            have X5_1 := X5.out.cell1
            have X5_l := X5.out.lt
            have X7_0 := X7.out.cell0
            have X7_1 := X7.out.cell1
            have X7_l := X7.out.lt
            have X9_0 := X9.out.cell0
            have X9_1 := X9.out.cell1
            have X9_l := X9.out.lt
            have X11_0 := X11.out.cell0
            have X11_1 := X11.out.cell1
            have X11_l := X11.out.lt
            go_wp2_with fail
            refine (i_cmpW h1 h2 u v c2 _ Hd2).mono ?_
            rintro e x1043 ⟨rfl, hb1044⟩
            clear X3_0 X3_1 X3_l X4_0 X4_1 X4_l X5_0 X5_1 X5_l X7_0 X7_1 X7_l X9_0 X9_1 X9_l X11_0 X11_1 X11_l
            have X3 := Lib.hid (X3.out.step hb1044)
            have X4 := Lib.hid (X4.out.step hb1044)
            have X5 := Lib.hid (X5.out.step hb1044)
            have X7 := Lib.hid (X7.out.step hb1044)
            have X9 := Lib.hid (X9.out.step hb1044)
            have X11 := Lib.hid (X11.out.step hb1044)
            have HB := Lib.hid (bstep HB.out hb1044)
            clear hb1044
            have X3_0 := X3.out.cell0
            have X3_1 := X3.out.cell1
            have X3_l := X3.out.lt
            have X4_0 := X4.out.cell0
            have X4_1 := X4.out.cell1
            have X4_l := X4.out.lt
            have X5_0 := X5.out.cell0
            have X5_1 := X5.out.cell1
            have X5_l := X5.out.lt
            have X7_0 := X7.out.cell0
            have X7_1 := X7.out.cell1
            have X7_l := X7.out.lt
            have X9_0 := X9.out.cell0
            have X9_1 := X9.out.cell1
            have X9_l := X9.out.lt
            have X11_0 := X11.out.cell0
            have X11_1 := X11.out.cell1
            have X11_l := X11.out.lt
            go_wp2_with fail
            refine (i_cmpW x y p q (-1) _ Hc1).mono ?_
            rintro e x1046 ⟨rfl, hb1047⟩
            clear X3_0 X3_1 X3_l X4_0 X4_1 X4_l X5_0 X5_1 X5_l X7_0 X7_1 X7_l X9_0 X9_1 X9_l X11_0 X11_1 X11_l
            have X3 := Lib.hid (X3.out.step hb1047)
            have X4 := Lib.hid (X4.out.step hb1047)
            have X5 := Lib.hid (X5.out.step hb1047)
            have X7 := Lib.hid (X7.out.step hb1047)
            have X9 := Lib.hid (X9.out.step hb1047)
            have X11 := Lib.hid (X11.out.step hb1047)
            have HB := Lib.hid (bstep HB.out hb1047)
            clear hb1047
            have X3_0 := X3.out.cell0
            have X3_1 := X3.out.cell1
            have X3_l := X3.out.lt
            have X4_0 := X4.out.cell0
            have X4_1 := X4.out.cell1
            have X4_l := X4.out.lt
            have X5_0 := X5.out.cell0
            have X5_1 := X5.out.cell1
            have X5_l := X5.out.lt
            have X7_0 := X7.out.cell0
            have X7_1 := X7.out.cell1
            have X7_l := X7.out.lt
            have X9_0 := X9.out.cell0
            have X9_1 := X9.out.cell1
            have X9_l := X9.out.lt
            have X11_0 := X11.out.cell0
            have X11_1 := X11.out.cell1
            have X11_l := X11.out.lt
            go_wp2_with fail
            refine (i_cmpW p q u v (-1) _ Hc2).mono ?_
            rintro e x1049 ⟨rfl, hb1050⟩
            clear X3_0 X3_1 X3_l X4_0 X4_1 X4_l X5_0 X5_1 X5_l X7_0 X7_1 X7_l X9_0 X9_1 X9_l X11_0 X11_1 X11_l
            have X3 := Lib.hid (X3.out.step hb1050)
            have X4 := Lib.hid (X4.out.step hb1050)
            have X5 := Lib.hid (X5.out.step hb1050)
            have X7 := Lib.hid (X7.out.step hb1050)
            have X9 := Lib.hid (X9.out.step hb1050)
            have X11 := Lib.hid (X11.out.step hb1050)
            have HB := Lib.hid (bstep HB.out hb1050)
            clear hb1050
            have X3_0 := X3.out.cell0
            have X3_1 := X3.out.cell1
            have X3_l := X3.out.lt
            have X4_0 := X4.out.cell0
            have X4_1 := X4.out.cell1
            have X4_l := X4.out.lt
            have X5_0 := X5.out.cell0
            have X5_1 := X5.out.cell1
            have X5_l := X5.out.lt
            have X7_0 := X7.out.cell0
            have X7_1 := X7.out.cell1
            have X7_l := X7.out.lt
            have X9_0 := X9.out.cell0
            have X9_1 := X9.out.cell1
            have X9_l := X9.out.lt
            have X11_0 := X11.out.cell0
            have X11_1 := X11.out.cell1
            have X11_l := X11.out.lt
            go_wp2_with fail
            go_ret
            exact ⟨rfl, HB.out⟩
        | true =>
          cases bh with
          | false =>
            have hn1 : ¬ 0 < c1 := by have := HL.out rfl; omega
            clear HL HH
            go_wp2_with fail
            obtain ⟨x838, hy840, hb839, z841, z842⟩ := new_box x535 (.cells #[.int .i64 h1, .int .i64 h2] 26)
            have X11 : Hid (Bx 26 x838 x535.heap.size h1 (.int .i64 h2)) := Lib.hid (by rw [hy840]; exact Bx.new _ _ _ _)
            rw [← hy840]
            clear hy840
            clear X3_0 X3_1 X3_l X4_0 X4_1 X4_l X5_0 X5_1 X5_l X7_0 X7_1 X7_l X9_0 X9_1 X9_l
            have X3 := Lib.hid (X3.out.step hb839)
            have X4 := Lib.hid (X4.out.step hb839)
            have X5 := Lib.hid (X5.out.step hb839)
            have X7 := Lib.hid (X7.out.step hb839)
            have X9 := Lib.hid (X9.out.step hb839)
            have HB := Lib.hid (bstep HB.out hb839)
            clear hb839
            have X3_0 := X3.out.cell0
            have X3_1 := X3.out.cell1
            have X3_l := X3.out.lt
            have X4_0 := X4.out.cell0
            have X4_1 := X4.out.cell1
            have X4_l := X4.out.lt
            have X5_0 := X5.out.cell0
            have X5_1 := X5.out.cell1
            have X5_l := X5.out.lt
            have X7_0 := X7.out.cell0
            have X7_1 := X7.out.cell1
            have X7_l := X7.out.lt
            have X9_0 := X9.out.cell0
            have X9_1 := X9.out.cell1
            have X9_l := X9.out.lt
            have X11_0 := X11.out.cell0
            have X11_1 := X11.out.cell1
            have X11_l := X11.out.lt
            go_wp2_with fail
            refine (i_cmpW l1 l2 x y c1 _ Hd1).mono ?_
            rintro e x843 ⟨rfl, hb844⟩
            clear X3_0 X3_1 X3_l X4_0 X4_1 X4_l X5_0 X5_1 X5_l X7_0 X7_1 X7_l X9_0 X9_1 X9_l X11_0 X11_1 X11_l
            have X3 := Lib.hid (X3.out.step hb844)
            have X4 := Lib.hid (X4.out.step hb844)
            have X5 := Lib.hid (X5.out.step hb844)
            have X7 := Lib.hid (X7.out.step hb844)
            have X9 := Lib.hid (X9.out.step hb844)
            have X11 := Lib.hid (X11.out.step hb844)
            have HB := Lib.hid (bstep HB.out hb844)
            clear hb844
            have X3_0 := X3.out.cell0
            have X3_1 := X3.out.cell1
            have X3_l := X3.out.lt
            have X4_0 := X4.out.cell0
            have X4_1 := X4.out.cell1
            have X4_l := X4.out.lt
            have X5_0 := X5.out.cell0
            have X5_1 := X5.out.cell1
            have X5_l := X5.out.lt
            have X7_0 := X7.out.cell0
            have X7_1 := X7.out.cell1
            have X7_l := X7.out.lt
            have X9_0 := X9.out.cell0
            have X9_1 := X9.out.cell1
            have X9_l := X9.out.lt
            have X11_0 := X11.out.cell0
            have X11_1 := X11.out.cell1
            have X11_l := X11.out.lt
            go_wp2_with fail
            refine (i_cmpW x y p q (-1) _ Hc1).mono ?_
            rintro e x846 ⟨rfl, hb847⟩
            clear X3_0 X3_1 X3_l X4_0 X4_1 X4_l X5_0 X5_1 X5_l X7_0 X7_1 X7_l X9_0 X9_1 X9_l X11_0 X11_1 X11_l
            have X3 := Lib.hid (X3.out.step hb847)
            have X4 := Lib.hid (X4.out.step hb847)
            have X5 := Lib.hid (X5.out.step hb847)
            have X7 := Lib.hid (X7.out.step hb847)
            have X9 := Lib.hid (X9.out.step hb847)
            have X11 := Lib.hid (X11.out.step hb847)
            have HB := Lib.hid (bstep HB.out hb847)
            clear hb847
            have X3_0 := X3.out.cell0
            have X3_1 := X3.out.cell1
            have X3_l := X3.out.lt
            have X4_0 := X4.out.cell0
            have X4_1 := X4.out.cell1
            have X4_l := X4.out.lt
            have X5_0 := X5.out.cell0
            have X5_1 := X5.out.cell1
            have X5_l := X5.out.lt
            have X7_0 := X7.out.cell0
            have X7_1 := X7.out.cell1
            have X7_l := X7.out.lt
            have X9_0 := X9.out.cell0
            have X9_1 := X9.out.cell1
            have X9_l := X9.out.lt
            have X11_0 := X11.out.cell0
            have X11_1 := X11.out.cell1
            have X11_l := X11.out.lt
            go_wp2_with fail
            refine (i_cmpW p q u v (-1) _ Hc2).mono ?_
            rintro e x849 ⟨rfl, hb850⟩
            clear X3_0 X3_1 X3_l X4_0 X4_1 X4_l X5_0 X5_1 X5_l X7_0 X7_1 X7_l X9_0 X9_1 X9_l X11_0 X11_1 X11_l
            have X3 := Lib.hid (X3.out.step hb850)
            have X4 := Lib.hid (X4.out.step hb850)
            have X5 := Lib.hid (X5.out.step hb850)
            have X7 := Lib.hid (X7.out.step hb850)
            have X9 := Lib.hid (X9.out.step hb850)
            have X11 := Lib.hid (X11.out.step hb850)
            have HB := Lib.hid (bstep HB.out hb850)
            clear hb850
            have X3_0 := X3.out.cell0
            have X3_1 := X3.out.cell1
            have X3_l := X3.out.lt
            have X4_0 := X4.out.cell0
            have X4_1 := X4.out.cell1
            have X4_l := X4.out.lt
            have X5_0 := X5.out.cell0
            have X5_1 := X5.out.cell1
            have X5_l := X5.out.lt
            have X7_0 := X7.out.cell0
            have X7_1 := X7.out.cell1
            have X7_l := X7.out.lt
            have X9_0 := X9.out.cell0
            have X9_1 := X9.out.cell1
            have X9_l := X9.out.lt
            have X11_0 := X11.out.cell0
            have X11_1 := X11.out.cell1
            have X11_l := X11.out.lt
            go_wp2_with fail
            go_ret
            exact ⟨rfl, HB.out⟩
          | true =>
            have hn1 : ¬ 0 < c1 := by have := HL.out rfl; omega
            have hn2 : ¬ c2 < 0 := by have := HH.out rfl; omega
            clear HL HH
            go_wp2_with fail
            obtain ⟨x1238, hy1240, hb1239, z1241, z1242⟩ := new_box x535 (.cells #[.int .i64 h1, .int .i64 h2] 26)
            have X11 : Hid (Bx 26 x1238 x535.heap.size h1 (.int .i64 h2)) := Lib.hid (by rw [hy1240]; exact Bx.new _ _ _ _)
            rw [← hy1240]
            clear hy1240
            clear X3_0 X3_1 X3_l X4_0 X4_1 X4_l X5_0 X5_1 X5_l X7_0 X7_1 X7_l X9_0 X9_1 X9_l
            have X3 := Lib.hid (X3.out.step hb1239)
            have X4 := Lib.hid (X4.out.step hb1239)
            have X5 := Lib.hid (X5.out.step hb1239)
            have X7 := Lib.hid (X7.out.step hb1239)
            have X9 := Lib.hid (X9.out.step hb1239)
            have HB := Lib.hid (bstep HB.out hb1239)
            clear hb1239
            have X3_0 := X3.out.cell0
            have X3_1 := X3.out.cell1
            have X3_l := X3.out.lt
            have X4_0 := X4.out.cell0
            have X4_1 := X4.out.cell1
            have X4_l := X4.out.lt
            have X5_0 := X5.out.cell0
            have X5_1 := X5.out.cell1
            have X5_l := X5.out.lt
            have X7_0 := X7.out.cell0
            have X7_1 := X7.out.cell1
            have X7_l := X7.out.lt
            have X9_0 := X9.out.cell0
            have X9_1 := X9.out.cell1
            have X9_l := X9.out.lt
            have X11_0 := X11.out.cell0
            have X11_1 := X11.out.cell1
            have X11_l := X11.out.lt
            go_wp2_with fail
            refine (i_cmpW l1 l2 x y c1 _ Hd1).mono ?_
            rintro e x1243 ⟨rfl, hb1244⟩
            clear X3_0 X3_1 X3_l X4_0 X4_1 X4_l X5_0 X5_1 X5_l X7_0 X7_1 X7_l X9_0 X9_1 X9_l X11_0 X11_1 X11_l
            have X3 := Lib.hid (X3.out.step hb1244)
            have X4 := Lib.hid (X4.out.step hb1244)
            have X5 := Lib.hid (X5.out.step hb1244)
            have X7 := Lib.hid (X7.out.step hb1244)
            have X9 := Lib.hid (X9.out.step hb1244)
            have X11 := Lib.hid (X11.out.step hb1244)
            have HB := Lib.hid (bstep HB.out hb1244)
            clear hb1244
            have X3_0 := X3.out.cell0
            have X3_1 := X3.out.cell1
            have X3_l := X3.out.lt
            have X4_0 := X4.out.cell0
            have X4_1 := X4.out.cell1
            have X4_l := X4.out.lt
            have X5_0 := X5.out.cell0
            have X5_1 := X5.out.cell1
            have X5_l := X5.out.lt
            have X7_0 := X7.out.cell0
            have X7_1 := X7.out.cell1
            have X7_l := X7.out.lt
            have X9_0 := X9.out.cell0
            have X9_1 := X9.out.cell1
            have X9_l := X9.out.lt
            have X11_0 := X11.out.cell0
            have X11_1 := X11.out.cell1
            have X11_l := X11.out.lt
            go_wp2_with fail
            refine (i_cmpW h1 h2 u v c2 _ Hd2).mono ?_
            rintro e x1246 ⟨rfl, hb1247⟩
            clear X3_0 X3_1 X3_l X4_0 X4_1 X4_l X5_0 X5_1 X5_l X7_0 X7_1 X7_l X9_0 X9_1 X9_l X11_0 X11_1 X11_l
            have X3 := Lib.hid (X3.out.step hb1247)
            have X4 := Lib.hid (X4.out.step hb1247)
            have X5 := Lib.hid (X5.out.step hb1247)
            have X7 := Lib.hid (X7.out.step hb1247)
            have X9 := Lib.hid (X9.out.step hb1247)
            have X11 := Lib.hid (X11.out.step hb1247)
            have HB := Lib.hid (bstep HB.out hb1247)
            clear hb1247
            have X3_0 := X3.out.cell0
            have X3_1 := X3.out.cell1
            have X3_l := X3.out.lt
            have X4_0 := X4.out.cell0
            have X4_1 := X4.out.cell1
            have X4_l := X4.out.lt
            have X5_0 := X5.out.cell0
            have X5_1 := X5.out.cell1
            have X5_l := X5.out.lt
            have X7_0 := X7.out.cell0
            have X7_1 := X7.out.cell1
            have X7_l := X7.out.lt
            have X9_0 := X9.out.cell0
            have X9_1 := X9.out.cell1
            have X9_l := X9.out.lt
            have X11_0 := X11.out.cell0
            have X11_1 := X11.out.cell1
            have X11_l := X11.out.lt
            go_wp2_with fail
            refine (i_cmpW x y p q (-1) _ Hc1).mono ?_
            rintro e x1249 ⟨rfl, hb1250⟩
            clear X3_0 X3_1 X3_l X4_0 X4_1 X4_l X5_0 X5_1 X5_l X7_0 X7_1 X7_l X9_0 X9_1 X9_l X11_0 X11_1 X11_l
            have X3 := Lib.hid (X3.out.step hb1250)
            have X4 := Lib.hid (X4.out.step hb1250)
            have X5 := Lib.hid (X5.out.step hb1250)
            have X7 := Lib.hid (X7.out.step hb1250)
            have X9 := Lib.hid (X9.out.step hb1250)
            have X11 := Lib.hid (X11.out.step hb1250)
            have HB := Lib.hid (bstep HB.out hb1250)
            clear hb1250
            have X3_0 := X3.out.cell0
            have X3_1 := X3.out.cell1
            have X3_l := X3.out.lt
            have X4_0 := X4.out.cell0
            have X4_1 := X4.out.cell1
            have X4_l := X4.out.lt
            have X5_0 := X5.out.cell0
            have X5_1 := X5.out.cell1
            have X5_l := X5.out.lt
            have X7_0 := X7.out.cell0
            have X7_1 := X7.out.cell1
            have X7_l := X7.out.lt
            have X9_0 := X9.out.cell0
            have X9_1 := X9.out.cell1
            have X9_l := X9.out.lt
            have X11_0 := X11.out.cell0
            have X11_1 := X11.out.cell1
            have X11_l := X11.out.lt
            go_wp2_with fail
            refine (i_cmpW p q u v (-1) _ Hc2).mono ?_
            rintro e x1252 ⟨rfl, hb1253⟩
            clear X3_0 X3_1 X3_l X4_0 X4_1 X4_l X5_0 X5_1 X5_l X7_0 X7_1 X7_l X9_0 X9_1 X9_l X11_0 X11_1 X11_l
            have X3 := Lib.hid (X3.out.step hb1253)
            have X4 := Lib.hid (X4.out.step hb1253)
            have X5 := Lib.hid (X5.out.step hb1253)
            have X7 := Lib.hid (X7.out.step hb1253)
            have X9 := Lib.hid (X9.out.step hb1253)
            have X11 := Lib.hid (X11.out.step hb1253)
            have HB := Lib.hid (bstep HB.out hb1253)
            clear hb1253
            have X3_0 := X3.out.cell0
            have X3_1 := X3.out.cell1
            have X3_l := X3.out.lt
            have X4_0 := X4.out.cell0
            have X4_1 := X4.out.cell1
            have X4_l := X4.out.lt
            have X5_0 := X5.out.cell0
            have X5_1 := X5.out.cell1
            have X5_l := X5.out.lt
            have X7_0 := X7.out.cell0
            have X7_1 := X7.out.cell1
            have X7_l := X7.out.lt
            have X9_0 := X9.out.cell0
            have X9_1 := X9.out.cell1
            have X9_l := X9.out.lt
            have X11_0 := X11.out.cell0
            have X11_1 := X11.out.cell1
            have X11_l := X11.out.lt
            go_wp2_with fail
            go_ret
            exact ⟨rfl, HB.out⟩
      · go_wp2_with fail
        obtain ⟨x2222, hy2224, hb2223, z2225, z2226⟩ := new_box x19 (.cells #[.int .i64 p, .int .i64 q] 26)
        have X7 : Hid (Bx 26 x2222 x19.heap.size p (.int .i64 q)) := Lib.hid (by rw [hy2224]; exact Bx.new _ _ _ _)
        rw [← hy2224]
        clear hy2224
        clear X3_0 X3_1 X3_l X4_0 X4_1 X4_l X5_0 X5_1 X5_l
        have X3 := Lib.hid (X3.out.step hb2223)
        have X4 := Lib.hid (X4.out.step hb2223)
        have X5 := Lib.hid (X5.out.step hb2223)
        have HB := Lib.hid (bstep HB.out hb2223)
        clear hb2223
        have X3_0 := X3.out.cell0
        have X3_1 := X3.out.cell1
        have X3_l := X3.out.lt
        have X4_0 := X4.out.cell0
        have X4_1 := X4.out.cell1
        have X4_l := X4.out.lt
        have X5_0 := X5.out.cell0
        have X5_1 := X5.out.cell1
        have X5_l := X5.out.lt
        have X7_0 := X7.out.cell0
        have X7_1 := X7.out.cell1
        have X7_l := X7.out.lt
        go_wp2_with fail
        refine (i_cmpW x y p q (-1) _ Hc1).mono ?_
        rintro e x2227 ⟨rfl, hb2228⟩
        clear X3_0 X3_1 X3_l X4_0 X4_1 X4_l X5_0 X5_1 X5_l X7_0 X7_1 X7_l
        have X3 := Lib.hid (X3.out.step hb2228)
        have X4 := Lib.hid (X4.out.step hb2228)
        have X5 := Lib.hid (X5.out.step hb2228)
        have X7 := Lib.hid (X7.out.step hb2228)
        have HB := Lib.hid (bstep HB.out hb2228)
        clear hb2228
        have X3_0 := X3.out.cell0
        have X3_1 := X3.out.cell1
        have X3_l := X3.out.lt
        have X4_0 := X4.out.cell0
        have X4_1 := X4.out.cell1
        have X4_l := X4.out.lt
        have X5_0 := X5.out.cell0
        have X5_1 := X5.out.cell1
        have X5_l := X5.out.lt
        have X7_0 := X7.out.cell0
        have X7_1 := X7.out.cell1
        have X7_l := X7.out.lt
        go_wp2_with fail
        refine (i_cmpW p q u v (-1) _ Hc2).mono ?_
        rintro e x2230 ⟨rfl, hb2231⟩
        clear X3_0 X3_1 X3_l X4_0 X4_1 X4_l X5_0 X5_1 X5_l X7_0 X7_1 X7_l
        have X3 := Lib.hid (X3.out.step hb2231)
        have X4 := Lib.hid (X4.out.step hb2231)
        have X5 := Lib.hid (X5.out.step hb2231)
        have X7 := Lib.hid (X7.out.step hb2231)
        have HB := Lib.hid (bstep HB.out hb2231)
        clear hb2231
        have X3_0 := X3.out.cell0
        have X3_1 := X3.out.cell1
        have X3_l := X3.out.lt
        have X4_0 := X4.out.cell0
        have X4_1 := X4.out.cell1
        have X4_l := X4.out.lt
        have X5_0 := X5.out.cell0
        have X5_1 := X5.out.cell1
        have X5_l := X5.out.lt
        have X7_0 := X7.out.cell0
        have X7_1 := X7.out.cell1
        have X7_l := X7.out.lt
        go_wp2_with fail
        go_ret
        exact ⟨rfl, HB.out⟩


set_option maxRecDepth 100000 in
theorem lifted (os : Os) (started : os.Started) (H : Type) (enc : TypeId × Value → H) :
    ReturnsInHanded {} Try.checked os 6 .any (Rows.fnSimplestBetweenSpec.pre6 enc Try.prog Try.f6 Rows.fnSimplestBetweenRow.domain false) (Rows.fnSimplestBetweenSpec.post enc Try.prog Try.f6 false true false false) := by
  refine returnsInHanded_of_change (C := Try.checked) own started (by kernel_rfl) Try.func6
    (ChangeSpec.witness6 (enc := enc) (C := Try.checked) false ⟨#[], #[.slice none 0 0], []⟩ 8 (by kernel_rfl) (by kernel_rfl) (by kernel_rfl) (by kernel_rfl)) ?_
  intro W base args ds gs before hval0 hW hcnd _
  have hval : ∀ (j : Nat) t v, Try.f6.params[j]? = some t → args[j]? = some v → Value.okWide Try.prog W .any base t v := hval0
  have hW' := hW
  obtain ⟨p, q, hA0, hV, rfl, hfz, hnd⟩ := hW
  have hA : DataW.TrodAll enc Try.prog W 0 (fun _ => true) true Try.f6.params.toList args.toList ds p := hA0
  rw [Try.params6] at hA hval
  obtain ⟨v0, vs0, d0, ds0, p0, q0, hargs, rfl, rfl, h0, r0⟩ := trodAll_cons hA
  obtain ⟨rfl, rfl, rfl⟩ := trodAll_nil r0
  obtain rfl : args = #[v0] := by cases args; simp_all
  obtain ⟨rfl, rfl⟩ := trodVars_none hV
  obtain ⟨a0, len0, cap0, rfl⟩ := okWide_slice Try.underlying22 (hval 0 22 v0 rfl rfl)
  have k0 := h0
  have lt0 : ∀ x ∈ p0, x.block < W.heap.size := by obtain ⟨m, hm⟩ := k0; exact DataW.trod_lt m _ _ _ hm
  obtain ⟨z0, w0⟩ : ∃ zs, IsRow .u8 W a0 len0 cap0 zs := by
    obtain ⟨fuel, hf⟩ := h0
    rcases open_ints Try.underlying22 Try.underlying5 (by kernel_rfl) hf with ⟨hcs, _⟩ | ⟨x, l, c, zs, hcs, _, hl, hm, hz, _, hcell, hwz⟩
    · simp [Value.cells] at hcs
      obtain ⟨rfl, rfl, rfl⟩ := hcs
      exact ⟨[], .inl ⟨rfl, rfl, rfl, rfl⟩⟩
    · simp [Value.cells] at hcs
      obtain ⟨rfl, rfl, rfl⟩ := hcs
      exact ⟨zs, .inr ⟨_, rfl, hl, hm, by simpa using hz, hcell, hwz⟩⟩
  clear hA0 hval0
  refine (walk a0 len0 cap0 z0 W w0).mono fun e W' ⟨he, bel⟩ => ?_
  subst he
  exact ⟨_, rfl, _, _, _, [], _, [], hW', trodAll_mk1 (shut_bool Try.underlying4 _), (trodAll_cons_mk (Below.trod laidOut (by kernel_rfl) (of_decide_eq_true (by kernel_rfl)) k0 bel lt0) trodAll_mk0), rfl, bel.frame _, fun h => by cases h⟩

theorem over : Rows.fnSimplestBetweenRow.holds Try.pinned (OpenSpec.ofChange Rows.fnSimplestBetweenSpec) :=
  OpenClaim.holds_of_wide 6 Try.f6 rfl rfl rfl rfl rfl rfl rfl ⟨rfl, rfl, rfl, rfl, rfl⟩ rfl rfl rfl rfl rfl (by kernel_rfl) Try.func6 (by kernel_rfl)
    (of_decide_eq_true (by kernel_rfl)) (by unfold Func.isWrapper; first | (rw [if_pos (by decide +kernel)]; kernel_rfl) | (rw [if_neg (by decide +kernel)]; exact ⟨rfl, rfl⟩))
    (fun os started H enc _ => lifted os started H enc)

theorem proved : Rows.FnSimplestBetweenSaid := over
end Go.Proofs.Ytocjlhlohlkkmaa.fnSimplestBetween
