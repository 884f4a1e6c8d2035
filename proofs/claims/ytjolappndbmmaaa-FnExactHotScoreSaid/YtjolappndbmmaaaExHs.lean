/-
  HotScore answers as its model, for every list of switches and both players, and leaves its argument as it was. No condition.
-/
import Derived.Test.YtjolappndbmmaaaRows
import Derived.Test.YtjolappndbmmaaaSwK
import Derived.Test.YtjolappndbmmaaaHoW
import Derived.Test.YtjolappndbmmaaaMarks
import Derived.WalkKit
import Derived.ProofKit
import Derived.OpenShut
import Derived.ShutString
import Derived.ChangeOld
import Derived.Below
namespace Go.Proofs.Ytjolappndbmmaaa.fnExactHotScore
set_option maxRecDepth 100000
open Go.ChangeShapes Go.WideShapes Go.ChangeAt Go.RowKit
open Go.ChangeMaps (open_string shut_string)
set_option linter.unusedVariables false

theorem own : ownKnob Try.prog.godebug = none := by kernel_rfl
theorem laidOut : laidOutB Try.prog = true := by kernel_rfl


theorem belowN {B : Nat} {a w : World} (h : Below B a w) (k : Nat) : Below B a (w.drewN k) := ⟨h.os, h.tape, h.output, h.size, h.block⟩
theorem rowA {w : World} {B n c g : Nat} {A : Option Addr} {xs : List Int} (h : Own w B A n c xs) (e : some g = (Value.slice A n c).ownBlock ∨ (Value.slice A n c).ownBlock = some g) : A = some ⟨g, 0, none⟩ := by
  have e : (Value.slice A n c).ownBlock = some g := e.elim Eq.symm id
  rcases h.2.2 with ⟨hv, _⟩ | ⟨g2, cap, cur, hv, _⟩
  · rw [hv] at e; cases e
  · have hA : A = some ⟨g2, 0, none⟩ := by injection hv
    subst hA
    have : g2 = g := Option.some.inj e
    rw [this]

set_option maxRecDepth 100000 in
set_option maxHeartbeats 4000000 in
theorem walk (A0 : Option Addr) (n0 c0 : Nat) (cs0 : List (Int × Int)) (a1 : Bool) (w : World) (w0 : Sws w w.heap.size A0 n0 cs0) (m0 : n0 ≤ 9223372036854775807) :
    Calls Try.prog 12 #[.slice A0 n0 c0, .bool a1] w fun e w' => e = .returned (.bool true) ∧ Below w.heap.size w w' := by
  by_cases hl : 1048576 < n0
  · have hlt : (-1 : Int) < 0 := by omega
    go_enter Try.func12, Try.ntmps12
    go_wp2_with fail
    refine (l_szSw _ _ _ _ _ m0 rfl).mono ?_
    rintro e y ⟨rfl, rfl⟩
    rw [if_pos hl]
    go_wp2_with fail
    go_ret
    exact ⟨rfl, Below.refl _ _⟩
  · have hn : n0 ≤ 1048576 := by omega
    have hlt : ¬ (1048576 : Int) - n0 < 0 := by omega
    have W0 := Lib.hid w0
    go_enter Try.func12, Try.ntmps12
    go_wp2_with fail
    refine (l_szSw _ _ _ _ _ m0 rfl).mono ?_
    rintro e y ⟨rfl, rfl⟩
    rw [if_neg hl]
    clear w0 m0
    go_wp2_with fail
    refine (l_toSws _ _ _ _ _ _ W0.out (Nat.le_refl _) hn).mono ?_
    rintro e y1 ⟨A1, c1, rfl, ho1, hb1⟩
    have S1 := Lib.hid ho1.sws
    have HB := Lib.hid hb1
    have z1 := hb1.size
    clear ho1 hb1
    go_wp2_with fail
    refine (s_hotScore _ _ _ _ _ cs0 a1 S1.out (by omega)).mono ?_
    rintro e y2 ⟨v, b, rfl, hi, hb2⟩
    have Hi := Lib.hid hi
    have HB := Lib.hid (HB.out.trans (hb2.mono z1))
    have z2 := hb2.size
    clear hi hb2 S1
    go_wp2_with fail
    refine (l_toSws _ _ _ _ _ _ (W0.out.low HB.out (Nat.le_refl _)) (by omega) hn).mono ?_
    rintro e y3 ⟨A3, c3, rfl, ho3, hb3⟩
    have S3 := Lib.hid ho3.sws
    have HB := Lib.hid (HB.out.trans (hb3.mono (by omega)))
    have z3 := hb3.size
    clear ho3 hb3
    go_wp2_with fail
    refine (i_hotScore _ _ _ _ _ cs0 a1 S3.out (Nat.le_refl _) (by omega)).mono ?_
    rintro e y4 ⟨v', b', rfl, hi, hb4⟩
    obtain ⟨rfl, rfl⟩ := hi.one Hi.out
    have S4 := Lib.hid (S3.out.low hb4 (Nat.le_refl _))
    have HB := Lib.hid (HB.out.trans (hb4.mono (by omega)))
    have z4 := hb4.size
    have hvv : (v' != v') = false := by simp
    have hbb : (b' != b') = false := by simp
    clear hi hb4 Hi S3
    go_wp2_with fail
    refine (l_toSws _ _ _ _ _ _ (W0.out.low HB.out (Nat.le_refl _)) (by omega) hn).mono ?_
    rintro e y5 ⟨A5, c5, rfl, ho5, hb5⟩
    have S5 := Lib.hid ho5.sws
    have S4 := Lib.hid (S4.out.low hb5 (by omega))
    have HB := Lib.hid (HB.out.trans (hb5.mono (by omega)))
    have z5 := hb5.size
    clear ho5 hb5
    go_wp2_with fail
    refine (l_eqSws _ _ _ _ _ _ _ _ _ S4.out S5.out (by omega) (Nat.le_refl _) hn).mono ?_
    rintro e y6 ⟨rfl, hb6⟩
    have HB := Lib.hid (HB.out.trans (hb6.mono (by omega)))
    clear hb6
    go_wp2_with fail
    go_ret
    exact ⟨rfl, HB.out⟩

set_option maxRecDepth 100000 in
theorem lifted (os : Os) (started : os.Started) (H : Type) (enc : TypeId × Value → H) :
    ReturnsInHanded {} Try.checked os 12 .any (Rows.fnExactHotScoreSpec.pre6 enc Try.prog Try.f12 Rows.fnExactHotScoreRow.domain false) (Rows.fnExactHotScoreSpec.post enc Try.prog Try.f12 false true false false) := by
  refine returnsInHanded_of_change (C := Try.checked) own started (by kernel_rfl) Try.func12
    (ChangeSpec.witness6 (enc := enc) (C := Try.checked) false ⟨#[], #[.slice none 0 0, .bool false], []⟩ 8 (by kernel_rfl) (by kernel_rfl) (by kernel_rfl) (by kernel_rfl)) ?_
  intro W base args ds gs before hval0 hW hcnd _
  have hval : ∀ (j : Nat) t v, Try.f12.params[j]? = some t → args[j]? = some v → Value.okWide Try.prog W .any base t v := hval0
  have hW' := hW
  obtain ⟨p, q, hA0, hV, rfl, hfz, hnd⟩ := hW
  have hA : DataW.TrodAll enc Try.prog W 0 (fun _ => true) true Try.f12.params.toList args.toList ds p := hA0
  rw [Try.params12] at hA hval
  obtain ⟨v0, vs0, d0, ds0, p0, q0, hargs, rfl, rfl, h0, r0⟩ := trodAll_cons hA
  obtain ⟨v1, vs1, d1, ds1, p1, q1, rfl, rfl, rfl, h1, r1⟩ := trodAll_cons r0
  obtain ⟨rfl, rfl, rfl⟩ := trodAll_nil r1
  obtain rfl : args = #[v0, v1] := by cases args; simp_all
  obtain ⟨rfl, rfl⟩ := trodVars_none hV
  have k0 := h0
  have lt0 : ∀ x ∈ p0, x.block < W.heap.size := by obtain ⟨m, hm⟩ := k0; exact DataW.trod_lt m _ _ _ hm
  obtain ⟨A0, n0, c0, cs0, rfl, w0, m0⟩ := open_sws (hval 0 40 v0 rfl rfl) h0
  obtain ⟨a1, rfl, rfl, rfl⟩ := open_bool Try.underlying4 (hval 1 4 v1 rfl rfl) h1
  clear hA0 hval0
  refine (walk A0 n0 c0 cs0 a1 W w0 m0).mono fun e W' ⟨he, bel⟩ => ?_
  subst he
  exact ⟨_, rfl, _, _, _, [], _, [], hW', trodAll_mk1 (shut_bool Try.underlying4 _), (trodAll_cons_mk (Below.trod laidOut (by kernel_rfl) (of_decide_eq_true (by kernel_rfl)) k0 bel lt0) (trodAll_cons_mk (shut_bool Try.underlying4 a1) trodAll_mk0)), rfl, bel.frame _, fun h => by cases h⟩

theorem over : Rows.fnExactHotScoreRow.holds Try.pinned (OpenSpec.ofChange Rows.fnExactHotScoreSpec) :=
  OpenClaim.holds_of_wide 12 Try.f12 rfl rfl rfl rfl rfl rfl rfl ⟨rfl, rfl, rfl, rfl, rfl⟩ rfl rfl rfl rfl rfl (by kernel_rfl) Try.func12 (by kernel_rfl)
    (of_decide_eq_true (by kernel_rfl)) (by unfold Func.isWrapper; first | (rw [if_pos (by decide +kernel)]; kernel_rfl) | (rw [if_neg (by decide +kernel)]; exact ⟨rfl, rfl⟩))
    (fun os started H enc _ => lifted os started H enc)

theorem proved : Rows.FnExactHotScoreSaid := over
end Go.Proofs.Ytjolappndbmmaaa.fnExactHotScore
