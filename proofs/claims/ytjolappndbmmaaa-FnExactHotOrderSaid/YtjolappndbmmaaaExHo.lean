/-
  HotOrder answers as its model, for every list of switches, leaves its argument as it was, and its answer owns its memory. No condition.
-/
import Derived.Test.YtjolappndbmmaaaRows
import Derived.Test.YtjolappndbmmaaaSwK
import Derived.Test.YtjolappndbmmaaaHoW
import Derived.Test.YtjolappndbmmaaaMarks
import Derived.WalkKit
import Derived.ProofKit
import Derived.OpenShut
import Derived.ShutString
import Derived.ChangeOld
import Derived.Below
namespace Go.Proofs.Ytjolappndbmmaaa.fnExactHotOrder
set_option maxRecDepth 100000
open Go.ChangeShapes Go.WideShapes Go.ChangeAt Go.RowKit
open Go.ChangeMaps (open_string shut_string)
set_option linter.unusedVariables false

theorem own : ownKnob Try.prog.godebug = none := by kernel_rfl
theorem laidOut : laidOutB Try.prog = true := by kernel_rfl


theorem belowN {B : Nat} {a w : World} (h : Below B a w) (k : Nat) : Below B a (w.drewN k) := ⟨h.os, h.tape, h.output, h.size, h.block⟩
theorem rowA {w : World} {B n c g : Nat} {A : Option Addr} {xs : List Int} (h : Own w B A n c xs) (e : some g = (Value.slice A n c).ownBlock ∨ (Value.slice A n c).ownBlock = some g) : A = some ⟨g, 0, none⟩ := by
  have e : (Value.slice A n c).ownBlock = some g := e.elim Eq.symm id
  rcases h.2.2 with ⟨hv, _⟩ | ⟨g2, cap, cur, hv, _⟩
  · rw [hv] at e; cases e
  · have hA : A = some ⟨g2, 0, none⟩ := by injection hv
    subst hA
    have : g2 = g := Option.some.inj e
    rw [this]

set_option maxRecDepth 100000 in
set_option maxHeartbeats 4000000 in
theorem walk (A0 : Option Addr) (n0 c0 : Nat) (cs0 : List (Int × Int)) (w : World) (w0 : Sws w w.heap.size A0 n0 cs0) (m0 : n0 ≤ 9223372036854775807) :
    Calls Try.prog 10 #[.slice A0 n0 c0] w fun e w' => e = .returned (.bool true) ∧ Below w.heap.size w w' := by
  by_cases hl : 1048576 < n0
  · have hlt : (-1 : Int) < 0 := by omega
    go_enter Try.func10, Try.ntmps10
    go_wp2_with fail
    refine (l_szSw _ _ _ _ _ m0 rfl).mono ?_
    rintro e y ⟨rfl, rfl⟩
    rw [if_pos hl]
    go_wp2_with fail
    go_ret
    exact ⟨rfl, Below.refl _ _⟩
  · have hn : n0 ≤ 1048576 := by omega
    have hlt : ¬ (1048576 : Int) - n0 < 0 := by omega
    have W0 := Lib.hid w0
    go_enter Try.func10, Try.ntmps10
    go_wp2_with fail
    refine (l_szSw _ _ _ _ _ m0 rfl).mono ?_
    rintro e y ⟨rfl, rfl⟩
    rw [if_neg hl]
    clear w0 m0
    go_wp2_with fail
    refine (l_toSws _ _ _ _ _ _ W0.out (Nat.le_refl _) hn).mono ?_
    rintro e y1 ⟨A1, c1, rfl, ho1, hb1⟩
    have S1 := Lib.hid ho1.sws
    have HB := Lib.hid hb1
    have z1 := hb1.size
    clear ho1 hb1
    go_wp2_with fail
    refine (s_hot _ _ _ _ _ cs0 S1.out (by omega)).mono ?_
    rintro e y2 ⟨A2, m2, c2, d, rfl, hi, ho2, hb2⟩
    have Hi := Lib.hid hi
    have O2 := Lib.hid ho2
    have HB := Lib.hid (HB.out.trans (hb2.mono z1))
    have z2 := hb2.size
    have G2 := Lib.hid (fun g (hA : A2 = some ⟨g, 0, none⟩) => (ho2.ge hA).2)
    clear hi hb2 S1 ho2
    go_wp2_with fail
    refine (l_toSws _ _ _ _ _ _ (W0.out.low HB.out (Nat.le_refl _)) (by omega) hn).mono ?_
    rintro e y3 ⟨A3, c3, rfl, ho3, hb3⟩
    have S3 := Lib.hid ho3
    have G3 := Lib.hid (fun g (hA : A3 = some ⟨g, 0, none⟩) => ho3.ge hA)
    have O2 := Lib.hid (O2.out.below hb3)
    have HB := Lib.hid (HB.out.trans (hb3.mono (by omega)))
    have z3 := hb3.size
    clear ho3 hb3
    go_wp2_with fail
    refine (i_hot _ _ _ _ _ cs0 S3.out.sws (Nat.le_refl _) (by omega)).mono ?_
    rintro e y4 ⟨A4, m4, c4, d4, rfl, hi, ho4, hb4⟩
    obtain rfl := hi.one Hi.out
    obtain rfl : m4 = m2 := by rw [← ho4.1, ← O2.out.1]
    have hm6 : m4 ≤ 6 := by
      rw [← ho4.1]
      cases hv : (decide (n0 ≤ 6) && Sw.all cs0) with
      | true =>
        rw [(hi.1 hv).len]
        rw [Bool.and_eq_true, decide_eq_true_eq] at hv
        exact hv.1
      | false => rw [hi.2 hv]; simp
    have O4 := Lib.hid ho4
    have G4 := Lib.hid (fun g (hA : A4 = some ⟨g, 0, none⟩) => (ho4.ge hA).1)
    have O2 := Lib.hid (O2.out.kept (gbelow none hb4 (Nat.le_refl _)) (fun g _ => by simp))
    have S4 := Lib.hid (S3.out.below hb4)
    have HB := Lib.hid (HB.out.trans (hb4.mono (by omega)))
    have z4 := hb4.size
    have HI := Lib.hid hi
    clear hi hb4 Hi S3 ho4
    go_wp2_with fail
    refine (eqs_t _ _ _ _ _ _ _ _ _ O4.out.ints O2.out.ints (by omega)).mono ?_
    rintro e y ⟨kd, rfl, rfl⟩
    have O4 := Lib.hid (O4.out.drewN kd)
    have O2 := Lib.hid (O2.out.drewN kd)
    have HB := Lib.hid (belowN HB.out kd)
    have S4 := Lib.hid (show OwS (y4.drewN kd) _ _ _ _ _ from S4.out)
    go_wp2_with fail
    refine (l_toSws _ _ _ _ _ _ (W0.out.low HB.out (Nat.le_refl _)) (by simp; omega) hn).mono ?_
    rintro e y5 ⟨A5, c5, rfl, ho5, hb5⟩
    have S5 := Lib.hid ho5.sws
    have O4 := Lib.hid (O4.out.below hb5)
    have O2 := Lib.hid (O2.out.below hb5)
    have S4 := Lib.hid (S4.out.below hb5)
    have z5 : y4.heap.size ≤ y5.heap.size := hb5.size
    have HB := Lib.hid (HB.out.trans (hb5.mono (by simp; omega)))
    clear ho5 hb5
    go_wp2_with fail
    refine (l_eqSws _ _ _ _ _ _ _ _ _ S4.out.sws S5.out (Nat.le_refl _) (Nat.le_refl _) hn).mono ?_
    rintro e y6 ⟨rfl, hb6⟩
    have O4 := Lib.hid (O4.out.below hb6)
    have O2 := Lib.hid (O2.out.below hb6)
    have S4 := Lib.hid (S4.out.below hb6)
    have z6 := hb6.size
    have HB := Lib.hid (HB.out.trans (hb6.mono (by omega)))
    clear hb6 S5
    go_wp2_with fail
    refine (l_markSws _ _ _ _ _ _ S4.out hn).mono ?_
    rintro e y7 ⟨rfl, hb7, hg7⟩
    have O4 := Lib.hid (O4.out.kept hg7 (fun g hA e => by have := G4.out g hA; have := G3.out g (S4.out.row (by first | exact e | exact e.symm)); omega))
    have O2 := Lib.hid (O2.out.kept hg7 (fun g hA e => by have := G2.out g hA; have := G3.out g (S4.out.row (by first | exact e | exact e.symm)); omega))
    have z7 := hb7.size
    have HB := Lib.hid (HB.out.trans (hb7.mono (by omega)))
    have hk0 : ¬ (1 : Int) + 2 * n0 < 0 := by omega
    clear hb7 hg7 S4
    go_wp2_with fail
    refine (eqs_t _ _ _ _ _ _ _ _ _ O4.out.ints O2.out.ints (by omega)).mono ?_
    rintro e y ⟨kd7, rfl, rfl⟩
    have O4 := Lib.hid (O4.out.drewN kd7)
    have O2 := Lib.hid (O2.out.drewN kd7)
    have HB := Lib.hid (belowN HB.out kd7)
    go_wp2_with fail
    refine (mark_any _ _ _ _ _ _ 1 O4.out (by omega) (by omega) (by omega)).mono ?_
    rintro e y8 ⟨rfl, ho8, hg8⟩
    have O2 := Lib.hid (O2.out.kept hg8 (fun g hA e => by have := G2.out g hA; have := G4.out g (rowA O4.out (by first | exact Or.inl e | exact Or.inr e)); omega))
    have HB := Lib.hid (HB.out.trans (below_g hg8 (by simp; omega) (fun g e => by have := G4.out g (rowA O4.out (by first | exact Or.inl e | exact Or.inr e)); omega)))
    have z8 : y7.heap.size ≤ y8.heap.size := hg8.size
    have O4 := Lib.hid ho8
    clear ho8 hg8
    go_wp2_with fail
    refine (held_t _ _ _ _ _ 1 O4.out.ints (by omega) (by omega) (by omega)).mono ?_
    rintro e y ⟨rfl, rfl⟩
    have hq0 : ¬ (1 : Int) + m4 < 0 := by omega
    have hqq : ((1 : Int) + m4 != 1 + m4) = false := by simp
    go_wp2_with fail
    refine (l_toSws _ _ _ _ _ _ (W0.out.low HB.out (Nat.le_refl _)) (by omega) hn).mono ?_
    rintro e y9 ⟨A9, c9, rfl, ho9, hb9⟩
    have S9 := Lib.hid ho9.sws
    have O4 := Lib.hid (O4.out.below hb9)
    have O2 := Lib.hid (O2.out.below hb9)
    have z9 := hb9.size
    have HB := Lib.hid (HB.out.trans (hb9.mono (by omega)))
    clear ho9 hb9
    go_wp2_with fail
    refine (i_hot _ _ _ _ _ cs0 S9.out (Nat.le_refl _) (by omega)).mono ?_
    rintro e y10 ⟨A10, m10, c10, d10, rfl, hi10, ho10, hb10⟩
    obtain rfl := HI.out.one hi10
    obtain rfl : m4 = m10 := by rw [← ho10.1, ← O2.out.1]
    have O10 := Lib.hid ho10
    have O4 := Lib.hid (O4.out.below hb10)
    have O2 := Lib.hid (O2.out.below hb10)
    have HB := Lib.hid (HB.out.trans (hb10.mono (by omega)))
    clear hi10 ho10 hb10 S9
    go_wp2_with fail
    refine (eqs_t _ _ _ _ _ _ _ _ _ O10.out.ints O2.out.ints (by omega)).mono ?_
    rintro e y ⟨kd10, rfl, rfl⟩
    have O4 := Lib.hid (O4.out.drewN kd10)
    have HB := Lib.hid (belowN HB.out kd10)
    go_wp2_with fail
    refine (held_t _ _ _ _ _ 1 O4.out.ints (by omega) (by omega) (by omega)).mono ?_
    rintro e y ⟨rfl, rfl⟩
    go_wp2_with fail
    go_ret
    exact ⟨rfl, HB.out⟩

set_option maxRecDepth 100000 in
theorem lifted (os : Os) (started : os.Started) (H : Type) (enc : TypeId × Value → H) :
    ReturnsInHanded {} Try.checked os 10 .any (Rows.fnExactHotOrderSpec.pre6 enc Try.prog Try.f10 Rows.fnExactHotOrderRow.domain false) (Rows.fnExactHotOrderSpec.post enc Try.prog Try.f10 false true false false) := by
  refine returnsInHanded_of_change (C := Try.checked) own started (by kernel_rfl) Try.func10
    (ChangeSpec.witness6 (enc := enc) (C := Try.checked) false ⟨#[], #[.slice none 0 0], []⟩ 8 (by kernel_rfl) (by kernel_rfl) (by kernel_rfl) (by kernel_rfl)) ?_
  intro W base args ds gs before hval0 hW hcnd _
  have hval : ∀ (j : Nat) t v, Try.f10.params[j]? = some t → args[j]? = some v → Value.okWide Try.prog W .any base t v := hval0
  have hW' := hW
  obtain ⟨p, q, hA0, hV, rfl, hfz, hnd⟩ := hW
  have hA : DataW.TrodAll enc Try.prog W 0 (fun _ => true) true Try.f10.params.toList args.toList ds p := hA0
  rw [Try.params10] at hA hval
  obtain ⟨v0, vs0, d0, ds0, p0, q0, hargs, rfl, rfl, h0, r0⟩ := trodAll_cons hA
  obtain ⟨rfl, rfl, rfl⟩ := trodAll_nil r0
  obtain rfl : args = #[v0] := by cases args; simp_all
  obtain ⟨rfl, rfl⟩ := trodVars_none hV
  have k0 := h0
  have lt0 : ∀ x ∈ p0, x.block < W.heap.size := by obtain ⟨m, hm⟩ := k0; exact DataW.trod_lt m _ _ _ hm
  obtain ⟨A0, n0, c0, cs0, rfl, w0, m0⟩ := open_sws (hval 0 40 v0 rfl rfl) h0
  clear hA0 hval0
  refine (walk A0 n0 c0 cs0 W w0 m0).mono fun e W' ⟨he, bel⟩ => ?_
  subst he
  exact ⟨_, rfl, _, _, _, [], _, [], hW', trodAll_mk1 (shut_bool Try.underlying4 _), (trodAll_cons_mk (Below.trod laidOut (by kernel_rfl) (of_decide_eq_true (by kernel_rfl)) k0 bel lt0) trodAll_mk0), rfl, bel.frame _, fun h => by cases h⟩

theorem over : Rows.fnExactHotOrderRow.holds Try.pinned (OpenSpec.ofChange Rows.fnExactHotOrderSpec) :=
  OpenClaim.holds_of_wide 10 Try.f10 rfl rfl rfl rfl rfl rfl rfl ⟨rfl, rfl, rfl, rfl, rfl⟩ rfl rfl rfl rfl rfl (by kernel_rfl) Try.func10 (by kernel_rfl)
    (of_decide_eq_true (by kernel_rfl)) (by unfold Func.isWrapper; first | (rw [if_pos (by decide +kernel)]; kernel_rfl) | (rw [if_neg (by decide +kernel)]; exact ⟨rfl, rfl⟩))
    (fun os started H enc _ => lifted os started H enc)

theorem proved : Rows.FnExactHotOrderSaid := over
end Go.Proofs.Ytjolappndbmmaaa.fnExactHotOrder
