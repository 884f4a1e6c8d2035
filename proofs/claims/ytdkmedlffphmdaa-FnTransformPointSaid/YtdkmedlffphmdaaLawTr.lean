/-
  Symmetries can be undone: the law of TransformPoint holds for every code. No condition.
-/
import Derived.Test.YtdkmedlffphmdaaRows
import Derived.Test.YtdkmedlffphmdaaSpecPtB
import Derived.Test.YtdkmedlffphmdaaImplPtB
import Derived.Test.YtdkmedlffphmdaaDrawPt
import Derived.Test.YtdkmedlffphmdaaUndone
import Derived.WalkKit
import Derived.ProofKit
import Derived.OpenShut
import Derived.ShutString
import Derived.ChangeOld
import Derived.Below
namespace Go.Proofs.Ytdkmedlffphmdaa.fnTransformPoint
open Go.ChangeShapes Go.WideShapes Go.ChangeAt Go.RowKit
open Go.ChangeMaps (open_string shut_string)
set_option linter.unusedVariables false

theorem own : ownKnob Try.prog.godebug = none := by kernel_rfl
theorem laidOut : laidOutB Try.prog = true := by kernel_rfl


theorem walk (a0 : Option Addr) (len0 cap0 : Nat) (z0 : List Int) (w : World) (w0 : IsRow .u8 w a0 len0 cap0 z0) :
    Calls Try.prog 5 #[.slice a0 len0 cap0] w fun e w' => e = .returned (.bool true) ∧ Below w.heap.size w w' := by
  by_cases hl : 1048576 < len0
  · go_enter Try.func5, Try.ntmps5
    go_wp2_with fail
    go_ret
    exact ⟨rfl, Below.refl _ _⟩
  · have hl' : decide ((1048576 : Int) < (len0 : Int)) = false := by rw [decide_eq_false_iff_not]; omega
    go_enter Try.func5, Try.ntmps5
    go_wp2_with fail
    refine (d_tr w a0 len0 cap0 z0 w0).mono ?_
    rintro e w1 ⟨s, k, p, rfl, hb⟩
    clear w0
    by_cases hok : Pt.okP s p = true ∧ Pt.okK k = true
    · obtain ⟨⟨h1, h2, h3, h4⟩, ⟨k1, k2⟩⟩ := And.intro ((Pt.okP_iff s p).1 hok.1) ((Pt.okK_iff k).1 hok.2)
      obtain ⟨u1, u2, u3, u4⟩ := Pt.undone_parts s k p h1 h2 h3 h4 k1 k2
      have hsq := Pt.sq_bd s h1 h2
      have hi : 0 ≤ Pt.tr s k p := by rw [Pt.tr_in s k p h1 h2 h3 h4 k1 k2]; exact (Pt.img_bd s k p h1 h2 h3 h4).1
      have hd : decide (Pt.tr s k p < 0) = false := by rw [decide_eq_false_iff_not]; omega
      have U2 := Lib.hid u2
      have U3 := Lib.hid u3
      have U4 := Lib.hid u4
      clear hok u2 u3 u4
      go_wp2_with fail
      refine (i_tr _ _ _ _).mono ?_
      rintro e w2 ⟨rfl, hb2⟩
      have hb' := hb.trans (hb2.mono hb.size)
      clear hb2 hb
      go_wp2_with fail
      refine (s_tr _ _ _ _).mono ?_
      rintro e w' ⟨rfl, rfl⟩
      go_wp2_with fail
      go_loopw [7, 8] (fun x i wr => ∃ n : Nat, n ≤ 4 ∧ i = .int .i64 n ∧ x = .int .i64 (Pt.rep s p n) ∧ Below w.heap.size w wr) (fun _ i _ => 4 - (intOf i).toNat)
      case atStart => exact ⟨0, by omega, rfl, rfl, hb'⟩
      case round =>
        obtain ⟨n, hn, rfl, rfl, hbi⟩ := hrel
        by_cases hlt : n < 4
        · go_wp2_with fail
          refine (i_tr _ _ _ _).mono ?_
          rintro e w3 ⟨rfl, hb3⟩
          have hbn := hbi.trans (hb3.mono hbi.size)
          clear hb3
          go_wp2_with fail
          go_roundw
          case rel => exact ⟨n + 1, by omega, by go_num, rfl, hbn⟩
          case measure => simp [intOf]; omega
        · obtain rfl : n = 4 := by omega
          have pp : ((p + 1) % (s * s) == p) = true ∨ ((p + 1) % (s * s) == p) = false := by cases (p + 1) % (s * s) == p <;> simp
          rcases pp with pp | pp <;> by_cases h4k : 4 ≤ k
          · have v := U2.out (by omega)
            go_wp2_with fail
            refine (i_tr _ _ _ _).mono ?_
            rintro e w5 ⟨rfl, hb5⟩
            have hbn := hbi.trans (hb5.mono hbi.size)
            clear hb5
            go_wp2_with fail
            go_ret
            exact ⟨rfl, hbn⟩
          · have v := U3.out (by omega)
            go_wp2_with fail
            refine (i_tr _ _ _ _).mono ?_
            rintro e w5 ⟨rfl, hb5⟩
            have hbn := hbi.trans (hb5.mono hbi.size)
            clear hb5
            go_wp2_with fail
            go_ret
            exact ⟨rfl, hbn⟩
          · have v := U2.out (by omega)
            have z := U4.out pp
            go_wp2_with fail
            refine (i_tr _ _ _ _).mono ?_
            rintro e w5 ⟨rfl, hb5⟩
            have hbn := hbi.trans (hb5.mono hbi.size)
            clear hb5
            go_wp2_with fail
            refine (i_tr _ _ _ _).mono ?_
            rintro e w6 ⟨rfl, hb6⟩
            have hbm := hbn.trans (hb6.mono hbn.size)
            clear hb6
            go_wp2_with fail
            go_ret
            exact ⟨rfl, hbm⟩
          · have v := U3.out (by omega)
            have z := U4.out pp
            go_wp2_with fail
            refine (i_tr _ _ _ _).mono ?_
            rintro e w5 ⟨rfl, hb5⟩
            have hbn := hbi.trans (hb5.mono hbi.size)
            clear hb5
            go_wp2_with fail
            refine (i_tr _ _ _ _).mono ?_
            rintro e w6 ⟨rfl, hb6⟩
            have hbm := hbn.trans (hb6.mono hbn.size)
            clear hb6
            go_wp2_with fail
            go_ret
            exact ⟨rfl, hbm⟩
    · have hc : Pt.tr s k p = -1 := by
        unfold Pt.tr
        rw [if_neg (by simpa using hok)]
      clear hok
      go_wp2_with fail
      refine (i_tr _ _ _ _).mono ?_
      rintro e w2 ⟨rfl, hb2⟩
      have hb' := hb.trans (hb2.mono hb.size)
      clear hb2 hb
      go_wp2_with fail
      refine (s_tr _ _ _ _).mono ?_
      rintro e w' ⟨rfl, rfl⟩
      go_wp2_with fail
      refine (s_tr _ _ _ _).mono ?_
      rintro e w' ⟨rfl, rfl⟩
      go_wp2_with fail
      go_ret
      exact ⟨rfl, hb'⟩

set_option maxRecDepth 100000 in
theorem lifted (os : Os) (started : os.Started) (H : Type) (enc : TypeId × Value → H) :
    ReturnsInHanded {} Try.checked os 5 .any (Rows.fnTransformPointSpec.pre6 enc Try.prog Try.f5 Rows.fnTransformPointRow.domain false) (Rows.fnTransformPointSpec.post enc Try.prog Try.f5 false true false false) := by
  refine returnsInHanded_of_change (C := Try.checked) own started (by kernel_rfl) Try.func5
    (ChangeSpec.witness6 (enc := enc) (C := Try.checked) false ⟨#[], #[.slice none 0 0], []⟩ 8 (by kernel_rfl) (by kernel_rfl) (by kernel_rfl) (by kernel_rfl)) ?_
  intro W base args ds gs before hval0 hW hcnd _
  have hval : ∀ (j : Nat) t v, Try.f5.params[j]? = some t → args[j]? = some v → Value.okWide Try.prog W .any base t v := hval0
  have hW' := hW
  obtain ⟨p, q, hA0, hV, rfl, hfz, hnd⟩ := hW
  have hA : DataW.TrodAll enc Try.prog W 0 (fun _ => true) true Try.f5.params.toList args.toList ds p := hA0
  rw [Try.params5] at hA hval
  obtain ⟨v0, vs0, d0, ds0, p0, q0, hargs, rfl, rfl, h0, r0⟩ := trodAll_cons hA
  obtain ⟨rfl, rfl, rfl⟩ := trodAll_nil r0
  obtain rfl : args = #[v0] := by cases args; simp_all
  obtain ⟨rfl, rfl⟩ := trodVars_none hV
  obtain ⟨a0, len0, cap0, rfl⟩ := okWide_slice Try.underlying22 (hval 0 22 v0 rfl rfl)
  have k0 := h0
  have lt0 : ∀ x ∈ p0, x.block < W.heap.size := by obtain ⟨m, hm⟩ := k0; exact DataW.trod_lt m _ _ _ hm
  obtain ⟨z0, w0⟩ : ∃ zs, IsRow .u8 W a0 len0 cap0 zs := by
    obtain ⟨fuel, hf⟩ := h0
    rcases open_ints Try.underlying22 Try.underlying5 (by kernel_rfl) hf with ⟨hcs, _⟩ | ⟨x, l, c, zs, hcs, _, hl, hm, hz, _, hcell, hwz⟩
    · simp [Value.cells] at hcs
      obtain ⟨rfl, rfl, rfl⟩ := hcs
      exact ⟨[], .inl ⟨rfl, rfl, rfl, rfl⟩⟩
    · simp [Value.cells] at hcs
      obtain ⟨rfl, rfl, rfl⟩ := hcs
      exact ⟨zs, .inr ⟨_, rfl, hl, hm, by simpa using hz, hcell, hwz⟩⟩
  clear hA0 hval0
  refine (walk a0 len0 cap0 z0 W w0).mono fun e W' ⟨he, bel⟩ => ?_
  subst he
  exact ⟨_, rfl, _, _, _, [], _, [], hW', trodAll_mk1 (shut_bool Try.underlying4 _), (trodAll_cons_mk (Below.trod laidOut (by kernel_rfl) (of_decide_eq_true (by kernel_rfl)) k0 bel lt0) trodAll_mk0), rfl, bel.frame _, fun h => by cases h⟩

theorem over : Rows.fnTransformPointRow.holds Try.pinned (OpenSpec.ofChange Rows.fnTransformPointSpec) :=
  OpenClaim.holds_of_wide 5 Try.f5 rfl rfl rfl rfl rfl rfl rfl ⟨rfl, rfl, rfl, rfl, rfl⟩ rfl rfl rfl rfl rfl (by kernel_rfl) Try.func5 (by kernel_rfl)
    (of_decide_eq_true (by kernel_rfl)) (by unfold Func.isWrapper; first | (rw [if_pos (by decide +kernel)]; kernel_rfl) | (rw [if_neg (by decide +kernel)]; exact ⟨rfl, rfl⟩))
    (fun os started H enc _ => lifted os started H enc)

theorem proved : Rows.FnTransformPointSaid := over
end Go.Proofs.Ytdkmedlffphmdaa.fnTransformPoint
