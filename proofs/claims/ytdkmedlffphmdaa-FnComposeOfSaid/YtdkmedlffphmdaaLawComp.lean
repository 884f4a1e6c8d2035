/-
  Two symmetries are one: the law of ComposeOf holds for every code. No condition.
-/
import Derived.Test.YtdkmedlffphmdaaRows
import Derived.Test.YtdkmedlffphmdaaSpecPtB
import Derived.Test.YtdkmedlffphmdaaImplPtB
import Derived.Test.YtdkmedlffphmdaaDrawPt
import Derived.WalkKit
import Derived.ProofKit
import Derived.OpenShut
import Derived.ShutString
import Derived.ChangeOld
import Derived.Below
namespace Go.Proofs.Ytdkmedlffphmdaa.fnComposeOf
open Go.ChangeShapes Go.WideShapes Go.ChangeAt Go.RowKit
open Go.ChangeMaps (open_string shut_string)
set_option linter.unusedVariables false

theorem own : ownKnob Try.prog.godebug = none := by kernel_rfl
theorem laidOut : laidOutB Try.prog = true := by kernel_rfl


theorem walk (a0 : Option Addr) (len0 cap0 : Nat) (z0 : List Int) (w : World) (w0 : IsRow .u8 w a0 len0 cap0 z0) :
    Calls Try.prog 6 #[.slice a0 len0 cap0] w fun e w' => e = .returned (.bool true) ∧ Below w.heap.size w w' := by
  by_cases hl : 1048576 < len0
  · go_enter Try.func6, Try.ntmps6
    go_wp2_with fail
    go_ret
    exact ⟨rfl, Below.refl _ _⟩
  · have hl' : decide ((1048576 : Int) < (len0 : Int)) = false := by rw [decide_eq_false_iff_not]; omega
    go_enter Try.func6, Try.ntmps6
    go_wp2_with fail
    refine (d_comp w a0 len0 cap0 z0 w0).mono ?_
    rintro e w1 ⟨a, b, rfl, hb⟩
    clear w0
    by_cases hok : Pt.okK a = true ∧ Pt.okK b = true
    · obtain ⟨⟨a1, a2⟩, ⟨b1, b2⟩⟩ := And.intro ((Pt.okK_iff a).1 hok.1) ((Pt.okK_iff b).1 hok.2)
      obtain ⟨c1, c2⟩ := Pt.comp_bd a b a1 a2 b1 b2
      have i1 : (Pt.comp a 0 == a) = true := by rw [(Pt.comp_id a a1 a2).1]; simp
      have i2 : (Pt.comp 0 b == b) = true := by rw [(Pt.comp_id b b1 b2).2]; simp
      clear hok
      go_wp2_with fail
      refine (i_comp _ _ _).mono ?_
      rintro e w' ⟨rfl, rfl⟩
      go_wp2_with fail
      refine (s_comp _ _ _).mono ?_
      rintro e w' ⟨rfl, rfl⟩
      go_wp2_with fail
      go_loopw [6] (fun i wr => ∃ s : Nat, 1 ≤ s ∧ s ≤ 8 ∧ i = .int .i64 s ∧ Below w.heap.size w wr) (fun i _ => 8 - (intOf i).toNat)
      case atStart => exact ⟨1, by omega, by omega, rfl, hb⟩
      case round =>
        obtain ⟨s, hs1, hs2, rfl, hbr⟩ := hrel
        obtain ⟨wo, rfl⟩ : ∃ wo : World, wo = wr := ⟨_, rfl⟩
        by_cases hlt : s < 8
        · have hsq := Pt.sq_bd s (by omega) (by omega)
          have hs7 : decide ((s : Int) ≤ 7) = true := by rw [decide_eq_true_iff]; omega
          go_wp2_with fail
          go_loopw [7] (fun i wr => ∃ p : Nat, (p : Int) ≤ (s : Int) * (s : Int) ∧ i = .int .i64 p ∧ Below w.heap.size w wr) (fun i _ => ((s : Int) * (s : Int)).toNat - (intOf i).toNat)
          case atStart => exact ⟨0, by omega, rfl, hbr⟩
          case round =>
            obtain ⟨p, hp, rfl, hbi⟩ := hrel
            clear hbr
            by_cases hpl : (p : Int) < (s : Int) * (s : Int)
            · have q : (Pt.tr s (Pt.comp a b) p != Pt.tr s b (Pt.tr s a p)) = false := by
                rw [Pt.comp_tr a b s p a1 a2 b1 b2 (by omega) (by omega) (by omega) hpl]; simp
              go_wp2_with fail
              refine (i_tr _ _ _ _).mono ?_
              rintro e w2 ⟨rfl, hb2⟩
              go_wp2_with fail
              refine (i_tr _ _ _ _).mono ?_
              rintro e w3 ⟨rfl, hb3⟩
              go_wp2_with fail
              refine (i_tr _ _ _ _).mono ?_
              rintro e w4 ⟨rfl, hb4⟩
              have z2 := hb2.size
              have z3 := hb3.size
              have z1 := hbi.size
              have hbn := ((hbi.trans (hb2.mono (by omega))).trans (hb3.mono (by omega))).trans (hb4.mono (by omega))
              clear hb2 hb3 hb4
              go_wp2_with fail
              go_roundw
              case rel => first | exact ⟨p + 1, by omega, by go_num, hbn⟩ | ((repeat apply Exists.intro); exact ⟨⟨p + 1, by omega, by go_num, hbn⟩, rfl⟩)
              case measure => simp [intOf]; omega
            · go_wp2_with fail
              go_roundw
              case rel => first | exact ⟨s + 1, by omega, by omega, by go_num, hbi⟩ | ((repeat apply Exists.intro); exact ⟨⟨s + 1, by omega, by omega, by go_num, hbi⟩, rfl⟩)
              case measure => simp [intOf]; omega
        · go_wp2_with fail
          refine (i_comp _ _ _).mono ?_
          rintro e w' ⟨rfl, rfl⟩
          go_wp2_with fail
          refine (i_comp _ _ _).mono ?_
          rintro e w' ⟨rfl, rfl⟩
          go_wp2_with fail
          go_ret
          exact ⟨rfl, hbr⟩
    · have hc : Pt.comp a b = -1 := by
        unfold Pt.comp
        rw [if_neg (by simpa using hok)]
      clear hok
      go_wp2_with fail
      refine (i_comp _ _ _).mono ?_
      rintro e w' ⟨rfl, rfl⟩
      go_wp2_with fail
      refine (s_comp _ _ _).mono ?_
      rintro e w' ⟨rfl, rfl⟩
      go_wp2_with fail
      refine (s_comp _ _ _).mono ?_
      rintro e w' ⟨rfl, rfl⟩
      go_wp2_with fail
      go_ret
      exact ⟨rfl, hb⟩

set_option maxRecDepth 100000 in
theorem lifted (os : Os) (started : os.Started) (H : Type) (enc : TypeId × Value → H) :
    ReturnsInHanded {} Try.checked os 6 .any (Rows.fnComposeOfSpec.pre6 enc Try.prog Try.f6 Rows.fnComposeOfRow.domain false) (Rows.fnComposeOfSpec.post enc Try.prog Try.f6 false true false false) := by
  refine returnsInHanded_of_change (C := Try.checked) own started (by kernel_rfl) Try.func6
    (ChangeSpec.witness6 (enc := enc) (C := Try.checked) false ⟨#[], #[.slice none 0 0], []⟩ 8 (by kernel_rfl) (by kernel_rfl) (by kernel_rfl) (by kernel_rfl)) ?_
  intro W base args ds gs before hval0 hW hcnd _
  have hval : ∀ (j : Nat) t v, Try.f6.params[j]? = some t → args[j]? = some v → Value.okWide Try.prog W .any base t v := hval0
  have hW' := hW
  obtain ⟨p, q, hA0, hV, rfl, hfz, hnd⟩ := hW
  have hA : DataW.TrodAll enc Try.prog W 0 (fun _ => true) true Try.f6.params.toList args.toList ds p := hA0
  rw [Try.params6] at hA hval
  obtain ⟨v0, vs0, d0, ds0, p0, q0, hargs, rfl, rfl, h0, r0⟩ := trodAll_cons hA
  obtain ⟨rfl, rfl, rfl⟩ := trodAll_nil r0
  obtain rfl : args = #[v0] := by cases args; simp_all
  obtain ⟨rfl, rfl⟩ := trodVars_none hV
  obtain ⟨a0, len0, cap0, rfl⟩ := okWide_slice Try.underlying22 (hval 0 22 v0 rfl rfl)
  have k0 := h0
  have lt0 : ∀ x ∈ p0, x.block < W.heap.size := by obtain ⟨m, hm⟩ := k0; exact DataW.trod_lt m _ _ _ hm
  obtain ⟨z0, w0⟩ : ∃ zs, IsRow .u8 W a0 len0 cap0 zs := by
    obtain ⟨fuel, hf⟩ := h0
    rcases open_ints Try.underlying22 Try.underlying5 (by kernel_rfl) hf with ⟨hcs, _⟩ | ⟨x, l, c, zs, hcs, _, hl, hm, hz, _, hcell, hwz⟩
    · simp [Value.cells] at hcs
      obtain ⟨rfl, rfl, rfl⟩ := hcs
      exact ⟨[], .inl ⟨rfl, rfl, rfl, rfl⟩⟩
    · simp [Value.cells] at hcs
      obtain ⟨rfl, rfl, rfl⟩ := hcs
      exact ⟨zs, .inr ⟨_, rfl, hl, hm, by simpa using hz, hcell, hwz⟩⟩
  clear hA0 hval0
  refine (walk a0 len0 cap0 z0 W w0).mono fun e W' ⟨he, bel⟩ => ?_
  subst he
  exact ⟨_, rfl, _, _, _, [], _, [], hW', trodAll_mk1 (shut_bool Try.underlying4 _), (trodAll_cons_mk (Below.trod laidOut (by kernel_rfl) (of_decide_eq_true (by kernel_rfl)) k0 bel lt0) trodAll_mk0), rfl, bel.frame _, fun h => by cases h⟩

theorem over : Rows.fnComposeOfRow.holds Try.pinned (OpenSpec.ofChange Rows.fnComposeOfSpec) :=
  OpenClaim.holds_of_wide 6 Try.f6 rfl rfl rfl rfl rfl rfl rfl ⟨rfl, rfl, rfl, rfl, rfl⟩ rfl rfl rfl rfl rfl (by kernel_rfl) Try.func6 (by kernel_rfl)
    (of_decide_eq_true (by kernel_rfl)) (by unfold Func.isWrapper; first | (rw [if_pos (by decide +kernel)]; kernel_rfl) | (rw [if_neg (by decide +kernel)]; exact ⟨rfl, rfl⟩))
    (fun os started H enc _ => lifted os started H enc)

theorem proved : Rows.FnComposeOfSaid := over
end Go.Proofs.Ytdkmedlffphmdaa.fnComposeOf
