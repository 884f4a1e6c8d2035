/-
  Symmetries keep neighbours: the law of NeighborsImage holds for every code. No condition.
-/
import Derived.Test.YtdkmedlffphmdaaRows
import Derived.Test.YtdkmedlffphmdaaMarks
import Derived.Test.YtdkmedlffphmdaaNbImpl
import Derived.Test.YtdkmedlffphmdaaSpecPtB
import Derived.Test.YtdkmedlffphmdaaDrawPt
import Derived.Test.YtdkmedlffphmdaaUndone
import Derived.WalkKit
import Derived.ProofKit
import Derived.OpenShut
import Derived.ShutString
import Derived.ChangeOld
import Derived.Below
namespace Go.Proofs.Ytdkmedlffphmdaa.fnNeighborsImage
open Go.ChangeShapes Go.WideShapes Go.ChangeAt Go.RowKit
open Go.ChangeMaps (open_string shut_string)
set_option linter.unusedVariables false

theorem own : ownKnob Try.prog.godebug = none := by kernel_rfl
theorem laidOut : laidOutB Try.prog = true := by kernel_rfl


theorem walk (a0 : Option Addr) (len0 cap0 : Nat) (z0 : List Int) (w : World) (w0 : IsRow .u8 w a0 len0 cap0 z0) :
    Calls Try.prog 4 #[.slice a0 len0 cap0] w fun e w' => e = .returned (.bool true) ∧ Below w.heap.size w w' := by
  by_cases hl : 1048576 < len0
  · go_enter Try.func4, Try.ntmps4
    go_wp2_with fail
    go_ret
    exact ⟨rfl, Below.refl _ _⟩
  · have hl' : decide ((1048576 : Int) < (len0 : Int)) = false := by rw [decide_eq_false_iff_not]; omega
    go_enter Try.func4, Try.ntmps4
    go_wp2_with fail
    refine (d_tr w a0 len0 cap0 z0 w0).mono ?_
    rintro e x1 ⟨s, k, p, rfl, hb⟩
    clear w0
    by_cases hok : Pt.okP s p = true ∧ Pt.okK k = true
    · obtain ⟨⟨h1, h2, h3, h4⟩, ⟨k1, k2⟩⟩ := And.intro ((Pt.okP_iff s p).1 hok.1) ((Pt.okK_iff k).1 hok.2)
      have hti := Pt.tr_in s k p h1 h2 h3 h4 k1 k2
      have hib := Pt.img_bd s k p h1 h2 h3 h4
      have hi : 0 ≤ Pt.tr s k p := by rw [hti]; exact hib.1
      have hd : decide (Pt.tr s k p < 0) = false := by rw [decide_eq_false_iff_not]; omega
      have himg : Pt.nb s (Pt.tr s k p) = Pt.imagesOf s k (Pt.nb s p) := by
        rw [hti, nb_yes hok.1, nb_yes ((Pt.okP_iff s _).2 ⟨h1, h2, hib⟩)]
        exact Pt.nbs_img s k p h1 h2 h3 h4 k1 k2
      have hlen : (Pt.nb s p).length ≤ 4 := by
        rw [nb_yes hok.1, Pt.nbs, List.length_append, List.length_append, List.length_append]
        exact Nat.add_le_add (Nat.add_le_add (Nat.add_le_add (len_if _) (len_if _)) (len_if _)) (len_if _)
      have hlen2 : (Pt.nb s (Pt.tr s k p)).length ≤ 4 := by
        unfold Pt.nb
        split
        · rw [Pt.nbs, List.length_append, List.length_append, List.length_append]
          exact Nat.add_le_add (Nat.add_le_add (Nat.add_le_add (len_if _) (len_if _)) (len_if _)) (len_if _)
        · simp
      have Him := Lib.hid himg
      clear hok hti hib himg
      go_wp2_with fail
      refine (i_tr _ _ _ _).mono ?_
      rintro e x2 ⟨rfl, hb2⟩
      have hb' := hb.trans (hb2.mono hb.size)
      clear hb2 hb
      go_wp2_with fail
      refine (s_tr _ _ _ _).mono ?_
      rintro e w' ⟨rfl, rfl⟩
      go_wp2_with fail
      refine (i_nb _ _ _).mono ?_
      rintro e x3 ⟨A3, n3, c3, rfl, ho3, hb3⟩
      have hl3 := ho3.1
      have hn3 : n3 ≤ 4 := by omega
      have z2 := hb'.size
      have z3 := hb3.size
      have Hi3 := Lib.hid ho3.ints
      have Hb3 := Lib.hid (hb'.trans (hb3.mono z2))
      clear ho3 hb3 hb'
      go_wp2_with fail
      refine (i_nb _ _ _).mono ?_
      rintro e x4 ⟨A4, n4, c4, rfl, ho4, hb4⟩
      have hn4 : n4 ≤ 4 := by have := ho4.1; omega
      have z4 := hb4.size
      have Hi3 := Lib.hid (Hi3.out.below hb4 (Nat.le_refl _))
      have Hi4 := Lib.hid ho4.ints
      have Hb4 := Lib.hid (Hb3.out.trans (hb4.mono (by omega)))
      clear ho4 hb4 Hb3
      go_wp2_with fail
      refine (images_any s k _ _ _ _ _ _ h1 h2 Hi4.out (Nat.le_refl _) hn4).mono ?_
      rintro e x5 ⟨A5, n5, c5, rfl, ho5, hb5⟩
      have hl5 := ho5.1
      rw [← Him.out] at ho5 hl5
      obtain rfl : n5 = n3 := by omega
      have Hi3 := Lib.hid (Hi3.out.below hb5 (by omega))
      have Hi5 := Lib.hid ho5.ints
      have Hb5 := Lib.hid (Hb4.out.trans (hb5.mono (by omega)))
      clear hl3 hl5 ho5 hb5 Hb4
      go_wp2_with fail
      refine (eqi_t _ _ _ _ _ _ _ _ _ Hi3.out Hi5.out (by omega)).mono ?_
      rintro e x6 ⟨k6, rfl, rfl⟩
      go_wp2_with fail
      go_ret
      exact ⟨rfl, Hb5.out.os, Hb5.out.tape, Hb5.out.output, Hb5.out.size, Hb5.out.block⟩
    · have hc : Pt.tr s k p = -1 := by
        unfold Pt.tr
        rw [if_neg (by simpa using hok)]
      clear hok
      go_wp2_with fail
      refine (i_tr _ _ _ _).mono ?_
      rintro e x2 ⟨rfl, hb2⟩
      have hb' := hb.trans (hb2.mono hb.size)
      clear hb2 hb
      go_wp2_with fail
      refine (s_tr _ _ _ _).mono ?_
      rintro e w' ⟨rfl, rfl⟩
      go_wp2_with fail
      refine (s_tr _ _ _ _).mono ?_
      rintro e w' ⟨rfl, rfl⟩
      go_wp2_with fail
      go_ret
      exact ⟨rfl, hb'⟩

set_option maxRecDepth 100000 in
theorem lifted (os : Os) (started : os.Started) (H : Type) (enc : TypeId × Value → H) :
    ReturnsInHanded {} Try.checked os 4 .any (Rows.fnNeighborsImageSpec.pre6 enc Try.prog Try.f4 Rows.fnNeighborsImageRow.domain false) (Rows.fnNeighborsImageSpec.post enc Try.prog Try.f4 false true false false) := by
  refine returnsInHanded_of_change (C := Try.checked) own started (by kernel_rfl) Try.func4
    (ChangeSpec.witness6 (enc := enc) (C := Try.checked) false ⟨#[], #[.slice none 0 0], []⟩ 8 (by kernel_rfl) (by kernel_rfl) (by kernel_rfl) (by kernel_rfl)) ?_
  intro W base args ds gs before hval0 hW hcnd _
  have hval : ∀ (j : Nat) t v, Try.f4.params[j]? = some t → args[j]? = some v → Value.okWide Try.prog W .any base t v := hval0
  have hW' := hW
  obtain ⟨p, q, hA0, hV, rfl, hfz, hnd⟩ := hW
  have hA : DataW.TrodAll enc Try.prog W 0 (fun _ => true) true Try.f4.params.toList args.toList ds p := hA0
  rw [Try.params4] at hA hval
  obtain ⟨v0, vs0, d0, ds0, p0, q0, hargs, rfl, rfl, h0, r0⟩ := trodAll_cons hA
  obtain ⟨rfl, rfl, rfl⟩ := trodAll_nil r0
  obtain rfl : args = #[v0] := by cases args; simp_all
  obtain ⟨rfl, rfl⟩ := trodVars_none hV
  obtain ⟨a0, len0, cap0, rfl⟩ := okWide_slice Try.underlying22 (hval 0 22 v0 rfl rfl)
  have k0 := h0
  have lt0 : ∀ x ∈ p0, x.block < W.heap.size := by obtain ⟨m, hm⟩ := k0; exact DataW.trod_lt m _ _ _ hm
  obtain ⟨z0, w0⟩ : ∃ zs, IsRow .u8 W a0 len0 cap0 zs := by
    obtain ⟨fuel, hf⟩ := h0
    rcases open_ints Try.underlying22 Try.underlying5 (by kernel_rfl) hf with ⟨hcs, _⟩ | ⟨x, l, c, zs, hcs, _, hl, hm, hz, _, hcell, hwz⟩
    · simp [Value.cells] at hcs
      obtain ⟨rfl, rfl, rfl⟩ := hcs
      exact ⟨[], .inl ⟨rfl, rfl, rfl, rfl⟩⟩
    · simp [Value.cells] at hcs
      obtain ⟨rfl, rfl, rfl⟩ := hcs
      exact ⟨zs, .inr ⟨_, rfl, hl, hm, by simpa using hz, hcell, hwz⟩⟩
  clear hA0 hval0
  refine (walk a0 len0 cap0 z0 W w0).mono fun e W' ⟨he, bel⟩ => ?_
  subst he
  exact ⟨_, rfl, _, _, _, [], _, [], hW', trodAll_mk1 (shut_bool Try.underlying4 _), (trodAll_cons_mk (Below.trod laidOut (by kernel_rfl) (of_decide_eq_true (by kernel_rfl)) k0 bel lt0) trodAll_mk0), rfl, bel.frame _, fun h => by cases h⟩

theorem over : Rows.fnNeighborsImageRow.holds Try.pinned (OpenSpec.ofChange Rows.fnNeighborsImageSpec) :=
  OpenClaim.holds_of_wide 4 Try.f4 rfl rfl rfl rfl rfl rfl rfl ⟨rfl, rfl, rfl, rfl, rfl⟩ rfl rfl rfl rfl rfl (by kernel_rfl) Try.func4 (by kernel_rfl)
    (of_decide_eq_true (by kernel_rfl)) (by unfold Func.isWrapper; first | (rw [if_pos (by decide +kernel)]; kernel_rfl) | (rw [if_neg (by decide +kernel)]; exact ⟨rfl, rfl⟩))
    (fun os started H enc _ => lifted os started H enc)

theorem proved : Rows.FnNeighborsImageSaid := over
end Go.Proofs.Ytdkmedlffphmdaa.fnNeighborsImage
