/-
  Neighbours are mutual: the law holds for every code. No condition.
-/
import Derived.Test.YtdkmedlffphmdaaRows
import Derived.Test.YtdkmedlffphmdaaMarks
import Derived.Test.YtdkmedlffphmdaaNbImpl
import Derived.Test.YtdkmedlffphmdaaDrawPt
import Derived.WalkKit
import Derived.ProofKit
import Derived.OpenShut
import Derived.ShutString
import Derived.ChangeOld
import Derived.Below
namespace Go.Proofs.Ytdkmedlffphmdaa.fnNeighbors
open Go.ChangeShapes Go.WideShapes Go.ChangeAt Go.RowKit
open Go.ChangeMaps (open_string shut_string)
set_option linter.unusedVariables false

theorem own : ownKnob Try.prog.godebug = none := by kernel_rfl
theorem laidOut : laidOutB Try.prog = true := by kernel_rfl


theorem nb_len (s p : Int) : (Pt.nb s p).length ≤ 4 := by
  unfold Pt.nb
  split
  · rw [Pt.nbs, List.length_append, List.length_append, List.length_append]
    exact Nat.add_le_add (Nat.add_le_add (Nat.add_le_add (len_if _) (len_if _)) (len_if _)) (len_if _)
  · exact Nat.zero_le _
theorem mutual_at {s p : Int} (h : Pt.mutua s p = true) {q : Int} (hq : q ∈ Pt.nbs s p) : Pt.okP s q = true ∧ p ∈ Pt.nbs s q ∧ q ≠ p := by
  have := List.all_eq_true.1 h q hq
  simp only [Bool.and_eq_true, decide_eq_true_eq] at this
  exact ⟨this.1.1, by simpa using this.1.2, this.2⟩

set_option maxHeartbeats 4000000 in
theorem walk (a0 : Option Addr) (len0 cap0 : Nat) (z0 : List Int) (w : World) (w0 : IsRow .u8 w a0 len0 cap0 z0) :
    Calls Try.prog 3 #[.slice a0 len0 cap0] w fun e w' => e = .returned (.bool true) ∧ Below w.heap.size w w' := by
  by_cases hl : 1048576 < len0
  · go_enter Try.func3, Try.ntmps3
    go_wp2_with fail
    go_ret
    exact ⟨rfl, Below.refl _ _⟩
  · have hl' : decide ((1048576 : Int) < (len0 : Int)) = false := by rw [decide_eq_false_iff_not]; omega
    go_enter Try.func3, Try.ntmps3
    go_wp2_with fail
    refine (d_nb w a0 len0 cap0 z0 w0).mono ?_
    rintro e x1 ⟨s, p, rfl, hb⟩
    clear w0
    have hlen := nb_len s p
    go_wp2_with fail
    refine (i_nb _ _ _).mono ?_
    rintro e x2 ⟨A2, n, c2, rfl, ho2, hb2⟩
    have hl2 := ho2.1
    have hn : n ≤ 4 := by omega
    have z1 := hb.size
    have z2 := hb2.size
    have Hi2 := Lib.hid ho2.ints
    have Hb2 := Lib.hid (hb.trans (hb2.mono z1))
    clear hb hb2 ho2
    go_wp2_with fail
    refine (s_nb _ _ _).mono ?_
    rintro e x3 ⟨A3, n3, c3, rfl, ho3, hb3⟩
    have hl3 := ho3.1
    obtain rfl : n3 = n := by omega
    have z3 := hb3.size
    have Hi2 := Lib.hid (Hi2.out.below hb3 (Nat.le_refl _))
    have Hi3 := Lib.hid ho3.ints
    have Hb3 := Lib.hid (Hb2.out.trans (hb3.mono (by omega)))
    have Hl := Lib.hid hl3
    clear hb3 ho3 hl3 hl2 hlen Hb2
    go_wp2_with fail
    refine (eqi_t _ _ _ _ _ _ _ _ _ Hi2.out Hi3.out (by omega)).mono ?_
    rintro e x4 ⟨k4, rfl, rfl⟩
    by_cases hn0 : n3 = 0
    · have b0 : ((n3 : Int) == 0) = true := by rw [hn0]; rfl
      have hn0' := Lib.hid hn0
      clear hn0
      go_wp2_with fail
      refine (s_nb _ _ _).mono ?_
      rintro e x5 ⟨A5, n5, c5, rfl, ho5, hb5⟩
      have hl5 := ho5.1
      have hl6 := Hl.out
      obtain rfl : n5 = n3 := by omega
      have Hi2 := Lib.hid ((show Ints (x3.drewN k4) x2.heap.size A2 n5 (Pt.nb s p) from Hi2.out).below hb5 (by simp; omega))
      have Hi5 := Lib.hid ho5.ints
      have Hb5 := Lib.hid ((show Below w.heap.size w (x3.drewN k4) from ⟨Hb3.out.os, Hb3.out.tape, Hb3.out.output, Hb3.out.size, Hb3.out.block⟩).trans (hb5.mono (by simp; omega)))
      clear hl5 hl6 hb5 ho5
      go_wp2_with fail
      refine (eqi_t _ _ _ _ _ _ _ _ _ Hi2.out Hi5.out (by omega)).mono ?_
      rintro e x6 ⟨k6, rfl, rfl⟩
      go_wp2_with fail
      go_ret
      exact ⟨rfl, Hb5.out.os, Hb5.out.tape, Hb5.out.output, Hb5.out.size, Hb5.out.block⟩
    · have b0 : ((n3 : Int) == 0) = false := by simpa using hn0
      have hokb : Pt.okP s p = true := by
        have := Hl.out
        unfold Pt.nb at this
        by_cases h : Pt.okP s p = true
        · exact h
        · rw [if_neg h] at this; exact absurd this.symm hn0
      obtain ⟨h1, h2, h3, h4⟩ := (Pt.okP_iff s p).1 hokb
      have hsq := Pt.sq_bd s h1 h2
      obtain ⟨m1, m2, m3⟩ := Pt.nbs_all s p h1 h2 h3 h4
      rw [← nb_yes hokb, Hl.out] at m2
      rw [← nb_yes hokb] at m3
      have hmut : ∀ j, j < n3 → Pt.okP s ((Pt.nb s p).getD j 0) = true ∧ p ∈ Pt.nb s ((Pt.nb s p).getD j 0) ∧ (Pt.nb s p).getD j 0 ≠ p := by
        intro j hj
        have hj' : j < (Pt.nb s p).length := by rw [Hl.out]; exact hj
        have hm : (Pt.nb s p).getD j 0 ∈ Pt.nbs s p := by
          rw [← nb_yes hokb, List.getD_eq_getElem?_getD, List.getElem?_eq_getElem hj']; exact List.getElem_mem _
        have := mutual_at m1 hm
        exact ⟨this.1, by rw [nb_yes this.1]; exact this.2.1, this.2.2⟩
      have M := Lib.hid hmut
      have M2 := Lib.hid m2
      have M3 := Lib.hid m3
      clear m1 m2 m3 hmut hokb hn0
      have Hi2 : Hid (Ints (x3.drewN k4) x2.heap.size A2 n3 (Pt.nb s p)) := Hi2
      have Hb4 : Hid (Below w.heap.size w (x3.drewN k4)) := Lib.hid ⟨Hb3.out.os, Hb3.out.tape, Hb3.out.output, Hb3.out.size, Hb3.out.block⟩
      clear Hb3 Hi3
      obtain ⟨y, hy⟩ : ∃ y, y = x3.drewN k4 := ⟨_, rfl⟩
      have zy : x2.heap.size ≤ y.heap.size := by rw [hy]; simpa using z3
      rw [← hy] at Hi2 Hb4 ⊢
      clear hy
      go_wp2_with fail
      go_loopw [6] (fun i wr => ∃ k : Nat, k ≤ n3 ∧ i = .int .i64 k ∧ Below y.heap.size y wr) (fun i _ => n3 - (intOf i).toNat)
      case atStart => exact ⟨0, by omega, rfl, Below.refl _ _⟩
      case round =>
        obtain ⟨k, hk, rfl, hbr⟩ := hrel
        have zr := hbr.size
        have Hir := Lib.hid (Hi2.out.below hbr zy)
        have Hbr := Lib.hid hbr
        clear hbr
        by_cases hlt : k < n3
        · obtain ⟨q1, q2, q3⟩ := M.out k hlt
          rcases Hir.out.2 with h0 | ⟨b, o, rfl, hbB, hc⟩
          · omega
          · have hck := hc k hlt
            obtain ⟨x, hx⟩ : ∃ x, (Pt.nb s p).getD k 0 = x := ⟨_, rfl⟩
            rw [hx] at hck q1 q2 q3
            have qb : (x == p) = false := by simpa using q3
            have hlen := nb_len s x
            clear hx hc q1 q3
            go_wp2_with fail
            refine (i_nb _ _ _).mono ?_
            rintro e x5 ⟨A5, n5, c5, rfl, ho5, hb5⟩
            have hl5 : n5 ≤ 4 := by have := ho5.1; omega
            have hck5 := (hb5.cell (p := ⟨b, o + k, none⟩) (by show b < _; omega)).trans hck
            have Hi5 := Lib.hid ho5.ints
            have Hb5 := Lib.hid (Hbr.out.trans (hb5.mono zr))
            clear hck ho5 hb5
            go_wp2_with fail
            refine (in_t _ _ _ _ _ _ _ Hi5.out (by omega) q2).mono ?_
            rintro e x6 ⟨rfl, rfl⟩
            go_wp2_with fail
            go_roundw
            case rel => exact ⟨k + 1, by omega, by go_num, Hb5.out⟩
            case measure => simp [intOf]; omega
        · have Hb5 := Lib.hid (Hb4.out.trans (Hbr.out.mono Hb4.out.size))
          have m2 := M2.out
          unfold Pt.howMany at m2
          have hA : p < s ∨ ¬ p < s := Classical.em _
          have hB : s * s - s ≤ p ∨ ¬ s * s - s ≤ p := Classical.em _
          rcases hA with hA | hA <;> rcases hB with hB | hB <;> rcases Bool.eq_false_or_eq_true (p % s == 0) with hC | hC <;> rcases Bool.eq_false_or_eq_true (p % s == s - 1) with hD | hD
          all_goals
            have hC' := hC
            have hD' := hD
            simp only [beq_iff_eq, beq_eq_false_iff_ne, ne_eq] at hC' hD'
            first | rw [if_pos hA] at m2 | rw [if_neg hA] at m2
            first | rw [if_pos hB] at m2 | rw [if_neg hB] at m2
            first | rw [if_pos hC'] at m2 | rw [if_neg hC'] at m2
            first | rw [if_pos hD'] at m2 | rw [if_neg hD'] at m2
            clear hC' hD'
            have h5 : n3 = 0 ∨ n3 = 1 ∨ n3 = 2 ∨ n3 = 3 ∨ n3 = 4 := by omega
            have Hm := Lib.hid m2
            clear m2
            rcases h5 with rfl | rfl | rfl | rfl | rfl <;> first | (exfalso; have := Hm.out; omega) | skip
          all_goals
            go_wp2_with fail
            all_goals
              refine (asc_t _ _ _ _ _ _ Hir.out (by omega) M3.out).mono ?_
              rintro e x6 ⟨k6, rfl, rfl⟩
              go_wp2_with fail
              go_ret
              exact ⟨rfl, Hb5.out.os, Hb5.out.tape, Hb5.out.output, Hb5.out.size, Hb5.out.block⟩

set_option maxRecDepth 100000 in
theorem lifted (os : Os) (started : os.Started) (H : Type) (enc : TypeId × Value → H) :
    ReturnsInHanded {} Try.checked os 3 .any (Rows.fnNeighborsSpec.pre6 enc Try.prog Try.f3 Rows.fnNeighborsRow.domain false) (Rows.fnNeighborsSpec.post enc Try.prog Try.f3 false true false false) := by
  refine returnsInHanded_of_change (C := Try.checked) own started (by kernel_rfl) Try.func3
    (ChangeSpec.witness6 (enc := enc) (C := Try.checked) false ⟨#[], #[.slice none 0 0], []⟩ 8 (by kernel_rfl) (by kernel_rfl) (by kernel_rfl) (by kernel_rfl)) ?_
  intro W base args ds gs before hval0 hW hcnd _
  have hval : ∀ (j : Nat) t v, Try.f3.params[j]? = some t → args[j]? = some v → Value.okWide Try.prog W .any base t v := hval0
  have hW' := hW
  obtain ⟨p, q, hA0, hV, rfl, hfz, hnd⟩ := hW
  have hA : DataW.TrodAll enc Try.prog W 0 (fun _ => true) true Try.f3.params.toList args.toList ds p := hA0
  rw [Try.params3] at hA hval
  obtain ⟨v0, vs0, d0, ds0, p0, q0, hargs, rfl, rfl, h0, r0⟩ := trodAll_cons hA
  obtain ⟨rfl, rfl, rfl⟩ := trodAll_nil r0
  obtain rfl : args = #[v0] := by cases args; simp_all
  obtain ⟨rfl, rfl⟩ := trodVars_none hV
  obtain ⟨a0, len0, cap0, rfl⟩ := okWide_slice Try.underlying22 (hval 0 22 v0 rfl rfl)
  have k0 := h0
  have lt0 : ∀ x ∈ p0, x.block < W.heap.size := by obtain ⟨m, hm⟩ := k0; exact DataW.trod_lt m _ _ _ hm
  obtain ⟨z0, w0⟩ : ∃ zs, IsRow .u8 W a0 len0 cap0 zs := by
    obtain ⟨fuel, hf⟩ := h0
    rcases open_ints Try.underlying22 Try.underlying5 (by kernel_rfl) hf with ⟨hcs, _⟩ | ⟨x, l, c, zs, hcs, _, hl, hm, hz, _, hcell, hwz⟩
    · simp [Value.cells] at hcs
      obtain ⟨rfl, rfl, rfl⟩ := hcs
      exact ⟨[], .inl ⟨rfl, rfl, rfl, rfl⟩⟩
    · simp [Value.cells] at hcs
      obtain ⟨rfl, rfl, rfl⟩ := hcs
      exact ⟨zs, .inr ⟨_, rfl, hl, hm, by simpa using hz, hcell, hwz⟩⟩
  clear hA0 hval0
  refine (walk a0 len0 cap0 z0 W w0).mono fun e W' ⟨he, bel⟩ => ?_
  subst he
  exact ⟨_, rfl, _, _, _, [], _, [], hW', trodAll_mk1 (shut_bool Try.underlying4 _), (trodAll_cons_mk (Below.trod laidOut (by kernel_rfl) (of_decide_eq_true (by kernel_rfl)) k0 bel lt0) trodAll_mk0), rfl, bel.frame _, fun h => by cases h⟩

theorem over : Rows.fnNeighborsRow.holds Try.pinned (OpenSpec.ofChange Rows.fnNeighborsSpec) :=
  OpenClaim.holds_of_wide 3 Try.f3 rfl rfl rfl rfl rfl rfl rfl ⟨rfl, rfl, rfl, rfl, rfl⟩ rfl rfl rfl rfl rfl (by kernel_rfl) Try.func3 (by kernel_rfl)
    (of_decide_eq_true (by kernel_rfl)) (by unfold Func.isWrapper; first | (rw [if_pos (by decide +kernel)]; kernel_rfl) | (rw [if_neg (by decide +kernel)]; exact ⟨rfl, rfl⟩))
    (fun os started H enc _ => lifted os started H enc)

theorem proved : Rows.FnNeighborsSaid := over
end Go.Proofs.Ytdkmedlffphmdaa.fnNeighbors
