/-
  Corners have one diagonal: the law holds for every code. No condition.
-/
import Derived.Test.YtcloolldnjhljaaDoorRows
import Derived.Test.YtcloolldnjhljaaDoorDiaL
import Derived.Deep.RegionHeld3
import Derived.Test.YtcloolldnjhljaaDoorCards
import Derived.Test.YtcloolldnjhljaaDoorTie
import Derived.Test.YtcloolldnjhljaaDoorTz
import Derived.LaidMore
import Derived.Stop.Joined
import Derived.Stop.LaidErr
import Derived.SevenTiedAt
import Derived.WalkKit
import Derived.ProofKit
import Derived.OpenShut
import Derived.ShutString
import Derived.ChangeOld
import Derived.Below
namespace Go.Proofs.YtcloolldnjhljaaDoor.fnDiagonalsCount
set_option maxRecDepth 100000
open Go.WideMaps Go.WideElems
open Go.ChangeShapes Go.WideShapes Go.ChangeAt Go.RowKit
open Go.ChangeMaps (open_string shut_string)
set_option linter.unusedVariables false

theorem own : ownKnob Tryd.prog.godebug = none := by kernel_rfl
theorem laidOut : laidOutB Tryd.prog = true := by kernel_rfl


set_option maxRecDepth 100000 in
set_option maxHeartbeats 4000000 in
theorem walk (a0 : Option Addr) (len0 cap0 : Nat) (z0 : List Int) (w : World) (ht : Tab w) (w0 : IsRow .u8 w a0 len0 cap0 z0) :
    Calls Tryd.prog 5 #[.slice a0 len0 cap0] w fun e w' => e = .returned (.bool true) ∧ Below w.heap.size w w' := by
  have HT := Lib.hid ht
  clear ht
  by_cases hl : 1048576 < len0
  · go_enter Tryd.func5, Tryd.ntmps5
    go_wp2_with fail
    go_ret
    exact ⟨rfl, Below.refl _ _⟩
  · have hl' : decide ((1048576 : Int) < (len0 : Int)) = false := by rw [decide_eq_false_iff_not]; omega
    go_enter Tryd.func5, Tryd.ntmps5
    go_wp2_with fail
    refine (d_dia w a0 len0 cap0 z0 w0).mono ?_
    rintro e x1 ⟨s, p, rfl, hb⟩
    clear w0
    have hlen := Bt.diag_len s p
    have z1 := hb.size
    have HT := Lib.hid (HT.out.below hb)
    have Hb := Lib.hid hb
    clear hb
    go_wp2_with fail
    refine (i_Diag _ _ _ HT.out).mono ?_
    rintro e x2 ⟨A2, n, c2, rfl, ho2, hb2⟩
    have hl2 := ho2.1
    have hn : n ≤ 4 := by omega
    have z2 := hb2.size
    have Hi2 := Lib.hid ho2.ints
    have HT := Lib.hid (HT.out.below hb2)
    have Hb2 := Lib.hid (Hb.out.trans (hb2.mono z1))
    clear hb2 ho2 Hb
    go_wp2_with fail
    refine (s_Diag _ _ _).mono ?_
    rintro e x3 ⟨A3, n3, c3, rfl, ho3, hb3⟩
    have hl3 := ho3.1
    obtain rfl : n3 = n := by omega
    have z3 := hb3.size
    have Hi2 := Lib.hid (Hi2.out.stp hb3)
    have Hi3 := Lib.hid ho3.ints
    have HT := Lib.hid (HT.out.below hb3)
    have Hb3 := Lib.hid (Hb2.out.trans (hb3.mono (by omega)))
    have Hl := Lib.hid hl3
    clear hb3 ho3 hl3 hl2 hlen Hb2
    go_wp2_with fail
    refine (eqi_t _ _ _ _ _ _ _ _ _ Hi2.out Hi3.out (by omega)).mono ?_
    rintro e x4 ⟨k4, rfl, rfl⟩
    have Hi2 : Hid (Ints (x3.drewN k4) (x3.drewN k4).heap.size A2 n3 (Bt.diag s p)) := Hi2
    have Hb4 : Hid (Below w.heap.size w (x3.drewN k4)) := Lib.hid ⟨Hb3.out.os, Hb3.out.tape, Hb3.out.output, Hb3.out.size, Hb3.out.block⟩
    clear Hb3 Hi3
    obtain ⟨y, hy⟩ : ∃ y, y = x3.drewN k4 := ⟨_, rfl⟩
    rw [← hy] at Hi2 Hb4 ⊢
    clear hy HT
    by_cases hp : Pt.okP s p = true
    · obtain ⟨h1, h2, h3, h4⟩ := (Pt.okP_iff s p).1 hp
      have HP := Lib.hid hp
      by_cases hs1 : s = 1
      · have b1 : (s == 1) = true := by simpa using hs1
        have hs1' := Lib.hid hs1
        clear hp hs1
        go_wp2_with fail
        refine (i_point _ _ _).mono ?_
        rintro e w' ⟨rfl, rfl⟩
        rw [HP.out]
        go_wp2_with fail
        refine (s_Diag _ _ _).mono ?_
        rintro e x5 ⟨A5, n5, c5, rfl, ho5, hb5⟩
        have hl5 := ho5.1
        have hl6 := Hl.out
        obtain rfl : n5 = n3 := by omega
        have Hi2 := Lib.hid (Hi2.out.stp hb5)
        have Hi5 := Lib.hid ho5.ints
        have Hb5 := Lib.hid (Hb4.out.trans (hb5.mono Hb4.out.size))
        clear hl5 hl6 hb5 ho5
        go_wp2_with fail
        refine (eqi_t _ _ _ _ _ _ _ _ _ Hi2.out Hi5.out (by omega)).mono ?_
        rintro e x6 ⟨k6, rfl, rfl⟩
        go_wp2_with fail
        go_ret
        exact ⟨rfl, Hb5.out.os, Hb5.out.tape, Hb5.out.output, Hb5.out.size, Hb5.out.block⟩
      · have b1 : (s == 1) = false := by simpa using hs1
        have hsq := Pt.sq_bd s h1 h2
        have hcnt := Bt.dia_all s p h1 h2 h3 h4
        simp only [Bt.diaB, Bool.and_eq_true, Bool.or_eq_true, beq_iff_eq, hs1, false_or, decide_eq_true_eq] at hcnt
        have m2 := hcnt.2
        have hd : Bt.diag s p = Bt.dia s p := by rw [Bt.diag, if_pos hp]
        rw [← hd, Hl.out] at m2
        clear hcnt hd hp
        have hA : p < s ∨ ¬ p < s := Classical.em _
        have hB : s * s - s ≤ p ∨ ¬ s * s - s ≤ p := Classical.em _
        rcases hA with hA | hA <;> rcases hB with hB | hB <;> rcases Bool.eq_false_or_eq_true (p % s == 0) with hC | hC <;> rcases Bool.eq_false_or_eq_true (p % s == s - 1) with hD | hD
        all_goals
          have hC' := hC
          have hD' := hD
          simp only [beq_iff_eq, beq_eq_false_iff_ne, ne_eq] at hC' hD'
          simp only [hA, hB, hC', hD', or_true, true_or, or_self, if_true, if_false] at m2
          clear hC' hD'
          have h5 : n3 = 1 ∨ n3 = 2 ∨ n3 = 4 := by omega
          have Hm := Lib.hid m2
          clear m2
          rcases h5 with rfl | rfl | rfl <;> first | (exfalso; have := Hm.out; omega) | skip
        all_goals
          go_wp2_with fail
          refine (i_point _ _ _).mono ?_
          rintro e w' ⟨rfl, rfl⟩
          rw [HP.out]
          go_wp2_with fail
          go_ret
          exact ⟨rfl, Hb4.out⟩
    · have hp' : Pt.okP s p = false := by simpa using hp
      have HP := Lib.hid hp'
      clear hp hp'
      go_wp2_with fail
      refine (i_point _ _ _).mono ?_
      rintro e w' ⟨rfl, rfl⟩
      rw [HP.out]
      go_wp2_with fail
      refine (s_Diag _ _ _).mono ?_
      rintro e x5 ⟨A5, n5, c5, rfl, ho5, hb5⟩
      have hl5 := ho5.1
      have hl6 := Hl.out
      obtain rfl : n5 = n3 := by omega
      have Hi2 := Lib.hid (Hi2.out.stp hb5)
      have Hi5 := Lib.hid ho5.ints
      have Hb5 := Lib.hid (Hb4.out.trans (hb5.mono Hb4.out.size))
      clear hl5 hl6 hb5 ho5
      go_wp2_with fail
      refine (eqi_t _ _ _ _ _ _ _ _ _ Hi2.out Hi5.out (by omega)).mono ?_
      rintro e x6 ⟨k6, rfl, rfl⟩
      go_wp2_with fail
      go_ret
      exact ⟨rfl, Hb5.out.os, Hb5.out.tape, Hb5.out.output, Hb5.out.size, Hb5.out.block⟩

abbrev listed : List (String × DataW Unit) := [("math/bits.deBruijn64tab", Rows.laid_math_bits_deBruijn64tab)]
theorem door_met (os : Os) (args : Array Value) : laidMetH Tryd.prog listed ((World.doorLaid Tryd.prog 400 os).forCall (fun _ _ => 0) ⟨#[], args, []⟩).memory :=
  laidMetH_of_parts3 (fuel := 8) (laidMet_of_run' 8 (by kernel_rfl) (by kernel_rfl)) (by kernel_rfl) (by kernel_rfl)
theorem tabOf {W : World} (h : laidMetH Tryd.prog listed W) : Tab W := by
  rw [MakeChecks.laidMetH_plain _ _ _ (by kernel_rfl)] at h
  exact Tab.of (Lib.tabIs_of_head (g := 0) (t := 61) (e := 5) (n := 64) (by kernel_rfl) (by kernel_rfl) (by kernel_rfl) (by kernel_rfl) (by kernel_rfl) (by kernel_rfl) h) (by kernel_rfl)

set_option maxRecDepth 100000 in
theorem lifted (os : Os) (started : os.Started) (H : Type) (enc : TypeId × Value → H) :
    ReturnsInHanded {} Tryd.checked os 5 .any (fun w args => (Rows.fnDiagonalsCountSpec.pre enc Tryd.prog Tryd.f5 [] false w args ∧ laidMetH Tryd.prog listed w) ∧ sizedMet enc Tryd.prog Tryd.f5 (OpenSpec.ofChange Rows.fnDiagonalsCountSpec) false w args) (Rows.fnDiagonalsCountSpec.post enc Tryd.prog Tryd.f5 false true false false) := by
  refine returnsInHanded_of_change_and (C := Tryd.checked) (X := fun w _ => laidMetH Tryd.prog listed w) (fun _ _ _ hh h => h.of_heap hh) own started (by kernel_rfl) Tryd.func5
    (ChangeSpec.witness_shaped (enc := enc) (C := Tryd.checked) (os := os) (X := fun w _ => laidMetH Tryd.prog listed w) false (World.doorLaid Tryd.prog 400 os) #[.slice none 0 0] 8 rfl (World.shaped_of_RefB (by kernel_rfl) (by kernel_rfl)) (by kernel_rfl) (by kernel_rfl) (by kernel_rfl) (door_met os _)) ?_
  intro W base args ds gs before hval0 hW _ _ hL _
  have hval : ∀ (j : Nat) t v, Tryd.f5.params[j]? = some t → args[j]? = some v → Value.okWide Tryd.prog W .any base t v := hval0
  have hW' := hW
  obtain ⟨p, q, hA0, hV, rfl, hfz, hnd⟩ := hW
  have hA : DataW.TrodAll enc Tryd.prog W 0 (fun _ => true) true Tryd.f5.params.toList args.toList ds p := hA0
  rw [Tryd.params5] at hA hval
  obtain ⟨v0, vs0, d0, ds0, p0, q0, hargs, rfl, rfl, h0, r0⟩ := trodAll_cons hA
  obtain ⟨rfl, rfl, rfl⟩ := trodAll_nil r0
  obtain rfl : args = #[v0] := by cases args; simp_all
  obtain ⟨rfl, rfl⟩ := trodVars_none hV
  obtain ⟨a0, len0, cap0, rfl⟩ := okWide_slice Tryd.underlying27 (hval 0 27 v0 rfl rfl)
  have k0 := h0
  have lt0 : ∀ x ∈ p0, x.block < W.heap.size := by obtain ⟨m, hm⟩ := k0; exact DataW.trod_lt m _ _ _ hm
  obtain ⟨z0, w0⟩ : ∃ zs, IsRow .u8 W a0 len0 cap0 zs := by
    obtain ⟨fuel, hf⟩ := h0
    rcases open_ints Tryd.underlying27 Tryd.underlying5 (by kernel_rfl) hf with ⟨hcs, _⟩ | ⟨x, l, c, zs, hcs, _, hl, hm, hz, _, hcell, hwz⟩
    · simp [Value.cells] at hcs
      obtain ⟨rfl, rfl, rfl⟩ := hcs
      exact ⟨[], .inl ⟨rfl, rfl, rfl, rfl⟩⟩
    · simp [Value.cells] at hcs
      obtain ⟨rfl, rfl, rfl⟩ := hcs
      exact ⟨zs, .inr ⟨_, rfl, hl, hm, by simpa using hz, hcell, hwz⟩⟩
  clear hA0 hval0
  refine (walk a0 len0 cap0 z0 W (tabOf hL) w0).mono fun e W' ⟨he, bel⟩ => ?_
  subst he
  exact ⟨_, rfl, _, _, _, [], _, [], hW', trodAll_mk1 (shut_bool Tryd.underlying4 _), (trodAll_cons_mk (Below.trod laidOut (by kernel_rfl) (of_decide_eq_true (by kernel_rfl)) k0 bel lt0) trodAll_mk0), rfl, bel.frame _, fun h => by cases h⟩

theorem over : Rows.fnDiagonalsCountRow.holds Tryd.pinned (OpenSpec.ofChange Rows.fnDiagonalsCountSpec) :=
  OpenClaim.holds_of_wide 5 Tryd.f5 rfl rfl rfl rfl rfl rfl rfl ⟨rfl, rfl, rfl, rfl, rfl⟩ rfl rfl rfl rfl rfl (by kernel_rfl) Tryd.func5 (by kernel_rfl)
    (of_decide_eq_true (by kernel_rfl)) (by unfold Func.isWrapper; first | (rw [if_pos (by decide +kernel)]; kernel_rfl) | (rw [if_neg (by decide +kernel)]; exact ⟨rfl, rfl⟩))
    (fun os started H enc _ => lifted os started H enc)

theorem proved : Rows.FnDiagonalsCountCardSaid :=
  Claim7.holds_tied_plain_at .later [] [.data] true Rows.fnDiagonalsCountCard.stood.harness false
    over (fun _ h => by cases h) (by kernel_rfl) (fun _ h => by cases h) fnDiagonalsCount_row_tie rfl ⟨rfl, rfl⟩ (by kernel_rfl) rfl
    (fun f fn hf hfn => by
      obtain rfl : f = 5 := Option.some.inj ((show Tryd.prog.funcNamed "loop.example/goboard/laws.FnDiagonalsCount" = some 5 by kernel_rfl).symm.trans hf) |>.symm
      obtain rfl : fn = Tryd.f5 := (Option.some.inj (Tryd.func5.symm.trans hfn)).symm
      exact ⟨by kernel_rfl, fun j t ht => by
        have hm : t ∈ Tryd.f5.params.toList := by simpa using Array.mem_of_getElem? ht
        have hall : (Tryd.f5.params.toList.all fun u => !Tryd.prog.wantsStandIn u) = true := by kernel_rfl
        exact (show Tryd.prog.wantsStandIn t = false by simpa using List.all_eq_true.1 hall t hm)⟩)
    (by kernel_rfl)
end Go.Proofs.YtcloolldnjhljaaDoor.fnDiagonalsCount
