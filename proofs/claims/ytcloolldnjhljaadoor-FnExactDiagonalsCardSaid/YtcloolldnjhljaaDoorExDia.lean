/-
  The law of the exact Diagonals: for every two ints the program answers as its model does, and its answer owns its memory. No condition.
-/
import Derived.Test.YtcloolldnjhljaaDoorRows
import Derived.Test.YtcloolldnjhljaaDoorMarks
import Derived.Test.YtcloolldnjhljaaDoorDia
import Derived.Test.YtcloolldnjhljaaDoorCards
import Derived.Test.YtcloolldnjhljaaDoorTie
import Derived.Test.YtcloolldnjhljaaDoorTz
import Derived.LaidMore
import Derived.Stop.Joined
import Derived.Stop.LaidErr
import Derived.SevenTiedAt
import Derived.WalkKit
import Derived.ProofKit
import Derived.OpenShut
import Derived.ShutString
import Derived.ChangeOld
import Derived.Below
namespace Go.Proofs.YtcloolldnjhljaaDoor.fnExactDiagonals
set_option maxRecDepth 100000
open Go.WideMaps Go.WideElems
open Go.ChangeShapes Go.WideShapes Go.ChangeAt Go.RowKit
open Go.ChangeMaps (open_string shut_string)
set_option linter.unusedVariables false

theorem own : ownKnob Tryd.prog.godebug = none := by kernel_rfl
theorem laidOut : laidOutB Tryd.prog = true := by kernel_rfl


theorem walk (a0 : Int) (a1 : Int) (w : World) (ht : Tab w) (w0 : (Lit.int .i64 a0).wf = true) (w1 : (Lit.int .i64 a1).wf = true) :
    Calls Tryd.prog 3 #[.int .i64 a0, .int .i64 a1] w fun e w' => e = .returned (.bool true) ∧ Below w.heap.size w w' := by
  have hlen : (Bt.diag a0 a1).length ≤ 4 := by
    unfold Bt.diag
    split
    · exact Bt.dis_len a0 a1 4
    · simp
  have HT := Lib.hid ht
  clear ht
  go_enter Tryd.func3, Tryd.ntmps3
  go_wp2_with fail
  refine (s_Diag _ _ _).mono ?_
  rintro e x1 ⟨A1, n, c1, rfl, ho1, hb1⟩
  have hl1 := ho1.1
  have hn : n ≤ 4 := by omega
  have Hi1 := Lib.hid ho1.ints
  have z1 := hb1.size
  clear ho1
  go_wp2_with fail
  refine (i_Diag _ _ _ (HT.out.below hb1)).mono ?_
  rintro e x2 ⟨A2, n2, c2, rfl, ho2, hb2⟩
  have hl2 := ho2.1
  obtain rfl : n2 = n := by omega
  have z2 := hb2.size
  have Hi1 := Lib.hid (Hi1.out.below hb2 (Nat.le_refl _))
  have Ho2 := Lib.hid ho2
  have Hb2 := Lib.hid (hb1.trans (hb2.mono z1))
  clear hl1 hl2 ho2 hb2 hb1
  go_wp2_with fail
  refine (eqs_t _ _ _ _ _ _ _ _ _ Ho2.out.ints Hi1.out (by omega)).mono ?_
  rintro e x3 ⟨k1, rfl, rfl⟩
  go_wp2_with fail
  refine (mark_any _ _ _ _ _ _ 1 (Ho2.out.drewN k1) (by omega) (by omega) (by omega)).mono ?_
  rintro e x4 ⟨rfl, hm, hg⟩
  have hB4 : Below x1.heap.size (x2.drewN k1) x4 := below_g hg z2 (fun k hk => (World.ownsRow.lt Ho2.out.2 k hk).1)
  have hb24 : Below x1.heap.size x2 x4 := ⟨hB4.os, hB4.tape, hB4.output, hB4.size, hB4.block⟩
  have z4 := hb24.size
  have Hi1 := Lib.hid (Hi1.out.below hb24 (Nat.le_refl _))
  have Hi4 := Lib.hid hm.ints
  have Hb4 := Lib.hid (Hb2.out.trans (hb24.mono z1))
  clear hm hg hB4 hb24 Hb2
  go_wp2_with fail
  refine (held_t _ _ _ _ _ 1 Hi4.out (by omega) (by omega) (by omega)).mono ?_
  rintro e x5 ⟨rfl, rfl⟩
  go_wp2_with fail
  refine (i_Diag _ _ _ (HT.out.below Hb4.out)).mono ?_
  rintro e x6 ⟨A6, n6, c6, rfl, ho6, hb6⟩
  have hl6 := ho6.1
  have hl4 := Hi1.out.1
  obtain rfl : n6 = n2 := by omega
  have z6 := hb6.size
  have Hi1 := Lib.hid (Hi1.out.below hb6 (by omega))
  have Hi4 := Lib.hid (Hi4.out.below hb6 (Nat.le_refl _))
  have Hi6 := Lib.hid ho6.ints
  have Hb6 := Lib.hid (Hb4.out.trans (hb6.mono (by omega)))
  clear hl6 hl4 ho6 hb6 Hb4
  go_wp2_with fail
  refine (eqs_t _ _ _ _ _ _ _ _ _ Hi6.out Hi1.out (by omega)).mono ?_
  rintro e x7 ⟨k7, rfl, rfl⟩
  have Hi4 : Hid (Ints (x6.drewN k7) x4.heap.size A2 n6 (marks 1 n6)) := Hi4
  go_wp2_with fail
  refine (held_t _ _ _ _ _ 1 Hi4.out (by omega) (by omega) (by omega)).mono ?_
  rintro e x8 ⟨rfl, rfl⟩
  go_wp2_with fail
  go_ret
  exact ⟨rfl, Hb6.out.os, Hb6.out.tape, Hb6.out.output, Hb6.out.size, Hb6.out.block⟩

abbrev listed : List (String × DataW Unit) := [("math/bits.deBruijn64tab", Rows.laid_math_bits_deBruijn64tab)]
theorem door_met (os : Os) (args : Array Value) : laidMetH Tryd.prog listed ((World.doorLaid Tryd.prog 400 os).forCall (fun _ _ => 0) ⟨#[], args, []⟩).memory :=
  laidMetH_of_parts3 (fuel := 8) (laidMet_of_run' 8 (by kernel_rfl) (by kernel_rfl)) (by kernel_rfl) (by kernel_rfl)
theorem tabOf {W : World} (h : laidMetH Tryd.prog listed W) : Tab W := by
  rw [MakeChecks.laidMetH_plain _ _ _ (by kernel_rfl)] at h
  exact Tab.of (Lib.tabIs_of_head (g := 0) (t := 61) (e := 5) (n := 64) (by kernel_rfl) (by kernel_rfl) (by kernel_rfl) (by kernel_rfl) (by kernel_rfl) (by kernel_rfl) h) (by kernel_rfl)

set_option maxRecDepth 100000 in
theorem lifted (os : Os) (started : os.Started) (H : Type) (enc : TypeId × Value → H) :
    ReturnsInHanded {} Tryd.checked os 3 .any (fun w args => (Rows.fnExactDiagonalsSpec.pre enc Tryd.prog Tryd.f3 [] false w args ∧ laidMetH Tryd.prog listed w) ∧ sizedMet enc Tryd.prog Tryd.f3 (OpenSpec.ofChange Rows.fnExactDiagonalsSpec) false w args) (Rows.fnExactDiagonalsSpec.post enc Tryd.prog Tryd.f3 false true false false) := by
  refine returnsInHanded_of_change_and (C := Tryd.checked) (X := fun w _ => laidMetH Tryd.prog listed w) (fun _ _ _ hh h => h.of_heap hh) own started (by kernel_rfl) Tryd.func3
    (ChangeSpec.witness_shaped (enc := enc) (C := Tryd.checked) (os := os) (X := fun w _ => laidMetH Tryd.prog listed w) false (World.doorLaid Tryd.prog 400 os) #[.int .i64 0, .int .i64 0] 8 rfl (World.shaped_of_RefB (by kernel_rfl) (by kernel_rfl)) (by kernel_rfl) (by kernel_rfl) (by kernel_rfl) (door_met os _)) ?_
  intro W base args ds gs before hval0 hW _ _ hL _
  have hval : ∀ (j : Nat) t v, Tryd.f3.params[j]? = some t → args[j]? = some v → Value.okWide Tryd.prog W .any base t v := hval0
  have hW' := hW
  obtain ⟨p, q, hA0, hV, rfl, hfz, hnd⟩ := hW
  have hA : DataW.TrodAll enc Tryd.prog W 0 (fun _ => true) true Tryd.f3.params.toList args.toList ds p := hA0
  rw [Tryd.params3] at hA hval
  obtain ⟨v0, vs0, d0, ds0, p0, q0, hargs, rfl, rfl, h0, r0⟩ := trodAll_cons hA
  obtain ⟨v1, vs1, d1, ds1, p1, q1, rfl, rfl, rfl, h1, r1⟩ := trodAll_cons r0
  obtain ⟨rfl, rfl, rfl⟩ := trodAll_nil r1
  obtain rfl : args = #[v0, v1] := by cases args; simp_all
  obtain ⟨rfl, rfl⟩ := trodVars_none hV
  obtain ⟨a0, rfl, rfl, rfl, w0⟩ := open_int Tryd.underlying3 (hval 0 3 v0 rfl rfl) h0
  obtain ⟨a1, rfl, rfl, rfl, w1⟩ := open_int Tryd.underlying3 (hval 1 3 v1 rfl rfl) h1
  clear hA0 hval0
  refine (walk a0 a1 W (tabOf hL) w0 w1).mono fun e W' ⟨he, bel⟩ => ?_
  subst he
  exact ⟨_, rfl, _, _, _, [], _, [], hW', trodAll_mk1 (shut_bool Tryd.underlying4 _), (trodAll_cons_mk (shut_int Tryd.underlying3 w0) (trodAll_cons_mk (shut_int Tryd.underlying3 w1) trodAll_mk0)), rfl, bel.frame _, fun h => by cases h⟩

theorem over : Rows.fnExactDiagonalsRow.holds Tryd.pinned (OpenSpec.ofChange Rows.fnExactDiagonalsSpec) :=
  OpenClaim.holds_of_wide 3 Tryd.f3 rfl rfl rfl rfl rfl rfl rfl ⟨rfl, rfl, rfl, rfl, rfl⟩ rfl rfl rfl rfl rfl (by kernel_rfl) Tryd.func3 (by kernel_rfl)
    (of_decide_eq_true (by kernel_rfl)) (by unfold Func.isWrapper; first | (rw [if_pos (by decide +kernel)]; kernel_rfl) | (rw [if_neg (by decide +kernel)]; exact ⟨rfl, rfl⟩))
    (fun os started H enc _ => lifted os started H enc)

theorem proved : Rows.FnExactDiagonalsCardSaid :=
  Claim7.holds_tied_plain_at .later [] [.data] true Rows.fnExactDiagonalsCard.stood.harness false
    over (fun _ h => by cases h) (by kernel_rfl) (fun _ h => by cases h) fnExactDiagonals_row_tie rfl ⟨rfl, rfl⟩ (by kernel_rfl) rfl
    (fun f fn hf hfn => by
      obtain rfl : f = 3 := Option.some.inj ((show Tryd.prog.funcNamed "loop.example/goboard/laws.FnExactDiagonals" = some 3 by kernel_rfl).symm.trans hf) |>.symm
      obtain rfl : fn = Tryd.f3 := (Option.some.inj (Tryd.func3.symm.trans hfn)).symm
      exact ⟨by kernel_rfl, fun j t ht => by
        have hm : t ∈ Tryd.f3.params.toList := by simpa using Array.mem_of_getElem? ht
        have hall : (Tryd.f3.params.toList.all fun u => !Tryd.prog.wantsStandIn u) = true := by kernel_rfl
        exact (show Tryd.prog.wantsStandIn t = false by simpa using List.all_eq_true.1 hall t hm)⟩)
    (by kernel_rfl)
end Go.Proofs.YtcloolldnjhljaaDoor.fnExactDiagonals
