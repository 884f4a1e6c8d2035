/-
  Captures take away stones: the law holds for every code. No condition but the laid variables.
-/
import Derived.Test.YtpogjegihhljpaaDoorRows
import Derived.Deep.RegionHeld3
import Derived.Test.YtpogjegihhljpaaDoorLawCpKitB
import Derived.Deep.RegionWith
import Derived.Deep.DeepCutAuto
import Derived.Test.YtpogjegihhljpaaDoorCards
import Derived.Test.YtpogjegihhljpaaDoorTie
import Derived.Test.YtpogjegihhljpaaDoorTz
import Derived.LaidMore
import Derived.Stop.Joined
import Derived.Stop.LaidErr
import Derived.SevenTiedAt
import Derived.RowKitTokens
import Derived.LaidLaws
import Derived.ChangeVars
import Derived.ChangeSame
import Derived.WalkKit
import Derived.ProofKit
import Derived.OpenShut
import Derived.ShutString
import Derived.ChangeOld
import Derived.Below
import Derived.Test.YtpogjegihhljpaaDoorLawCpKitA
namespace Go.Proofs.YtpogjegihhljpaaDoor.fnCapturingPoints
set_option maxRecDepth 100000
open Go.WideMaps Go.WideElems
open Go.ChangeShapes Go.WideShapes Go.ChangeAt Go.RowKit
open Go.ChangeMaps (open_string shut_string)
set_option linter.unusedVariables false

theorem own : ownKnob Tryd.prog.godebug = none := by kernel_rfl
theorem laidOut : laidOutB Tryd.prog = true := by kernel_rfl


set_option maxRecDepth 100000 in
set_option maxHeartbeats 16000000 in
theorem walk (a0 : Option Addr) (len0 cap0 : Nat) (z0 : List Int) (w : World) (ht : Tab w) (hE : ErrW w) (w0 : IsRow .u8 w a0 len0 cap0 z0) :
    Calls Tryd.prog 6 #[.slice a0 len0 cap0] w fun e w' => e = .returned (.bool true) ∧ Below w.heap.size w w' := by
  by_cases hl : 1048576 < len0
  · go_enter Tryd.func6, Tryd.ntmps6
    go_wp2_with fail
    go_ret
    exact ⟨rfl, Below.refl _ _⟩
  · have hl' : decide ((1048576 : Int) < (len0 : Int)) = false := by rw [decide_eq_false_iff_not]; omega
    go_enter Tryd.func6, Tryd.ntmps6
    go_wp2_with fail
    refine (d_cap w a0 len0 cap0 z0 w0).mono ?_
    rintro e y0 ⟨s, A, n, c, cs, x, rfl, hi, hn49, s0, s8, hx, hb⟩
    have I0 := Lib.hid hi
    have HB := Lib.hid hb
    have HT := Lib.hid ht
    have HE := Lib.hid hE
    clear hE
    clear hi hb w0 hl'
    go_wp2_with fail
    obtain ⟨x1, hy3, hb2, z4, z5⟩ := new_box y0 (.cells #[.int .i64 s, .slice A n c] 25)
    have X3 : Hid (Bx 25 x1 y0.heap.size s (.slice A n c)) := Lib.hid (by rw [hy3]; exact Bx.new _ _ _ _)
    rw [← hy3]
    clear hy3
    have I0 := Lib.hid (I0.out.step hb2)
    have HB := Lib.hid (bstep HB.out hb2)
    clear hb2
    have X3_0 := X3.out.cell0
    have X3_1 := X3.out.cell1
    have X3_l := X3.out.lt
    have hl0 := I0.out.1
    obtain ⟨lr, hlr⟩ := CapIs.make s n cs x
    have hlen := hlr.len
    have Hlr := Lib.hid hlr
    have Hl := Lib.hid hl0
    clear hlr hl0
    go_wp2_with fail
    refine (i_Cap s x _ _ _ n _ cs lr I0.out (Nat.le_refl _) (by omega) Hlr (HT.out.below HB.out) (HE.out.below HB.out)).mono ?_
    rintro e x6 ⟨A1, n1, c1, rfl, ho8, hb7⟩
    clear X3_0 X3_1 X3_l
    have X3 := Lib.hid (X3.out.step hb7)
    have I0 := Lib.hid (I0.out.step hb7)
    have HB := Lib.hid (bstep HB.out hb7)
    have I1 := Lib.hid ho8.ints
    have lenI1 := ho8.1
    clear hb7 ho8
    have X3_0 := X3.out.cell0
    have X3_1 := X3.out.cell1
    have X3_l := X3.out.lt
    go_wp2_with fail
    refine (s_Cap s x _ _ _ n _ cs lr I0.out (Nat.le_refl _) (by omega) Hlr).mono ?_
    rintro e x9 ⟨A2, n2, c2, rfl, ho11, hb10⟩
    clear X3_0 X3_1 X3_l
    have X3 := Lib.hid (X3.out.step hb10)
    have I0 := Lib.hid (I0.out.step hb10)
    have I1 := Lib.hid (I1.out.step hb10)
    have HB := Lib.hid (bstep HB.out hb10)
    have I2 := Lib.hid ho11.ints
    have lenI2 := ho11.1
    clear hb10 ho11
    have X3_0 := X3.out.cell0
    have X3_1 := X3.out.cell1
    have X3_l := X3.out.lt
    obtain rfl : n2 = n1 := by omega
    have hn1 : n2 ≤ 49 := by omega
    have Hll := Lib.hid lenI1
    clear lenI1 lenI2 hlen
    go_wp2_with fail
    refine (eq_b _ _ _ _ _ _ lr I1.out I2.out (by omega)).mono ?_
    rintro e x12 ⟨rfl, hb13⟩
    clear X3_0 X3_1 X3_l
    have X3 := Lib.hid (X3.out.step hb13)
    have I0 := Lib.hid (I0.out.step hb13)
    have I1 := Lib.hid (I1.out.step hb13)
    have I2 := Lib.hid (I2.out.step hb13)
    have HB := Lib.hid (bstep HB.out hb13)
    clear hb13
    have X3_0 := X3.out.cell0
    have X3_1 := X3.out.cell1
    have X3_l := X3.out.lt
    go_wp2_with fail
    clear X3_0 X3_1 X3_l
    go_loopw [6] (fun v wr => ∃ k : Nat, k ≤ n2 ∧ v = .int .i64 (k : Nat) ∧ Below x12.heap.size x12 wr) (fun v _ => n2 - (intOf v).toNat)
    case atStart => exact ⟨0, by omega, rfl, Below.refl _ _⟩
    case round =>
      obtain ⟨k, hk, rfl, hbr⟩ := hrel
      have HL := Lib.hid hbr
      have X3 := Lib.hid (X3.out.step hbr)
      have I0 := Lib.hid (I0.out.step hbr)
      have I1 := Lib.hid (I1.out.step hbr)
      have I2 := Lib.hid (I2.out.step hbr)
      have HB := Lib.hid (bstep HB.out hbr)
      clear hbr
      have X3_0 := X3.out.cell0
      have X3_1 := X3.out.cell1
      have X3_l := X3.out.lt
      by_cases hkn : k < n2
      · have hkI : (k : Int) < n2 := by omega
        have hmem : lr.getD k 0 ∈ lr := by rw [List.getD_eq_getElem?_getD, List.getElem?_eq_getElem (by rw [Hll.out]; exact hkn)]; exact List.getElem_mem _
        have hok : okX s cs x = true := by
          rcases e : okX s cs x with _ | _
          · rw [Hlr.out.2 e] at hmem; cases hmem
          · rfl
        obtain ⟨q, hq, hqn, ⟨os, gs⟩, hpl, hne⟩ := ((Hlr.out.1 hok).mem _).1 hmem
        rw [okX, Bool.and_eq_true, Bool.and_eq_true, decide_eq_true_eq, decide_eq_true_eq] at hok
        obtain ⟨hv, x1, x2⟩ := hok
        have hpl2 := PlB.of hv Hl.out hqn x1 x2 hpl
        have HR := Lib.hid hpl2
        have HVw : Hid (View s (some (os, gs)) s os gs true) := Lib.hid ⟨rfl, rfl, rfl, rfl⟩
        have hvo := okB_play hv Hl.out x1 x2 hpl
        have hcn := (hpl.cnts Hl.out hqn x1 x2).2 rfl
        have hol : os.length = n := hpl.len.1
        have hgl := hpl.len.2
        have Hol := Lib.hid hol
        obtain ⟨N0, h0⟩ : ∃ N, cntB s cs (3 - x) = N := ⟨_, rfl⟩
        obtain ⟨N1, h1⟩ : ∃ N, cntB s os (3 - x) = N := ⟨_, rfl⟩
        have b0 := cnt_bd (3 - x) cs
        have b1 := cnt_bd (3 - x) os
        have h0c : cnt (3 - x) cs = N0 := by rw [← h0, cntB, if_pos hv]
        have h1c : cnt (3 - x) os = N1 := by rw [← h1, cntB, if_pos hvo]
        rw [h0c] at b0 hcn
        rw [h1c] at b1 hcn
        rw [Hl.out] at b0
        rw [hol] at b1
        have hgs : gs.length ≠ 0 := fun e => hne (List.eq_nil_of_length_eq_zero e)
        have hw3 : IntKind.i64.wrap (3 - x) = 3 - x := by simp [IntKind.wrap, IntKind.bits, IntKind.signed]; omega
        have H0 : Hid (cntB s cs (IntKind.i64.wrap (3 - x)) = N0) := Lib.hid (by rw [hw3]; exact h0)
        have H1 : Hid (cntB s os (IntKind.i64.wrap (3 - x)) = N1) := Lib.hid (by rw [hw3]; exact h1)
        obtain ⟨b, o, hA1, hbB, hc⟩ : ∃ b o, A1 = some ⟨b, o, none⟩ ∧ b < wr.heap.size ∧ ∀ j, j < n2 → wr.cell? ⟨b, o + j, none⟩ = some (.int .i64 (lr.getD j 0)) := by
          rcases I1.out.2 with e | ⟨b, o, e1, e2, e3⟩
          · omega
          · exact ⟨b, o, e1, e2, e3⟩
        have ck := hc k hkn
        rw [hq] at ck
        cases hA1
        clear hc hmem hv hpl hpl2 hvo h0c h1c h0 h1 hol hne hq hw3
        go_wp2_with fail
        have HTn := Lib.hid (HT.out.below HB.out)
        have HEn := Lib.hid (HE.out.below HB.out)
        have hbz : Below wr.heap.size wr (wr.alloc (.cells #[.int .i64 0, .slice none 0 0] 25)) := (Below.refl _ _).alloc (Nat.le_refl _) _
        have HTz := Lib.hid (HTn.out.below hbz)
        have HEz := Lib.hid (HEn.out.below hbz)
        have I0z := Lib.hid (I0.out.below hbz (Nat.le_refl _))
        have XZ := Lib.hid (Bx.new 25 wr 0 (.slice none 0 0))
        have Hbz := Lib.hid hbz
        clear hbz
        go_cut [7, 8, 9] (fun p l b wx => PlRel s n os gs wr p l b wx)
        case first =>
          go_region_with (first | (go_at_call 13; refine (i_PlV s x (q : Nat) false _ wr.heap.size _ n _ cs (some (os, gs)) s os gs true (by exact I0.out) (by first | exact Nat.le_refl _ | (show wr.heap.size ≤ (wr.alloc (.cells #[.int .i64 0, .slice none 0 0] 25)).heap.size; simp)) (by omega) HR HVw (tab_dr HTn.out) (err_dr HEn.out)).mono ?_; rintro e yc ⟨A3, n3, c3, A4, n4, c4, mid, rfl, ho3, _, hg3, hmd, _, hb9⟩; have hn3 : n = n3 := (by have := ho3.1; have := Hol.out; omega); cases hn3; have HO3 := Lib.hid ho3; have HG3 := Lib.hid hg3; have HB9 : Hid (Below wr.heap.size wr yc) := Lib.hid ⟨hb9.os, hb9.tape, hb9.output, hb9.size, hb9.block⟩; clear ho3 hg3 hb9 hmd) | (go_at_call 13; refine (i_PlV s x (q : Nat) false _ wr.heap.size _ n _ cs (some (os, gs)) s os gs true (by exact I0z.out) (by first | exact Nat.le_refl _ | (show wr.heap.size ≤ (wr.alloc (.cells #[.int .i64 0, .slice none 0 0] 25)).heap.size; simp)) (by omega) HR HVw (tab_dr HTz.out) (err_dr HEz.out)).mono ?_; rintro e yc ⟨A3, n3, c3, A4, n4, c4, mid, rfl, ho3, _, hg3, hmd, _, hb9⟩; have hn3 : n = n3 := (by have := ho3.1; have := Hol.out; omega); cases hn3; have HO3 := Lib.hid ho3; have HG3 := Lib.hid hg3; have hb8 : Below (wr.alloc (.cells #[.int .i64 0, .slice none 0 0] 25)).heap.size (wr.alloc (.cells #[.int .i64 0, .slice none 0 0] 25)) yc := ⟨hb9.os, hb9.tape, hb9.output, hb9.size, hb9.block⟩; have X9 := Lib.hid (XZ.out.below hb8 XZ.out.lt); have k9_0 := X9.out.cell0; have k9_1 := X9.out.cell1; have k9_2 := X9.out.frozen 0; have k9_3 := X9.out.frozen 1; have k9_4 := X9.out.lt; have HK3 : Hid (wr.heap.size < (wr.alloc (.cells #[.int .i64 0, .slice none 0 0] 25)).heap.size) := Lib.hid XZ.out.lt; have HK4 : Hid (wr.heap.size < mid) := Lib.hid (Nat.lt_of_lt_of_le XZ.out.lt hmd); have HB9 : Hid (Below wr.heap.size wr yc) := Lib.hid (Hbz.out.trans (hb8.mono Hbz.out.size)); clear ho3 hg3 hb9 hb8 hmd))
          all_goals go_wp2_with fail
          all_goals go_meet
          all_goals first | exact PlRel.make HO3.out HG3.out HB9.out | exact PlRel.late2 HO3.out HG3.out HB9.out | exact PlRel.late X9.out HO3.out HG3.out (.inl HK3.out) (.inl HK4.out) HB9.out (Nat.le_refl _)
        case rest =>
          obtain ⟨A3, c3, A4, n4, c4, gb, rfl, rfl, rfl, hx9, hi9, hg9, hb9⟩ := hcut
          clear X3_0 X3_1 X3_l
          have X3 := Lib.hid (X3.out.step hb9)
          have I0 := Lib.hid (I0.out.step hb9)
          have I1 := Lib.hid (I1.out.step hb9)
          have I2 := Lib.hid (I2.out.step hb9)
          have HB := Lib.hid (bstep HB.out hb9)
          have HL := Lib.hid (bstep HL.out hb9)
          have X7 := Lib.hid hx9
          have I7 := Lib.hid hi9
          have I8 := Lib.hid hg9
          have hn4 : gs.length = n4 := hg9.1
          clear hb9 hx9 hi9 hg9
          have X3_0 := X3.out.cell0
          have X3_1 := X3.out.cell1
          have X3_l := X3.out.lt
          have X7_0 := X7.out.cell0
          have X7_1 := X7.out.cell1
          have X7_l := X7.out.lt
          have hz4 : ((n4 : Int) == 0) = false := by simp; omega
          have hN : IntKind.i64.wrap (N0 - (n4 : Int)) = N1 := by simp [IntKind.wrap, IntKind.bits, IntKind.signed]; omega
          have hn498 : n4 ≤ 98 := by omega
          clear hcn hgs
          go_wp2_with fail
          have HC := Lib.hid (Below.refl wc.heap.size wc)
          go_cut [64] (fun v wx => v = .bool false ∧ Below wc.heap.size wc wx)
          case first =>
            go_region_held3 (fun w' => w'.cell? ⟨y0.heap.size, 0, none⟩ = some (.int .i64 s) ∧ w'.cell? ⟨y0.heap.size, 1, none⟩ = some (.slice A n c) ∧ w'.cell? ⟨gb, 0, none⟩ = some (.int .i64 s) ∧ w'.cell? ⟨gb, 1, none⟩ = some (.slice A3 n c3)) (first | exact ⟨X3_0, X3_1, X7_0, X7_1⟩ | go_keep) (first | (go_at_call 24; with_reducible show Calls _ _ #[.agg #[.int .i64 s, .slice A3 n c3], _] _ _; refine (cb_b s _ _ _ _ os (IntKind.i64.wrap (3 - x)) N1 (by first | with_reducible exact I7.out | with_reducible exact I7.out.dr) hn49 H1.out).mono ?_; rintro e yc ⟨rfl, hb9⟩; (try replace hb9 := undrew hb9); (try (have X3 := Lib.hid (X3.out.step hb9))); (try (have X7 := Lib.hid (X7.out.step hb9))); (try (have I0 := Lib.hid (I0.out.step hb9))); (try (have I1 := Lib.hid (I1.out.step hb9))); (try (have I2 := Lib.hid (I2.out.step hb9))); (try (have I7 := Lib.hid (I7.out.step hb9))); (try (have I8 := Lib.hid (I8.out.step hb9))); have HC := Lib.hid (bstep HC.out hb9); have X3_0 := X3.out.cell0; have X3_1 := X3.out.cell1; have X3_l := X3.out.lt; have X7_0 := X7.out.cell0; have X7_1 := X7.out.cell1; have X7_l := X7.out.lt; clear hb9) | (go_at_call 24; with_reducible show Calls _ _ #[.agg #[.int .i64 s, .slice A n c], _] _ _; refine (cb_b s _ _ _ _ cs (IntKind.i64.wrap (3 - x)) N0 (by first | with_reducible exact I0.out | with_reducible exact I0.out.dr) hn49 H0.out).mono ?_; rintro e yc ⟨rfl, hb9⟩; (try replace hb9 := undrew hb9); (try (have X3 := Lib.hid (X3.out.step hb9))); (try (have X7 := Lib.hid (X7.out.step hb9))); (try (have I0 := Lib.hid (I0.out.step hb9))); (try (have I1 := Lib.hid (I1.out.step hb9))); (try (have I2 := Lib.hid (I2.out.step hb9))); (try (have I7 := Lib.hid (I7.out.step hb9))); (try (have I8 := Lib.hid (I8.out.step hb9))); have HC := Lib.hid (bstep HC.out hb9); have X3_0 := X3.out.cell0; have X3_1 := X3.out.cell1; have X3_l := X3.out.lt; have X7_0 := X7.out.cell0; have X7_1 := X7.out.cell1; have X7_l := X7.out.lt; clear hb9))
            all_goals go_wp2_with fail
            all_goals go_meet
            all_goals exact ⟨(by first | rfl | simp [hN]), HC.out⟩
          case rest =>
            clear HC
            obtain ⟨rfl, hb65⟩ := hcut
            clear X3_0 X3_1 X3_l X7_0 X7_1 X7_l
            have X3 := Lib.hid (X3.out.step hb65)
            have X7 := Lib.hid (X7.out.step hb65)
            have I0 := Lib.hid (I0.out.step hb65)
            have I1 := Lib.hid (I1.out.step hb65)
            have I2 := Lib.hid (I2.out.step hb65)
            have I7 := Lib.hid (I7.out.step hb65)
            have I8 := Lib.hid (I8.out.step hb65)
            have HB := Lib.hid (bstep HB.out hb65)
            have HL := Lib.hid (bstep HL.out hb65)
            clear hb65
            have X3_0 := X3.out.cell0
            have X3_1 := X3.out.cell1
            have X3_l := X3.out.lt
            have X7_0 := X7.out.cell0
            have X7_1 := X7.out.cell1
            have X7_l := X7.out.lt
            go_wp2_with fail
            go_roundw
            case rel => exact ⟨k + 1, by omega, by go_num, HL.out⟩
            case measure => simp [intOf]; omega
      · go_wp2_with fail
        go_ret
        exact ⟨rfl, HB.out⟩


abbrev listed : List (String × DataW Unit) := [("math/bits.deBruijn64tab", Rows.laid_math_bits_deBruijn64tab), ("loop.example/goboard/impl.errOccupied", Rows.laid_loop_example_goboard_impl_errOccupied), ("loop.example/goboard/impl.errNoLiberty", Rows.laid_loop_example_goboard_impl_errNoLiberty)]
theorem door_met (os : Os) (args : Array Value) : laidMetH Tryd.prog listed ((World.doorLaid Tryd.prog 400 os).forCall (fun _ _ => 0) ⟨#[], args, []⟩).memory :=
  laidMetH_of_parts3 (fuel := 8) (laidMet_of_run' 8 (by kernel_rfl) (by kernel_rfl)) (by kernel_rfl) (by kernel_rfl)
theorem tabOf {W : World} (h : laidMetH Tryd.prog listed W) : Tab W := by
  rw [MakeChecks.laidMetH_plain _ _ _ (by kernel_rfl)] at h
  exact Tab.of (Lib.tabIs_of_head (g := 2) (t := 110) (e := 5) (n := 64) (by kernel_rfl) (by kernel_rfl) (by kernel_rfl) (by kernel_rfl) (by kernel_rfl) (by kernel_rfl) h) (by kernel_rfl)

theorem gv0 : Tryd.prog.globalNamed "loop.example/goboard/impl.errOccupied" = some 0 := by kernel_rfl
theorem gv1 : Tryd.prog.globalNamed "loop.example/goboard/impl.errNoLiberty" = some 1 := by kernel_rfl
theorem tv0 : (Tryd.prog.globals[0]?).map (·.type) = some 69 := by kernel_rfl
theorem tv1 : (Tryd.prog.globals[1]?).map (·.type) = some 69 := by kernel_rfl
theorem cellsE : Tryd.prog.cellsOf 139 = 1 := by kernel_rfl
theorem cellsS : Tryd.prog.cellsOf 9 = 1 := by kernel_rfl
theorem starE : "*" ++ "errors.errorString" = "*errors.errorString" := by decide
theorem rowE (u : TypeId) (h : Tryd.prog.typeName? 3 u = some "*errors.errorString") : u = 122 :=
  typeName_ptr_named (nm := "errors.errorString") (by rw [starE]; kernel_rfl) (by kernel_rfl) (by decide) u (by rw [starE]; exact h)
theorem sents {W : World} (h0 : laidMetH Tryd.prog listed W) : ∃ a0 a1 : Addr,
    W.var? Tryd.prog "loop.example/goboard/impl.errOccupied" = some #[.iface 122 (.pointer (some a0))] ∧ W.var? Tryd.prog "loop.example/goboard/impl.errNoLiberty" = some #[.iface 122 (.pointer (some a1))] := by
  rw [MakeChecks.laidMetH_plain _ _ _ (by kernel_rfl)] at h0
  obtain ⟨ps, ⟨g0, t0, cs0, f0, p0, q0, hg0, ht0, hv0, hd0, ⟨g1, t1, cs1, f1, p1, q1, hg1, ht1, hv1, hd1, hq1, e1⟩, e0⟩, hnd, hrows⟩ := h0.tail
  obtain rfl := Option.some.inj (gv0.symm.trans hg0)
  obtain rfl := Option.some.inj (gv1.symm.trans hg1)
  obtain rfl := Option.some.inj (tv0.symm.trans ht0)
  obtain rfl := Option.some.inj (tv1.symm.trans ht1)
  have hq1' : q1 = [] := hq1
  subst hq1'
  subst e1
  subst e0
  obtain ⟨l0⟩ := cs0
  obtain ⟨l1⟩ := cs1
  have ok0 : ∀ u v, l0 = [.iface u v] → Value.okWide Tryd.prog W .any 0 u v := fun u v e => by
    subst e
    exact (hrows 0 0 (by simp [MemPlace.row])).2 u v (by simpa using World.var?_cell hg0 hv0 0)
  have ok1 : ∀ u v, l1 = [.iface u v] → Value.okWide Tryd.prog W .any 0 u v := fun u v e => by
    subst e
    exact (hrows 1 0 (by simp [MemPlace.row])).2 u v (by simpa using World.var?_cell hg1 hv1 0)
  obtain ⟨a0, s0, rfl, hc0, hs0, hz0, rfl⟩ := errorString_of_trod Tryd.underlying69 rowE Tryd.underlying122 Tryd.underlying139 rfl rfl Tryd.underlying9 cellsE cellsS hd0 ok0
  obtain ⟨a1, s1, rfl, hc1, hs1, hz1, rfl⟩ := errorString_of_trod Tryd.underlying69 rowE Tryd.underlying122 Tryd.underlying139 rfl rfl Tryd.underlying9 cellsE cellsS hd1 ok1
  exact ⟨a0, a1, hv0, hv1⟩
theorem glt {W : World} {g : Nat} {v : Value} (h : W.cell? ⟨g, 0, none⟩ = some v) : g < W.heap.size := by
  rcases Nat.lt_or_ge g W.heap.size with hlt | hge
  · exact hlt
  · simp [World.cell?, Array.getElem?_eq_none hge] at h
theorem errs {W : World} {a0 a1 : Addr} (hv0 : W.var? Tryd.prog "loop.example/goboard/impl.errOccupied" = some #[.iface 122 (.pointer (some a0))]) (hv1 : W.var? Tryd.prog "loop.example/goboard/impl.errNoLiberty" = some #[.iface 122 (.pointer (some a1))]) : ErrW W := by
  have h0 : W.cell? ⟨0, 0, none⟩ = some (.iface 122 (.pointer (some a0))) := by simpa using World.var?_cell gv0 hv0 0
  have h1 : W.cell? ⟨1, 0, none⟩ = some (.iface 122 (.pointer (some a1))) := by simpa using World.var?_cell gv1 hv1 0
  exact ⟨a0, a1, h0, h1, glt h0, glt h1⟩
theorem vars_read {H : Type} (enc : TypeId × Value → H) {W : World} {x0 x1 : Value} (h0 : W.var? Tryd.prog "loop.example/goboard/impl.errOccupied" = some #[x0]) (h1 : W.var? Tryd.prog "loop.example/goboard/impl.errNoLiberty" = some #[x1]) (i0 : IsIface x0) (i1 : IsIface x1) (sp : Nat → Bool) :
    DataW.TrodVars enc Tryd.prog W sp ["loop.example/goboard/impl.errOccupied", "loop.example/goboard/impl.errNoLiberty"] [tok enc x0, tok enc x1] [.cell 0 0, .cell 1 0] :=
  ⟨_, _, #[x0], 1, [], [.cell 1 0], gv0, tv0, h0, trod_held Tryd.underlying69 i0 0, ⟨_, _, #[x1], 1, [], [], gv1, tv1, h1, trod_held Tryd.underlying69 i1 0, rfl, rfl⟩, rfl⟩
theorem var_below {W W' : World} {n : String} {g : Nat} {cs : Array Value} (hg : Tryd.prog.globalNamed n = some g) (h : W.var? Tryd.prog n = some cs) (hb : Below W.heap.size W W') : W'.var? Tryd.prog n = some cs := by
  unfold World.var? at h ⊢
  simp only [hg, Option.bind_some] at h ⊢
  have hlt : g < W.heap.size := by
    rcases Nat.lt_or_ge g W.heap.size with h' | h'
    · exact h'
    · simp [Array.getElem?_eq_none h'] at h
  rw [hb.block g hlt]
  exact h

set_option maxRecDepth 100000 in
theorem lifted (os : Os) (started : os.Started) (H : Type) (enc : TypeId × Value → H) :
    ReturnsInHanded {} Tryd.checked os 6 .any (fun w args => (Rows.fnCapturingPointsSpec.pre enc Tryd.prog Tryd.f6 [] false w args ∧ laidMetH Tryd.prog listed w) ∧ sizedMet enc Tryd.prog Tryd.f6 (OpenSpec.ofChange Rows.fnCapturingPointsSpec) false w args) (Rows.fnCapturingPointsSpec.post enc Tryd.prog Tryd.f6 false true false false) := by
  refine returnsInHanded_of_change_and (C := Tryd.checked) (X := fun w _ => laidMetH Tryd.prog listed w) (fun _ _ _ hh h => h.of_heap hh) own started (by kernel_rfl) Tryd.func6
    (ChangeSpec.witness_shaped (enc := enc) (C := Tryd.checked) (os := os) (X := fun w _ => laidMetH Tryd.prog listed w) false (World.doorLaid Tryd.prog 400 os) #[.slice none 0 0] 8 rfl (World.shaped_of_RefB (by kernel_rfl) (by kernel_rfl)) (by kernel_rfl) (by kernel_rfl) (by kernel_rfl) (door_met os _)) ?_
  intro W base args ds gs before hval0 hW _ _ hL _
  have hval : ∀ (j : Nat) t v, Tryd.f6.params[j]? = some t → args[j]? = some v → Value.okWide Tryd.prog W .any base t v := hval0
  have hW' := hW
  obtain ⟨p, q, hA0, hV, rfl, hfz, hnd⟩ := hW
  have hA : DataW.TrodAll enc Tryd.prog W 0 (fun _ => true) true Tryd.f6.params.toList args.toList ds p := hA0
  rw [Tryd.params6] at hA hval
  obtain ⟨v0, vs0, d0, ds0, p0, q0, hargs, rfl, rfl, h0, r0⟩ := trodAll_cons hA
  obtain ⟨rfl, rfl, rfl⟩ := trodAll_nil r0
  obtain rfl : args = #[v0] := by cases args; simp_all
  have hVv : DataW.TrodVars enc Tryd.prog W (fun _ => true) ["loop.example/goboard/impl.errOccupied", "loop.example/goboard/impl.errNoLiberty"] gs q := hV
  obtain ⟨er0, er1, hv0, hv1⟩ := sents hL
  obtain ⟨rfl, rfl⟩ := hVv.unique (vars_read enc hv0 hv1 trivial trivial _)
  have hE := errs hv0 hv1
  clear hVv hV
  obtain ⟨a0, len0, cap0, rfl⟩ := okWide_slice Tryd.underlying22 (hval 0 22 v0 rfl rfl)
  have k0 := h0
  have lt0 : ∀ x ∈ p0, x.block < W.heap.size := by obtain ⟨m, hm⟩ := k0; exact DataW.trod_lt m _ _ _ hm
  obtain ⟨z0, w0⟩ : ∃ zs, IsRow .u8 W a0 len0 cap0 zs := by
    obtain ⟨fuel, hf⟩ := h0
    rcases open_ints Tryd.underlying22 Tryd.underlying5 (by kernel_rfl) hf with ⟨hcs, _⟩ | ⟨x, l, c, zs, hcs, _, hl, hm, hz, _, hcell, hwz⟩
    · simp [Value.cells] at hcs
      obtain ⟨rfl, rfl, rfl⟩ := hcs
      exact ⟨[], .inl ⟨rfl, rfl, rfl, rfl⟩⟩
    · simp [Value.cells] at hcs
      obtain ⟨rfl, rfl, rfl⟩ := hcs
      exact ⟨zs, .inr ⟨_, rfl, hl, hm, by simpa using hz, hcell, hwz⟩⟩
  clear hA0 hval0
  refine (walk a0 len0 cap0 z0 W (tabOf hL) hE w0).mono fun e W' ⟨he, bel⟩ => ?_
  subst he
  exact ⟨_, rfl, _, _, _, [], _, [.cell 0 0, .cell 1 0], hW', trodAll_mk1 (shut_bool Tryd.underlying4 _), (trodAll_cons_mk (Below.trod laidOut (by kernel_rfl) (of_decide_eq_true (by kernel_rfl)) k0 bel lt0) trodAll_mk0), vars_read enc (var_below gv0 hv0 bel) (var_below gv1 hv1 bel) trivial trivial _, bel.frame _, fun h => by cases h⟩

theorem over : Rows.fnCapturingPointsRow.holds Tryd.pinned (OpenSpec.ofChange Rows.fnCapturingPointsSpec) :=
  OpenClaim.holds_of_wide 6 Tryd.f6 rfl rfl rfl rfl rfl rfl rfl ⟨rfl, rfl, rfl, rfl, rfl⟩ rfl rfl rfl rfl rfl (by kernel_rfl) Tryd.func6 (by kernel_rfl)
    (of_decide_eq_true (by kernel_rfl)) (by unfold Func.isWrapper; first | (rw [if_pos (by decide +kernel)]; kernel_rfl) | (rw [if_neg (by decide +kernel)]; exact ⟨rfl, rfl⟩))
    (fun os started H enc _ => lifted os started H enc)

theorem proved : Rows.FnCapturingPointsCardSaid :=
  Claim7.holds_tied_plain_at .later [] [.data, .sentinel, .sentinel] true Rows.fnCapturingPointsCard.stood.harness false
    over (fun _ h => by cases h) (by kernel_rfl) (fun _ h => by cases h) fnCapturingPoints_row_tie rfl ⟨rfl, rfl⟩ (by kernel_rfl) rfl
    (fun f fn hf hfn => by
      obtain rfl : f = 6 := Option.some.inj ((show Tryd.prog.funcNamed "loop.example/goboard/laws.FnCapturingPoints" = some 6 by kernel_rfl).symm.trans hf) |>.symm
      obtain rfl : fn = Tryd.f6 := (Option.some.inj (Tryd.func6.symm.trans hfn)).symm
      exact ⟨by kernel_rfl, fun j t ht => by
        have hm : t ∈ Tryd.f6.params.toList := by simpa using Array.mem_of_getElem? ht
        have hall : (Tryd.f6.params.toList.all fun u => !Tryd.prog.wantsStandIn u) = true := by kernel_rfl
        exact (show Tryd.prog.wantsStandIn t = false by simpa using List.all_eq_true.1 hall t hm)⟩)
    (by kernel_rfl)
end Go.Proofs.YtpogjegihhljpaaDoor.fnCapturingPoints
