/-
  Groups in atari have one liberty: the law holds for every code. No condition.
-/
import Derived.Test.YtfpibldknjcehaaLawAtKit
import Derived.Test.YtfpibldknjcehaaRows
import Derived.Deep.RegionHeld3
import Derived.Deep.RegionWith
import Derived.Deep.DeepCutAuto
import Derived.WalkKit
import Derived.ProofKit
import Derived.OpenShut
import Derived.ShutString
import Derived.ChangeOld
import Derived.Below
namespace Go.Proofs.Ytfpibldknjcehaa.fnAtariGroups
set_option maxRecDepth 100000
open Go.ChangeShapes Go.WideShapes Go.ChangeAt Go.RowKit
open Go.ChangeMaps (open_string shut_string)
set_option linter.unusedVariables false

theorem own : ownKnob Try.prog.godebug = none := by kernel_rfl
theorem laidOut : laidOutB Try.prog = true := by kernel_rfl


set_option maxRecDepth 100000 in
set_option maxHeartbeats 16000000 in
theorem walk (a0 : Option Addr) (len0 cap0 : Nat) (z0 : List Int) (w : World) (w0 : IsRow .u8 w a0 len0 cap0 z0) :
    Calls Try.prog 11 #[.slice a0 len0 cap0] w fun e w' => e = .returned (.bool true) ∧ Below w.heap.size w w' := by
  by_cases hl : 1048576 < len0
  · go_enter Try.func11, Try.ntmps11
    go_wp2_with fail
    go_ret
    exact ⟨rfl, Below.refl _ _⟩
  · have hl' : decide ((1048576 : Int) < (len0 : Int)) = false := by rw [decide_eq_false_iff_not]; omega
    go_enter Try.func11, Try.ntmps11
    go_wp2_with fail
    refine (d_ati w a0 len0 cap0 z0 w0).mono ?_
    rintro e y0 ⟨s, A, n, c, cs, x, rfl, hi, hn49, s0, s8, hx, hb⟩
    have I0 := Lib.hid hi
    have HB := Lib.hid hb
    clear hi hb w0 hl'
    go_wp2_with fail
    obtain ⟨x1, hy3, hb2, z4, z5⟩ := new_box y0 (.cells #[.int .i64 s, .slice A n c] 25)
    have X3 : Hid (Bx 25 x1 y0.heap.size s (.slice A n c)) := Lib.hid (by rw [hy3]; exact Bx.new _ _ _ _)
    rw [← hy3]
    clear hy3
    have I0 := Lib.hid (I0.out.step hb2)
    have HB := Lib.hid (bstep HB.out hb2)
    clear hb2
    have X3_0 := X3.out.cell0
    have X3_1 := X3.out.cell1
    have X3_l := X3.out.lt
    have hl0 := I0.out.1
    obtain ⟨fs, hfs⟩ := AtIs.make s n cs x hl0
    have hfsm := hfs.small hl0
    obtain ⟨gs, hgs⟩ := GrpsIs.make s n cs x hl0
    have hgsm := hgs.small hl0
    have Hfs := Lib.hid hfs
    have Hgs := Lib.hid hgs
    have Hl := Lib.hid hl0
    have hfl := hfsm.1
    have Hfsm := Lib.hid hfsm.2
    have hgl := hgsm.1
    have Hsm := Lib.hid hgsm.2
    clear hfs hgs hl0 hfsm hgsm
    go_wp2_with fail
    refine (i_AtariGroups s x _ _ _ n _ cs I0.out (Nat.le_refl _) (by omega) fs Hfs).mono ?_
    rintro e x6 ⟨A5, m5, c5, rfl, hs8, hb7⟩
    clear X3_0 X3_1 X3_l
    have X3 := Lib.hid (X3.out.step hb7)
    have I0 := Lib.hid (I0.out.step hb7)
    have HB := Lib.hid (bstep HB.out hb7)
    have F5 := Lib.hid (SS.ints hs8)
    have lenF5 := hs8.1
    clear hb7 hs8
    have X3_0 := X3.out.cell0
    have X3_1 := X3.out.cell1
    have X3_l := X3.out.lt
    go_wp2_with fail
    refine (s_AtariGroups s x _ _ _ n _ cs I0.out (Nat.le_refl _) (by omega) fs Hfs).mono ?_
    rintro e x9 ⟨A6, m6, c6, rfl, hs11, hb10⟩
    clear X3_0 X3_1 X3_l
    have X3 := Lib.hid (X3.out.step hb10)
    have I0 := Lib.hid (I0.out.step hb10)
    have F5 := Lib.hid (F5.out.step hb10)
    have HB := Lib.hid (bstep HB.out hb10)
    have F6 := Lib.hid (SS.ints hs11)
    have lenF6 := hs11.1
    clear hb10 hs11
    have X3_0 := X3.out.cell0
    have X3_1 := X3.out.cell1
    have X3_l := X3.out.lt
    obtain rfl : m6 = m5 := by omega
    go_wp2_with fail
    refine (eqg_b _ _ _ _ _ _ fs F5.out F6.out (by omega) (fun j _ => by have := Hfsm.out j; omega)).mono ?_
    rintro e x12 ⟨rfl, hb13⟩
    clear X3_0 X3_1 X3_l
    have X3 := Lib.hid (X3.out.step hb13)
    have I0 := Lib.hid (I0.out.step hb13)
    have F5 := Lib.hid (F5.out.step hb13)
    have F6 := Lib.hid (F6.out.step hb13)
    have HB := Lib.hid (bstep HB.out hb13)
    clear hb13
    have X3_0 := X3.out.cell0
    have X3_1 := X3.out.cell1
    have X3_l := X3.out.lt
    go_wp2_with fail
    refine (i_GroupsOf s x _ _ _ n _ cs I0.out (Nat.le_refl _) (by omega) gs Hgs).mono ?_
    rintro e y ⟨A1, m, c1, rfl, hss, hb⟩
    obtain ⟨hm, hbd, vs, ra, rn, rc, hv1, hv2, hv3, hv4, hv5⟩ := hss
    have hzy := hb.size
    clear X3_0 X3_1 X3_l
    have X3 := Lib.hid (X3.out.step hb)
    have I0 := Lib.hid (I0.out.step hb)
    have F5 := Lib.hid (F5.out.step hb)
    have F6 := Lib.hid (F6.out.step hb)
    have HB := Lib.hid (bstep HB.out hb)
    have Hv1 := Lib.hid hv1
    have Hv2 := Lib.hid hv2
    have Hv3 := Lib.hid hv3
    have Hv4 := Lib.hid hv4
    have Hv5 := Lib.hid hv5
    have Hm := Lib.hid hm
    have hm49 : m ≤ 49 := by omega
    have Hfd0 : Hid (FD (y.alloc (.cells #[] 23)) y.heap.size x12.heap.size y.heap.size ra rn rc gs 0 (some ⟨y.heap.size, 0, none⟩) 0 0 []) := Lib.hid (FD.of (World.ownsRow_made y #[] 0 (Nat.le_refl _) (by simp) rfl) (fun g e => by injection e with e; injection e with e; omega) ra rn rc gs)
    have Hby := Lib.hid ((Below.refl y.heap.size y).alloc (Nat.le_refl _) (.cells #[] 23))
    clear hb hv1 hv2 hv3 hv4 hv5 hm hbd
    go_wp2_with fail
    go_loopw [7, 8] (fun v i wr => ∃ (k m' c' : Nat) (A' : Option Addr) (f0 : List (List Int)), k ≤ m ∧ i = .int .i64 (k : Nat) ∧ v = .slice A' m' c' ∧ FD wr y.heap.size x12.heap.size y.heap.size ra rn rc gs k A' m' c' f0 ∧ AtF (AT s n cs) gs k f0 ∧ Below y.heap.size y wr) (fun _ i _ => m - (intOf i).toNat)
    case atStart => exact ⟨0, 0, 0, _, [], by omega, rfl, rfl, Hfd0.out, rfl, Hby.out⟩
    case round =>
      clear Hfd0 Hby
      obtain ⟨wo, rfl⟩ : ∃ wo : World, wo = wr := ⟨_, rfl⟩
      obtain ⟨k, m', c', A', f0, hk, rfl, rfl, hfd, hat, hbr⟩ := hrel
      have hz := hbr.size
      have X3 := Lib.hid (X3.out.step hbr)
      have I0 := Lib.hid (I0.out.step hbr)
      have F5 := Lib.hid (F5.out.step hbr)
      have HB := Lib.hid (bstep HB.out hbr)
      have Hfd := Lib.hid hfd
      have Hat := Lib.hid hat
      have Hbr := Lib.hid hbr
      clear hfd hat hbr
      by_cases hkm : k < m
      · have hkI : (k : Int) < m := by omega
        obtain ⟨gb, hA1⟩ : ∃ gb, A1 = some ⟨gb, 0, none⟩ := by
          obtain ⟨q, cap, hv, _⟩ := World.ownsRow.form Hv2.out (by omega)
          exact ⟨q, by injection hv⟩
        have hgbl : gb < y.heap.size := by
          have := Hv2.out
          rw [hA1] at this
          exact (World.ownsRow.lt this gb rfl).2
        have ck0 : y.cell? ⟨gb, k, none⟩ = some (.slice (ra k) (rn k) (rc k)) := by
          have := Hv2.out
          rw [hA1] at this
          rw [World.ownsRow.cellAt this k (by omega)]
          exact (Hv3.out k hkm).1
        have ck := (Hbr.out.cell (p := ⟨gb, k, none⟩) (by show gb < _; omega)).trans ck0
        rw [hA1]
        have hrow0 := (Hv3.out k hkm).2
        have hrow := hrow0.under Hbr.out (fun g e => (hrow0.ge e).2)
        have hgk := Hsm.out k
        have hrl := hrow.1
        obtain ⟨Ak, hAk⟩ : ∃ a, ra k = a := ⟨_, rfl⟩
        obtain ⟨nk, hnk⟩ : ∃ a, rn k = a := ⟨_, rfl⟩
        obtain ⟨ck9, hck⟩ : ∃ a, rc k = a := ⟨_, rfl⟩
        obtain ⟨g, hg⟩ : ∃ g, gs.getD k [] = g := ⟨_, rfl⟩
        rw [hAk, hnk, hck] at ck
        rw [hAk, hnk, hck, hg] at hrow
        rw [hnk, hg] at hrl
        rw [hg] at hgk
        have HAk := Lib.hid hAk
        have Hnk := Lib.hid hnk
        have Hck := Lib.hid hck
        have Hg := Lib.hid hg
        have hnk49 : nk ≤ 1000 := by omega
        have hok : okGs s cs x = true := by
          rcases Bool.eq_false_or_eq_true (okGs s cs x) with e | e
          · exact e
          · have e1 := Hgs.out.2 e
            have e2 := Hm.out
            rw [e1] at e2
            have : m = 0 := by simpa using e2.symm
            omega
        have hgl2 := Hgs.out.1 hok
        unfold okGs at hok
        rw [Bool.and_eq_true] at hok
        obtain ⟨q1, q2, q3, _⟩ := (Bd.okB_iff s cs).1 hok.1
        have hmem : g ∈ gs := by rw [← hg]; exact getD_mem (by rw [Hm.out]; exact hkm)
        obtain ⟨q, hq1, hq2, hq3, hqx, hq4⟩ := GL.rowC (Nat.le_refl n) hgl2 g hmem
        have hh : hst s cs (q : Int) = true := by
          have hx12 : 1 ≤ x ∧ x ≤ 2 := by have := hok.2; simpa using this
          have hp : Pt.okP s (q : Int) = true := (Pt.okP_iff _ _).2 ⟨q1, q2, by omega, by have := Hl.out; omega⟩
          unfold hst
          rw [hok.1, hp, Int.toNat_natCast, hqx]
          have : (x == 0) = false := by simp; omega
          rw [this]; rfl
        obtain ⟨l, hlib⟩ := LibIs.make s n cs (q : Int) Hl.out
        obtain ⟨M, hM⟩ : ∃ M, l.length = M := ⟨_, rfl⟩
        have hAT := at_lib hh hq4 hlib
        rw [hM] at hAT
        have HAT := Lib.hid hAT
        have HM := Lib.hid hM
        have Hlib := Lib.hid hlib
        have hMn : M ≤ 49 := by have := hlib.few; omega
        obtain ⟨gq, hAq⟩ : ∃ gq, Ak = some ⟨gq, 0, none⟩ := by
          obtain ⟨u, cap, hv, _⟩ := World.ownsRow.form hrow.2 (by omega)
          exact ⟨u, by injection hv⟩
        subst hAq
        have hgql := (hrow.ge rfl).2
        have cq : wo.cell? ⟨gq, 0, none⟩ = some (.int .i64 (q : Nat)) := by
          rw [World.ownsRow.cellAt hrow.2 0 (by omega), List.getElem?_map]
          have h0 : 0 < g.length := hq2
          rw [List.getD_eq_getElem?_getD, List.getElem?_eq_getElem h0] at hq3
          rw [List.getElem?_eq_getElem h0]
          simpa using hq3
        have Hck9 : Hid (∀ w', Below wo.heap.size wo w' → w'.cell? ⟨gb, k, none⟩ = some (.slice (some ⟨gq, 0, none⟩) nk ck9)) := Lib.hid fun w' hb9 => (hb9.cell (p := ⟨gb, k, none⟩) (by show gb < _; omega)).trans ck
        have Hcq9 : Hid (∀ w', Below wo.heap.size wo w' → w'.cell? ⟨gq, 0, none⟩ = some (.int .i64 (q : Nat))) := Lib.hid fun w' hb9 => (hb9.cell (p := ⟨gq, 0, none⟩) hgql).trans cq
        have hnk0 : 0 < nk := by omega
        have hnkI : (0 : Int) < nk := by omega
        have HC := Lib.hid (Below.refl wo.heap.size wo)
        have X3_0 := X3.out.cell0
        have X3_1 := X3.out.cell1
        clear ck0 hA1 hrow0 hrow hAk hnk hck hg hok hgl2 hmem hq4 q3 hAT hM hlib hh hq3 hqx hrl hq2
        by_cases hM1 : M = 1
        · have HM1 := Lib.hid hM1
          have bM : ((M : Int) == 1) = true := by rw [hM1]; rfl
          clear hM1
          go_upto_region 12 with (fail)
          go_cut [53] (fun v wx => v = .bool true ∧ Below wo.heap.size wo wx)
          case first =>
            go_region_held3 (fun w' => w'.cell? ⟨y0.heap.size, 0, none⟩ = some (.int .i64 s) ∧ w'.cell? ⟨y0.heap.size, 1, none⟩ = some (.slice A n c) ∧ w'.cell? ⟨gb, k, none⟩ = some (.slice (some ⟨gq, 0, none⟩) nk ck9) ∧ w'.cell? ⟨gq, 0, none⟩ = some (.int .i64 (q : Nat))) (first | exact ⟨X3_0, X3_1, ck, cq⟩ | go_keep) ((go_at_call 54; refine (i_LibM s (q : Nat) _ _ _ _ cs (by first | with_reducible exact I0.out | with_reducible exact I0.out.dr) hn49 l Hlib M HM).mono ?_; rintro e yc ⟨A7, c7, rfl, hb9⟩; (try replace hb9 := undrew hb9); have HC := Lib.hid (bstep HC.out hb9); have X3 := Lib.hid (X3.out.step hb9); have X3_0 := X3.out.cell0; have X3_1 := X3.out.cell1; have ck := Hck9.out _ HC.out; have cq := Hcq9.out _ HC.out; clear hb9))
            all_goals go_wp2_with fail
            all_goals go_meet
            all_goals exact ⟨rfl, HC.out⟩
          case rest =>
            clear HC
            obtain ⟨rfl, hb3⟩ := hcut
            have hz3 := hb3.size
            have ck := Hck9.out _ hb3
            have Hfd3 := Lib.hid (Hfd.out.below hb3)
            have Hbr3 := Lib.hid (Hbr.out.trans (hb3.mono (by omega)))
            clear hb3 cq X3_0 X3_1
            obtain ⟨vs9, r1, r2, r3, r4⟩ := Hfd3.out.row
            rw [HAk.out, Hnk.out, Hck.out, Hg.out] at r3
            have R3 := Lib.hid r3
            have Hrw := Lib.hid r1
            have Hyes : Hid (AT s n cs (gs.getD k [])) := Lib.hid (by rw [Hg.out]; exact HAT.out.2 HM1.out)
            clear r1 r4 r3
            go_wp2_with (at_builtin; refine app1V rfl _ _ rfl _ _ _ _ _ _ _ _ _ _ rfl rfl rfl Hrw.out (by omega) (by omega) ?_; intro A6 c6 w6 hr6 hlt6 hg6 hat6)
            have Hfd6 := Lib.hid (R3.out w6 A6 c6 hr6 (fun q e => by rcases hat6 q e with e2 | e2; exact .inl e2; exact .inr (by omega)))
            have Hb6 := Lib.hid (Hbr3.out.grown hg6 (by omega) (fun q e => by have e2 := slice_block e (row_form Hrw.out); have := Hrw.out; rw [e2] at this; exact (World.ownsRow.lt this q rfl).1))
            clear hr6 hg6 hat6
            go_roundw
            case rel => exact ⟨k + 1, _, _, _, _, by omega, by go_num, rfl, Hfd6.out, ⟨_, Hat.out, .inl ⟨Hyes.out, by rw [Hg.out]⟩⟩, Hb6.out⟩
            case measure => simp [intOf]; omega
        · have Hno : Hid (¬ AT s n cs (gs.getD k [])) := Lib.hid (by rw [Hg.out]; exact fun h => hM1 (HAT.out.1 h))
          have bM : ((M : Int) == 1) = false := by simp; omega
          clear hM1
          go_upto_region 12 with (fail)
          go_cut [53] (fun v wx => v = .bool false ∧ Below wo.heap.size wo wx)
          case first =>
            go_region_held3 (fun w' => w'.cell? ⟨y0.heap.size, 0, none⟩ = some (.int .i64 s) ∧ w'.cell? ⟨y0.heap.size, 1, none⟩ = some (.slice A n c) ∧ w'.cell? ⟨gb, k, none⟩ = some (.slice (some ⟨gq, 0, none⟩) nk ck9) ∧ w'.cell? ⟨gq, 0, none⟩ = some (.int .i64 (q : Nat))) (first | exact ⟨X3_0, X3_1, ck, cq⟩ | go_keep) ((go_at_call 54; refine (i_LibM s (q : Nat) _ _ _ _ cs (by first | with_reducible exact I0.out | with_reducible exact I0.out.dr) hn49 l Hlib M HM).mono ?_; rintro e yc ⟨A7, c7, rfl, hb9⟩; (try replace hb9 := undrew hb9); have HC := Lib.hid (bstep HC.out hb9); have X3 := Lib.hid (X3.out.step hb9); have X3_0 := X3.out.cell0; have X3_1 := X3.out.cell1; have ck := Hck9.out _ HC.out; have cq := Hcq9.out _ HC.out; clear hb9))
            all_goals go_wp2_with fail
            all_goals go_meet
            all_goals exact ⟨rfl, HC.out⟩
          case rest =>
            clear HC
            obtain ⟨rfl, hb3⟩ := hcut
            have Hfd3 := Lib.hid (Hfd.out.below hb3)
            have Hbr3 := Lib.hid (Hbr.out.trans (hb3.mono (by omega)))
            clear hb3 cq X3_0 X3_1 ck
            go_wp2_with fail
            go_roundw
            case rel => exact ⟨k + 1, _, _, _, _, by omega, by go_num, rfl, Hfd3.out.skip, ⟨_, Hat.out, .inr ⟨Hno.out, rfl⟩⟩, Hbr3.out⟩
            case measure => simp [intOf]; omega
      · obtain rfl : k = m := by omega
        have hf0 : f0 = fs := Hat.out.one (by have := Hfs.out.of Hgs.out; rw [Hm.out] at this; exact this)
        rw [hf0] at Hfd
        clear hf0
        have hss := Hfd.out.ss (Nat.le_refl _) (show x12.heap.size ≤ y.heap.size by omega) (fun j hj => ((Hv3.out j hj).2.under Hbr.out (fun g e => ((Hv3.out j hj).2.ge e).2))) (fun j hj g e => (Hv3.out j hj).2.ge e) Hv5.out
        have hm5 := hss.1
        have F7 := Lib.hid (SS.ints hss)
        clear hss
        obtain rfl : m' = m6 := by omega
        go_wp2_with fail
        refine (eqg_b _ _ _ _ _ _ fs F7.out F5.out (by omega) (fun j _ => by have := Hfsm.out j; omega)).mono ?_
        rintro e y9 ⟨rfl, hb9⟩
        have HB9 := Lib.hid (bstep HB.out hb9)
        clear hb9
        go_wp2_with fail
        go_ret
        exact ⟨rfl, HB9.out⟩

set_option maxRecDepth 100000 in
theorem lifted (os : Os) (started : os.Started) (H : Type) (enc : TypeId × Value → H) :
    ReturnsInHanded {} Try.checked os 11 .any (Rows.fnAtariGroupsSpec.pre6 enc Try.prog Try.f11 Rows.fnAtariGroupsRow.domain false) (Rows.fnAtariGroupsSpec.post enc Try.prog Try.f11 false true false false) := by
  refine returnsInHanded_of_change (C := Try.checked) own started (by kernel_rfl) Try.func11
    (ChangeSpec.witness6 (enc := enc) (C := Try.checked) false ⟨#[], #[.slice none 0 0], []⟩ 8 (by kernel_rfl) (by kernel_rfl) (by kernel_rfl) (by kernel_rfl)) ?_
  intro W base args ds gs before hval0 hW hcnd _
  have hval : ∀ (j : Nat) t v, Try.f11.params[j]? = some t → args[j]? = some v → Value.okWide Try.prog W .any base t v := hval0
  have hW' := hW
  obtain ⟨p, q, hA0, hV, rfl, hfz, hnd⟩ := hW
  have hA : DataW.TrodAll enc Try.prog W 0 (fun _ => true) true Try.f11.params.toList args.toList ds p := hA0
  rw [Try.params11] at hA hval
  obtain ⟨v0, vs0, d0, ds0, p0, q0, hargs, rfl, rfl, h0, r0⟩ := trodAll_cons hA
  obtain ⟨rfl, rfl, rfl⟩ := trodAll_nil r0
  obtain rfl : args = #[v0] := by cases args; simp_all
  obtain ⟨rfl, rfl⟩ := trodVars_none hV
  obtain ⟨a0, len0, cap0, rfl⟩ := okWide_slice Try.underlying22 (hval 0 22 v0 rfl rfl)
  have k0 := h0
  have lt0 : ∀ x ∈ p0, x.block < W.heap.size := by obtain ⟨m, hm⟩ := k0; exact DataW.trod_lt m _ _ _ hm
  obtain ⟨z0, w0⟩ : ∃ zs, IsRow .u8 W a0 len0 cap0 zs := by
    obtain ⟨fuel, hf⟩ := h0
    rcases open_ints Try.underlying22 Try.underlying5 (by kernel_rfl) hf with ⟨hcs, _⟩ | ⟨x, l, c, zs, hcs, _, hl, hm, hz, _, hcell, hwz⟩
    · simp [Value.cells] at hcs
      obtain ⟨rfl, rfl, rfl⟩ := hcs
      exact ⟨[], .inl ⟨rfl, rfl, rfl, rfl⟩⟩
    · simp [Value.cells] at hcs
      obtain ⟨rfl, rfl, rfl⟩ := hcs
      exact ⟨zs, .inr ⟨_, rfl, hl, hm, by simpa using hz, hcell, hwz⟩⟩
  clear hA0 hval0
  refine (walk a0 len0 cap0 z0 W w0).mono fun e W' ⟨he, bel⟩ => ?_
  subst he
  exact ⟨_, rfl, _, _, _, [], _, [], hW', trodAll_mk1 (shut_bool Try.underlying4 _), (trodAll_cons_mk (Below.trod laidOut (by kernel_rfl) (of_decide_eq_true (by kernel_rfl)) k0 bel lt0) trodAll_mk0), rfl, bel.frame _, fun h => by cases h⟩

theorem over : Rows.fnAtariGroupsRow.holds Try.pinned (OpenSpec.ofChange Rows.fnAtariGroupsSpec) :=
  OpenClaim.holds_of_wide 11 Try.f11 rfl rfl rfl rfl rfl rfl rfl ⟨rfl, rfl, rfl, rfl, rfl⟩ rfl rfl rfl rfl rfl (by kernel_rfl) Try.func11 (by kernel_rfl)
    (of_decide_eq_true (by kernel_rfl)) (by unfold Func.isWrapper; first | (rw [if_pos (by decide +kernel)]; kernel_rfl) | (rw [if_neg (by decide +kernel)]; exact ⟨rfl, rfl⟩))
    (fun os started H enc _ => lifted os started H enc)

theorem proved : Rows.FnAtariGroupsSaid := over
end Go.Proofs.Ytfpibldknjcehaa.fnAtariGroups
