/-
  Hashes change stone by stone: the law of HashAfter holds for every code. No condition but the laid variables.
-/
import Derived.Test.YteldfjibmaigiaaDoorRows
import Derived.Deep.RegionHeld3
import Derived.Test.YteldfjibmaigiaaDoorLawHbKitB
import Derived.Deep.LoopGhost
import Derived.Deep.RegionWith
import Derived.Deep.DeepCutAuto
import Derived.Test.YteldfjibmaigiaaDoorCards
import Derived.Test.YteldfjibmaigiaaDoorTie
import Derived.Test.YteldfjibmaigiaaDoorLawHbKitA
import Derived.LaidMore
import Derived.Stop.Joined
import Derived.Stop.LaidErr
import Derived.SevenTiedAt
import Derived.RowKitTokens
import Derived.LaidLaws
import Derived.ChangeVars
import Derived.ChangeSame
import Derived.WalkKit
import Derived.ProofKit
import Derived.OpenShut
import Derived.ShutString
import Derived.ChangeOld
import Derived.Below
namespace Go.Proofs.YteldfjibmaigiaaDoor.fnHashAfter
set_option maxRecDepth 100000
open Go.WideMaps Go.WideElems
open Go.ChangeShapes Go.WideShapes Go.ChangeAt Go.RowKit
open Go.ChangeMaps (open_string shut_string)
set_option linter.unusedVariables false

theorem own : ownKnob Tryd.prog.godebug = none := by kernel_rfl
theorem laidOut : laidOutB Tryd.prog = true := by kernel_rfl


set_option maxRecDepth 100000 in
set_option maxHeartbeats 16000000 in
theorem walk (a0 : Option Addr) (len0 cap0 : Nat) (z0 : List Int) (w : World) (ht : Tab w) (hE : ErrW w) (w0 : IsRow .u8 w a0 len0 cap0 z0) :
    Calls Tryd.prog 5 #[.slice a0 len0 cap0] w fun e w' => e = .returned (.bool true) ∧ Below w.heap.size w w' := by
  by_cases hl : 1048576 < len0
  · go_enter Tryd.func5, Tryd.ntmps5
    go_wp2_with fail
    go_ret
    exact ⟨rfl, Below.refl _ _⟩
  · have hl' : decide ((1048576 : Int) < (len0 : Int)) = false := by rw [decide_eq_false_iff_not]; omega
    go_enter Tryd.func5, Tryd.ntmps5
    go_wp2_with fail
    refine (d_hashAft w a0 len0 cap0 z0 w0).mono ?_
    rintro e y0 ⟨s, A, n, c, cs, x, p, su, rfl, hi, hn49, s0, s8, hx1, hx2, hb⟩
    have I0 := Lib.hid hi
    have HB := Lib.hid hb
    have HT := Lib.hid ht
    have HE := Lib.hid hE
    clear hE
    clear hi hb w0 hl'
    go_wp2_with fail
    obtain ⟨x1, hy3, hb2, z4, z5⟩ := new_box y0 (.cells #[.int .i64 s, .slice A n c] 25)
    have X3 : Hid (Bx 25 x1 y0.heap.size s (.slice A n c)) := Lib.hid (by rw [hy3]; exact Bx.new _ _ _ _)
    rw [← hy3]
    clear hy3
    have I0 := Lib.hid (I0.out.step hb2)
    have HB := Lib.hid (bstep HB.out hb2)
    clear hb2
    have X3_0 := X3.out.cell0
    have X3_1 := X3.out.cell1
    have X3_l := X3.out.lt
    have hl0 := I0.out.1
    obtain ⟨R, hR⟩ := PlB.make s n cs x p su hl0
    have HR := Lib.hid hR
    have Hl := Lib.hid hl0
    clear hl0
    rcases R with _ | ⟨os, gs⟩
    · clear hR
      go_wp2_with fail
      refine (i_hashAfter s x p su _ A n c cs none (-1) I0.out (by omega) HR (Lib.hid rfl) (HT.out.below HB.out) (HE.out.below HB.out)).mono ?_
      rintro e x106 ⟨rfl, hb107⟩
      clear X3_0 X3_1 X3_l
      have X3 := Lib.hid (X3.out.step hb107)
      have I0 := Lib.hid (I0.out.step hb107)
      have HB := Lib.hid (bstep HB.out hb107)
      clear hb107
      have X3_0 := X3.out.cell0
      have X3_1 := X3.out.cell1
      have X3_l := X3.out.lt
      go_wp2_with fail
      refine (s_hashAfter s x p su _ A n c cs none (-1) I0.out (by omega) HR (Lib.hid rfl)).mono ?_
      rintro e x109 ⟨rfl, hb110⟩
      clear X3_0 X3_1 X3_l
      have X3 := Lib.hid (X3.out.step hb110)
      have I0 := Lib.hid (I0.out.step hb110)
      have HB := Lib.hid (bstep HB.out hb110)
      clear hb110
      have X3_0 := X3.out.cell0
      have X3_1 := X3.out.cell1
      have X3_l := X3.out.lt
      go_wp2_with fail
      refine (s_hashAfter s x p su _ A n c cs none (-1) I0.out (by omega) HR (Lib.hid rfl)).mono ?_
      rintro e x112 ⟨rfl, hb113⟩
      clear X3_0 X3_1 X3_l
      have X3 := Lib.hid (X3.out.step hb113)
      have I0 := Lib.hid (I0.out.step hb113)
      have HB := Lib.hid (bstep HB.out hb113)
      clear hb113
      have X3_0 := X3.out.cell0
      have X3_1 := X3.out.cell1
      have X3_l := X3.out.lt
      go_wp2_with fail
      go_ret
      exact ⟨by first | rfl | simp, HB.out⟩
    · have hcl := Hl.out
      obtain ⟨k, q, hsk, rfl, hq, hB, xl, xu, s1, s2, h49, hsq, hv, hP, hp⟩ := Hb.get hR hcl
      have hob := Hb.ans_oth hR hcl
      have hol := Hb.olen hp
      have hov := ((Bd.okB_iff _ _).1 hob).2.2.2
      have HVw : Hid (View s (some (os, gs)) s os gs true) := Lib.hid ⟨rfl, rfl, rfl, rfl⟩
      obtain ⟨V, hV⟩ : ∃ V, Hb.ans n (some (os, gs)) = V := ⟨_, rfl⟩
      have HA1 := Lib.hid hV
      have hVo : Ha.upto os n = V := hV
      obtain ⟨wl, wu⟩ := Ha.bd hov n h49 (by omega)
      rw [hVo] at wl wu
      have hn0 : ¬ V < 0 := by omega
      have hvb : (V != V) = false := by simp
      have hvv : (V == V) = true := by simp
      have hfo : Ha.ans s os = V := by unfold Ha.ans; rw [if_pos hob, hol]; exact hVo
      have hgl := Hb.glen hp xl xu
      have hans : Ha.rm (cs.set q x) gs (Ha.xr (Ha.upto cs n) (Ky.key (q : Int) x)) gs.length = V := (Hb.hash hp hcl h49 hv hq xl xu).trans hVo
      have hin := fun i (hi : i < gs.length) => Hb.at_ hp xl xu hi
      have hsat := fun i => Hb.sat (cs := cs) (n := n) (p := q) (q := i) (x := x) hcl hq
      have hok : Ky.ok (q : Int) x = true := Ky.ok_iff.2 (by omega)
      obtain ⟨ka, kb⟩ := Ky.key_bd hok
      obtain ⟨t0, t1⟩ := Ha.bd hv n h49 (by omega)
      have hxr := Ha.xr_bd t0 t1 ka kb
      have hval := bits_xr t0 t1 ka kb
      have hf : Ha.ans s cs = Ha.upto cs n := by unfold Ha.ans; rw [if_pos hB, hcl]
      obtain ⟨H, hH⟩ : ∃ H, Ha.upto cs n = H := ⟨_, rfl⟩
      rw [hH] at t0 t1 hxr hval hf hans
      obtain ⟨K, hK⟩ : ∃ K, Ky.key (q : Int) x = K := ⟨_, rfl⟩
      rw [hK] at ka kb hxr hval hans
      obtain ⟨h0, hh0⟩ : ∃ h0, Ha.xr H K = h0 := ⟨_, rfl⟩
      rw [hh0] at hxr hval hans
      have hv2 : ∀ c ∈ cs.set q x, 0 ≤ c ∧ c ≤ 2 := by
        intro c hc
        rcases List.mem_or_eq_of_mem_set hc with h | rfl
        · exact hv c h
        · omega
      obtain ⟨ds, hds⟩ : ∃ ds, cs.set q x = ds := ⟨_, rfl⟩
      rw [hds] at hv2 hin hans
      rw [hds] at hsat
      have hdl : ds.length = n := by rw [← hds, List.length_set]; exact hcl
      obtain ⟨v0, v1⟩ := hxr
      have Hf := Lib.hid hf
      have Hfo := Lib.hid hfo
      have Hol := Lib.hid hol
      have HK := Lib.hid hK
      have HA := Lib.hid hans
      have Hin := Lib.hid hin
      have Hv2 := Lib.hid hv2
      have Hsat := Lib.hid hsat
      have Hdl := Lib.hid hdl
      have Hbd := Lib.hid (fun j hj => Hb.bd hv2 h49 v0 v1 hin j hj)
      clear hsk hsq s1 s2 hf hfo hK hans hin hv2 hds hsat hdl hH hh0 hp hv hB hP hok hob hov hol hVo hV hR hcl
      go_wp2_with fail
      refine (i_hashAfter s x q su _ A n c cs _ V I0.out (by omega) HR HA1 (HT.out.below HB.out) (HE.out.below HB.out)).mono ?_
      rintro e x406 ⟨rfl, hb407⟩
      clear X3_0 X3_1 X3_l
      have X3 := Lib.hid (X3.out.step hb407)
      have I0 := Lib.hid (I0.out.step hb407)
      have HB := Lib.hid (bstep HB.out hb407)
      clear hb407
      have X3_0 := X3.out.cell0
      have X3_1 := X3.out.cell1
      have X3_l := X3.out.lt
      go_wp2_with fail
      refine (s_hashAfter s x q su _ A n c cs _ V I0.out (by omega) HR HA1).mono ?_
      rintro e x409 ⟨rfl, hb410⟩
      clear X3_0 X3_1 X3_l
      have X3 := Lib.hid (X3.out.step hb410)
      have I0 := Lib.hid (I0.out.step hb410)
      have HB := Lib.hid (bstep HB.out hb410)
      clear hb410
      have X3_0 := X3.out.cell0
      have X3_1 := X3.out.cell1
      have X3_l := X3.out.lt
      go_wp2_with fail
      refine (i_plB s x q su _ A n c cs _ s os gs true I0.out (by omega) HR HVw (HT.out.below HB.out) (HE.out.below HB.out)).mono ?_
      rintro e x412 ⟨A3, n3, c3, A4, n4, c4, rfl, ⟨ho3, ho4⟩, hb413⟩
      clear X3_0 X3_1 X3_l
      have X3 := Lib.hid (X3.out.step hb413)
      have I0 := Lib.hid (I0.out.step hb413)
      have HB := Lib.hid (bstep HB.out hb413)
      have I3 := Lib.hid ho3.ints
      have I4 := Lib.hid ho4.ints
      have lenI3 := ho3.1
      have lenI4 := ho4.1
      have hn3 : n3 ≤ 49 := by have := Hol.out; omega
      clear lenI3
      clear hb413 ho3 ho4
      have X3_0 := X3.out.cell0
      have X3_1 := X3.out.cell1
      have X3_l := X3.out.lt
      go_wp2_with fail
      obtain ⟨x414, hy416, hb415, z417, z418⟩ := new_box x412 (.cells #[.int .i64 s, .slice A3 n3 c3] 25)
      have X8 : Hid (Bx 25 x414 x412.heap.size s (.slice A3 n3 c3)) := Lib.hid (by rw [hy416]; exact Bx.new _ _ _ _)
      rw [← hy416]
      clear hy416
      clear X3_0 X3_1 X3_l
      have X3 := Lib.hid (X3.out.step hb415)
      have I0 := Lib.hid (I0.out.step hb415)
      have I3 := Lib.hid (I3.out.step hb415)
      have I4 := Lib.hid (I4.out.step hb415)
      have HB := Lib.hid (bstep HB.out hb415)
      clear hb415
      have X3_0 := X3.out.cell0
      have X3_1 := X3.out.cell1
      have X3_l := X3.out.lt
      have X8_0 := X8.out.cell0
      have X8_1 := X8.out.cell1
      have X8_l := X8.out.lt
      go_wp2_with fail
      refine (i_hash s _ _ A n c cs I0.out (Nat.le_refl _) (by omega)).mono ?_
      rintro e x419 ⟨rfl, hb420⟩
      clear X3_0 X3_1 X3_l X8_0 X8_1 X8_l
      have X3 := Lib.hid (X3.out.step hb420)
      have X8 := Lib.hid (X8.out.step hb420)
      have I0 := Lib.hid (I0.out.step hb420)
      have I3 := Lib.hid (I3.out.step hb420)
      have I4 := Lib.hid (I4.out.step hb420)
      have HB := Lib.hid (bstep HB.out hb420)
      rw [Hf.out]
      clear hb420
      have X3_0 := X3.out.cell0
      have X3_1 := X3.out.cell1
      have X3_l := X3.out.lt
      have X8_0 := X8.out.cell0
      have X8_1 := X8.out.cell1
      have X8_l := X8.out.lt
      go_wp2_with fail
      refine (i_key (q : Nat) x _).mono ?_
      rintro e y ⟨rfl, rfl⟩
      rw [HK.out]
      go_wp2_with fail
      obtain ⟨Y, hY⟩ : ∃ Y : World, Y = x419 := ⟨_, rfl⟩
      rw [← hY] at I0 I3 I4 HB X3 X3_0 X3_1 X3_l X8 X8_0 X8_1 X8_l ⊢
      clear hY
      go_loopg [11, 12] (n4 + 1) (fun m va vb wr => ∃ j : Nat, j + m = n4 + 1 ∧ j ≤ n4 ∧ va = .int .i64 (Ha.rm ds gs h0 j) ∧ vb = .int .i64 (j : Nat) ∧ BelowY Y wr)
      case atStart => exact ⟨0, by omega, by omega, rfl, rfl, Below.refl _ _⟩
      case round =>
        obtain ⟨j, hj, hjn, rfl, rfl, hbw⟩ := hrel
        obtain ⟨wi, rfl⟩ : ∃ wi : World, wi = wr := ⟨_, rfl⟩
        have HBY := Lib.hid hbw
        replace hbw : Below Y.heap.size Y wi := hbw
        clear X3_0 X3_1 X3_l X8_0 X8_1 X8_l
        have X3 := Lib.hid (X3.out.step hbw)
        have X8 := Lib.hid (X8.out.step hbw)
        have I0 := Lib.hid (I0.out.step hbw)
        have I3 := Lib.hid (I3.out.step hbw)
        have I4 := Lib.hid (I4.out.step hbw)
        have HB := Lib.hid (bstep HB.out hbw)
        clear hbw
        have X3_0 := X3.out.cell0
        have X3_1 := X3.out.cell1
        have X3_l := X3.out.lt
        have X8_0 := X8.out.cell0
        have X8_1 := X8.out.cell1
        have X8_l := X8.out.lt
        obtain ⟨r0, r1⟩ := Hbd.out j (by omega)
        by_cases hjj : j = n4
        · subst hjj
          have hlt : ¬ ((j : Nat) : Int) < (j : Nat) := by omega
          have hVj : Ha.rm ds gs h0 j = V := by rw [← HA.out, lenI4]
          rw [hVj]
          go_wp2_with fail
          refine (i_hash s _ _ A3 n3 c3 os I3.out (Nat.le_refl _) (by omega)).mono ?_
          rintro e x522 ⟨rfl, hb523⟩
          clear X3_0 X3_1 X3_l X8_0 X8_1 X8_l
          have X3 := Lib.hid (X3.out.step hb523)
          have X8 := Lib.hid (X8.out.step hb523)
          have I0 := Lib.hid (I0.out.step hb523)
          have I3 := Lib.hid (I3.out.step hb523)
          have I4 := Lib.hid (I4.out.step hb523)
          have HBY := Lib.hid (HBY.out.step hb523)
          have HB := Lib.hid (bstep HB.out hb523)
          rw [Hfo.out]
          clear hb523
          have X3_0 := X3.out.cell0
          have X3_1 := X3.out.cell1
          have X3_l := X3.out.lt
          have X8_0 := X8.out.cell0
          have X8_1 := X8.out.cell1
          have X8_l := X8.out.lt
          go_wp2_with fail
          go_ret
          exact ⟨by first | rfl | simp, HB.out⟩
        · have hlt : ((j : Nat) : Int) < n4 := by omega
          have hj4 : j < n4 := by omega
          have hj0 : (0 : Int) ≤ (j : Nat) := by omega
          obtain ⟨g0, g1, g2⟩ := Hin.out j (by omega)
          obtain ⟨b2, o2, hA4, _, _⟩ : ∃ b o, A4 = some ⟨b, o, none⟩ ∧ b < wi.heap.size ∧ ∀ j, j < n4 → wi.cell? ⟨b, o + j, none⟩ = some (.int .i64 (gs.getD j 0)) := I4.out.2.resolve_left (by omega)
          obtain ⟨i, hi⟩ := Int.eq_ofNat_of_zero_le g0
          have Hij := Lib.hid hi
          have hrm : Ha.rm ds gs h0 (j + 1) = Ha.xr (Ha.rm ds gs h0 j) (Ky.key (gs.getD j 0) (ds.getD (gs.getD j 0).toNat 0)) := rfl
          rw [hi] at g0 g1 g2 hrm
          rw [Int.toNat_natCast] at g2 hrm
          have hin9 : i < n := by omega
          have hmem : ds.getD i 0 ∈ ds := by
            rw [List.getD_eq_getElem?_getD, List.getElem?_eq_getElem (show i < ds.length by have := Hdl.out; omega)]
            exact List.getElem_mem _
          obtain ⟨d0, d2⟩ := Hv2.out _ hmem
          have hsi := Hsat.out i
          obtain ⟨e0, he0⟩ : ∃ e0, cs.getD i 0 = e0 := ⟨_, rfl⟩
          rw [he0] at hsi
          have He0 := Lib.hid he0
          obtain ⟨F, hF⟩ : ∃ F, Ha.rm ds gs h0 j = F := ⟨_, rfl⟩
          rw [hF] at r0 r1 hrm ⊢
          clear hF hmem hi he0
          clear X3_0 X3_1 X3_l X8_0 X8_1 X8_l
          subst hA4
          have X3_0 := X3.out.cell0
          have X3_1 := X3.out.cell1
          have X3_l := X3.out.lt
          have X8_0 := X8.out.cell0
          have X8_1 := X8.out.cell1
          have X8_l := X8.out.lt
          have ck := Hb.cell I4.out hj4 Hij.out
          by_cases hiq : i = q
          · subst hiq
            rw [if_pos rfl] at hsi
            rw [hsi] at g2 d0 d2 hrm
            have hok : Ky.ok (i : Int) x = true := Ky.ok_iff.2 (by omega)
            obtain ⟨k0, k1⟩ := Ky.key_bd hok
            have hxr := Ha.xr_bd r0 r1 k0 k1
            have hvl := bits_xr r0 r1 k0 k1
            obtain ⟨Q, hQ⟩ : ∃ Q, Ky.key (i : Int) x = Q := ⟨_, rfl⟩
            rw [hQ] at k0 k1 hxr hvl hrm
            obtain ⟨Z, hZ⟩ : ∃ Z, Ha.xr F Q = Z := ⟨_, rfl⟩
            rw [hZ] at hxr hvl hrm
            obtain ⟨z0, z1⟩ := hxr
            have Hrm := Lib.hid hrm
            have HQ := Lib.hid hQ
            clear hZ hrm hQ hok hsi
            go_wp2_with fail
            have HC := Lib.hid (Below.refl wi.heap.size wi)
            go_cut [13] (fun v wx => v = .int .i64 e0 ∧ Below wi.heap.size wi wx)
            case first =>
              have ck := Hb.cell I4.out hj4 Hij.out
              go_region_held3 (fun w' => w'.cell? ⟨y0.heap.size, 0, none⟩ = some (.int .i64 s) ∧ w'.cell? ⟨y0.heap.size, 1, none⟩ = some (.slice A n c) ∧ w'.cell? ⟨x412.heap.size, 0, none⟩ = some (.int .i64 s) ∧ w'.cell? ⟨x412.heap.size, 1, none⟩ = some (.slice A3 n3 c3) ∧ w'.cell? ⟨b2, o2 + j, none⟩ = some (.int .i64 (i : Nat))) (first | exact ⟨X3_0, X3_1, X8_0, X8_1, ck⟩ | go_keep) (first | (go_at_call 22; refine (l_colorAt s _ _ _ _ cs i e0 (by first | with_reducible exact I0.out | with_reducible exact I0.out.dr) hin9 He0.out).mono ?_; rintro e yc ⟨rfl, hb9⟩; (try replace hb9 := undrew hb9); (try (have X3 := Lib.hid (X3.out.step hb9))); (try (have X8 := Lib.hid (X8.out.step hb9))); (try (have I0 := Lib.hid (I0.out.step hb9))); (try (have I3 := Lib.hid (I3.out.step hb9))); (try (have I4 := Lib.hid (I4.out.step hb9))); (try (have HBY := Lib.hid (HBY.out.step hb9))); have HC := Lib.hid (bstep HC.out hb9); have X3_0 := X3.out.cell0; have X3_1 := X3.out.cell1; have X3_l := X3.out.lt; have X8_0 := X8.out.cell0; have X8_1 := X8.out.cell1; have X8_l := X8.out.lt; have ck := Hb.cell I4.out hj4 Hij.out; clear hb9))
              all_goals go_wp2_with fail
              all_goals go_meet
              all_goals exact ⟨rfl, HC.out⟩
            case rest =>
              clear HC
              obtain ⟨rfl, hb922⟩ := hcut
              clear X3_0 X3_1 X3_l X8_0 X8_1 X8_l
              have X3 := Lib.hid (X3.out.step hb922)
              have X8 := Lib.hid (X8.out.step hb922)
              have I0 := Lib.hid (I0.out.step hb922)
              have I3 := Lib.hid (I3.out.step hb922)
              have I4 := Lib.hid (I4.out.step hb922)
              have HBY := Lib.hid (HBY.out.step hb922)
              have HB := Lib.hid (bstep HB.out hb922)
              clear hb922
              have X3_0 := X3.out.cell0
              have X3_1 := X3.out.cell1
              have X3_l := X3.out.lt
              have X8_0 := X8.out.cell0
              have X8_1 := X8.out.cell1
              have X8_l := X8.out.lt
              have ck := Hb.cell I4.out hj4 Hij.out
              go_wp2_with fail
              refine (i_key (i : Nat) x _).mono ?_
              rintro e y ⟨rfl, rfl⟩
              rw [HQ.out]
              go_wp2_with fail
              go_roundg (n4 - j)
              case measure => omega
              case rel => exact ⟨j + 1, by omega, by omega, by rw [Hrm.out], by go_num, HBY.out⟩
          · rw [if_neg hiq] at hsi
            have hiq2 : ((i : Int) == (q : Int)) = false := by simp; omega
            rw [hsi] at g2 d0 d2 hrm
            have hok : Ky.ok (i : Int) e0 = true := Ky.ok_iff.2 (by omega)
            obtain ⟨k0, k1⟩ := Ky.key_bd hok
            have hxr := Ha.xr_bd r0 r1 k0 k1
            have hvl := bits_xr r0 r1 k0 k1
            obtain ⟨Q, hQ⟩ : ∃ Q, Ky.key (i : Int) e0 = Q := ⟨_, rfl⟩
            rw [hQ] at k0 k1 hxr hvl hrm
            obtain ⟨Z, hZ⟩ : ∃ Z, Ha.xr F Q = Z := ⟨_, rfl⟩
            rw [hZ] at hxr hvl hrm
            obtain ⟨z0, z1⟩ := hxr
            have Hrm := Lib.hid hrm
            have HQ := Lib.hid hQ
            clear hZ hrm hQ hok hsi
            go_wp2_with fail
            have HC := Lib.hid (Below.refl wi.heap.size wi)
            go_cut [13] (fun v wx => v = .int .i64 e0 ∧ Below wi.heap.size wi wx)
            case first =>
              have ck := Hb.cell I4.out hj4 Hij.out
              go_region_held3 (fun w' => w'.cell? ⟨y0.heap.size, 0, none⟩ = some (.int .i64 s) ∧ w'.cell? ⟨y0.heap.size, 1, none⟩ = some (.slice A n c) ∧ w'.cell? ⟨x412.heap.size, 0, none⟩ = some (.int .i64 s) ∧ w'.cell? ⟨x412.heap.size, 1, none⟩ = some (.slice A3 n3 c3) ∧ w'.cell? ⟨b2, o2 + j, none⟩ = some (.int .i64 (i : Nat))) (first | exact ⟨X3_0, X3_1, X8_0, X8_1, ck⟩ | go_keep) (first | (go_at_call 22; refine (l_colorAt s _ _ _ _ cs i e0 (by first | with_reducible exact I0.out | with_reducible exact I0.out.dr) hin9 He0.out).mono ?_; rintro e yc ⟨rfl, hb9⟩; (try replace hb9 := undrew hb9); (try (have X3 := Lib.hid (X3.out.step hb9))); (try (have X8 := Lib.hid (X8.out.step hb9))); (try (have I0 := Lib.hid (I0.out.step hb9))); (try (have I3 := Lib.hid (I3.out.step hb9))); (try (have I4 := Lib.hid (I4.out.step hb9))); (try (have HBY := Lib.hid (HBY.out.step hb9))); have HC := Lib.hid (bstep HC.out hb9); have X3_0 := X3.out.cell0; have X3_1 := X3.out.cell1; have X3_l := X3.out.lt; have X8_0 := X8.out.cell0; have X8_1 := X8.out.cell1; have X8_l := X8.out.lt; have ck := Hb.cell I4.out hj4 Hij.out; clear hb9))
              all_goals go_wp2_with fail
              all_goals go_meet
              all_goals exact ⟨rfl, HC.out⟩
            case rest =>
              clear HC
              obtain ⟨rfl, hb1022⟩ := hcut
              clear X3_0 X3_1 X3_l X8_0 X8_1 X8_l
              have X3 := Lib.hid (X3.out.step hb1022)
              have X8 := Lib.hid (X8.out.step hb1022)
              have I0 := Lib.hid (I0.out.step hb1022)
              have I3 := Lib.hid (I3.out.step hb1022)
              have I4 := Lib.hid (I4.out.step hb1022)
              have HBY := Lib.hid (HBY.out.step hb1022)
              have HB := Lib.hid (bstep HB.out hb1022)
              clear hb1022
              have X3_0 := X3.out.cell0
              have X3_1 := X3.out.cell1
              have X3_l := X3.out.lt
              have X8_0 := X8.out.cell0
              have X8_1 := X8.out.cell1
              have X8_l := X8.out.lt
              have ck := Hb.cell I4.out hj4 Hij.out
              go_wp2_with fail
              refine (i_key (i : Nat) e0 _).mono ?_
              rintro e y ⟨rfl, rfl⟩
              rw [HQ.out]
              go_wp2_with fail
              go_roundg (n4 - j)
              case measure => omega
              case rel => exact ⟨j + 1, by omega, by omega, by rw [Hrm.out], by go_num, HBY.out⟩

abbrev listed : List (String × DataW Unit) := [("math/bits.deBruijn64tab", Rows.laid_math_bits_deBruijn64tab), ("loop.example/goboard/impl.errOccupied", Rows.laid_loop_example_goboard_impl_errOccupied), ("loop.example/goboard/impl.errNoLiberty", Rows.laid_loop_example_goboard_impl_errNoLiberty)]
theorem door_met (os : Os) (args : Array Value) : laidMetH Tryd.prog listed ((World.doorLaid Tryd.prog 400 os).forCall (fun _ _ => 0) ⟨#[], args, []⟩).memory :=
  laidMetH_of_parts3 (fuel := 8) (laidMet_of_run' 8 (by kernel_rfl) (by kernel_rfl)) (by kernel_rfl) (by kernel_rfl)
theorem tabOf {W : World} (h : laidMetH Tryd.prog listed W) : Tab W := by
  rw [MakeChecks.laidMetH_plain _ _ _ (by kernel_rfl)] at h
  exact Tab.of (Lib.tabIs_of_head (g := 2) (t := 99) (e := 5) (n := 64) (by kernel_rfl) (by kernel_rfl) (by kernel_rfl) (by kernel_rfl) (by kernel_rfl) (by kernel_rfl) h) (by kernel_rfl)

theorem gv0 : Tryd.prog.globalNamed "loop.example/goboard/impl.errOccupied" = some 0 := by kernel_rfl
theorem gv1 : Tryd.prog.globalNamed "loop.example/goboard/impl.errNoLiberty" = some 1 := by kernel_rfl
theorem tv0 : (Tryd.prog.globals[0]?).map (·.type) = some 60 := by kernel_rfl
theorem tv1 : (Tryd.prog.globals[1]?).map (·.type) = some 60 := by kernel_rfl
theorem cellsE : Tryd.prog.cellsOf 127 = 1 := by kernel_rfl
theorem cellsS : Tryd.prog.cellsOf 9 = 1 := by kernel_rfl
theorem starE : "*" ++ "errors.errorString" = "*errors.errorString" := by decide
theorem rowE (u : TypeId) (h : Tryd.prog.typeName? 3 u = some "*errors.errorString") : u = 109 :=
  typeName_ptr_named (nm := "errors.errorString") (by rw [starE]; kernel_rfl) (by kernel_rfl) (by decide) u (by rw [starE]; exact h)
theorem sents {W : World} (h0 : laidMetH Tryd.prog listed W) : ∃ a0 a1 : Addr,
    W.var? Tryd.prog "loop.example/goboard/impl.errOccupied" = some #[.iface 109 (.pointer (some a0))] ∧ W.var? Tryd.prog "loop.example/goboard/impl.errNoLiberty" = some #[.iface 109 (.pointer (some a1))] := by
  rw [MakeChecks.laidMetH_plain _ _ _ (by kernel_rfl)] at h0
  obtain ⟨ps, ⟨g0, t0, cs0, f0, p0, q0, hg0, ht0, hv0, hd0, ⟨g1, t1, cs1, f1, p1, q1, hg1, ht1, hv1, hd1, hq1, e1⟩, e0⟩, hnd, hrows⟩ := h0.tail
  obtain rfl := Option.some.inj (gv0.symm.trans hg0)
  obtain rfl := Option.some.inj (gv1.symm.trans hg1)
  obtain rfl := Option.some.inj (tv0.symm.trans ht0)
  obtain rfl := Option.some.inj (tv1.symm.trans ht1)
  have hq1' : q1 = [] := hq1
  subst hq1'
  subst e1
  subst e0
  obtain ⟨l0⟩ := cs0
  obtain ⟨l1⟩ := cs1
  have ok0 : ∀ u v, l0 = [.iface u v] → Value.okWide Tryd.prog W .any 0 u v := fun u v e => by
    subst e
    exact (hrows 0 0 (by simp [MemPlace.row])).2 u v (by simpa using World.var?_cell hg0 hv0 0)
  have ok1 : ∀ u v, l1 = [.iface u v] → Value.okWide Tryd.prog W .any 0 u v := fun u v e => by
    subst e
    exact (hrows 1 0 (by simp [MemPlace.row])).2 u v (by simpa using World.var?_cell hg1 hv1 0)
  obtain ⟨a0, s0, rfl, hc0, hs0, hz0, rfl⟩ := errorString_of_trod Tryd.underlying60 rowE Tryd.underlying109 Tryd.underlying127 rfl rfl Tryd.underlying9 cellsE cellsS hd0 ok0
  obtain ⟨a1, s1, rfl, hc1, hs1, hz1, rfl⟩ := errorString_of_trod Tryd.underlying60 rowE Tryd.underlying109 Tryd.underlying127 rfl rfl Tryd.underlying9 cellsE cellsS hd1 ok1
  exact ⟨a0, a1, hv0, hv1⟩
theorem glt {W : World} {g : Nat} {v : Value} (h : W.cell? ⟨g, 0, none⟩ = some v) : g < W.heap.size := by
  rcases Nat.lt_or_ge g W.heap.size with hlt | hge
  · exact hlt
  · simp [World.cell?, Array.getElem?_eq_none hge] at h
theorem errs {W : World} {a0 a1 : Addr} (hv0 : W.var? Tryd.prog "loop.example/goboard/impl.errOccupied" = some #[.iface 109 (.pointer (some a0))]) (hv1 : W.var? Tryd.prog "loop.example/goboard/impl.errNoLiberty" = some #[.iface 109 (.pointer (some a1))]) : ErrW W := by
  have h0 : W.cell? ⟨0, 0, none⟩ = some (.iface 109 (.pointer (some a0))) := by simpa using World.var?_cell gv0 hv0 0
  have h1 : W.cell? ⟨1, 0, none⟩ = some (.iface 109 (.pointer (some a1))) := by simpa using World.var?_cell gv1 hv1 0
  exact ⟨a0, a1, h0, h1, glt h0, glt h1⟩
theorem vars_read {H : Type} (enc : TypeId × Value → H) {W : World} {x0 x1 : Value} (h0 : W.var? Tryd.prog "loop.example/goboard/impl.errOccupied" = some #[x0]) (h1 : W.var? Tryd.prog "loop.example/goboard/impl.errNoLiberty" = some #[x1]) (i0 : IsIface x0) (i1 : IsIface x1) (sp : Nat → Bool) :
    DataW.TrodVars enc Tryd.prog W sp ["loop.example/goboard/impl.errOccupied", "loop.example/goboard/impl.errNoLiberty"] [tok enc x0, tok enc x1] [.cell 0 0, .cell 1 0] :=
  ⟨_, _, #[x0], 1, [], [.cell 1 0], gv0, tv0, h0, trod_held Tryd.underlying60 i0 0, ⟨_, _, #[x1], 1, [], [], gv1, tv1, h1, trod_held Tryd.underlying60 i1 0, rfl, rfl⟩, rfl⟩
theorem var_below {W W' : World} {n : String} {g : Nat} {cs : Array Value} (hg : Tryd.prog.globalNamed n = some g) (h : W.var? Tryd.prog n = some cs) (hb : Below W.heap.size W W') : W'.var? Tryd.prog n = some cs := by
  unfold World.var? at h ⊢
  simp only [hg, Option.bind_some] at h ⊢
  have hlt : g < W.heap.size := by
    rcases Nat.lt_or_ge g W.heap.size with h' | h'
    · exact h'
    · simp [Array.getElem?_eq_none h'] at h
  rw [hb.block g hlt]
  exact h

set_option maxRecDepth 100000 in
theorem lifted (os : Os) (started : os.Started) (H : Type) (enc : TypeId × Value → H) :
    ReturnsInHanded {} Tryd.checked os 5 .any (fun w args => (Rows.fnHashAfterSpec.pre enc Tryd.prog Tryd.f5 [] false w args ∧ laidMetH Tryd.prog listed w) ∧ sizedMet enc Tryd.prog Tryd.f5 (OpenSpec.ofChange Rows.fnHashAfterSpec) false w args) (Rows.fnHashAfterSpec.post enc Tryd.prog Tryd.f5 false true false false) := by
  refine returnsInHanded_of_change_and (C := Tryd.checked) (X := fun w _ => laidMetH Tryd.prog listed w) (fun _ _ _ hh h => h.of_heap hh) own started (by kernel_rfl) Tryd.func5
    (ChangeSpec.witness_shaped (enc := enc) (C := Tryd.checked) (os := os) (X := fun w _ => laidMetH Tryd.prog listed w) false (World.doorLaid Tryd.prog 400 os) #[.slice none 0 0] 8 rfl (World.shaped_of_RefB (by kernel_rfl) (by kernel_rfl)) (by kernel_rfl) (by kernel_rfl) (by kernel_rfl) (door_met os _)) ?_
  intro W base args ds gs before hval0 hW _ _ hL _
  have hval : ∀ (j : Nat) t v, Tryd.f5.params[j]? = some t → args[j]? = some v → Value.okWide Tryd.prog W .any base t v := hval0
  have hW' := hW
  obtain ⟨p, q, hA0, hV, rfl, hfz, hnd⟩ := hW
  have hA : DataW.TrodAll enc Tryd.prog W 0 (fun _ => true) true Tryd.f5.params.toList args.toList ds p := hA0
  rw [Tryd.params5] at hA hval
  obtain ⟨v0, vs0, d0, ds0, p0, q0, hargs, rfl, rfl, h0, r0⟩ := trodAll_cons hA
  obtain ⟨rfl, rfl, rfl⟩ := trodAll_nil r0
  obtain rfl : args = #[v0] := by cases args; simp_all
  have hVv : DataW.TrodVars enc Tryd.prog W (fun _ => true) ["loop.example/goboard/impl.errOccupied", "loop.example/goboard/impl.errNoLiberty"] gs q := hV
  obtain ⟨er0, er1, hv0, hv1⟩ := sents hL
  obtain ⟨rfl, rfl⟩ := hVv.unique (vars_read enc hv0 hv1 trivial trivial _)
  have hE := errs hv0 hv1
  clear hVv hV
  obtain ⟨a0, len0, cap0, rfl⟩ := okWide_slice Tryd.underlying22 (hval 0 22 v0 rfl rfl)
  have k0 := h0
  have lt0 : ∀ x ∈ p0, x.block < W.heap.size := by obtain ⟨m, hm⟩ := k0; exact DataW.trod_lt m _ _ _ hm
  obtain ⟨z0, w0⟩ : ∃ zs, IsRow .u8 W a0 len0 cap0 zs := by
    obtain ⟨fuel, hf⟩ := h0
    rcases open_ints Tryd.underlying22 Tryd.underlying5 (by kernel_rfl) hf with ⟨hcs, _⟩ | ⟨x, l, c, zs, hcs, _, hl, hm, hz, _, hcell, hwz⟩
    · simp [Value.cells] at hcs
      obtain ⟨rfl, rfl, rfl⟩ := hcs
      exact ⟨[], .inl ⟨rfl, rfl, rfl, rfl⟩⟩
    · simp [Value.cells] at hcs
      obtain ⟨rfl, rfl, rfl⟩ := hcs
      exact ⟨zs, .inr ⟨_, rfl, hl, hm, by simpa using hz, hcell, hwz⟩⟩
  clear hA0 hval0
  refine (walk a0 len0 cap0 z0 W (tabOf hL) hE w0).mono fun e W' ⟨he, bel⟩ => ?_
  subst he
  exact ⟨_, rfl, _, _, _, [], _, [.cell 0 0, .cell 1 0], hW', trodAll_mk1 (shut_bool Tryd.underlying4 _), (trodAll_cons_mk (Below.trod laidOut (by kernel_rfl) (of_decide_eq_true (by kernel_rfl)) k0 bel lt0) trodAll_mk0), vars_read enc (var_below gv0 hv0 bel) (var_below gv1 hv1 bel) trivial trivial _, bel.frame _, fun h => by cases h⟩

theorem over : Rows.fnHashAfterRow.holds Tryd.pinned (OpenSpec.ofChange Rows.fnHashAfterSpec) :=
  OpenClaim.holds_of_wide 5 Tryd.f5 rfl rfl rfl rfl rfl rfl rfl ⟨rfl, rfl, rfl, rfl, rfl⟩ rfl rfl rfl rfl rfl (by kernel_rfl) Tryd.func5 (by kernel_rfl)
    (of_decide_eq_true (by kernel_rfl)) (by unfold Func.isWrapper; first | (rw [if_pos (by decide +kernel)]; kernel_rfl) | (rw [if_neg (by decide +kernel)]; exact ⟨rfl, rfl⟩))
    (fun os started H enc _ => lifted os started H enc)

theorem proved : Rows.FnHashAfterCardSaid :=
  Claim7.holds_tied_plain_at .later [] [.data, .sentinel, .sentinel] true Rows.fnHashAfterCard.stood.harness false
    over (fun _ h => by cases h) (by kernel_rfl) (fun _ h => by cases h) fnHashAfter_row_tie rfl ⟨rfl, rfl⟩ (by kernel_rfl) rfl
    (fun f fn hf hfn => by
      obtain rfl : f = 5 := Option.some.inj ((show Tryd.prog.funcNamed "loop.example/goboard/laws.FnHashAfter" = some 5 by kernel_rfl).symm.trans hf) |>.symm
      obtain rfl : fn = Tryd.f5 := (Option.some.inj (Tryd.func5.symm.trans hfn)).symm
      exact ⟨by kernel_rfl, fun j t ht => by
        have hm : t ∈ Tryd.f5.params.toList := by simpa using Array.mem_of_getElem? ht
        have hall : (Tryd.f5.params.toList.all fun u => !Tryd.prog.wantsStandIn u) = true := by kernel_rfl
        exact (show Tryd.prog.wantsStandIn t = false by simpa using List.all_eq_true.1 hall t hm)⟩)
    (by kernel_rfl)
end Go.Proofs.YteldfjibmaigiaaDoor.fnHashAfter
