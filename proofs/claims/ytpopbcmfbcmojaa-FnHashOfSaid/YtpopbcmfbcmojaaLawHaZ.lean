/-
  Hashes change stone by stone: the law of HashOf holds for every code. No condition.
-/
import Derived.Test.YtpopbcmfbcmojaaLawHaKit
import Derived.Test.YtpopbcmfbcmojaaRows
import Derived.RegionTactic
import Derived.IntWalk
import Derived.Deep.RegionHeld3
import Derived.Deep.RegionWith
import Derived.Test.YtpopbcmfbcmojaaBoardI
import Derived.Deep.LoopGhost
import Derived.Deep.DeepCutAuto
import Derived.WalkKit
import Derived.ProofKit
import Derived.OpenShut
import Derived.ShutString
import Derived.ChangeOld
import Derived.Below
namespace Go.Proofs.Ytpopbcmfbcmojaa.fnHashOf
set_option maxRecDepth 100000
open Go.ChangeShapes Go.WideShapes Go.ChangeAt Go.RowKit
open Go.ChangeMaps (open_string shut_string)
set_option linter.unusedVariables false

theorem own : ownKnob Try.prog.godebug = none := by kernel_rfl
theorem laidOut : laidOutB Try.prog = true := by kernel_rfl


set_option maxRecDepth 100000 in
set_option maxHeartbeats 16000000 in
theorem walk (a0 : Option Addr) (len0 cap0 : Nat) (z0 : List Int) (w : World) (w0 : IsRow .u8 w a0 len0 cap0 z0) :
    Calls Try.prog 7 #[.slice a0 len0 cap0] w fun e w' => e = .returned (.bool true) ∧ Below w.heap.size w w' := by
  by_cases hl : 1048576 < len0
  · go_enter Try.func7, Try.ntmps7
    go_wp2_with fail
    go_ret
    exact ⟨rfl, Below.refl _ _⟩
  · have hl' : decide ((1048576 : Int) < (len0 : Int)) = false := by rw [decide_eq_false_iff_not]; omega
    go_enter Try.func7, Try.ntmps7
    go_wp2_with fail
    refine (d_hash w a0 len0 cap0 z0 w0).mono ?_
    rintro e y0 ⟨s, A, n, c, cs, rfl, hi, hn49, s0, s8, hb⟩
    have I0 := Lib.hid hi
    have HB := Lib.hid hb
    clear hi hb w0 hl'
    obtain ⟨v, hv⟩ : ∃ v, Ha.ans s cs = v := ⟨_, rfl⟩
    have Hv := Lib.hid hv
    have hvb : (v != v) = false := by simp
    have hvv : (v == v) = true := by simp
    go_wp2_with fail
    obtain ⟨x1, hy3, hb2, z4, z5⟩ := new_box y0 (.cells #[.int .i64 s, .slice A n c] 25)
    have X3 : Hid (Bx 25 x1 y0.heap.size s (.slice A n c)) := Lib.hid (by rw [hy3]; exact Bx.new _ _ _ _)
    rw [← hy3]
    clear hy3
    have I0 := Lib.hid (I0.out.step hb2)
    have HB := Lib.hid (bstep HB.out hb2)
    clear hb2
    have X3_0 := X3.out.cell0
    have X3_1 := X3.out.cell1
    have X3_l := X3.out.lt
    go_wp2_with fail
    refine (i_hash s _ _ A n c cs I0.out (Nat.le_refl _) (by omega)).mono ?_
    rintro e x6 ⟨rfl, hb7⟩
    clear X3_0 X3_1 X3_l
    have X3 := Lib.hid (X3.out.step hb7)
    have I0 := Lib.hid (I0.out.step hb7)
    have HB := Lib.hid (bstep HB.out hb7)
    rw [Hv.out]
    clear hb7
    have X3_0 := X3.out.cell0
    have X3_1 := X3.out.cell1
    have X3_l := X3.out.lt
    by_cases hok : Bd.okB s cs = true
    · obtain ⟨v1, v2, v3, v4⟩ := (Bd.okB_iff s cs).1 hok
      have hsq := Pt.sq_bd s v1 v2
      have hcl := I0.out.1
      have hva : Ha.upto cs n = v := by rw [← hv]; unfold Ha.ans; rw [if_pos hok, hcl]
      obtain ⟨t0, t1⟩ := Ha.bd v4 n hn49 (by omega)
      rw [hva] at t0 t1
      have hn0 : ¬ v < 0 := by omega
      have Hok := Lib.hid hok
      have Hva := Lib.hid hva
      have Hcl := Lib.hid hcl
      clear hok hv hva
      go_wp2_with fail
      refine (s_hash s _ _ A n c cs I0.out (Nat.le_refl _) (by omega)).mono ?_
      rintro e x59 ⟨rfl, hb60⟩
      clear X3_0 X3_1 X3_l
      have X3 := Lib.hid (X3.out.step hb60)
      have I0 := Lib.hid (I0.out.step hb60)
      have HB := Lib.hid (bstep HB.out hb60)
      rw [Hv.out]
      clear hb60
      have X3_0 := X3.out.cell0
      have X3_1 := X3.out.cell1
      have X3_l := X3.out.lt
      go_wp2_with fail
      obtain ⟨Y, hY⟩ : ∃ Y : World, Y = x59 := ⟨_, rfl⟩
      rw [← hY] at X3 I0 HB X3_0 X3_1 X3_l ⊢
      clear hY
      go_loopg [5] (n + 1) (fun q v5 wr => ∃ k : Nat, k + q = n + 1 ∧ k ≤ n ∧ v5 = .int .i64 (k : Nat) ∧ BelowY Y wr)
      case atStart => exact ⟨0, by omega, by omega, rfl, Below.refl _ _⟩
      case round =>
        obtain ⟨k, hk, hkn, rfl, hbw⟩ := hrel
        obtain ⟨wi, rfl⟩ : ∃ wi : World, wi = wr := ⟨_, rfl⟩
        have HBY := Lib.hid hbw
        replace hbw : Below Y.heap.size Y wi := hbw
        clear X3_0 X3_1 X3_l
        have X3 := Lib.hid (X3.out.step hbw)
        have I0 := Lib.hid (I0.out.step hbw)
        have HB := Lib.hid (bstep HB.out hbw)
        clear hbw
        have X3_0 := X3.out.cell0
        have X3_1 := X3.out.cell1
        have X3_l := X3.out.lt
        by_cases hkk : k = n
        · subst hkk
          have hlt : ¬ ((k : Nat) : Int) < (k : Nat) := by omega
          have hs : newS s = s := by rw [newS, if_pos ((Pt.okS_iff s).2 ⟨v1, v2⟩)]
          have hcz : newCs s = List.replicate (s * s).toNat 0 := by rw [newCs, if_pos ((Pt.okS_iff s).2 ⟨v1, v2⟩)]
          have HS := Lib.hid hs
          have HC := Lib.hid hcz
          clear hs hcz
          go_wp2_with fail
          refine (i_new s _).mono ?_
          rintro e ym ⟨A6, n6, c6, rfl, ho, hb6⟩
          rw [HC.out] at ho
          rw [HS.out]
          have I6 := Lib.hid ho.ints
          have hz6 : Ha.ans s (List.replicate (s * s).toNat 0) = 0 := by unfold Ha.ans; rw [if_pos]; exact Ha.zero _ _; exact (Bd.okB_iff s _).2 ⟨v1, v2, by rw [List.length_replicate]; omega, by intro x hx; rw [List.mem_replicate] at hx; omega⟩
          have H6 := Lib.hid hz6
          have hl6 : n6 ≤ 49 := by have := ho.1; rw [List.length_replicate] at this; omega
          have HB := Lib.hid (bstep HB.out hb6)
          clear ho hb6 hz6
          clear X3_0 X3_1 X3_l
          go_wp2_with fail
          refine (i_hash s _ _ _ _ _ _ I6.out (Nat.le_refl _) (by omega)).mono ?_
          rintro e yz ⟨rfl, hb7⟩
          rw [H6.out]
          have HB := Lib.hid (bstep HB.out hb7)
          clear hb7
          go_wp2_with fail
          go_ret
          exact ⟨rfl, HB.out⟩
        · have hlt : ((k : Nat) : Int) < n := by omega
          have hk0 : (0 : Int) ≤ (k : Nat) := by omega
          obtain ⟨cs1, hc1⟩ : ∃ l, cs.set ((k : Nat) : Int).toNat 1 = l := ⟨_, rfl⟩
          have Hc1 := Lib.hid hc1
          have hset : setB s cs (k : Nat) 1 = true := setB_iff.2 ⟨Hok.out, (Pt.okP_iff s _).2 ⟨v1, v2, by omega, by omega⟩, by decide⟩
          have Hset := Lib.hid hset
          clear hset hc1
          go_wp2_with fail
          refine (i_setW s (k : Nat) 1 _ _ _ _ cs cs1 I0.out hn49 Hset.out Hc1.out).mono ?_
          rintro e x262 ⟨A1, c1, rfl, ho264, hb263⟩
          clear X3_0 X3_1 X3_l
          have X3 := Lib.hid (X3.out.step hb263)
          have I0 := Lib.hid (I0.out.step hb263)
          have HBY := Lib.hid (HBY.out.step hb263)
          have HB := Lib.hid (bstep HB.out hb263)
          have I1 := Lib.hid ho264.ints
          have lenI1 := ho264.1
          clear lenI1
          clear hb263 ho264
          have X3_0 := X3.out.cell0
          have X3_1 := X3.out.cell1
          have X3_l := X3.out.lt
          go_wp2_with fail
          obtain ⟨x265, hy267, hb266, z268, z269⟩ := new_box x262 (.cells #[.int .i64 s, .slice A1 n c1] 25)
          have X4 : Hid (Bx 25 x265 x262.heap.size s (.slice A1 n c1)) := Lib.hid (by rw [hy267]; exact Bx.new _ _ _ _)
          rw [← hy267]
          clear hy267
          clear X3_0 X3_1 X3_l
          have X3 := Lib.hid (X3.out.step hb266)
          have I0 := Lib.hid (I0.out.step hb266)
          have HBY := Lib.hid (HBY.out.step hb266)
          have I1 := Lib.hid (I1.out.step hb266)
          have HB := Lib.hid (bstep HB.out hb266)
          clear hb266
          have X3_0 := X3.out.cell0
          have X3_1 := X3.out.cell1
          have X3_l := X3.out.lt
          have X4_0 := X4.out.cell0
          have X4_1 := X4.out.cell1
          have X4_l := X4.out.lt
          obtain ⟨b, o, hA, hbB, hc⟩ : ∃ b o, A = some ⟨b, o, none⟩ ∧ b < x265.heap.size ∧ ∀ j, j < n → x265.cell? ⟨b, o + j, none⟩ = some (.int .i64 (cs.getD j 0)) := I0.out.2.resolve_left (by omega)
          have ck := hc k (by omega)
          obtain ⟨x, hx⟩ : ∃ x, cs.getD k 0 = x := ⟨_, rfl⟩
          rw [hx] at ck
          clear hc
          clear X3_0 X3_1 X3_l X4_0 X4_1 X4_l
          subst hA
          have ix := ixb b o n c k (by omega)
          have X3_0 := X3.out.cell0
          have X3_1 := X3.out.cell1
          have X3_l := X3.out.lt
          have X4_0 := X4.out.cell0
          have X4_1 := X4.out.cell1
          have X4_l := X4.out.lt
          by_cases h0 : x = 0
          · have q0 : (x == 0) = true := by simpa using h0
            have hkey := Ky.key_bd (p := ((k : Nat) : Int)) (c := 1) (Ky.ok_iff.2 (by omega))
            have hmo := (Ha.more (cs := cs) (p := k) (c := 1) (by omega) (by rw [hx]; exact h0) (by decide) n).2 (by omega)
            rw [Hva.out] at hmo
            obtain ⟨K, hK⟩ : ∃ K, Ky.key ((k : Nat) : Int) 1 = K := ⟨_, rfl⟩
            rw [hK] at hkey hmo
            have hval := bits_xr t0 t1 hkey.1 hkey.2
            have hxr := Ha.xr_bd t0 t1 hkey.1 hkey.2
            obtain ⟨V, hV⟩ : ∃ V, Ha.xr v K = V := ⟨_, rfl⟩
            rw [hV] at hval hxr hmo
            have hans : Ha.ans s cs1 = V := by
              have e1 : cs1 = cs.set k 1 := by rw [← Hc1.out, Int.toNat_natCast]
              have e2 : Bd.okB s cs1 = true := by rw [← Hc1.out]; exact (setB_iff.1 (setB_set (y := 1) Hset.out (by decide))).1
              unfold Ha.ans
              rw [if_pos e2, e1, List.length_set, Hcl.out]
              exact hmo
            have Hans := Lib.hid hans
            have HK := Lib.hid hK
            obtain ⟨w0, w1⟩ := hxr
            have hVV : (V != V) = false := by simp
            clear h0 hkey hmo hK hV hans hx
            go_wp2_with fail
            rw [ix]
            go_wp2_with fail
            refine (i_hash s _ _ A1 n c1 cs1 I1.out (Nat.le_refl _) (by omega)).mono ?_
            rintro e x570 ⟨rfl, hb571⟩
            clear X3_0 X3_1 X3_l X4_0 X4_1 X4_l
            have X3 := Lib.hid (X3.out.step hb571)
            have X4 := Lib.hid (X4.out.step hb571)
            have I0 := Lib.hid (I0.out.step hb571)
            have HBY := Lib.hid (HBY.out.step hb571)
            have I1 := Lib.hid (I1.out.step hb571)
            have HB := Lib.hid (bstep HB.out hb571)
            rw [Hans.out]
            clear hb571
            have X3_0 := X3.out.cell0
            have X3_1 := X3.out.cell1
            have X3_l := X3.out.lt
            have X4_0 := X4.out.cell0
            have X4_1 := X4.out.cell1
            have X4_l := X4.out.lt
            go_wp2_with fail
            refine (i_key (k : Nat) 1 _).mono ?_
            rintro e y' ⟨rfl, rfl⟩
            rw [HK.out]
            go_wp2_with fail
            go_roundg (n - k)
            case measure => omega
            case rel => exact ⟨k + 1, by omega, by omega, by go_num, HBY.out⟩
          · have q0 : (x == 0) = false := by simpa using h0
            clear h0 hx
            go_wp2_with fail
            rw [ix]
            go_wp2_with fail
            go_roundg (n - k)
            case measure => omega
            case rel => exact ⟨k + 1, by omega, by omega, by go_num, HBY.out⟩
    · have hm : v = -1 := by rw [← hv]; unfold Ha.ans; rw [if_neg hok]
      have hn0 : v < 0 := by omega
      clear hok hv hm
      go_wp2_with fail
      refine (s_hash s _ _ A n c cs I0.out (Nat.le_refl _) (by omega)).mono ?_
      rintro e x709 ⟨rfl, hb710⟩
      clear X3_0 X3_1 X3_l
      have X3 := Lib.hid (X3.out.step hb710)
      have I0 := Lib.hid (I0.out.step hb710)
      have HB := Lib.hid (bstep HB.out hb710)
      rw [Hv.out]
      clear hb710
      have X3_0 := X3.out.cell0
      have X3_1 := X3.out.cell1
      have X3_l := X3.out.lt
      go_wp2_with fail
      refine (s_hash s _ _ A n c cs I0.out (Nat.le_refl _) (by omega)).mono ?_
      rintro e x712 ⟨rfl, hb713⟩
      clear X3_0 X3_1 X3_l
      have X3 := Lib.hid (X3.out.step hb713)
      have I0 := Lib.hid (I0.out.step hb713)
      have HB := Lib.hid (bstep HB.out hb713)
      rw [Hv.out]
      clear hb713
      have X3_0 := X3.out.cell0
      have X3_1 := X3.out.cell1
      have X3_l := X3.out.lt
      go_wp2_with fail
      go_ret
      exact ⟨rfl, HB.out⟩

set_option maxRecDepth 100000 in
theorem lifted (os : Os) (started : os.Started) (H : Type) (enc : TypeId × Value → H) :
    ReturnsInHanded {} Try.checked os 7 .any (Rows.fnHashOfSpec.pre6 enc Try.prog Try.f7 Rows.fnHashOfRow.domain false) (Rows.fnHashOfSpec.post enc Try.prog Try.f7 false true false false) := by
  refine returnsInHanded_of_change (C := Try.checked) own started (by kernel_rfl) Try.func7
    (ChangeSpec.witness6 (enc := enc) (C := Try.checked) false ⟨#[], #[.slice none 0 0], []⟩ 8 (by kernel_rfl) (by kernel_rfl) (by kernel_rfl) (by kernel_rfl)) ?_
  intro W base args ds gs before hval0 hW hcnd _
  have hval : ∀ (j : Nat) t v, Try.f7.params[j]? = some t → args[j]? = some v → Value.okWide Try.prog W .any base t v := hval0
  have hW' := hW
  obtain ⟨p, q, hA0, hV, rfl, hfz, hnd⟩ := hW
  have hA : DataW.TrodAll enc Try.prog W 0 (fun _ => true) true Try.f7.params.toList args.toList ds p := hA0
  rw [Try.params7] at hA hval
  obtain ⟨v0, vs0, d0, ds0, p0, q0, hargs, rfl, rfl, h0, r0⟩ := trodAll_cons hA
  obtain ⟨rfl, rfl, rfl⟩ := trodAll_nil r0
  obtain rfl : args = #[v0] := by cases args; simp_all
  obtain ⟨rfl, rfl⟩ := trodVars_none hV
  obtain ⟨a0, len0, cap0, rfl⟩ := okWide_slice Try.underlying22 (hval 0 22 v0 rfl rfl)
  have k0 := h0
  have lt0 : ∀ x ∈ p0, x.block < W.heap.size := by obtain ⟨m, hm⟩ := k0; exact DataW.trod_lt m _ _ _ hm
  obtain ⟨z0, w0⟩ : ∃ zs, IsRow .u8 W a0 len0 cap0 zs := by
    obtain ⟨fuel, hf⟩ := h0
    rcases open_ints Try.underlying22 Try.underlying5 (by kernel_rfl) hf with ⟨hcs, _⟩ | ⟨x, l, c, zs, hcs, _, hl, hm, hz, _, hcell, hwz⟩
    · simp [Value.cells] at hcs
      obtain ⟨rfl, rfl, rfl⟩ := hcs
      exact ⟨[], .inl ⟨rfl, rfl, rfl, rfl⟩⟩
    · simp [Value.cells] at hcs
      obtain ⟨rfl, rfl, rfl⟩ := hcs
      exact ⟨zs, .inr ⟨_, rfl, hl, hm, by simpa using hz, hcell, hwz⟩⟩
  clear hA0 hval0
  refine (walk a0 len0 cap0 z0 W w0).mono fun e W' ⟨he, bel⟩ => ?_
  subst he
  exact ⟨_, rfl, _, _, _, [], _, [], hW', trodAll_mk1 (shut_bool Try.underlying4 _), (trodAll_cons_mk (Below.trod laidOut (by kernel_rfl) (of_decide_eq_true (by kernel_rfl)) k0 bel lt0) trodAll_mk0), rfl, bel.frame _, fun h => by cases h⟩

theorem over : Rows.fnHashOfRow.holds Try.pinned (OpenSpec.ofChange Rows.fnHashOfSpec) :=
  OpenClaim.holds_of_wide 7 Try.f7 rfl rfl rfl rfl rfl rfl rfl ⟨rfl, rfl, rfl, rfl, rfl⟩ rfl rfl rfl rfl rfl (by kernel_rfl) Try.func7 (by kernel_rfl)
    (of_decide_eq_true (by kernel_rfl)) (by unfold Func.isWrapper; first | (rw [if_pos (by decide +kernel)]; kernel_rfl) | (rw [if_neg (by decide +kernel)]; exact ⟨rfl, rfl⟩))
    (fun os started H enc _ => lifted os started H enc)

theorem proved : Rows.FnHashOfSaid := over
end Go.Proofs.Ytpopbcmfbcmojaa.fnHashOf
