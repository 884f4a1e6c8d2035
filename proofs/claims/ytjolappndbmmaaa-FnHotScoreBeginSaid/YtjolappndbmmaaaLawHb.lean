/-
  Beginning does not hurt: the law of HotScore holds for every code. No condition.
-/
import Derived.Test.YtjolappndbmmaaaRows
import Derived.Test.YtjolappndbmmaaaHoX
import Derived.Test.YtjolappndbmmaaaLists
import Derived.Test.YtjolappndbmmaaaListsB
import Derived.RegionTactic
import Derived.Deep.DeepCutAuto
import Derived.Deep.RegionHeld3
import Derived.WalkKit
import Derived.ProofKit
import Derived.OpenShut
import Derived.ShutString
import Derived.ChangeOld
import Derived.Below
namespace Go.Proofs.Ytjolappndbmmaaa.fnHotScoreBegin
set_option maxRecDepth 100000
open Go.ChangeShapes Go.WideShapes Go.ChangeAt Go.RowKit
open Go.ChangeMaps (open_string shut_string)
set_option linter.unusedVariables false

theorem own : ownKnob Try.prog.godebug = none := by kernel_rfl
theorem laidOut : laidOutB Try.prog = true := by kernel_rfl


theorem belowN {B : Nat} {a w : World} (h : Below B a w) (k : Nat) : Below B a (w.drewN k) := ⟨h.os, h.tape, h.output, h.size, h.block⟩
theorem rowA {w : World} {B n c g : Nat} {A : Option Addr} {xs : List Int} (h : Own w B A n c xs) (e : some g = (Value.slice A n c).ownBlock ∨ (Value.slice A n c).ownBlock = some g) : A = some ⟨g, 0, none⟩ := by
  have e : (Value.slice A n c).ownBlock = some g := e.elim Eq.symm id
  rcases h.2.2 with ⟨hv, _⟩ | ⟨g2, cap, cur, hv, _⟩
  · rw [hv] at e; cases e
  · have hA : A = some ⟨g2, 0, none⟩ := by injection hv
    subst hA
    have : g2 = g := Option.some.inj e
    rw [this]

set_option maxRecDepth 100000 in
set_option maxHeartbeats 4000000 in
theorem walk (a0 : Option Addr) (len0 cap0 : Nat) (z0 : List Int) (w : World) (w0 : IsRow .u8 w a0 len0 cap0 z0) :
    Calls Try.prog 11 #[.slice a0 len0 cap0] w fun e w' => e = .returned (.bool true) ∧ Below w.heap.size w w' := by
  by_cases hl : 1048576 < len0
  · go_enter Try.func11, Try.ntmps11
    go_wp2_with fail
    go_ret
    exact ⟨rfl, Below.refl _ _⟩
  · have hl' : decide ((1048576 : Int) < (len0 : Int)) = false := by rw [decide_eq_false_iff_not]; omega
    go_enter Try.func11, Try.ntmps11
    go_wp2_with fail
    refine (d_hsc w a0 len0 cap0 z0 w0).mono ?_
    rintro e0 y0 ⟨A, n, c, ls, left, rfl, hn7, ho, hb⟩
    have HB := Lib.hid hb
    have S := Lib.hid ho.sws
    have hz0 := hb.size
    clear hb w0 hl' ho
    go_wp2_with fail
    refine (i_hotScore _ _ _ _ _ ls left S.out (Nat.le_refl _) (by omega)).mono ?_
    rintro e y1 ⟨v, b, rfl, hi, hb1⟩
    have Hi := Lib.hid hi
    have S := Lib.hid (S.out.low hb1 (Nat.le_refl _))
    have HB := Lib.hid (HB.out.trans (hb1.mono hz0))
    have z1 := hb1.size
    clear hi hb1
    go_wp2_with fail
    refine (s_hotScore _ _ _ _ _ ls left S.out (by omega)).mono ?_
    rintro e y2 ⟨v2, b2, rfl, hi2, hb2⟩
    obtain ⟨rfl, rfl⟩ := hi2.one Hi.out
    have S := Lib.hid (S.out.low hb2 (by omega))
    have HB := Lib.hid (HB.out.trans (hb2.mono (by omega)))
    have z2 := hb2.size
    have hvv : (v2 != v2) = false := by simp
    have hvq : (v2 == v2) = true := by simp
    clear hi2 hb2
    cases hv : (decide (n ≤ 6) && Sw.all ls) with
    | false =>
      obtain ⟨rfl, rfl⟩ := Hi.out.2 hv
      clear hv
      go_wp2_with fail
      go_ret
      exact ⟨rfl, HB.out⟩
    | true =>
      obtain ⟨rfl, d, hd, hvd⟩ := Hi.out.1 hv
      have hall : Sw.all ls = true := by rw [Bool.and_eq_true] at hv; exact hv.2
      have hln : ls.length = n := S.out.1
      have Hv := Lib.hid hv
      have Hd := Lib.hid hd
      have Hall := Lib.hid hall
      have Hln := Lib.hid hln
      have Hvd := Lib.hid hvd
      clear hv hd hall hln hvd
      go_wp2_with fail
      refine (i_hotScore _ _ _ _ _ ls true S.out (by omega) (by omega)).mono ?_
      rintro e y3 ⟨va, ba, rfl, hia, hb3⟩
      obtain ⟨rfl, da, hda, hva⟩ := hia.1 Hv.out
      obtain rfl := hda.one Hd.out
      have Hva := Lib.hid hva
      have S := Lib.hid (S.out.low hb3 (by omega))
      have HB := Lib.hid (HB.out.trans (hb3.mono (by omega)))
      have z3 := hb3.size
      clear hia hb3 hda hva
      go_wp2_with fail
      refine (i_hotScore _ _ _ _ _ ls false S.out (by omega) (by omega)).mono ?_
      rintro e y4 ⟨vb, bb, rfl, hib, hb4⟩
      obtain ⟨rfl, db, hdb, hvb⟩ := hib.1 Hv.out
      obtain rfl := hdb.one Hd.out
      have Hvb := Lib.hid hvb
      have S := Lib.hid (S.out.low hb4 (by omega))
      have HB := Lib.hid (HB.out.trans (hb4.mono (by omega)))
      have z4 := hb4.size
      clear hib hb4 hdb hvb
      obtain ⟨g0, g1⟩ := Ho.begin Hall.out Hln.out Hd.out
      obtain ⟨pa0, pa1⟩ := Ho.part_bd (left := true) Hall.out Hln.out Hd.out n (Nat.le_refl _)
      obtain ⟨pb0, pb1⟩ := Ho.part_bd (left := false) Hall.out Hln.out Hd.out n (Nat.le_refl _)
      rw [← Hva.out, ← Hvb.out] at g0 g1
      rw [← Hva.out] at pa0 pa1
      rw [← Hvb.out] at pb0 pb1
      have hlr : v2 = va ∨ (v2 ≠ va ∧ v2 = vb) := by
        by_cases h : v2 = va
        · exact .inl h
        · refine .inr ⟨h, ?_⟩
          rw [Hvd.out, Hvb.out]
          cases left
          · rfl
          · exact absurd (Hvd.out.trans Hva.out.symm) h
      have G0 : va ≥ vb := by omega
      have G0' : vb ≤ va := by omega
      obtain ⟨X, hX⟩ : ∃ X, va - vb = X := ⟨_, rfl⟩
      have Hlr := Lib.hid hlr
      have Hg1 := Lib.hid g1
      clear hlr g0 g1 Hvd Hva Hvb Hd
      go_wp2_with fail
      go_loopg [13, 14] (n + 1) (fun q v13 v14 wr => ∃ k : Nat, k + q = n + 1 ∧ k ≤ n ∧ v13 = .int .i64 (Ho.top ls k) ∧ v14 = .int .i64 (k : Nat) ∧ Below y4.heap.size y4 wr)
      case atStart => exact ⟨0, by omega, by omega, rfl, rfl, Below.refl _ _⟩
      case round =>
        obtain ⟨k, hk, hkn, rfl, rfl, hb⟩ := hrel
        obtain ⟨wi, rfl⟩ : ∃ wi : World, wi = wr := ⟨_, rfl⟩
        have hkl : k ≤ ls.length := by have := Hln.out; omega
        obtain ⟨t0, t1⟩ := Ho.top_bd Hall.out k hkl
        by_cases hkk : k = n
        · subst hkk
          have hlt : ¬ ((k : Nat) : Int) < (k : Nat) := by omega
          have hg := Hg1.out
          have HB2 := Lib.hid (HB.out.trans (hb.mono (by omega)))
          obtain ⟨T, hT⟩ : ∃ T, Ho.top ls k = T := ⟨_, rfl⟩
          rw [hT, hX] at hg
          rw [hT] at t0 t1 ⊢
          clear hb hT
          rcases Hlr.out with h | ⟨h1, h2⟩
          · have q1 : (v2 == va) = true := by simpa using h
            clear h hkl
            go_wp2_with fail
            go_ret
            exact ⟨rfl, HB2.out⟩
          · have q1 : (v2 == va) = false := by simpa using h1
            have q2 : (v2 == vb) = true := by simpa using h2
            clear h1 h2 hkl
            go_wp2_with fail
            go_ret
            exact ⟨rfl, HB2.out⟩
        · have hlt : ((k : Nat) : Int) < n := by omega
          have hk0 : (0 : Int) ≤ (k : Nat) := by omega
          have HS := Lib.hid (S.out.low hb (by omega))
          obtain ⟨gs, os, rfl, hgs, hcs⟩ := HS.out.2.resolve_left (by omega)
          obtain ⟨a0', a1'⟩ := hcs k (by omega)
          have oa := Sw.all_iff.1 Hall.out k (by rw [Hln.out]; omega)
          have heA : Ho.heat ls (k : Int) = (ls.getD k (0, 0)).1 - (ls.getD k (0, 0)).2 := by unfold Ho.heat; rw [Int.toNat_natCast]
          obtain ⟨h0, h1⟩ := Ho.heat_bd Hall.out (show k < ls.length by rw [Hln.out]; omega)
          have hs : Ho.top ls (k + 1) = max (Ho.top ls k) (Ho.heat ls (k : Int)) := rfl
          rw [heA] at hs h0 h1
          obtain ⟨la, hla⟩ : ∃ x, (ls.getD k (0, 0)).1 = x := ⟨_, rfl⟩
          obtain ⟨ra, hra⟩ : ∃ x, (ls.getD k (0, 0)).2 = x := ⟨_, rfl⟩
          obtain ⟨T, hT⟩ : ∃ T, Ho.top ls k = T := ⟨_, rfl⟩
          rw [hla, hra] at oa hs h0 h1
          rw [hla] at a0'
          rw [hra] at a1'
          rw [hT] at t0 t1 hs ⊢
          have OA := Lib.hid oa
          have Hb := Lib.hid hb
          have hzi := hb.size
          clear hla hra heA oa hcs hT hb
          go_wp2_with fail
          refine (i_heatV la ra _ OA.out).mono ?_
          rintro e v1 ⟨rfl, hb1⟩
          have Hb2 := Lib.hid (Hb.out.trans (hb1.mono hzi))
          clear hb1 a0' a1'
          obtain ⟨D, hD⟩ : ∃ D, la - ra = D := ⟨_, rfl⟩
          rw [hD] at hs h0 h1 ⊢
          clear hD
          by_cases hle : D ≤ T
          · have hm : Ho.top ls (k + 1) = T := by rw [hs]; omega
            have Hm := Lib.hid hm
            clear hs hm
            go_wp2_with fail
            go_roundg (n - k)
            case measure => omega
            case rel => exact ⟨k + 1, by omega, by omega, by rw [Hm.out], by go_num, Hb2.out⟩
          · have hm : Ho.top ls (k + 1) = D := by rw [hs]; omega
            have hle2 : T ≤ D := by omega
            have hle3 : T < D := by omega
            have Hm := Lib.hid hm
            clear hs hm
            go_wp2_with fail
            go_roundg (n - k)
            case measure => omega
            case rel => exact ⟨k + 1, by omega, by omega, by rw [Hm.out], by go_num, Hb2.out⟩

set_option maxRecDepth 100000 in
theorem lifted (os : Os) (started : os.Started) (H : Type) (enc : TypeId × Value → H) :
    ReturnsInHanded {} Try.checked os 11 .any (Rows.fnHotScoreBeginSpec.pre6 enc Try.prog Try.f11 Rows.fnHotScoreBeginRow.domain false) (Rows.fnHotScoreBeginSpec.post enc Try.prog Try.f11 false true false false) := by
  refine returnsInHanded_of_change (C := Try.checked) own started (by kernel_rfl) Try.func11
    (ChangeSpec.witness6 (enc := enc) (C := Try.checked) false ⟨#[], #[.slice none 0 0], []⟩ 8 (by kernel_rfl) (by kernel_rfl) (by kernel_rfl) (by kernel_rfl)) ?_
  intro W base args ds gs before hval0 hW hcnd _
  have hval : ∀ (j : Nat) t v, Try.f11.params[j]? = some t → args[j]? = some v → Value.okWide Try.prog W .any base t v := hval0
  have hW' := hW
  obtain ⟨p, q, hA0, hV, rfl, hfz, hnd⟩ := hW
  have hA : DataW.TrodAll enc Try.prog W 0 (fun _ => true) true Try.f11.params.toList args.toList ds p := hA0
  rw [Try.params11] at hA hval
  obtain ⟨v0, vs0, d0, ds0, p0, q0, hargs, rfl, rfl, h0, r0⟩ := trodAll_cons hA
  obtain ⟨rfl, rfl, rfl⟩ := trodAll_nil r0
  obtain rfl : args = #[v0] := by cases args; simp_all
  obtain ⟨rfl, rfl⟩ := trodVars_none hV
  obtain ⟨a0, len0, cap0, rfl⟩ := okWide_slice Try.underlying22 (hval 0 22 v0 rfl rfl)
  have k0 := h0
  have lt0 : ∀ x ∈ p0, x.block < W.heap.size := by obtain ⟨m, hm⟩ := k0; exact DataW.trod_lt m _ _ _ hm
  obtain ⟨z0, w0⟩ : ∃ zs, IsRow .u8 W a0 len0 cap0 zs := by
    obtain ⟨fuel, hf⟩ := h0
    rcases open_ints Try.underlying22 Try.underlying5 (by kernel_rfl) hf with ⟨hcs, _⟩ | ⟨x, l, c, zs, hcs, _, hl, hm, hz, _, hcell, hwz⟩
    · simp [Value.cells] at hcs
      obtain ⟨rfl, rfl, rfl⟩ := hcs
      exact ⟨[], .inl ⟨rfl, rfl, rfl, rfl⟩⟩
    · simp [Value.cells] at hcs
      obtain ⟨rfl, rfl, rfl⟩ := hcs
      exact ⟨zs, .inr ⟨_, rfl, hl, hm, by simpa using hz, hcell, hwz⟩⟩
  clear hA0 hval0
  refine (walk a0 len0 cap0 z0 W w0).mono fun e W' ⟨he, bel⟩ => ?_
  subst he
  exact ⟨_, rfl, _, _, _, [], _, [], hW', trodAll_mk1 (shut_bool Try.underlying4 _), (trodAll_cons_mk (Below.trod laidOut (by kernel_rfl) (of_decide_eq_true (by kernel_rfl)) k0 bel lt0) trodAll_mk0), rfl, bel.frame _, fun h => by cases h⟩

theorem over : Rows.fnHotScoreBeginRow.holds Try.pinned (OpenSpec.ofChange Rows.fnHotScoreBeginSpec) :=
  OpenClaim.holds_of_wide 11 Try.f11 rfl rfl rfl rfl rfl rfl rfl ⟨rfl, rfl, rfl, rfl, rfl⟩ rfl rfl rfl rfl rfl (by kernel_rfl) Try.func11 (by kernel_rfl)
    (of_decide_eq_true (by kernel_rfl)) (by unfold Func.isWrapper; first | (rw [if_pos (by decide +kernel)]; kernel_rfl) | (rw [if_neg (by decide +kernel)]; exact ⟨rfl, rfl⟩))
    (fun os started H enc _ => lifted os started H enc)

theorem proved : Rows.FnHotScoreBeginSaid := over
end Go.Proofs.Ytjolappndbmmaaa.fnHotScoreBegin
