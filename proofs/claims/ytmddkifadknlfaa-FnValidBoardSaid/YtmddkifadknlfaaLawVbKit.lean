/-
  Texts that laws over drawn boards stand on: FmtX, Rand, Any, Step, Count, Valid, CntP, DrawLI, LawP, AnyC, VbW.
-/
import Derived.Test.YtmddkifadknlfaaFmtI
import Derived.Test.YtmddkifadknlfaaRows2
import Derived.Test.YtmddkifadknlfaaPlayed
import Derived.Test.YtmddkifadknlfaaParseS
import Derived.Test.YtmddkifadknlfaaTrS
import Derived.Test.YtmddkifadknlfaaLists
import Derived.Test.YtmddkifadknlfaaBoardI
namespace Go.Proofs.Ytmddkifadknlfaa
set_option maxRecDepth 100000
open Go.RowKit

theorem own_cap {w : World} {B n c : Nat} {A : Option Addr} {xs : List Int} (h : Own w B A n c xs) : n ≤ c ∧ c ≤ 9223372036854775807 := by
  rcases h.2.2 with ⟨e, _⟩ | ⟨g, cap, cur, e, _, _, h1, h2, _⟩
  · injection e with _ e1 e2; omega
  · injection e with _ _ e2
    unfold maxLen at h2
    omega

section
variable (s : Int) (w : World) (B : Nat) (A : Option Addr) (n c : Nat) (cs : List Int) (h : Ints w B A n cs) (hB : B ≤ w.heap.size) (hn : n ≤ 1000000000)
include h hB hn

set_option maxHeartbeats 2000000 in
theorem i_FormatB (hc : n ≤ c) (hc2 : c ≤ 9223372036854775807) : Calls Try.prog 8 #[.agg #[.int .i64 s, .slice A n c]] w fun e w' => e = .returned (.string (fmtB s cs)) ∧ Below w.heap.size w w' := by
  rcases Bool.eq_false_or_eq_true (Bd.okB s cs) with hv | hv
  · obtain ⟨q1, q2, _, _⟩ := (Bd.okB_iff s cs).1 hv
    obtain ⟨k, rfl⟩ := Int.eq_ofNat_of_zero_le (show 0 ≤ s by omega)
    have hf : fmtB (k : Int) cs = strOfNums (Fm.fmt k cs) := by rw [fmtB, if_pos hv]; rfl
    rw [hf]
    exact i_FormatV k w B A n c cs h hB hc hc2 hv
  · have hf : fmtB s cs = ⟨#[]⟩ := by rw [fmtB, hv]; rfl
    have HF := Lib.hid hf
    have hb1 : Below w.heap.size w (w.alloc (.cells #[.int .i64 s, .slice A n c] 25)) := (Below.refl _ _).alloc (Nat.le_refl _) _
    have X0 := Lib.hid (Bx.new 25 w s (.slice A n c))
    have H := Lib.hid (h.below hb1 hB)
    have Hb := Lib.hid hb1
    have Hv := Lib.hid hv
    clear h hb1 hv hf
    go_enter Try.func8, Try.ntmps8
    go_wp2_with fail
    refine (i_validBoard _ _ _ _ _ _ _ H.out (by simp; omega) (by omega)).mono ?_
    rintro e y ⟨rfl, hb⟩
    rw [Hv.out]
    have Hb := Lib.hid (Hb.out.trans (hb.mono (by simp)))
    clear hb
    go_wp2_with fail
    go_ret
    exact ⟨by rw [HF.out]; rfl, Hb.out⟩

end
end Go.Proofs.Ytmddkifadknlfaa

namespace Go.Proofs.Ytmddkifadknlfaa
set_option maxRecDepth 100000
open Go.RowKit

theorem okL_steps {f : Nat → Nat} {cs l : List Int} (hc : OkL cs) (hl : OkL l) (j : Nat) (hj : j ≤ cs.length) : OkL (Bd.steps f cs j l) := by
  induction j with
  | zero => exact hl
  | succ j ih =>
    have h1 := hc j (by omega)
    exact (ih (by omega)).set _ h1.1 h1.2
theorem okL_mv {s k : Int} {cs : List Int} (hc : OkL cs) : OkL (Bd.mv s k cs) := okL_steps hc hc _ (Nat.le_refl _)
theorem okL_oth {cs : List Int} (hc : OkL cs) : OkL (othCs cs) := by
  rw [okL_mem] at hc ⊢
  intro c hm
  unfold othCs at hm
  obtain ⟨x, hx, rfl⟩ := List.mem_map.1 hm
  have := hc x hx
  have h3 : x = 0 ∨ x = 1 ∨ x = 2 := by omega
  rcases h3 with rfl | rfl | rfl <;> decide
theorem okB_oth {s : Int} {cs : List Int} (h : Bd.okB s cs = true) : Bd.okB s (othCs cs) = true := by
  obtain ⟨a, b, c, d⟩ := (Bd.okB_iff s cs).1 h
  exact (Bd.okB_iff s _).2 ⟨a, b, by rw [othCs_len]; exact c, okL_mem.1 (okL_oth (okL_mem.2 d))⟩
theorem okB_mv {s k : Int} {cs : List Int} (h : Bd.okB s cs = true) : Bd.okB s (Bd.mv s k cs) = true := by
  obtain ⟨a, b, c, d⟩ := (Bd.okB_iff s cs).1 h
  exact (Bd.okB_iff s _).2 ⟨a, b, by rw [Bd.mv_len]; exact c, okL_mem.1 (okL_mv (okL_mem.2 d))⟩
theorem okB_new {s : Int} (h1 : 1 ≤ s) (h2 : s ≤ 7) : Bd.okB s (List.replicate (s * s).toNat 0) = true := by
  have := Pt.sq_bd s h1 h2
  exact (Bd.okB_iff s _).2 ⟨h1, h2, by rw [List.length_replicate]; omega, okL_mem.1 (okL_zero _)⟩

/-- The texts of the corners. -/
def Nine (w : World) (g : Nat) : Prop := ∀ j, j < 9 → ∃ S : ByteArray, w.cell? ⟨g, j, none⟩ = some (.string S) ∧ S.size ≤ 100

theorem r_corners (w : World) : Calls Try.prog 38 #[] w fun e w' => e = .returned (.slice (some ⟨w.heap.size, 0, none⟩) 9 9) ∧ Nine w' w.heap.size ∧ Below w.heap.size w w' := by
  go_enter Try.func38, Try.ntmps38
  go_wp2_with fail
  go_ret
  refine ⟨rfl, fun j hj => ?_, (Below.refl _ _).alloc (Nat.le_refl _) _⟩
  rw [World.cell?_alloc_at _ _ _ _ rfl]
  match j, hj with
  | 0, _ => exact ⟨_, rfl, by decide⟩
  | 1, _ => exact ⟨_, rfl, by decide⟩
  | 2, _ => exact ⟨_, rfl, by decide⟩
  | 3, _ => exact ⟨_, rfl, by decide⟩
  | 4, _ => exact ⟨_, rfl, by decide⟩
  | 5, _ => exact ⟨_, rfl, by decide⟩
  | 6, _ => exact ⟨_, rfl, by decide⟩
  | 7, _ => exact ⟨_, rfl, by decide⟩
  | 8, _ => exact ⟨_, rfl, by decide⟩

set_option maxRecDepth 100000 in
set_option maxHeartbeats 8000000 in
theorem r_random (B g q : Nat) (w : World) (h : Rdr w B g q) (hq : q ≤ 10000000000) :
    Calls Try.prog 29 #[.pointer (some ⟨g, 0, none⟩)] w fun e w' => DrawnB w B g w.heap.size (q + 200) e w' := by
  have hlt := h.lt
  have hb1 : Below w.heap.size w (w.alloc (.cells #[.int .i64 0, .slice none 0 0] 25)) := (Below.refl _ _).alloc (Nat.le_refl _) _
  have X2 := Lib.hid (Bx.new 25 w 0 (.slice none 0 0))
  have Hr := Lib.hid (h.below hb1 hlt)
  have Hb := Lib.hid hb1
  clear h hb1
  go_enter Try.func29, Try.ntmps29
  go_wp2_with fail
  refine (r_pick B g q _ _ Hr.out (by omega)).mono ?_
  rintro e y ⟨x0, rfl, k1, k2, hr, hg⟩
  have X2 := Lib.hid (X2.out.grown hg (fun e => by have := Option.some.inj e; omega))
  have Hg := Lib.hid (gtrans (gbelow (some g) Hb.out (Nat.le_refl _)) hg)
  have Hr := Lib.hid hr
  have z2 := X2.out.lt
  clear hr hg Hb
  by_cases h0 : x0 = 0
  · subst h0
    clear k1 k2
    go_wp2_with fail
    refine (r_smallSize B g (q + 1) _ Hr.out (by omega)).mono ?_
    rintro e y2 ⟨s, rfl, ⟨s1, s2⟩, hr, hg⟩
    have X2 := Lib.hid (X2.out.grown hg (fun e => by have := Option.some.inj e; omega))
    have Hg := Lib.hid (gtrans Hg.out hg)
    have Hr := Lib.hid hr
    have z3 := X2.out.lt
    have hsq := Pt.sq_bd s s1 s2
    clear hr hg
    go_wp2_with fail
    refine (s_new s _).mono ?_
    rintro e y3 ⟨A1, n, c1, rfl, ho, hb⟩
    have hs1 : newS s = s := by rw [newS, if_pos ((Pt.okS_iff s).2 ⟨s1, s2⟩)]
    have hc1 : newCs s = List.replicate (s * s).toNat 0 := by rw [newCs, if_pos ((Pt.okS_iff s).2 ⟨s1, s2⟩)]
    rw [hc1] at ho
    rw [hs1]
    have hn : (s * s).toNat = n := by have := ho.1; simpa using this
    rw [hn] at ho
    have Hn : Hid (((n : Nat) : Int) = s * s) := Lib.hid (by omega)
    have hn49 : n ≤ 49 := by omega
    have zz := hb.size
    have X2 := Lib.hid (X2.out.below hb X2.out.lt)
    have Ho := Lib.hid ho
    have Hr := Lib.hid (Hr.out.below hb Hr.out.lt)
    have Hg := Lib.hid (gtrans Hg.out (gbelow (some g) hb (Nat.le_refl _)))
    clear hb hs1 hc1 ho hn
    go_upto_region 4 with (fail)
    obtain ⟨y4, hy4, hb4, z4, z5⟩ := new_box y3 (.cells #[.int .i64 s, .slice A1 n c1] 25)
    have X3 : Hid (Bx 25 y4 y3.heap.size s (.slice A1 n c1)) := Lib.hid (by rw [hy4]; exact Bx.new _ _ _ _)
    rw [← hy4]
    clear hy4
    have X2 := Lib.hid (X2.out.below hb4 X2.out.lt)
    have Hr := Lib.hid (Hr.out.below hb4 Hr.out.lt)
    have Hra := Lib.hid (fun g' (hA : A1 = some ⟨g', 0, none⟩) => (Ho.out.ge hA).2)
    have Ho := Lib.hid (Ho.out.below hb4)
    have Hg := Lib.hid (gtrans Hg.out (gbelow (some g) hb4 (Nat.le_refl _)))
    clear hb4
    go_wp2_with fail
    go_loopw [4] (fun v wr => ∃ (p q1 : Nat) (cs : List Int), p ≤ n ∧ v = .int .i64 (p : Nat) ∧ q1 = q + 2 + p ∧ Own wr y2.heap.size A1 n c1 cs ∧ OkL cs ∧ Bx 25 wr w.heap.size 0 (.slice none 0 0) ∧ Bx 25 wr y3.heap.size s (.slice A1 n c1) ∧ Rdr wr B g q1 ∧ w.grownBy wr (some g)) (fun v _ => n - (intOf v).toNat)
    case atStart => exact ⟨0, q + 2, _, by omega, rfl, rfl, Ho.out, okL_zero n, X2.out, X3.out, Hr.out, Hg.out⟩
    case round =>
      clear X2 X3 Ho Hr Hg
      obtain ⟨p, q1, cs, hp, rfl, hq1, ho, hok, hx2, hx3, hr, hg⟩ := hrel
      have X2 := Lib.hid hx2
      have X3 := Lib.hid hx3
      have Ho := Lib.hid ho
      have Hok := Lib.hid hok
      have Hr := Lib.hid hr
      have Hg := Lib.hid hg
      have hq2 : q1 ≤ q + 60 := by omega
      have Hq1 := Lib.hid hq1
      clear ho hok hx2 hx3 hr hg hq1
      have t0 := X3.out.cell0
      have t1 := X3.out.cell1
      have t2 := X3.out.lt
      by_cases hpn : p < n
      · obtain ⟨ga, hA1⟩ : ∃ ga, A1 = some ⟨ga, 0, none⟩ := by
          obtain ⟨ga, cap, hv, _⟩ := World.ownsRow.form Ho.out.2 (by omega)
          exact ⟨ga, by injection hv⟩
        subst hA1
        have hga1 := (Ho.out.ge rfl).1
        have hga2 := Hra.out ga rfl
        have hpi : (p : Int) < n := by omega
        go_wp2_with fail
        go_region_with (go_at_call 30; refine (r_pick B g q1 _ _ (by exact Hr.out) (by omega)).mono ?_; rintro e yp ⟨x, rfl, x1, x2, hr, hg⟩; have hgw : wr.grownBy yp (some g) := ⟨hg.os, hg.tape, hg.output, hg.size, hg.block⟩; have zp := hgw.size; have HX3 := Lib.hid (X3.out.grown hgw (fun e => by have := Option.some.inj e; omega)); have HX2 := Lib.hid (X2.out.grown hgw (fun e => by have := Option.some.inj e; omega)); have u0 := HX3.out.cell0; have u1 := HX3.out.cell1; have u2 := HX3.out.lt; have HO := Lib.hid (Ho.out.kept hgw (fun g' hA e => by have := (Ho.out.ge hA).1; have := Option.some.inj e; omega)); have u3 := World.ownsRow.cellAt HO.out.2 p (by omega); rw [List.getElem?_eq_getElem (by rw [List.length_map, HO.out.1]; exact hpn)] at u3; have u4 := World.ownsRow.frozenAt HO.out.2 p; have HR := Lib.hid hr; have HG := Lib.hid (gtrans Hg.out hgw); clear hr hg hgw)
        all_goals go_wp2_with fail
        all_goals go_roundw
        all_goals try (simp [intOf]; omega)
        all_goals
          have hr3 := HR.out.far ⟨ga, p, none⟩ (by show g ≠ ga; omega) (by have := HR.out.1; show B ≤ ga; omega) (.int .i64 x)
          have hg3 := gset HG.out ⟨ga, p, none⟩ (by show w.heap.size ≤ ga; omega) (.int .i64 x)
          exact ⟨p + 1, q1 + 1, _, by omega, by go_num, by have := Hq1.out; omega, (HO.out.stored p x).1, Hok.out.set p x1 (by omega), HX2.out.far (p := ⟨ga, p, none⟩) (by show w.heap.size ≠ ga; omega) _, HX3.out.far (p := ⟨ga, p, none⟩) (by show y3.heap.size ≠ ga; omega) _, hr3, hg3⟩
      · obtain rfl : p = n := by omega
        have Hv := Lib.hid (okB_mk s1 s2 (by rw [Ho.out.1]; exact Hn.out) Hok.out)
        have K0 := Lib.hid ((X2.out.set0 s).cell0)
        have K1 := Lib.hid (((X2.out.set0 s).set1 (.slice A1 p c1)).cell1)
        have r0 := X2.out.cell0
        have r1 := X2.out.cell1
        have r2 := X2.out.frozen 0
        have r3 := X2.out.frozen 1
        have r4 := X2.out.lt
        have hBg := Hr.out.1
        have Hr3 := Lib.hid ((Hr.out.far ⟨w.heap.size, 0, none⟩ (by show g ≠ w.heap.size; omega) (by show B ≤ w.heap.size; omega) (.int .i64 s)).far ⟨w.heap.size, 1, none⟩ (by show g ≠ w.heap.size; omega) (by show B ≤ w.heap.size; omega) (.slice A1 p c1))
        have Hg3 := Lib.hid (gset (gset Hg.out ⟨w.heap.size, 0, none⟩ (Nat.le_refl _) (.int .i64 s)) ⟨w.heap.size, 1, none⟩ (Nat.le_refl _) (.slice A1 p c1))
        have Ho3 := Lib.hid ((Ho.out.far ⟨w.heap.size, 0, none⟩ (fun g' hA => by have := (Ho.out.ge hA).1; show g' ≠ w.heap.size; omega) (.int .i64 s)).far ⟨w.heap.size, 1, none⟩ (fun g' hA => by have := (Ho.out.ge hA).1; show g' ≠ w.heap.size; omega) (.slice A1 p c1))
        go_wp2_with fail
        have k0 := K0.out
        have k1 := K1.out
        refine bodyPost_ret (v := .agg #[.int .i64 s, .slice A1 p c1]) (by simp [results, Try.results29, go_sem, k0, k1]) rfl ?_
        exact ⟨_, _, _, _, _, _, rfl, Ho3.out.weaken (by omega), Hv.out, Hr3.out, by omega, Hg3.out⟩
  · have e0 : (x0 == 0) = false := by simpa using h0
    by_cases h1 : x0 = 1
    · subst h1
      clear k1 k2 h0 e0
      go_wp2_with fail
      refine (r_corners _).mono ?_
      rintro e y2 ⟨rfl, hN, hb⟩
      have X2 := Lib.hid (X2.out.below hb X2.out.lt)
      have Hg := Lib.hid (gtrans Hg.out (gbelow (some g) hb (Nat.le_refl _)))
      have Hrl := Hr.out.lt
      have Hr := Lib.hid (Hr.out.below hb Hr.out.lt)
      have HN := Lib.hid hN
      have z3 := hb.size
      clear hN hb
      have zy : y.heap.size < y2.heap.size := by
        obtain ⟨S, h1, _⟩ := HN.out 0 (by omega)
        exact World.block_lt_of_cell? _ _ h1
      go_wp2_with fail
      refine (r_pick B g (q + 1) _ _ Hr.out (by omega)).mono ?_
      rintro e y3 ⟨j, rfl, j1, j2, hr, hg⟩
      obtain ⟨j, rfl⟩ := Int.eq_ofNat_of_zero_le j1
      have hj9 : j < 9 := by omega
      obtain ⟨S, hS1, hS2⟩ := HN.out j hj9
      have hc := (World.cell?_of_block (w' := y3) (w := y2) (a := ⟨y.heap.size, j, none⟩) (hg.block y.heap.size zy (by intro e; have := Option.some.inj e; omega))).trans hS1
      have X2 := Lib.hid (X2.out.grown hg (fun e => by have := Option.some.inj e; omega))
      have Hg := Lib.hid (gtrans Hg.out hg)
      have Hr := Lib.hid hr
      have z4 := hg.size
      have hj9' : (j : Int) < 9 := by omega
      clear hr hg hS1 HN j2
      go_wp2_with fail
      refine (s_ParseBoard S _ (by omega)).mono ?_
      rintro e y4 ⟨s', A, n, c, cs, ok, rfl, hwhat, hb⟩
      have X2 := Lib.hid (X2.out.below hb X2.out.lt)
      have Hg := Lib.hid (gtrans Hg.out (gbelow (some g) hb (Nat.le_refl _)))
      have Hr := Lib.hid (Hr.out.below hb Hr.out.lt)
      have Hwhat := Lib.hid hwhat
      have z5 := hb.size
      clear hwhat hb hc
      go_upto_region 13 with (fail)
      obtain ⟨y5, hy5, hb5, z6, z7⟩ := new_box y4 (.cells #[.int .i64 s', .slice A n c] 25)
      have X6 : Hid (Bx 25 y5 y4.heap.size s' (.slice A n c)) := Lib.hid (by rw [hy5]; exact Bx.new _ _ _ _)
      rw [← hy5]
      clear hy5
      have X2 := Lib.hid (X2.out.below hb5 X2.out.lt)
      have Hr := Lib.hid (Hr.out.below hb5 Hr.out.lt)
      have Hg := Lib.hid (gtrans Hg.out (gbelow (some g) hb5 (Nat.le_refl _)))
      cases ok with
      | false =>
        clear hb5 Hwhat
        go_wp2_with fail
        refine (s_new 3 _).mono ?_
        rintro e y6 ⟨A6, n6, c6, rfl, ho, hb⟩
        have hs1 : newS 3 = 3 := rfl
        have hc1 : newCs 3 = List.replicate (3 * 3 : Int).toNat 0 := rfl
        rw [hc1] at ho
        rw [hs1]
        have X2 := Lib.hid (X2.out.below hb X2.out.lt)
        have Hg := Lib.hid (gtrans Hg.out (gbelow (some g) hb (Nat.le_refl _)))
        have Hr := Lib.hid (Hr.out.below hb Hr.out.lt)
        have Ho := Lib.hid ho
        clear ho hb hs1 hc1
        have K0 := Lib.hid ((X2.out.set0 3).cell0)
        have K1 := Lib.hid (((X2.out.set0 3).set1 (.slice A6 n6 c6)).cell1)
        have r0 := X2.out.cell0
        have r1 := X2.out.cell1
        have r2 := X2.out.frozen 0
        have r3 := X2.out.frozen 1
        have r4 := X2.out.lt
        have hBg := Hr.out.1
        have Hr3 := Lib.hid ((Hr.out.far ⟨w.heap.size, 0, none⟩ (by show g ≠ w.heap.size; omega) (by show B ≤ w.heap.size; omega) (.int .i64 3)).far ⟨w.heap.size, 1, none⟩ (by show g ≠ w.heap.size; omega) (by show B ≤ w.heap.size; omega) (.slice A6 n6 c6))
        have Hg3 := Lib.hid (gset (gset Hg.out ⟨w.heap.size, 0, none⟩ (Nat.le_refl _) (.int .i64 3)) ⟨w.heap.size, 1, none⟩ (Nat.le_refl _) (.slice A6 n6 c6))
        have Ho3 := Lib.hid ((Ho.out.far ⟨w.heap.size, 0, none⟩ (fun g' hA => by have := (Ho.out.ge hA).1; show g' ≠ w.heap.size; omega) (.int .i64 3)).far ⟨w.heap.size, 1, none⟩ (fun g' hA => by have := (Ho.out.ge hA).1; show g' ≠ w.heap.size; omega) (.slice A6 n6 c6))
        go_wp2_with fail
        have k0 := K0.out
        have k1 := K1.out
        refine bodyPost_ret (v := .agg #[.int .i64 3, .slice A6 n6 c6]) (by simp [results, Try.results29, go_sem, k0, k1]) rfl ?_
        exact ⟨_, _, _, _, _, _, rfl, Ho3.out.weaken (by omega), okB_new (by omega) (by omega), Hr3.out, by omega, Hg3.out⟩
      | true =>
        obtain ⟨ho, hv, _⟩ := Hwhat.out rfl
        have Ho := Lib.hid (ho.below hb5)
        have Hv := Lib.hid hv
        have Hra := Lib.hid (fun g' (hA : A = some ⟨g', 0, none⟩) => (ho.ge hA).2)
        clear Hwhat ho hv hb5
        go_wp2_with fail
        refine (r_pick B g (q + 2) _ _ Hr.out (by omega)).mono ?_
        rintro e y7 ⟨f, rfl, f1, f2, hr, hg⟩
        have X2 := Lib.hid (X2.out.grown hg (fun e => by have := Option.some.inj e; omega))
        have X6 := Lib.hid (X6.out.grown hg (fun e => by have := Option.some.inj e; omega))
        have Ho := Lib.hid (Ho.out.kept hg (fun g' hA e => by have := (Ho.out.ge hA).1; have := Option.some.inj e; omega))
        have Hg := Lib.hid (gtrans Hg.out hg)
        have Hr := Lib.hid hr
        have z8 := hg.size
        clear hr hg f2
        by_cases hf : f = 0
        · have hbf : (f == 0) = true := by simpa using hf
          clear hf
          have t0 := X6.out.cell0
          have t1 := X6.out.cell1
          have t2 := X6.out.lt
          go_wp2_with fail
          refine (s_invertBoard s' _ _ _ n c cs Ho.out.ints (Nat.le_refl _) (by have := Ho.out.1; obtain ⟨a1, a2, a3, _⟩ := (Bd.okB_iff s' cs).1 Hv.out; have := Pt.sq_bd s' a1 a2; omega) ((Bd.okB_iff s' cs).1 Hv.out).2.2.2).mono ?_
          rintro e y8 ⟨A8, n8, c8, rfl, ho8, hb⟩
          have X2 := Lib.hid (X2.out.below hb X2.out.lt)
          have X6 := Lib.hid (X6.out.below hb X6.out.lt)
          have Hg := Lib.hid (gtrans Hg.out (gbelow (some g) hb (Nat.le_refl _)))
          have Hr := Lib.hid (Hr.out.below hb Hr.out.lt)
          have Ho8 := Lib.hid ho8
          have Hv8 := Lib.hid (okB_oth Hv.out)
          have z9 := hb.size
          clear ho8 hb t0 t1 t2
          have t0 := X6.out.cell0
          have t1 := X6.out.cell1
          have t2 := X6.out.lt
          have t3 := X6.out.frozen 0
          have t4 := X6.out.frozen 1
          go_upto_region 17 with (fail)
          obtain ⟨y9, hy9⟩ : ∃ y9, y9 = (y8.setCell ⟨y4.heap.size, 0, none⟩ (.int .i64 s')).setCell ⟨y4.heap.size, 1, none⟩ (.slice A8 n8 c8) := ⟨_, rfl⟩
          have es : y9.heap.size = y8.heap.size := by rw [hy9]; simp [World.setCell]
          have hBg := Hr.out.1
          have hgl := Hr.out.lt
          have X2 : Hid (Bx 25 y9 w.heap.size 0 (.slice none 0 0)) := Lib.hid (by rw [hy9]; exact (X2.out.far (p := ⟨y4.heap.size, 0, none⟩) (by show w.heap.size ≠ y4.heap.size; omega) (.int .i64 s')).far (p := ⟨y4.heap.size, 1, none⟩) (by show w.heap.size ≠ y4.heap.size; omega) (.slice A8 n8 c8))
          have X6 : Hid (Bx 25 y9 y4.heap.size s' (.slice A8 n8 c8)) := Lib.hid (by rw [hy9]; exact (X6.out.set0 s').set1 (.slice A8 n8 c8))
          have Ho8 : Hid (Own y9 y7.heap.size A8 n8 c8 (othCs cs)) := Lib.hid (by rw [hy9]; exact (Ho8.out.far ⟨y4.heap.size, 0, none⟩ (fun g' hA => by have := (Ho8.out.ge hA).1; show g' ≠ y4.heap.size; omega) (.int .i64 s')).far ⟨y4.heap.size, 1, none⟩ (fun g' hA => by have := (Ho8.out.ge hA).1; show g' ≠ y4.heap.size; omega) (.slice A8 n8 c8))
          have Hr : Hid (Rdr y9 B g (q + 2 + 1)) := Lib.hid (by rw [hy9]; exact (Hr.out.far ⟨y4.heap.size, 0, none⟩ (by show g ≠ y4.heap.size; omega) (by show B ≤ y4.heap.size; omega) (.int .i64 s')).far ⟨y4.heap.size, 1, none⟩ (by show g ≠ y4.heap.size; omega) (by show B ≤ y4.heap.size; omega) (.slice A8 n8 c8))
          have Hg : Hid (w.grownBy y9 (some g)) := Lib.hid (by rw [hy9]; exact gset (gset Hg.out ⟨y4.heap.size, 0, none⟩ (by show w.heap.size ≤ y4.heap.size; omega) (.int .i64 s')) ⟨y4.heap.size, 1, none⟩ (by show w.heap.size ≤ y4.heap.size; omega) (.slice A8 n8 c8))
          rw [← hy9]
          clear hy9 t0 t1 t2 t3 t4
          obtain ⟨v1, v2, v3, v4⟩ := (Bd.okB_iff s' (othCs cs)).1 Hv8.out
          have hlcs := Ho8.out.1
          have Hns : Hid (((n8 : Nat) : Int) = s' * s') := Lib.hid (by rw [← v3, hlcs])
          clear v3 v4 hlcs
          have t0 := X6.out.cell0
          have t1 := X6.out.cell1
          have t2 := X6.out.lt
          go_upto_region 17 with (fail)
          go_region_with (first | (go_at_call 30; refine (r_pick B g (q + 2 + 1) _ _ (by exact Hr.out) (by omega)).mono ?_; rintro e yp ⟨kk, rfl, kk1, kk2, hr, hg⟩; have hgw : y9.grownBy yp (some g) := ⟨hg.os, hg.tape, hg.output, hg.size, hg.block⟩; have zp := hgw.size; have HX6 := Lib.hid (X6.out.grown hgw (fun e => by have := Option.some.inj e; omega)); have HX2 := Lib.hid (X2.out.grown hgw (fun e => by have := Option.some.inj e; omega)); have u0 := HX6.out.cell0; have u1 := HX6.out.cell1; have u2 := HX6.out.lt; have HO := Lib.hid (Ho8.out.kept hgw (fun g' hA e => by have := (Ho8.out.ge hA).1; have := Option.some.inj e; omega)); have HR := Lib.hid hr; have HG := Lib.hid (gtrans Hg.out hgw); have kk3 : kk < 8 := (by omega); clear hr hg hgw kk2) | (go_at_call 41; refine (s_transformBoard s' kk _ yp.heap.size _ _ _ (othCs cs) (by exact HO.out.ints) ?_ v1 v2 Hns.out kk1 kk3).mono ?_; (show yp.heap.size ≤ yp.heap.size; omega); rintro e yt ⟨A3, n3, c3, rfl, ho, hb⟩; have hbw : Below yp.heap.size yp yt := ⟨hb.os, hb.tape, hb.output, hb.size, hb.block⟩; have HX2t := Lib.hid (HX2.out.below hbw HX2.out.lt); have u3 := (HX6.out.below hbw HX6.out.lt).cell0; have u4 := (HX6.out.below hbw HX6.out.lt).cell1; have r0 := HX2t.out.cell0; have r1 := HX2t.out.cell1; have r2 := HX2t.out.frozen 0; have r3 := HX2t.out.frozen 1; have r4 := HX2t.out.lt; have HO3 : Hid (Own yt yp.heap.size A3 n3 c3 (Bd.mv s' kk (othCs cs))) := Lib.hid ho; have HRt := Lib.hid (HR.out.below hbw HR.out.lt); have HGt := Lib.hid (gtrans HG.out (gbelow (some g) hbw (Nat.le_refl _))); clear ho hb hbw))
          all_goals go_wp2_with fail
          all_goals
            have k0 := (HX2t.out.set0 s').cell0
            have k1 := ((HX2t.out.set0 s').set1 (.slice A3 n3 c3)).cell1
            refine bodyPost_ret (v := .agg #[.int .i64 s', .slice A3 n3 c3]) (by simp [results, Try.results29, go_sem, k0, k1]) rfl ?_
            have hBg := HRt.out.1
            have hr3 := (HRt.out.far ⟨w.heap.size, 0, none⟩ (by show g ≠ w.heap.size; omega) (by show B ≤ w.heap.size; omega) (.int .i64 s')).far ⟨w.heap.size, 1, none⟩ (by show g ≠ w.heap.size; omega) (by show B ≤ w.heap.size; omega) (.slice A3 n3 c3)
            have hg3 := gset (gset HGt.out ⟨w.heap.size, 0, none⟩ (Nat.le_refl _) (.int .i64 s')) ⟨w.heap.size, 1, none⟩ (Nat.le_refl _) (.slice A3 n3 c3)
            have ho3 := (HO3.out.far ⟨w.heap.size, 0, none⟩ (fun g' hA => by have := (HO3.out.ge hA).1; show g' ≠ w.heap.size; omega) (.int .i64 s')).far ⟨w.heap.size, 1, none⟩ (fun g' hA => by have := (HO3.out.ge hA).1; show g' ≠ w.heap.size; omega) (.slice A3 n3 c3)
            exact ⟨_, _, _, _, _, _, rfl, ho3.weaken (by omega), okB_mv Hv8.out, hr3, by omega, hg3⟩
        · have hbf : (f == 0) = false := by simpa using hf
          clear hf
          obtain ⟨v1, v2, v3, v4⟩ := (Bd.okB_iff s' cs).1 Hv.out
          have hlcs := Ho.out.1
          have Hns : Hid (((n : Nat) : Int) = s' * s') := Lib.hid (by rw [← v3, hlcs])
          clear v3 v4 hlcs
          have t0 := X6.out.cell0
          have t1 := X6.out.cell1
          have t2 := X6.out.lt
          go_upto_region 17 with (fail)
          go_region_with (first | (go_at_call 30; refine (r_pick B g (q + 2 + 1) _ _ (by exact Hr.out) (by omega)).mono ?_; rintro e yp ⟨kk, rfl, kk1, kk2, hr, hg⟩; have hgw : y7.grownBy yp (some g) := ⟨hg.os, hg.tape, hg.output, hg.size, hg.block⟩; have zp := hgw.size; have HX6 := Lib.hid (X6.out.grown hgw (fun e => by have := Option.some.inj e; omega)); have HX2 := Lib.hid (X2.out.grown hgw (fun e => by have := Option.some.inj e; omega)); have u0 := HX6.out.cell0; have u1 := HX6.out.cell1; have u2 := HX6.out.lt; have HO := Lib.hid (Ho.out.kept hgw (fun g' hA e => by have := (Ho.out.ge hA).1; have := Option.some.inj e; omega)); have HR := Lib.hid hr; have HG := Lib.hid (gtrans Hg.out hgw); have kk3 : kk < 8 := (by omega); clear hr hg hgw kk2) | (go_at_call 41; refine (s_transformBoard s' kk _ yp.heap.size _ _ _ cs (by exact HO.out.ints) ?_ v1 v2 Hns.out kk1 kk3).mono ?_; (show yp.heap.size ≤ yp.heap.size; omega); rintro e yt ⟨A3, n3, c3, rfl, ho, hb⟩; have hbw : Below yp.heap.size yp yt := ⟨hb.os, hb.tape, hb.output, hb.size, hb.block⟩; have HX2t := Lib.hid (HX2.out.below hbw HX2.out.lt); have u3 := (HX6.out.below hbw HX6.out.lt).cell0; have u4 := (HX6.out.below hbw HX6.out.lt).cell1; have r0 := HX2t.out.cell0; have r1 := HX2t.out.cell1; have r2 := HX2t.out.frozen 0; have r3 := HX2t.out.frozen 1; have r4 := HX2t.out.lt; have HO3 : Hid (Own yt yp.heap.size A3 n3 c3 (Bd.mv s' kk cs)) := Lib.hid ho; have HRt := Lib.hid (HR.out.below hbw HR.out.lt); have HGt := Lib.hid (gtrans HG.out (gbelow (some g) hbw (Nat.le_refl _))); clear ho hb hbw))
          all_goals go_wp2_with fail
          all_goals
            have k0 := (HX2t.out.set0 s').cell0
            have k1 := ((HX2t.out.set0 s').set1 (.slice A3 n3 c3)).cell1
            refine bodyPost_ret (v := .agg #[.int .i64 s', .slice A3 n3 c3]) (by simp [results, Try.results29, go_sem, k0, k1]) rfl ?_
            have hBg := HRt.out.1
            have hr3 := (HRt.out.far ⟨w.heap.size, 0, none⟩ (by show g ≠ w.heap.size; omega) (by show B ≤ w.heap.size; omega) (.int .i64 s')).far ⟨w.heap.size, 1, none⟩ (by show g ≠ w.heap.size; omega) (by show B ≤ w.heap.size; omega) (.slice A3 n3 c3)
            have hg3 := gset (gset HGt.out ⟨w.heap.size, 0, none⟩ (Nat.le_refl _) (.int .i64 s')) ⟨w.heap.size, 1, none⟩ (Nat.le_refl _) (.slice A3 n3 c3)
            have ho3 := (HO3.out.far ⟨w.heap.size, 0, none⟩ (fun g' hA => by have := (HO3.out.ge hA).1; show g' ≠ w.heap.size; omega) (.int .i64 s')).far ⟨w.heap.size, 1, none⟩ (fun g' hA => by have := (HO3.out.ge hA).1; show g' ≠ w.heap.size; omega) (.slice A3 n3 c3)
            exact ⟨_, _, _, _, _, _, rfl, ho3.weaken (by omega), okB_mv Hv.out, hr3, by omega, hg3⟩
    · have e1 : (x0 == 1) = false := by simpa using h1
      by_cases h2 : x0 = 2
      · subst h2
        clear k1 k2 h0 h1 e0 e1
        go_wp2_with fail
        refine (r_corners _).mono ?_
        rintro e y2 ⟨rfl, hN, hb⟩
        have X2 := Lib.hid (X2.out.below hb X2.out.lt)
        have Hg := Lib.hid (gtrans Hg.out (gbelow (some g) hb (Nat.le_refl _)))
        have Hrl := Hr.out.lt
        have Hr := Lib.hid (Hr.out.below hb Hr.out.lt)
        have HN := Lib.hid hN
        have z3 := hb.size
        clear hN hb
        have zy : y.heap.size < y2.heap.size := by
          obtain ⟨S, h1, _⟩ := HN.out 0 (by omega)
          exact World.block_lt_of_cell? _ _ h1
        go_wp2_with fail
        refine (r_pick B g (q + 1) _ _ Hr.out (by omega)).mono ?_
        rintro e y3 ⟨j, rfl, j1, j2, hr, hg⟩
        obtain ⟨j, rfl⟩ := Int.eq_ofNat_of_zero_le j1
        have hj9 : j < 9 := by omega
        obtain ⟨S, hS1, hS2⟩ := HN.out j hj9
        have hc := (World.cell?_of_block (w' := y3) (w := y2) (a := ⟨y.heap.size, j, none⟩) (hg.block y.heap.size zy (by intro e; have := Option.some.inj e; omega))).trans hS1
        have X2 := Lib.hid (X2.out.grown hg (fun e => by have := Option.some.inj e; omega))
        have Hg := Lib.hid (gtrans Hg.out hg)
        have Hr := Lib.hid hr
        have z4 := hg.size
        have hj9' : (j : Int) < 9 := by omega
        clear hr hg hS1 HN j2
        go_wp2_with fail
        refine (s_ParseBoard S _ (by omega)).mono ?_
        rintro e y4 ⟨s', A, n, c, cs, ok, rfl, hwhat, hb⟩
        have X2 := Lib.hid (X2.out.below hb X2.out.lt)
        have Hg := Lib.hid (gtrans Hg.out (gbelow (some g) hb (Nat.le_refl _)))
        have Hr := Lib.hid (Hr.out.below hb Hr.out.lt)
        have Hwhat := Lib.hid hwhat
        have z5 := hb.size
        clear hwhat hb hc
        go_upto_region 13 with (fail)
        obtain ⟨y5, hy5, hb5, z6, z7⟩ := new_box y4 (.cells #[.int .i64 s', .slice A n c] 25)
        have X6 : Hid (Bx 25 y5 y4.heap.size s' (.slice A n c)) := Lib.hid (by rw [hy5]; exact Bx.new _ _ _ _)
        rw [← hy5]
        clear hy5
        have X2 := Lib.hid (X2.out.below hb5 X2.out.lt)
        have Hr := Lib.hid (Hr.out.below hb5 Hr.out.lt)
        have Hg := Lib.hid (gtrans Hg.out (gbelow (some g) hb5 (Nat.le_refl _)))
        cases ok with
        | false =>
          clear hb5 Hwhat
          go_wp2_with fail
          refine (s_new 3 _).mono ?_
          rintro e y6 ⟨A6, n6, c6, rfl, ho, hb⟩
          have hs1 : newS 3 = 3 := rfl
          have hc1 : newCs 3 = List.replicate (3 * 3 : Int).toNat 0 := rfl
          rw [hc1] at ho
          rw [hs1]
          have X2 := Lib.hid (X2.out.below hb X2.out.lt)
          have Hg := Lib.hid (gtrans Hg.out (gbelow (some g) hb (Nat.le_refl _)))
          have Hr := Lib.hid (Hr.out.below hb Hr.out.lt)
          have Ho := Lib.hid ho
          clear ho hb hs1 hc1
          have K0 := Lib.hid ((X2.out.set0 3).cell0)
          have K1 := Lib.hid (((X2.out.set0 3).set1 (.slice A6 n6 c6)).cell1)
          have r0 := X2.out.cell0
          have r1 := X2.out.cell1
          have r2 := X2.out.frozen 0
          have r3 := X2.out.frozen 1
          have r4 := X2.out.lt
          have hBg := Hr.out.1
          have Hr3 := Lib.hid ((Hr.out.far ⟨w.heap.size, 0, none⟩ (by show g ≠ w.heap.size; omega) (by show B ≤ w.heap.size; omega) (.int .i64 3)).far ⟨w.heap.size, 1, none⟩ (by show g ≠ w.heap.size; omega) (by show B ≤ w.heap.size; omega) (.slice A6 n6 c6))
          have Hg3 := Lib.hid (gset (gset Hg.out ⟨w.heap.size, 0, none⟩ (Nat.le_refl _) (.int .i64 3)) ⟨w.heap.size, 1, none⟩ (Nat.le_refl _) (.slice A6 n6 c6))
          have Ho3 := Lib.hid ((Ho.out.far ⟨w.heap.size, 0, none⟩ (fun g' hA => by have := (Ho.out.ge hA).1; show g' ≠ w.heap.size; omega) (.int .i64 3)).far ⟨w.heap.size, 1, none⟩ (fun g' hA => by have := (Ho.out.ge hA).1; show g' ≠ w.heap.size; omega) (.slice A6 n6 c6))
          go_wp2_with fail
          have k0 := K0.out
          have k1 := K1.out
          refine bodyPost_ret (v := .agg #[.int .i64 3, .slice A6 n6 c6]) (by simp [results, Try.results29, go_sem, k0, k1]) rfl ?_
          exact ⟨_, _, _, _, _, _, rfl, Ho3.out.weaken (by omega), okB_new (by omega) (by omega), Hr3.out, by omega, Hg3.out⟩
        | true =>
          obtain ⟨ho, hv, _⟩ := Hwhat.out rfl
          have Ho := Lib.hid (ho.below hb5)
          have Hv := Lib.hid hv
          have Hra := Lib.hid (fun g' (hA : A = some ⟨g', 0, none⟩) => (ho.ge hA).2)
          clear Hwhat ho hv hb5
          go_wp2_with fail
          refine (r_pick B g (q + 2) _ _ Hr.out (by omega)).mono ?_
          rintro e y7 ⟨f, rfl, f1, f2, hr, hg⟩
          have X2 := Lib.hid (X2.out.grown hg (fun e => by have := Option.some.inj e; omega))
          have X6 := Lib.hid (X6.out.grown hg (fun e => by have := Option.some.inj e; omega))
          have Ho := Lib.hid (Ho.out.kept hg (fun g' hA e => by have := (Ho.out.ge hA).1; have := Option.some.inj e; omega))
          have Hg := Lib.hid (gtrans Hg.out hg)
          have Hr := Lib.hid hr
          have z8 := hg.size
          clear hr hg f2
          by_cases hf : f = 0
          · have hbf : (f == 0) = true := by simpa using hf
            clear hf
            have t0 := X6.out.cell0
            have t1 := X6.out.cell1
            have t2 := X6.out.lt
            go_wp2_with fail
            refine (s_invertBoard s' _ _ _ n c cs Ho.out.ints (Nat.le_refl _) (by have := Ho.out.1; obtain ⟨a1, a2, a3, _⟩ := (Bd.okB_iff s' cs).1 Hv.out; have := Pt.sq_bd s' a1 a2; omega) ((Bd.okB_iff s' cs).1 Hv.out).2.2.2).mono ?_
            rintro e y8 ⟨A8, n8, c8, rfl, ho8, hb⟩
            have X2 := Lib.hid (X2.out.below hb X2.out.lt)
            have X6 := Lib.hid (X6.out.below hb X6.out.lt)
            have Hg := Lib.hid (gtrans Hg.out (gbelow (some g) hb (Nat.le_refl _)))
            have Hr := Lib.hid (Hr.out.below hb Hr.out.lt)
            have Ho8 := Lib.hid ho8
            have Hv8 := Lib.hid (okB_oth Hv.out)
            have z9 := hb.size
            clear ho8 hb t0 t1 t2
            have t0 := X6.out.cell0
            have t1 := X6.out.cell1
            have t2 := X6.out.lt
            have t3 := X6.out.frozen 0
            have t4 := X6.out.frozen 1
            go_upto_region 17 with (fail)
            obtain ⟨y9, hy9⟩ : ∃ y9, y9 = (y8.setCell ⟨y4.heap.size, 0, none⟩ (.int .i64 s')).setCell ⟨y4.heap.size, 1, none⟩ (.slice A8 n8 c8) := ⟨_, rfl⟩
            have es : y9.heap.size = y8.heap.size := by rw [hy9]; simp [World.setCell]
            have hBg := Hr.out.1
            have hgl := Hr.out.lt
            have X2 : Hid (Bx 25 y9 w.heap.size 0 (.slice none 0 0)) := Lib.hid (by rw [hy9]; exact (X2.out.far (p := ⟨y4.heap.size, 0, none⟩) (by show w.heap.size ≠ y4.heap.size; omega) (.int .i64 s')).far (p := ⟨y4.heap.size, 1, none⟩) (by show w.heap.size ≠ y4.heap.size; omega) (.slice A8 n8 c8))
            have X6 : Hid (Bx 25 y9 y4.heap.size s' (.slice A8 n8 c8)) := Lib.hid (by rw [hy9]; exact (X6.out.set0 s').set1 (.slice A8 n8 c8))
            have Ho8 : Hid (Own y9 y7.heap.size A8 n8 c8 (othCs cs)) := Lib.hid (by rw [hy9]; exact (Ho8.out.far ⟨y4.heap.size, 0, none⟩ (fun g' hA => by have := (Ho8.out.ge hA).1; show g' ≠ y4.heap.size; omega) (.int .i64 s')).far ⟨y4.heap.size, 1, none⟩ (fun g' hA => by have := (Ho8.out.ge hA).1; show g' ≠ y4.heap.size; omega) (.slice A8 n8 c8))
            have Hr : Hid (Rdr y9 B g (q + 2 + 1)) := Lib.hid (by rw [hy9]; exact (Hr.out.far ⟨y4.heap.size, 0, none⟩ (by show g ≠ y4.heap.size; omega) (by show B ≤ y4.heap.size; omega) (.int .i64 s')).far ⟨y4.heap.size, 1, none⟩ (by show g ≠ y4.heap.size; omega) (by show B ≤ y4.heap.size; omega) (.slice A8 n8 c8))
            have Hg : Hid (w.grownBy y9 (some g)) := Lib.hid (by rw [hy9]; exact gset (gset Hg.out ⟨y4.heap.size, 0, none⟩ (by show w.heap.size ≤ y4.heap.size; omega) (.int .i64 s')) ⟨y4.heap.size, 1, none⟩ (by show w.heap.size ≤ y4.heap.size; omega) (.slice A8 n8 c8))
            rw [← hy9]
            clear hy9 t0 t1 t2 t3 t4
            obtain ⟨v1, v2, v3, v4⟩ := (Bd.okB_iff s' (othCs cs)).1 Hv8.out
            have hlcs := Ho8.out.1
            have Hns : Hid (((n8 : Nat) : Int) = s' * s') := Lib.hid (by rw [← v3, hlcs])
            clear v3 v4 hlcs
            have t0 := X6.out.cell0
            have t1 := X6.out.cell1
            have t2 := X6.out.lt
            go_upto_region 17 with (fail)
            go_region_with (first | (go_at_call 30; refine (r_pick B g (q + 2 + 1) _ _ (by exact Hr.out) (by omega)).mono ?_; rintro e yp ⟨kk, rfl, kk1, kk2, hr, hg⟩; have hgw : y9.grownBy yp (some g) := ⟨hg.os, hg.tape, hg.output, hg.size, hg.block⟩; have zp := hgw.size; have HX6 := Lib.hid (X6.out.grown hgw (fun e => by have := Option.some.inj e; omega)); have HX2 := Lib.hid (X2.out.grown hgw (fun e => by have := Option.some.inj e; omega)); have u0 := HX6.out.cell0; have u1 := HX6.out.cell1; have u2 := HX6.out.lt; have HO := Lib.hid (Ho8.out.kept hgw (fun g' hA e => by have := (Ho8.out.ge hA).1; have := Option.some.inj e; omega)); have HR := Lib.hid hr; have HG := Lib.hid (gtrans Hg.out hgw); have kk3 : kk < 8 := (by omega); clear hr hg hgw kk2) | (go_at_call 41; refine (s_transformBoard s' kk _ yp.heap.size _ _ _ (othCs cs) (by exact HO.out.ints) ?_ v1 v2 Hns.out kk1 kk3).mono ?_; (show yp.heap.size ≤ yp.heap.size; omega); rintro e yt ⟨A3, n3, c3, rfl, ho, hb⟩; have hbw : Below yp.heap.size yp yt := ⟨hb.os, hb.tape, hb.output, hb.size, hb.block⟩; have HX2t := Lib.hid (HX2.out.below hbw HX2.out.lt); have u3 := (HX6.out.below hbw HX6.out.lt).cell0; have u4 := (HX6.out.below hbw HX6.out.lt).cell1; have r0 := HX2t.out.cell0; have r1 := HX2t.out.cell1; have r2 := HX2t.out.frozen 0; have r3 := HX2t.out.frozen 1; have r4 := HX2t.out.lt; have HO3 : Hid (Own yt yp.heap.size A3 n3 c3 (Bd.mv s' kk (othCs cs))) := Lib.hid ho; have HRt := Lib.hid (HR.out.below hbw HR.out.lt); have HGt := Lib.hid (gtrans HG.out (gbelow (some g) hbw (Nat.le_refl _))); clear ho hb hbw))
            all_goals go_wp2_with fail
            all_goals
              have k0 := (HX2t.out.set0 s').cell0
              have k1 := ((HX2t.out.set0 s').set1 (.slice A3 n3 c3)).cell1
              refine bodyPost_ret (v := .agg #[.int .i64 s', .slice A3 n3 c3]) (by simp [results, Try.results29, go_sem, k0, k1]) rfl ?_
              have hBg := HRt.out.1
              have hr3 := (HRt.out.far ⟨w.heap.size, 0, none⟩ (by show g ≠ w.heap.size; omega) (by show B ≤ w.heap.size; omega) (.int .i64 s')).far ⟨w.heap.size, 1, none⟩ (by show g ≠ w.heap.size; omega) (by show B ≤ w.heap.size; omega) (.slice A3 n3 c3)
              have hg3 := gset (gset HGt.out ⟨w.heap.size, 0, none⟩ (Nat.le_refl _) (.int .i64 s')) ⟨w.heap.size, 1, none⟩ (Nat.le_refl _) (.slice A3 n3 c3)
              have ho3 := (HO3.out.far ⟨w.heap.size, 0, none⟩ (fun g' hA => by have := (HO3.out.ge hA).1; show g' ≠ w.heap.size; omega) (.int .i64 s')).far ⟨w.heap.size, 1, none⟩ (fun g' hA => by have := (HO3.out.ge hA).1; show g' ≠ w.heap.size; omega) (.slice A3 n3 c3)
              exact ⟨_, _, _, _, _, _, rfl, ho3.weaken (by omega), okB_mv Hv8.out, hr3, by omega, hg3⟩
          · have hbf : (f == 0) = false := by simpa using hf
            clear hf
            obtain ⟨v1, v2, v3, v4⟩ := (Bd.okB_iff s' cs).1 Hv.out
            have hlcs := Ho.out.1
            have Hns : Hid (((n : Nat) : Int) = s' * s') := Lib.hid (by rw [← v3, hlcs])
            clear v3 v4 hlcs
            have t0 := X6.out.cell0
            have t1 := X6.out.cell1
            have t2 := X6.out.lt
            go_upto_region 17 with (fail)
            go_region_with (first | (go_at_call 30; refine (r_pick B g (q + 2 + 1) _ _ (by exact Hr.out) (by omega)).mono ?_; rintro e yp ⟨kk, rfl, kk1, kk2, hr, hg⟩; have hgw : y7.grownBy yp (some g) := ⟨hg.os, hg.tape, hg.output, hg.size, hg.block⟩; have zp := hgw.size; have HX6 := Lib.hid (X6.out.grown hgw (fun e => by have := Option.some.inj e; omega)); have HX2 := Lib.hid (X2.out.grown hgw (fun e => by have := Option.some.inj e; omega)); have u0 := HX6.out.cell0; have u1 := HX6.out.cell1; have u2 := HX6.out.lt; have HO := Lib.hid (Ho.out.kept hgw (fun g' hA e => by have := (Ho.out.ge hA).1; have := Option.some.inj e; omega)); have HR := Lib.hid hr; have HG := Lib.hid (gtrans Hg.out hgw); have kk3 : kk < 8 := (by omega); clear hr hg hgw kk2) | (go_at_call 41; refine (s_transformBoard s' kk _ yp.heap.size _ _ _ cs (by exact HO.out.ints) ?_ v1 v2 Hns.out kk1 kk3).mono ?_; (show yp.heap.size ≤ yp.heap.size; omega); rintro e yt ⟨A3, n3, c3, rfl, ho, hb⟩; have hbw : Below yp.heap.size yp yt := ⟨hb.os, hb.tape, hb.output, hb.size, hb.block⟩; have HX2t := Lib.hid (HX2.out.below hbw HX2.out.lt); have u3 := (HX6.out.below hbw HX6.out.lt).cell0; have u4 := (HX6.out.below hbw HX6.out.lt).cell1; have r0 := HX2t.out.cell0; have r1 := HX2t.out.cell1; have r2 := HX2t.out.frozen 0; have r3 := HX2t.out.frozen 1; have r4 := HX2t.out.lt; have HO3 : Hid (Own yt yp.heap.size A3 n3 c3 (Bd.mv s' kk cs)) := Lib.hid ho; have HRt := Lib.hid (HR.out.below hbw HR.out.lt); have HGt := Lib.hid (gtrans HG.out (gbelow (some g) hbw (Nat.le_refl _))); clear ho hb hbw))
            all_goals go_wp2_with fail
            all_goals
              have k0 := (HX2t.out.set0 s').cell0
              have k1 := ((HX2t.out.set0 s').set1 (.slice A3 n3 c3)).cell1
              refine bodyPost_ret (v := .agg #[.int .i64 s', .slice A3 n3 c3]) (by simp [results, Try.results29, go_sem, k0, k1]) rfl ?_
              have hBg := HRt.out.1
              have hr3 := (HRt.out.far ⟨w.heap.size, 0, none⟩ (by show g ≠ w.heap.size; omega) (by show B ≤ w.heap.size; omega) (.int .i64 s')).far ⟨w.heap.size, 1, none⟩ (by show g ≠ w.heap.size; omega) (by show B ≤ w.heap.size; omega) (.slice A3 n3 c3)
              have hg3 := gset (gset HGt.out ⟨w.heap.size, 0, none⟩ (Nat.le_refl _) (.int .i64 s')) ⟨w.heap.size, 1, none⟩ (Nat.le_refl _) (.slice A3 n3 c3)
              have ho3 := (HO3.out.far ⟨w.heap.size, 0, none⟩ (fun g' hA => by have := (HO3.out.ge hA).1; show g' ≠ w.heap.size; omega) (.int .i64 s')).far ⟨w.heap.size, 1, none⟩ (fun g' hA => by have := (HO3.out.ge hA).1; show g' ≠ w.heap.size; omega) (.slice A3 n3 c3)
              exact ⟨_, _, _, _, _, _, rfl, ho3.weaken (by omega), okB_mv Hv.out, hr3, by omega, hg3⟩
      · have e2 : (x0 == 2) = false := by simpa using h2
        clear h0 h1 h2
        go_wp2_with fail
        refine (r_smallSize B g (q + 1) _ Hr.out (by omega)).mono ?_
        rintro e y2 ⟨s, rfl, ⟨s1, s2⟩, hr, hg⟩
        have X2 := Lib.hid (X2.out.grown hg (fun e => by have := Option.some.inj e; omega))
        have Hg := Lib.hid (gtrans Hg.out hg)
        have Hr := Lib.hid hr
        have z3 := X2.out.lt
        clear hr hg
        go_wp2_with fail
        refine (r_played s B g (q + 1 + 1) _ Hr.out (by omega) s1 s2).mono ?_
        rintro e y3 ⟨s', A, n, c, cs, q', rfl, ho, hv, hr, hq', hg⟩
        have X2 := Lib.hid (X2.out.grown hg (fun e => by have := Option.some.inj e; omega))
        have Hg := Lib.hid (gtrans Hg.out hg)
        have Hr := Lib.hid hr
        have Ho := Lib.hid ho
        have Hv := Lib.hid hv
        have z4 := X2.out.lt
        clear hr hg ho hv
        have K0 := Lib.hid ((X2.out.set0 s').cell0)
        have K1 := Lib.hid (((X2.out.set0 s').set1 (.slice A n c)).cell1)
        have r0 := X2.out.cell0
        have r1 := X2.out.cell1
        have r2 := X2.out.frozen 0
        have r3 := X2.out.frozen 1
        have r4 := X2.out.lt
        have hBg := Hr.out.1
        have Hr3 := Lib.hid ((Hr.out.far ⟨w.heap.size, 0, none⟩ (by show g ≠ w.heap.size; omega) (by show B ≤ w.heap.size; omega) (.int .i64 s')).far ⟨w.heap.size, 1, none⟩ (by show g ≠ w.heap.size; omega) (by show B ≤ w.heap.size; omega) (.slice A n c))
        have Hg3 := Lib.hid (gset (gset Hg.out ⟨w.heap.size, 0, none⟩ (Nat.le_refl _) (.int .i64 s')) ⟨w.heap.size, 1, none⟩ (Nat.le_refl _) (.slice A n c))
        have Ho3 := Lib.hid ((Ho.out.far ⟨w.heap.size, 0, none⟩ (fun g' hA => by have := (Ho.out.ge hA).1; show g' ≠ w.heap.size; omega) (.int .i64 s')).far ⟨w.heap.size, 1, none⟩ (fun g' hA => by have := (Ho.out.ge hA).1; show g' ≠ w.heap.size; omega) (.slice A n c))
        go_wp2_with fail
        have k0 := K0.out
        have k1 := K1.out
        refine bodyPost_ret (v := .agg #[.int .i64 s', .slice A n c]) (by simp [results, Try.results29, go_sem, k0, k1]) rfl ?_
        exact ⟨_, _, _, _, _, _, rfl, Ho3.out.weaken (by omega), Hv.out, Hr3.out, by omega, Hg3.out⟩
end Go.Proofs.Ytmddkifadknlfaa

namespace Go.Proofs.Ytmddkifadknlfaa
set_option maxRecDepth 100000
open Go.RowKit

/-- The slice at A of n elements reads as the ints xs, and its memory lies from block lo on. -/
def IntsF (w : World) (lo : Nat) (A : Option Addr) (n : Nat) (xs : List Int) : Prop :=
  xs.length = n ∧ (n = 0 ∨ ∃ b o, A = some ⟨b, o, none⟩ ∧ lo ≤ b ∧ b < w.heap.size ∧ ∀ j, j < n → w.cell? ⟨b, o + j, none⟩ = some (.int .i64 (xs.getD j 0)))
theorem IntsF.ints {w : World} {lo n : Nat} {A : Option Addr} {xs : List Int} (h : IntsF w lo A n xs) : Ints w w.heap.size A n xs := by
  refine ⟨h.1, ?_⟩
  rcases h.2 with h | ⟨b, o, hA, _, hb, hc⟩
  · exact .inl h
  · exact .inr ⟨b, o, hA, hb, hc⟩
theorem IntsF.of {w : World} {lo n c : Nat} {A : Option Addr} {xs : List Int} (h : Own w lo A n c xs) : IntsF w lo A n xs := by
  refine ⟨h.1, ?_⟩
  rcases h.ints.2 with h0 | ⟨b, o, hA, hb, hc⟩
  · exact .inl h0
  · by_cases hn : n = 0
    · exact .inl hn
    · obtain ⟨g, cap, hv, hg, hlt⟩ := World.ownsRow.form h.2 (by omega)
      have hA2 : A = some ⟨g, 0, none⟩ := by injection hv
      have : b = g := by rw [hA] at hA2; injection hA2 with e; injection e
      exact .inr ⟨b, o, hA, by omega, hb, hc⟩
theorem IntsF.weaken {w : World} {lo lo' n : Nat} {A : Option Addr} {xs : List Int} (h : IntsF w lo A n xs) (hl : lo' ≤ lo) : IntsF w lo' A n xs := by
  refine ⟨h.1, ?_⟩
  rcases h.2 with h | ⟨b, o, hA, h1, h2, hc⟩
  · exact .inl h
  · exact .inr ⟨b, o, hA, by omega, h2, hc⟩
theorem IntsF.far {w : World} {lo n : Nat} {A : Option Addr} {xs : List Int} (h : IntsF w lo A n xs) (p : Addr) (hp : p.block < lo) (u : Value) : IntsF (w.setCell p u) lo A n xs := by
  refine ⟨h.1, ?_⟩
  rcases h.2 with h | ⟨b, o, hA, h1, h2, hc⟩
  · exact .inl h
  · exact .inr ⟨b, o, hA, h1, by simpa [World.setCell] using h2, fun j hj => (World.cell?_of_block (w' := w.setCell p u) (w := w) (a := ⟨b, o + j, none⟩) (Below.heap_setCell w p u b (by omega))).trans (hc j hj)⟩
theorem IntsF.grown {w w' : World} {lo n g : Nat} {A : Option Addr} {xs : List Int} (h : IntsF w lo A n xs) (hg : w.grownBy w' (some g)) (hl : g < lo) : IntsF w' lo A n xs := by
  refine ⟨h.1, ?_⟩
  rcases h.2 with h | ⟨b, o, hA, h1, h2, hc⟩
  · exact .inl h
  · exact .inr ⟨b, o, hA, h1, Nat.lt_of_lt_of_le h2 hg.size, fun j hj => (World.cell?_of_block (w' := w') (w := w) (a := ⟨b, o + j, none⟩) (hg.block b h2 (fun e => by have := Option.some.inj e; omega))).trans (hc j hj)⟩
theorem IntsF.below {w w' : World} {lo n : Nat} {A : Option Addr} {xs : List Int} (h : IntsF w lo A n xs) (hb : Below w.heap.size w w') : IntsF w' lo A n xs := by
  refine ⟨h.1, ?_⟩
  rcases h.2 with h | ⟨b, o, hA, h1, h2, hc⟩
  · exact .inl h
  · exact .inr ⟨b, o, hA, h1, Nat.lt_of_lt_of_le h2 hb.size, fun j hj => (World.cell?_of_block (w' := w') (w := w) (a := ⟨b, o + j, none⟩) (hb.block b h2)).trans (hc j hj)⟩
theorem IntsF.tail {w : World} {lo n b o : Nat} {xs : List Int} (h : IntsF w lo (some ⟨b, o, none⟩) (n + 1) xs) : IntsF w lo (some ⟨b, o + 1, none⟩) n xs.tail := by
  refine ⟨by rw [List.length_tail, h.1]; rfl, ?_⟩
  rcases h.2 with h0 | ⟨b', o', hA, h1, h2, hc⟩
  · omega
  · injection hA with hA
    injection hA with e1 e2
    subst e1; subst e2
    refine .inr ⟨b, o + 1, rfl, h1, h2, fun j hj => ?_⟩
    have := hc (j + 1) (by omega)
    rw [show o + 1 + j = o + (j + 1) by omega, this]
    cases xs <;> simp [List.getD_eq_getElem?_getD]

theorem Own.cap_le {w : World} {B n c : Nat} {A : Option Addr} {xs : List Int} (h : Own w B A n c xs) : n ≤ c := by
  rcases h.2.2 with ⟨e, _⟩ | ⟨g, cap, cur, e, _, _, h, _⟩
  · injection e with _ e1 e2; omega
  · injection e with _ _ e2; omega

/-- A board that a draw made: of any size from 0 to 8, any cells, at most 49. -/
def DrawnA (w : World) (B g lo q : Nat) (e : Ending) (w' : World) : Prop :=
  ∃ (s : Int) (A : Option Addr) (n c : Nat) (cs : List Int) (q' : Nat), e = .returned (.agg #[.int .i64 s, .slice A n c]) ∧ IntsF w' lo A n cs ∧ n ≤ 49 ∧ 0 ≤ s ∧ s ≤ 8 ∧ Rdr w' B g q' ∧ q' ≤ q ∧ w.grownBy w' (some g)

set_option maxRecDepth 100000 in
set_option maxHeartbeats 8000000 in
theorem r_any (B g q : Nat) (w : World) (h : Rdr w B g q) (hq : q ≤ 1000000000) :
    Calls Try.prog 15 #[.pointer (some ⟨g, 0, none⟩)] w fun e w' => DrawnA w B g w.heap.size (q + 202) e w' := by
  have hlt := h.lt
  have hb1 : Below w.heap.size w (w.alloc (.cells #[.int .i64 0, .slice none 0 0] 25)) := (Below.refl _ _).alloc (Nat.le_refl _) _
  have X2 := Lib.hid (Bx.new 25 w 0 (.slice none 0 0))
  have Hr := Lib.hid (h.below hb1 hlt)
  have Hb := Lib.hid hb1
  have hsz : (w.alloc (.cells #[.int .i64 0, .slice none 0 0] 25)).heap.size = w.heap.size + 1 := by simp
  have Hsz := Lib.hid hsz
  clear h hb1 hsz
  go_enter Try.func15, Try.ntmps15
  go_wp2_with fail
  refine (r_random B g q _ Hr.out (by omega)).mono ?_
  rintro e y ⟨s, A, n, c, cs, q1, rfl, ho, hv, hr, hq1, hg⟩
  rw [Hsz.out] at ho
  have X2 := Lib.hid (X2.out.grown hg (fun e => by have := Option.some.inj e; omega))
  have Hg := Lib.hid (gtrans (gbelow (some g) Hb.out (Nat.le_refl _)) hg)
  have Hr := Lib.hid hr
  obtain ⟨s1, s2, hsn, _⟩ := (Bd.okB_iff s cs).1 hv
  have hsq := Pt.sq_bd s s1 s2
  have hl := ho.1
  have hn49 : n ≤ 49 := by omega
  have hn1 : 1 ≤ n := by omega
  have z2 := X2.out.lt
  obtain ⟨ga, cap, hvv, _⟩ := World.ownsRow.form ho.2 (by omega)
  have hA : A = some ⟨ga, 0, none⟩ := by injection hvv
  subst hA
  have hga := ho.ge rfl
  have Ho := Lib.hid ho
  have hcap : n ≤ c := ho.cap_le
  clear hr hg hsn hl hv ho Hb hvv
  go_upto_region 2 with (fail)
  obtain ⟨y3, hy3, hb3, z3, z4⟩ := new_box y (.cells #[.int .i64 s, .slice (some ⟨ga, 0, none⟩) n c] 25)
  have X3 : Hid (Bx 25 y3 y.heap.size s (.slice (some ⟨ga, 0, none⟩) n c)) := Lib.hid (by rw [hy3]; exact Bx.new _ _ _ _)
  rw [← hy3]
  clear hy3
  have X2 := Lib.hid (X2.out.below hb3 X2.out.lt)
  have Hr := Lib.hid (Hr.out.below hb3 Hr.out.lt)
  have Ho := Lib.hid (Ho.out.below hb3)
  have Hg := Lib.hid (gtrans Hg.out (gbelow (some g) hb3 (Nat.le_refl _)))
  clear hb3
  go_wp2_with fail
  refine (r_pick B g q1 _ _ Hr.out (by omega)).mono ?_
  rintro e y4 ⟨x0, rfl, k1, k2, hr, hg⟩
  have X2 := Lib.hid (X2.out.grown hg (fun e => by have := Option.some.inj e; omega))
  have X3 := Lib.hid (X3.out.grown hg (fun e => by have := Option.some.inj e; omega))
  have Ho := Lib.hid (Ho.out.kept hg (fun g' hA e => by have := (Ho.out.ge hA).1; have := Option.some.inj e; omega))
  have Hg := Lib.hid (gtrans Hg.out hg)
  have Hr := Lib.hid hr
  have z5 := X3.out.lt
  clear hr hg
  by_cases h0 : x0 = 0
  · subst h0
    clear k1 k2
    have t0 := X3.out.cell0
    have t1 := X3.out.cell1
    have t2 := X3.out.lt
    have hlt4 := Hr.out.lt
    go_wp2_with fail
    have hl := Ints.lit y4 3 [0, 8, s + 1]
    refine (r_one B g (q1 + 1) _ _ [0, 8, s + 1] _ _ (Hr.out.below ((Below.refl _ _).alloc (Nat.le_refl _) _) Hr.out.lt) (by omega) hl (by simp) (by simp) (by simp) (by rintro b o e; injection e with e; injection e; omega)).mono ?_
    rintro e y5 ⟨x, rfl, hx, hr, hg⟩
    have hx8 : 0 ≤ x ∧ x ≤ 8 := by simp at hx; omega
    have hg5 := gtrans (World.grownBy_alloc y4 _ (some g)) hg
    have X2 := Lib.hid (X2.out.grown hg5 (fun e => by have := Option.some.inj e; omega))
    have X3 := Lib.hid (X3.out.grown hg5 (fun e => by have := Option.some.inj e; omega))
    have Ho := Lib.hid (Ho.out.kept hg5 (fun g' hA e => by have := (Ho.out.ge hA).1; have := Option.some.inj e; omega))
    have Hg := Lib.hid (gtrans Hg.out hg5)
    have Hr := Lib.hid hr
    clear hl hx hg hg5 hr t0 t1 t2
    have t0 := X3.out.cell0
    have t1 := X3.out.cell1
    have t2 := X3.out.lt
    have t3 := X3.out.frozen 0
    go_upto_region 9 with (fail)
    obtain ⟨y6, hy6⟩ : ∃ y6, y6 = y5.setCell ⟨y.heap.size, 0, none⟩ (.int .i64 x) := ⟨_, rfl⟩
    have hBg := Hr.out.1
    have X2 : Hid (Bx 25 y6 w.heap.size 0 (.slice none 0 0)) := Lib.hid (by rw [hy6]; exact X2.out.far (p := ⟨y.heap.size, 0, none⟩) (by show w.heap.size ≠ y.heap.size; omega) _)
    have X3 : Hid (Bx 25 y6 y.heap.size x (.slice (some ⟨ga, 0, none⟩) n c)) := Lib.hid (by rw [hy6]; exact X3.out.set0 x)
    have Ho : Hid (Own y6 (w.heap.size + 1) (some ⟨ga, 0, none⟩) n c cs) := Lib.hid (by rw [hy6]; exact Ho.out.far ⟨y.heap.size, 0, none⟩ (fun g' hA => by injection hA with hA; injection hA; show g' ≠ y.heap.size; omega) _)
    have Hr : Hid (Rdr y6 B g (q1 + 1 + 1)) := Lib.hid (by rw [hy6]; exact Hr.out.far ⟨y.heap.size, 0, none⟩ (by show g ≠ y.heap.size; omega) (by show B ≤ y.heap.size; omega) _)
    have Hg : Hid (w.grownBy y6 (some g)) := Lib.hid (by rw [hy6]; exact gset Hg.out ⟨y.heap.size, 0, none⟩ (by show w.heap.size ≤ y.heap.size; omega) _)
    rw [← hy6]
    clear hy6 t0 t1 t2 t3
    have Hi := Lib.hid (IntsF.of Ho.out)
    have K0 := Lib.hid ((X2.out.set0 x).cell0)
    have K1 := Lib.hid (((X2.out.set0 x).set1 (.slice (some ⟨ga, 0, none⟩) n c)).cell1)
    have t0 := X3.out.cell0
    have t1 := X3.out.cell1
    have t2 := X3.out.lt
    have r0 := X2.out.cell0
    have r1 := X2.out.cell1
    have r2 := X2.out.frozen 0
    have r3 := X2.out.frozen 1
    have r4 := X2.out.lt
    have hBg := Hr.out.1
    have Hr3 := Lib.hid ((Hr.out.far ⟨w.heap.size, 0, none⟩ (by show g ≠ w.heap.size; omega) (by show B ≤ w.heap.size; omega) (.int .i64 x)).far ⟨w.heap.size, 1, none⟩ (by show g ≠ w.heap.size; omega) (by show B ≤ w.heap.size; omega) (.slice (some ⟨ga, 0, none⟩) n c))
    have Hg3 := Lib.hid (gset (gset Hg.out ⟨w.heap.size, 0, none⟩ (Nat.le_refl _) (.int .i64 x)) ⟨w.heap.size, 1, none⟩ (Nat.le_refl _) (.slice (some ⟨ga, 0, none⟩) n c))
    have Hi3 := Lib.hid ((Hi.out.far ⟨w.heap.size, 0, none⟩ (Nat.lt_succ_self _) (.int .i64 x)).far ⟨w.heap.size, 1, none⟩ (Nat.lt_succ_self _) (.slice (some ⟨ga, 0, none⟩) n c))
    go_wp2_with fail
    have k0 := K0.out
    have k1 := K1.out
    refine bodyPost_ret (v := .agg #[.int .i64 x, .slice (some ⟨ga, 0, none⟩) n c]) (by simp [results, Try.results15, go_sem, k0, k1]) rfl ?_
    exact ⟨_, _, _, _, _, _, rfl, Hi3.out.weaken (by omega), by omega, by omega, by omega, Hr3.out, by omega, Hg3.out⟩
  · have e0 : (x0 == 0) = false := by simpa using h0
    by_cases h1 : x0 = 1
    · subst h1
      clear k1 k2 h0 e0
      obtain ⟨m, rfl⟩ : ∃ m, n = m + 1 := ⟨n - 1, by omega⟩
      obtain ⟨d, rfl⟩ : ∃ d, c = d + 1 := ⟨c - 1, by omega⟩
      have t0 := X3.out.cell0
      have t1 := X3.out.cell1
      have t2 := X3.out.lt
      have t3 := X3.out.frozen 1
      by_cases hd : d = 0
      · subst hd
        obtain rfl : m = 0 := by omega
        go_upto_region 9 with (fail)
        obtain ⟨y6, hy6⟩ : ∃ y6, y6 = y4.setCell ⟨y.heap.size, 1, none⟩ (.slice (some ⟨ga, 0, none⟩) 0 0) := ⟨_, rfl⟩
        have hBg := Hr.out.1
        have hgl := Hr.out.lt
        have X2 : Hid (Bx 25 y6 w.heap.size 0 (.slice none 0 0)) := Lib.hid (by rw [hy6]; exact X2.out.far (p := ⟨y.heap.size, 1, none⟩) (by show w.heap.size ≠ y.heap.size; omega) _)
        have X3 : Hid (Bx 25 y6 y.heap.size s (.slice (some ⟨ga, 0, none⟩) 0 0)) := Lib.hid (by rw [hy6]; exact X3.out.set1 _)
        have Ho : Hid (Own y6 (w.heap.size + 1) (some ⟨ga, 0, none⟩) (0 + 1) (0 + 1) cs) := Lib.hid (by rw [hy6]; exact Ho.out.far ⟨y.heap.size, 1, none⟩ (fun g' hA => by injection hA with hA; injection hA; show g' ≠ y.heap.size; omega) _)
        have Hr : Hid (Rdr y6 B g (q1 + 1)) := Lib.hid (by rw [hy6]; exact Hr.out.far ⟨y.heap.size, 1, none⟩ (by show g ≠ y.heap.size; omega) (by show B ≤ y.heap.size; omega) _)
        have Hg : Hid (w.grownBy y6 (some g)) := Lib.hid (by rw [hy6]; exact gset Hg.out ⟨y.heap.size, 1, none⟩ (by show w.heap.size ≤ y.heap.size; omega) _)
        rw [← hy6]
        clear hy6 t0 t1 t2 t3
        have Hi : Hid (IntsF y6 (w.heap.size + 1) (some ⟨ga, 0, none⟩) 0 []) := Lib.hid ⟨rfl, .inl rfl⟩
        have K0 := Lib.hid ((X2.out.set0 s).cell0)
        have K1 := Lib.hid (((X2.out.set0 s).set1 (.slice (some ⟨ga, 0, none⟩) 0 0)).cell1)
        have t0 := X3.out.cell0
        have t1 := X3.out.cell1
        have t2 := X3.out.lt
        have r0 := X2.out.cell0
        have r1 := X2.out.cell1
        have r2 := X2.out.frozen 0
        have r3 := X2.out.frozen 1
        have r4 := X2.out.lt
        have hBg := Hr.out.1
        have Hr3 := Lib.hid ((Hr.out.far ⟨w.heap.size, 0, none⟩ (by show g ≠ w.heap.size; omega) (by show B ≤ w.heap.size; omega) (.int .i64 s)).far ⟨w.heap.size, 1, none⟩ (by show g ≠ w.heap.size; omega) (by show B ≤ w.heap.size; omega) (.slice (some ⟨ga, 0, none⟩) 0 0))
        have Hg3 := Lib.hid (gset (gset Hg.out ⟨w.heap.size, 0, none⟩ (Nat.le_refl _) (.int .i64 s)) ⟨w.heap.size, 1, none⟩ (Nat.le_refl _) (.slice (some ⟨ga, 0, none⟩) 0 0))
        have Hi3 := Lib.hid ((Hi.out.far ⟨w.heap.size, 0, none⟩ (Nat.lt_succ_self _) (.int .i64 s)).far ⟨w.heap.size, 1, none⟩ (Nat.lt_succ_self _) (.slice (some ⟨ga, 0, none⟩) 0 0))
        go_wp2_with fail
        have k0 := K0.out
        have k1 := K1.out
        refine bodyPost_ret (v := .agg #[.int .i64 s, .slice (some ⟨ga, 0, none⟩) 0 0]) (by simp [results, Try.results15, go_sem, k0, k1]) rfl ?_
        exact ⟨_, _, _, _, _, _, rfl, Hi3.out.weaken (by omega), by omega, by omega, by omega, Hr3.out, by omega, Hg3.out⟩
      · have hd' : ¬ (d + 1 = 1) := by omega
        go_upto_region 9 with (fail)
        obtain ⟨y6, hy6⟩ : ∃ y6, y6 = y4.setCell ⟨y.heap.size, 1, none⟩ (.slice (some ⟨ga, 1, none⟩) m d) := ⟨_, rfl⟩
        have hBg := Hr.out.1
        have hgl := Hr.out.lt
        have X2 : Hid (Bx 25 y6 w.heap.size 0 (.slice none 0 0)) := Lib.hid (by rw [hy6]; exact X2.out.far (p := ⟨y.heap.size, 1, none⟩) (by show w.heap.size ≠ y.heap.size; omega) _)
        have X3 : Hid (Bx 25 y6 y.heap.size s (.slice (some ⟨ga, 1, none⟩) m d)) := Lib.hid (by rw [hy6]; exact X3.out.set1 _)
        have Ho : Hid (Own y6 (w.heap.size + 1) (some ⟨ga, 0, none⟩) (m + 1) (d + 1) cs) := Lib.hid (by rw [hy6]; exact Ho.out.far ⟨y.heap.size, 1, none⟩ (fun g' hA => by injection hA with hA; injection hA; show g' ≠ y.heap.size; omega) _)
        have Hr : Hid (Rdr y6 B g (q1 + 1)) := Lib.hid (by rw [hy6]; exact Hr.out.far ⟨y.heap.size, 1, none⟩ (by show g ≠ y.heap.size; omega) (by show B ≤ y.heap.size; omega) _)
        have Hg : Hid (w.grownBy y6 (some g)) := Lib.hid (by rw [hy6]; exact gset Hg.out ⟨y.heap.size, 1, none⟩ (by show w.heap.size ≤ y.heap.size; omega) _)
        rw [← hy6]
        clear hy6 t0 t1 t2 t3
        have Hi := Lib.hid (IntsF.tail (IntsF.of Ho.out))
        have K0 := Lib.hid ((X2.out.set0 s).cell0)
        have K1 := Lib.hid (((X2.out.set0 s).set1 (.slice (some ⟨ga, 1, none⟩) m d)).cell1)
        have t0 := X3.out.cell0
        have t1 := X3.out.cell1
        have t2 := X3.out.lt
        have r0 := X2.out.cell0
        have r1 := X2.out.cell1
        have r2 := X2.out.frozen 0
        have r3 := X2.out.frozen 1
        have r4 := X2.out.lt
        have hBg := Hr.out.1
        have Hr3 := Lib.hid ((Hr.out.far ⟨w.heap.size, 0, none⟩ (by show g ≠ w.heap.size; omega) (by show B ≤ w.heap.size; omega) (.int .i64 s)).far ⟨w.heap.size, 1, none⟩ (by show g ≠ w.heap.size; omega) (by show B ≤ w.heap.size; omega) (.slice (some ⟨ga, 1, none⟩) m d))
        have Hg3 := Lib.hid (gset (gset Hg.out ⟨w.heap.size, 0, none⟩ (Nat.le_refl _) (.int .i64 s)) ⟨w.heap.size, 1, none⟩ (Nat.le_refl _) (.slice (some ⟨ga, 1, none⟩) m d))
        have Hi3 := Lib.hid ((Hi.out.far ⟨w.heap.size, 0, none⟩ (Nat.lt_succ_self _) (.int .i64 s)).far ⟨w.heap.size, 1, none⟩ (Nat.lt_succ_self _) (.slice (some ⟨ga, 1, none⟩) m d))
        go_wp2_with fail
        have k0 := K0.out
        have k1 := K1.out
        refine bodyPost_ret (v := .agg #[.int .i64 s, .slice (some ⟨ga, 1, none⟩) m d]) (by simp [results, Try.results15, go_sem, k0, k1]) rfl ?_
        exact ⟨_, _, _, _, _, _, rfl, Hi3.out.weaken (by omega), by omega, by omega, by omega, Hr3.out, by omega, Hg3.out⟩
    · have e1 : (x0 == 1) = false := by simpa using h1
      by_cases h2 : x0 = 2
      · subst h2
        clear k1 k2 h0 h1 e0 e1
        have t0 := X3.out.cell0
        have t1 := X3.out.cell1
        have t2 := X3.out.lt
        have hlt4 := Hr.out.lt
        have hn0 : (0 : Int) < n := by omega
        go_wp2_with fail
        go_region_with (first | (go_at_call 31; refine (r_one B g (q1 + 1) _ _ [-1, 3] (y4.heap.size + 1) _ (by exact (show Rdr (y4.alloc (.cells #[.int .i64 (-1), .int .i64 3] 3)) B g (q1 + 1) from Hr.out.below ((Below.refl _ _).alloc (Nat.le_refl _) _) Hr.out.lt)) (by omega) (by exact Ints.lit y4 3 [-1, 3]) (by show y4.heap.size + 1 ≤ (y4.alloc (.cells #[.int .i64 (-1), .int .i64 3] 3)).heap.size; simp) (by simp) (by simp) (by rintro b o e; injection e with e; injection e; omega)).mono ?_; rintro e y5 ⟨x, rfl, hx, hr, hg⟩; have hg5 : y4.grownBy y5 (some g) := gtrans (World.grownBy_alloc y4 (.cells #[.int .i64 (-1), .int .i64 3] 3) (some g)) ⟨hg.os, hg.tape, hg.output, hg.size, hg.block⟩; have HX2 := Lib.hid (X2.out.grown hg5 (fun e => by have := Option.some.inj e; omega)); have HX3 := Lib.hid (X3.out.grown hg5 (fun e => by have := Option.some.inj e; omega)); have HO := Lib.hid (Ho.out.kept hg5 (fun g' hA e => by have := (Ho.out.ge hA).1; have := Option.some.inj e; omega)); have u0 := HX3.out.cell0; have u1 := HX3.out.cell1; have u2 := HX3.out.lt; have u3 := World.ownsRow.cellAt HO.out.2 0 (by omega); rw [List.getElem?_eq_getElem (by rw [List.length_map, HO.out.1]; omega)] at u3; have u4 := World.ownsRow.frozenAt HO.out.2 0; have HR := Lib.hid hr; have HG := Lib.hid (gtrans Hg.out hg5); clear hr hg hg5 hx))
        all_goals go_upto_region 9 with (fail)
        all_goals
          obtain ⟨y6, hy6⟩ : ∃ y6, y6 = y5.setCell ⟨ga, 0, none⟩ (.int .i64 x) := ⟨_, rfl⟩
          have hBg := HR.out.1
          have X2 : Hid (Bx 25 y6 w.heap.size 0 (.slice none 0 0)) := Lib.hid (by rw [hy6]; exact HX2.out.far (p := ⟨ga, 0, none⟩) (by show w.heap.size ≠ ga; omega) _)
          have X3 : Hid (Bx 25 y6 y.heap.size s (.slice (some ⟨ga, 0, none⟩) n c)) := Lib.hid (by rw [hy6]; exact HX3.out.far (p := ⟨ga, 0, none⟩) (by show y.heap.size ≠ ga; omega) _)
          have Ho : Hid (Own y6 (w.heap.size + 1) (some ⟨ga, 0, none⟩) n c (cs.set 0 x)) := Lib.hid (by rw [hy6]; exact (HO.out.stored 0 x).1)
          have Hr : Hid (Rdr y6 B g (q1 + 1 + 1)) := Lib.hid (by rw [hy6]; exact HR.out.far ⟨ga, 0, none⟩ (by show g ≠ ga; omega) (by show B ≤ ga; omega) _)
          have Hg : Hid (w.grownBy y6 (some g)) := Lib.hid (by rw [hy6]; exact gset HG.out ⟨ga, 0, none⟩ (by show w.heap.size ≤ ga; omega) _)
          rw [← hy6]
          clear hy6 u0 u1 u2 u3 u4 t0 t1 t2
          have Hi := Lib.hid (IntsF.of Ho.out)
          have K0 := Lib.hid ((X2.out.set0 s).cell0)
          have K1 := Lib.hid (((X2.out.set0 s).set1 (.slice (some ⟨ga, 0, none⟩) n c)).cell1)
          have t0 := X3.out.cell0
          have t1 := X3.out.cell1
          have t2 := X3.out.lt
          have r0 := X2.out.cell0
          have r1 := X2.out.cell1
          have r2 := X2.out.frozen 0
          have r3 := X2.out.frozen 1
          have r4 := X2.out.lt
          have hBg := Hr.out.1
          have Hr3 := Lib.hid ((Hr.out.far ⟨w.heap.size, 0, none⟩ (by show g ≠ w.heap.size; omega) (by show B ≤ w.heap.size; omega) (.int .i64 s)).far ⟨w.heap.size, 1, none⟩ (by show g ≠ w.heap.size; omega) (by show B ≤ w.heap.size; omega) (.slice (some ⟨ga, 0, none⟩) n c))
          have Hg3 := Lib.hid (gset (gset Hg.out ⟨w.heap.size, 0, none⟩ (Nat.le_refl _) (.int .i64 s)) ⟨w.heap.size, 1, none⟩ (Nat.le_refl _) (.slice (some ⟨ga, 0, none⟩) n c))
          have Hi3 := Lib.hid ((Hi.out.far ⟨w.heap.size, 0, none⟩ (Nat.lt_succ_self _) (.int .i64 s)).far ⟨w.heap.size, 1, none⟩ (Nat.lt_succ_self _) (.slice (some ⟨ga, 0, none⟩) n c))
          go_wp2_with fail
          have k0 := K0.out
          have k1 := K1.out
          refine bodyPost_ret (v := .agg #[.int .i64 s, .slice (some ⟨ga, 0, none⟩) n c]) (by simp [results, Try.results15, go_sem, k0, k1]) rfl ?_
          exact ⟨_, _, _, _, _, _, rfl, Hi3.out.weaken (by omega), by omega, by omega, by omega, Hr3.out, by omega, Hg3.out⟩
      · have e2 : (x0 == 2) = false := by simpa using h2
        clear h0 h1 h2
        have Hi := Lib.hid (IntsF.of Ho.out)
        have K0 := Lib.hid ((X2.out.set0 s).cell0)
        have K1 := Lib.hid (((X2.out.set0 s).set1 (.slice (some ⟨ga, 0, none⟩) n c)).cell1)
        have t0 := X3.out.cell0
        have t1 := X3.out.cell1
        have t2 := X3.out.lt
        have r0 := X2.out.cell0
        have r1 := X2.out.cell1
        have r2 := X2.out.frozen 0
        have r3 := X2.out.frozen 1
        have r4 := X2.out.lt
        have hBg := Hr.out.1
        have Hr3 := Lib.hid ((Hr.out.far ⟨w.heap.size, 0, none⟩ (by show g ≠ w.heap.size; omega) (by show B ≤ w.heap.size; omega) (.int .i64 s)).far ⟨w.heap.size, 1, none⟩ (by show g ≠ w.heap.size; omega) (by show B ≤ w.heap.size; omega) (.slice (some ⟨ga, 0, none⟩) n c))
        have Hg3 := Lib.hid (gset (gset Hg.out ⟨w.heap.size, 0, none⟩ (Nat.le_refl _) (.int .i64 s)) ⟨w.heap.size, 1, none⟩ (Nat.le_refl _) (.slice (some ⟨ga, 0, none⟩) n c))
        have Hi3 := Lib.hid ((Hi.out.far ⟨w.heap.size, 0, none⟩ (Nat.lt_succ_self _) (.int .i64 s)).far ⟨w.heap.size, 1, none⟩ (Nat.lt_succ_self _) (.slice (some ⟨ga, 0, none⟩) n c))
        go_wp2_with fail
        have k0 := K0.out
        have k1 := K1.out
        refine bodyPost_ret (v := .agg #[.int .i64 s, .slice (some ⟨ga, 0, none⟩) n c]) (by simp [results, Try.results15, go_sem, k0, k1]) rfl ?_
        exact ⟨_, _, _, _, _, _, rfl, Hi3.out.weaken (by omega), by omega, by omega, by omega, Hr3.out, by omega, Hg3.out⟩
end Go.Proofs.Ytmddkifadknlfaa

namespace Go.Proofs.Ytmddkifadknlfaa
set_option maxRecDepth 100000
open Go.RowKit

theorem undrew {a b : World} (h : Below a.drew.heap.size a.drew b) : Below a.heap.size a b := ⟨h.os, h.tape, h.output, h.size, h.block⟩
theorem Ints.step {w w' : World} {n : Nat} {A : Option Addr} {xs : List Int} (h : Ints w w.heap.size A n xs) (hb : Below w.heap.size w w') : Ints w' w'.heap.size A n xs := (h.below hb (Nat.le_refl _)).more hb.size
theorem Bx.step {t : TypeId} {w w' : World} {g : Nat} {s : Int} {v : Value} (h : Bx t w g s v) (hb : Below w.heap.size w w') : Bx t w' g s v := h.below hb h.lt
theorem bstep {a w w' : World} (h : Below a.heap.size a w) (hb : Below w.heap.size w w') : Below a.heap.size a w' := h.trans (hb.mono h.size)

theorem l_eqB (s : Int) (w : World) (A A' : Option Addr) (n c c' : Nat) (xs : List Int) (h : Ints w w.heap.size A n xs) (h' : Ints w w.heap.size A' n xs) (hn : n ≤ 1000000) :
    Calls Try.prog 12 #[.agg #[.int .i64 s, .slice A n c], .agg #[.int .i64 s, .slice A' n c']] w fun e w' => e = .returned (.bool true) ∧ Below w.heap.size w w' := by
  have hb2 : Below w.heap.size w ((w.alloc (.cells #[.int .i64 s, .slice A n c] 25)).alloc (.cells #[.int .i64 s, .slice A' n c'] 25)) := ((Below.refl _ _).alloc (Nat.le_refl _) _).alloc (by simp) _
  have H := Lib.hid (h.below hb2 (Nat.le_refl _))
  have H' := Lib.hid (h'.below hb2 (Nat.le_refl _))
  have Hb := Lib.hid hb2
  clear h h' hb2
  go_enter Try.func12, Try.ntmps12
  go_wp2_with fail
  refine (eqi_t _ _ _ _ _ n _ _ xs H.out H'.out (by omega)).mono ?_
  rintro e w' ⟨k, rfl, rfl⟩
  go_wp2_with fail
  go_ret
  exact ⟨rfl, drew_below Hb.out k⟩

theorem IsRow.below {k : IntKind} {w w' : World} {a : Option Addr} {len cap : Nat} {zs : List Int} (h : IsRow k w a len cap zs) (hb : Below w.heap.size w w') : IsRow k w' a len cap zs := by
  rcases h with h | ⟨x, hx, h1, h2, h3, h4, h5⟩
  · exact .inl h
  · refine .inr ⟨x, hx, h1, h2, h3, fun i hi => ?_, h5⟩
    have := h4 i hi
    exact (World.cell?_of_block (w := w) (a := x.add i) (hb.block _ (World.block_lt_of_cell? w _ this))).trans this

/-- What a law's draw of a board gives. -/
def DrawnL (w : World) (e : Ending) (w' : World) : Prop :=
  ∃ (s : Int) (A : Option Addr) (n c : Nat) (cs : List Int), e = .returned (.agg #[.int .i64 s, .slice A n c]) ∧ Ints w' w'.heap.size A n cs ∧ n ≤ 49 ∧ 0 ≤ s ∧ s ≤ 8 ∧ Below w.heap.size w w'
/-- The same with an int. -/
def DrawnLI (P : Int → Prop) (w : World) (e : Ending) (w' : World) : Prop :=
  ∃ (s : Int) (A : Option Addr) (n c : Nat) (cs : List Int) (x : Int), e = .returned (.tuple #[.agg #[.int .i64 s, .slice A n c], .int .i64 x]) ∧ Ints w' w'.heap.size A n cs ∧ n ≤ 49 ∧ 0 ≤ s ∧ s ≤ 8 ∧ P x ∧ Below w.heap.size w w'

end Go.Proofs.Ytmddkifadknlfaa

namespace Go.Proofs.Ytmddkifadknlfaa
set_option maxRecDepth 100000
open Go.RowKit

def cnt (x : Int) (cs : List Int) : Int := ((cs.filter fun c => c == x).length : Nat)
theorem cnt_bd (x : Int) (cs : List Int) : 0 ≤ cnt x cs ∧ cnt x cs ≤ cs.length := by
  unfold cnt
  have := List.length_filter_le (fun c => c == x) cs
  omega
theorem cnt_yes {x : Int} {cs : List Int} {k : Nat} (h : k < cs.length) (hx : (cs.getD k 0 == x) = true) : cnt x (cs.take (k + 1)) = cnt x (cs.take k) + 1 := by
  have e : cs.getD k 0 = cs[k] := by simp [List.getD_eq_getElem?_getD, List.getElem?_eq_getElem h]
  rw [e] at hx
  unfold cnt
  rw [List.take_succ_eq_append_getElem h, List.filter_append, List.length_append, List.filter_cons, hx]
  simp
theorem cnt_no {x : Int} {cs : List Int} {k : Nat} (h : k < cs.length) (hx : (cs.getD k 0 == x) = false) : cnt x (cs.take (k + 1)) = cnt x (cs.take k) := by
  have e : cs.getD k 0 = cs[k] := by simp [List.getD_eq_getElem?_getD, List.getElem?_eq_getElem h]
  rw [e] at hx
  unfold cnt
  rw [List.take_succ_eq_append_getElem h, List.filter_append, List.length_append, List.filter_cons, hx]
  simp

theorem i_cnt (w : World) (B : Nat) (A : Option Addr) (n c : Nat) (cs : List Int) (x : Int) (h : Ints w B A n cs) (hn : n ≤ 1000000000) :
    Calls Try.prog 22 #[.slice A n c, .int .i64 x] w fun e w' => e = .returned (.int .i64 (cnt x cs)) ∧ w = w' := by
  have hl := h.1
  rcases h.2 with rfl | ⟨b, o, rfl, hlt, hc⟩
  · have hx : cs = [] := List.eq_nil_of_length_eq_zero hl
    subst hx
    clear h hl
    go_enter Try.func22, Try.ntmps22
    go_wp2_with fail
    go_rounds 1
    go_ret
    exact ⟨rfl, rfl⟩
  · have Hc := Lib.hid hc
    have Hl := Lib.hid hl
    clear hc h hl
    go_enter Try.func22, Try.ntmps22
    go_wp2_with fail
    go_loop [5, 10] (fun m i => ∃ k : Nat, k ≤ n ∧ i = .int .i64 k ∧ m = .int .i64 (cnt x (cs.take k))) (fun _ i => n - (intOf i).toNat)
    case atStart => exact ⟨0, by omega, rfl, rfl⟩
    case round =>
      obtain ⟨k, hk, rfl, rfl⟩ := hrel
      obtain ⟨b1, b2⟩ := cnt_bd x (cs.take k)
      have b3 : ((cs.take k).length : Int) ≤ k := by rw [List.length_take]; omega
      by_cases hlt : k < n
      · have c1 := Hc.out k hlt
        have hy := Lib.hid (cnt_yes (x := x) (cs := cs) (k := k) (by rw [Hl.out]; exact hlt))
        have hno := Lib.hid (cnt_no (x := x) (cs := cs) (k := k) (by rw [Hl.out]; exact hlt))
        obtain ⟨y, hyy⟩ : ∃ y, cs.getD k 0 = y := ⟨_, rfl⟩
        rw [hyy] at c1 hy hno
        clear hyy
        rcases Bool.eq_false_or_eq_true (y == x) with ht | ht
        · have Hy := Lib.hid (hy.out ht)
          clear hy hno
          go_wp2_with fail
          go_round
          case rel => exact ⟨k + 1, by omega, by go_num, by rw [Hy.out]⟩
          case measure => simp [intOf]; omega
        · have Hy := Lib.hid (hno.out ht)
          clear hy hno
          go_wp2_with fail
          go_round
          case rel => exact ⟨k + 1, by omega, by go_num, by rw [Hy.out]⟩
          case measure => simp [intOf]; omega
      · have hf : cnt x (cs.take k) = cnt x cs := by rw [List.take_of_length_le (by rw [Hl.out]; omega)]
        have Hf := Lib.hid hf
        clear hf
        go_wp2_with fail
        go_ret
        exact ⟨ret_int Hf.out, rfl⟩

def cntB (s : Int) (cs : List Int) (x : Int) : Int := if Bd.okB s cs then cnt x cs else -1

theorem i_count (s : Int) (w : World) (B : Nat) (A : Option Addr) (n c : Nat) (cs : List Int) (x : Int) (h : Ints w B A n cs) (hB : B ≤ w.heap.size) (hn : n ≤ 1000000000) :
    Calls Try.prog 9 #[.agg #[.int .i64 s, .slice A n c], .int .i64 x] w fun e w' => e = .returned (.int .i64 (cntB s cs x)) ∧ Below w.heap.size w w' := by
  have hb1 : Below w.heap.size w (w.alloc (.cells #[.int .i64 s, .slice A n c] 25)) := (Below.refl _ _).alloc (Nat.le_refl _) _
  have H := Lib.hid (h.below hb1 hB)
  have Hb := Lib.hid hb1
  have Bxx := Lib.hid (Bx.new 25 w s (.slice A n c))
  clear hb1 h
  by_cases hv : Bd.okB s cs = true
  · have Hf := Lib.hid (show cntB s cs x = cnt x cs by rw [cntB, if_pos hv])
    go_enter Try.func9, Try.ntmps9
    go_wp2_with fail
    refine (i_validBoard _ _ _ _ _ _ _ H.out (by simp; omega) hn).mono ?_
    rintro e y ⟨rfl, hb⟩
    have v0 := (Bxx.out.below hb (by simp)).cell0
    have v1 := (Bxx.out.below hb (by simp)).cell1
    have H2 := Lib.hid (H.out.below hb (by simp; omega))
    have Hb2 := Lib.hid (Hb.out.trans (hb.mono (by simp)))
    clear hb
    rw [hv]
    go_wp2_with fail
    refine (i_cnt _ _ _ _ _ _ _ H2.out hn).mono ?_
    rintro e y2 ⟨rfl, rfl⟩
    go_wp2_with fail
    go_ret
    exact ⟨ret_int Hf.out.symm, Hb2.out⟩
  · have hv' : Bd.okB s cs = false := by simpa using hv
    have Hf := Lib.hid (show cntB s cs x = -1 by rw [cntB, if_neg hv])
    go_enter Try.func9, Try.ntmps9
    go_wp2_with fail
    refine (i_validBoard _ _ _ _ _ _ _ H.out (by simp; omega) hn).mono ?_
    rintro e y ⟨rfl, hb⟩
    have Hb2 := Lib.hid (Hb.out.trans (hb.mono (by simp)))
    clear hb hv
    rw [hv']
    go_wp2_with fail
    go_ret
    exact ⟨ret_int Hf.out.symm, Hb2.out⟩
end Go.Proofs.Ytmddkifadknlfaa

namespace Go.Proofs.Ytmddkifadknlfaa
set_option maxRecDepth 100000
open Go.RowKit

section
variable (s : Int) (w : World) (A : Option Addr) (n c : Nat) (cs : List Int)
variable (k : Int)
theorem i_trV (h : Ints w w.heap.size A n cs) (hn : n ≤ 49) (hv : Bd.okB s cs = true) (hk : Pt.okK k = true) : Calls Try.prog 14 #[.agg #[.int .i64 s, .slice A n c], .int .i64 k] w fun e w' => Made s (Bd.mv s k cs) w e w' := by
  have := i_trB s k w w.heap.size A n c cs h (Nat.le_refl _) (by omega)
  rwa [trS, trCs, show trOk s cs k = true by rw [trOk, hv, hk]; rfl, if_pos rfl, if_pos rfl] at this
theorem i_trN (h : Ints w w.heap.size A n cs) (hn : n ≤ 49) (hv : trOk s cs k = false) : Calls Try.prog 14 #[.agg #[.int .i64 s, .slice A n c], .int .i64 k] w fun e w' => Made 0 [] w e w' := by
  have := i_trB s k w w.heap.size A n c cs h (Nat.le_refl _) (by omega)
  rwa [trS, trCs, hv, if_neg (by decide), if_neg (by decide)] at this
end

theorem len_of {cs : List Int} {n m : Nat} (h : (othCs cs).length = m) (h0 : cs.length = n) : n = m := by rw [othCs_len] at h; omega
theorem len_mv {s k : Int} {cs : List Int} {n m : Nat} (h : (Bd.mv s k cs).length = m) (h0 : cs.length = n) : n = m := by rw [Bd.mv_len] at h; omega
theorem oth_oth {x : Int} (h0 : 0 ≤ x) (h2 : x ≤ 2) : oth (oth x) = x := by
  have h3 : x = 0 ∨ x = 1 ∨ x = 2 := by omega
  rcases h3 with rfl | rfl | rfl <;> decide
theorem othCs_twice {cs : List Int} (h : OkL cs) : othCs (othCs cs) = cs := by
  rw [okL_mem] at h
  unfold othCs
  rw [List.map_map]
  conv => rhs; rw [← List.map_id cs]
  exact List.map_congr_left fun x hx => oth_oth (h x hx).1 (h x hx).2
theorem othCs_set (l : List Int) (p : Nat) (x : Int) : othCs (l.set p x) = (othCs l).set p (oth x) := by
  unfold othCs; rw [List.map_set]
theorem othCs_getD (cs : List Int) (j : Nat) : oth (cs.getD j 0) = (othCs cs).getD j 0 := by
  unfold othCs
  rw [List.getD_eq_getElem?_getD, List.getD_eq_getElem?_getD, List.getElem?_map]
  cases cs[j]? <;> rfl
theorem steps_oth (f : Nat → Nat) (cs : List Int) (j : Nat) (l : List Int) : othCs (Bd.steps f cs j l) = Bd.steps f (othCs cs) j (othCs l) := by
  induction j with
  | zero => rfl
  | succ j ih => rw [Bd.steps, Bd.steps, othCs_set, ih, othCs_getD]
theorem mv_oth (s k : Int) (cs : List Int) : Bd.mv s k (othCs cs) = othCs (Bd.mv s k cs) := by
  unfold Bd.mv
  rw [steps_oth, othCs_len]
end Go.Proofs.Ytmddkifadknlfaa

namespace Go.Proofs.Ytmddkifadknlfaa
set_option maxRecDepth 100000

theorem perm_of_sub {l r : List Nat} (hn : l.Nodup) (hs : ∀ x ∈ l, x ∈ r) (hl : r.length ≤ l.length) : List.Perm l r := by
  induction l generalizing r with
  | nil =>
    have e : r = [] := List.eq_nil_of_length_eq_zero (by simpa using hl)
    subst e
    exact .refl _
  | cons x l ih =>
    have hx : x ∈ r := hs x (by simp)
    obtain ⟨hxl, hnl⟩ := List.nodup_cons.1 hn
    refine List.Perm.trans ?_ (List.perm_cons_erase hx).symm
    refine List.Perm.cons x (ih hnl (fun y hy => ?_) ?_)
    · have hne : y ≠ x := fun e => hxl (e ▸ hy)
      exact (List.mem_erase_of_ne hne).2 (hs y (by simp [hy]))
    · rw [List.length_erase_of_mem hx]
      simp at hl
      omega

theorem nodup_map {f : Nat → Nat} {l : List Nat} (hn : l.Nodup) (hf : ∀ a ∈ l, ∀ b ∈ l, f a = f b → a = b) : (l.map f).Nodup := by
  induction l with
  | nil => simp
  | cons x l ih =>
    obtain ⟨hx, hl⟩ := List.nodup_cons.1 hn
    rw [List.map_cons, List.nodup_cons]
    refine ⟨fun hm => ?_, ih hl fun a ha b hb => hf a (by simp [ha]) b (by simp [hb])⟩
    obtain ⟨y, hy, he⟩ := List.mem_map.1 hm
    have := hf y (by simp [hy]) x (by simp) he
    exact hx (this ▸ hy)

theorem list_as_map (cs : List Int) : cs = (List.range cs.length).map fun p => cs.getD p 0 := by
  apply List.ext_getElem
  · simp
  · intro i h1 h2
    simp [List.getD_eq_getElem?_getD, List.getElem?_eq_getElem h1]

theorem mv_perm {s k : Int} {cs : List Int} (h1 : 1 ≤ s) (h2 : s ≤ 7) (hn : (cs.length : Int) = s * s) (k1 : 0 ≤ k) (k2 : k < 8) : List.Perm (Bd.mv s k cs) cs := by
  have hp : List.Perm ((List.range cs.length).map (Bd.imgN s k)) (List.range cs.length) := by
    refine perm_of_sub (nodup_map List.nodup_range fun a ha b hb he => ?_) (fun x hx => ?_) (by simp)
    · exact Bd.imgN_inj s k cs.length h1 h2 hn k1 k2 a b (List.mem_range.1 ha) (List.mem_range.1 hb) he
    · obtain ⟨p, hp, rfl⟩ := List.mem_map.1 hx
      exact List.mem_range.2 (Bd.imgN_lt s k cs.length p h1 h2 hn (List.mem_range.1 hp)).1
  have e1 := list_as_map (Bd.mv s k cs)
  rw [Bd.mv_len] at e1
  rw [e1]
  refine ((hp.map fun q => (Bd.mv s k cs).getD q 0).symm).trans ?_
  rw [List.map_map]
  conv => rhs; rw [list_as_map cs]
  have : (List.range cs.length).map ((fun q => (Bd.mv s k cs).getD q 0) ∘ Bd.imgN s k) = (List.range cs.length).map fun p => cs.getD p 0 := by
    apply List.map_congr_left
    intro p hp
    have hp' := List.mem_range.1 hp
    have := Bd.steps_at (f := Bd.imgN s k) (cs := cs) (l := cs) (j := cs.length) (fun a b ha hb he => Bd.imgN_inj s k cs.length h1 h2 hn k1 k2 a b ha hb he) (fun a ha => (Bd.imgN_lt s k cs.length a h1 h2 hn ha).1) hp'
    show (Bd.mv s k cs).getD (Bd.imgN s k p) 0 = _
    unfold Bd.mv
    rw [List.getD_eq_getElem?_getD, this]
    rfl
  rw [this]

theorem cnt_perm {a b : List Int} (h : List.Perm a b) (x : Int) : cnt x a = cnt x b := by
  unfold cnt
  rw [(h.filter _).length_eq]
theorem cnt_mv {s k : Int} {cs : List Int} (hv : Bd.okB s cs = true) (hk : Pt.okK k = true) (x : Int) : cnt x (Bd.mv s k cs) = cnt x cs := by
  obtain ⟨a, b, c, _⟩ := (Bd.okB_iff s cs).1 hv
  obtain ⟨k1, k2⟩ := (Pt.okK_iff k).1 hk
  exact cnt_perm (mv_perm a b c k1 k2) x
theorem cnt_oth {cs : List Int} (h : OkL cs) {x : Int} (x1 : 1 ≤ x) (x2 : x ≤ 2) : cnt (3 - x) (othCs cs) = cnt x cs := by
  rw [okL_mem] at h
  unfold cnt othCs
  rw [List.filter_map, List.length_map]
  congr 2
  apply List.filter_congr
  intro c hc
  have h3 : c = 0 ∨ c = 1 ∨ c = 2 := by have := h c hc; omega
  have h4 : x = 1 ∨ x = 2 := by omega
  rcases h3 with rfl | rfl | rfl <;> rcases h4 with rfl | rfl <;> rfl
theorem cnt_nonneg (x : Int) (cs : List Int) : 0 ≤ cnt x cs := by unfold cnt; omega
end Go.Proofs.Ytmddkifadknlfaa

namespace Go.Proofs.Ytmddkifadknlfaa
set_option maxRecDepth 100000
open Go.RowKit

end Go.Proofs.Ytmddkifadknlfaa

namespace Go.Proofs.Ytmddkifadknlfaa
set_option maxRecDepth 100000
open Go.RowKit

theorem i_cntV (s : Int) (w : World) (A : Option Addr) (n c : Nat) (cs : List Int) (x N : Int) (h : Ints w w.heap.size A n cs) (hn : n ≤ 49) (hN : cntB s cs x = N) :
    Calls Try.prog 9 #[.agg #[.int .i64 s, .slice A n c], .int .i64 x] w fun e w' => e = .returned (.int .i64 N) ∧ Below w.heap.size w w' := by
  have := i_count s w w.heap.size A n c cs x h (Nat.le_refl _) (by omega)
  rwa [hN] at this
theorem cntB_mv {s k x N : Int} {cs : List Int} (hv : Bd.okB s cs = true) (hk : Pt.okK k = true) (hN : cntB s cs x = N) : cntB s (Bd.mv s k cs) x = N := by
  rw [← hN, cntB, cntB, if_pos hv, if_pos (okB_mv hv), cnt_mv hv hk]
theorem cntB_oth {s x N : Int} {cs : List Int} (hv : Bd.okB s cs = true) (x1 : 1 ≤ x) (x2 : x ≤ 2) (hN : cntB s cs x = N) : cntB s (othCs cs) (3 - x) = N := by
  rw [← hN, cntB, cntB, if_pos hv, if_pos (okB_oth hv), cnt_oth (okL_mem.2 ((Bd.okB_iff s cs).1 hv).2.2.2) x1 x2]
theorem cntB_ok {s x N : Int} {cs : List Int} (hN : cntB s cs x = N) (h0 : 0 ≤ N) : Bd.okB s cs = true := by
  rcases Bool.eq_false_or_eq_true (Bd.okB s cs) with h | h
  · exact h
  · rw [cntB, h] at hN
    have : (-1 : Int) = N := hN
    omega

theorem mv_at {s k : Int} {cs : List Int} (h1 : 1 ≤ s) (h2 : s ≤ 7) (hn : (cs.length : Int) = s * s) (k1 : 0 ≤ k) (k2 : k < 8) {p : Nat} (hp : p < cs.length) : (Bd.mv s k cs)[Bd.imgN s k p]? = some (cs.getD p 0) :=
  Bd.steps_at (f := Bd.imgN s k) (cs := cs) (l := cs) (j := cs.length) (fun a b ha hb he => Bd.imgN_inj s k cs.length h1 h2 hn k1 k2 a b ha hb he) (fun a ha => (Bd.imgN_lt s k cs.length a h1 h2 hn ha).1) hp
theorem imgN_comp {s a b : Int} {n p : Nat} (h1 : 1 ≤ s) (h2 : s ≤ 7) (hn : (n : Int) = s * s) (a1 : 0 ≤ a) (a2 : a < 8) (b1 : 0 ≤ b) (b2 : b < 8) (hp : p < n) : Bd.imgN s (Pt.comp a b) p = Bd.imgN s b (Bd.imgN s a p) := by
  obtain ⟨c1, c2⟩ := Pt.comp_bd a b a1 a2 b1 b2
  obtain ⟨l1, e1⟩ := Bd.imgN_lt s a n p h1 h2 hn hp
  have hc := Pt.comp_tr a b s p a1 a2 b1 b2 h1 h2 (by omega) (by omega)
  rw [Pt.tr_in s a p h1 h2 (by omega) (by omega) a1 a2, ← e1, Pt.tr_in s b _ h1 h2 (by omega) (by omega) b1 b2, Pt.tr_in s (Pt.comp a b) p h1 h2 (by omega) (by omega) c1 c2] at hc
  unfold Bd.imgN at hc ⊢
  rw [hc]
theorem mv_mv {s a b : Int} {cs : List Int} (h1 : 1 ≤ s) (h2 : s ≤ 7) (hn : (cs.length : Int) = s * s) (a1 : 0 ≤ a) (a2 : a < 8) (b1 : 0 ≤ b) (b2 : b < 8) : Bd.mv s b (Bd.mv s a cs) = Bd.mv s (Pt.comp a b) cs := by
  obtain ⟨c1, c2⟩ := Pt.comp_bd a b a1 a2 b1 b2
  have hl : (Bd.mv s a cs).length = cs.length := Bd.mv_len _ _ _
  apply List.ext_getElem?
  intro q
  by_cases hq : q < cs.length
  · obtain ⟨p, hp, rfl⟩ := Bd.imgN_sur s (Pt.comp a b) cs.length h1 h2 hn c1 c2 q hq
    obtain ⟨l1, _⟩ := Bd.imgN_lt s a cs.length p h1 h2 hn hp
    rw [mv_at h1 h2 hn c1 c2 hp, imgN_comp h1 h2 hn a1 a2 b1 b2 hp, mv_at h1 h2 (by rw [hl]; exact hn) b1 b2 (by rw [hl]; exact l1), List.getD_eq_getElem?_getD, mv_at h1 h2 hn a1 a2 hp]
    rfl
  · rw [List.getElem?_eq_none (by rw [Bd.mv_len, hl]; omega), List.getElem?_eq_none (by rw [Bd.mv_len]; omega)]

theorem Ints.dr {w : World} {n : Nat} {A : Option Addr} {xs : List Int} (h : Ints w w.heap.size A n xs) : Ints w.drew w.drew.heap.size A n xs := h
/-- An image whose size and cells have names. -/
theorem i_trW (s k : Int) (w : World) (A : Option Addr) (n c : Nat) (cs ds : List Int) (h : Ints w w.heap.size A n cs) (hn : n ≤ 49) (hv : Bd.okB s cs = true) (hk : Pt.okK k = true) (hd : Bd.mv s k cs = ds) :
    Calls Try.prog 14 #[.agg #[.int .i64 s, .slice A n c], .int .i64 k] w fun e w' => ∃ A1 c1, e = .returned (.agg #[.int .i64 s, .slice A1 n c1]) ∧ Own w' w.heap.size A1 n c1 ds ∧ Below w.heap.size w w' := by
  have hl := h.1
  refine (i_trV s w A n c cs k h hn hv hk).mono ?_
  rintro e w' ⟨A1, n1, c1, rfl, ho, hb⟩
  rw [hd] at ho
  have e1 := ho.1
  rw [← hd, Bd.mv_len] at e1
  obtain rfl : n1 = n := by omega
  exact ⟨_, _, rfl, ho, hb⟩
theorem len_comp {s k : Int} {cs : List Int} {n m : Nat} (h : (Bd.mv s k cs).length = m) (h0 : cs.length = n) : n = m := len_mv h h0
end Go.Proofs.Ytmddkifadknlfaa

namespace Go.Proofs.Ytmddkifadknlfaa
set_option maxRecDepth 100000
open Go.RowKit

theorem own_capC {w : World} {B n c : Nat} {A : Option Addr} {xs : List Int} (h : Own w B A n c xs) : n ≤ c ∧ c ≤ 9223372036854775807 := by
  rcases h.2.2 with ⟨e, _⟩ | ⟨g, cap, cur, e, _, _, h1, h2, _⟩
  · injection e with _ e1 e2; omega
  · injection e with _ _ e2
    unfold maxLen at h2
    omega

/-- A board that a draw made: of any size from 0 to 8, any cells, at most 49. -/
def DrawnC (w : World) (B g lo q : Nat) (e : Ending) (w' : World) : Prop :=
  ∃ (s : Int) (A : Option Addr) (n c : Nat) (cs : List Int) (q' : Nat), e = .returned (.agg #[.int .i64 s, .slice A n c]) ∧ IntsF w' lo A n cs ∧ n ≤ 49 ∧ 0 ≤ s ∧ s ≤ 8 ∧ n ≤ c ∧ c ≤ 9223372036854775807 ∧ Rdr w' B g q' ∧ q' ≤ q ∧ w.grownBy w' (some g)

set_option maxRecDepth 100000 in
set_option maxHeartbeats 8000000 in
theorem r_anyC (B g q : Nat) (w : World) (h : Rdr w B g q) (hq : q ≤ 1000000000) :
    Calls Try.prog 15 #[.pointer (some ⟨g, 0, none⟩)] w fun e w' => DrawnC w B g w.heap.size (q + 202) e w' := by
  have hlt := h.lt
  have hb1 : Below w.heap.size w (w.alloc (.cells #[.int .i64 0, .slice none 0 0] 25)) := (Below.refl _ _).alloc (Nat.le_refl _) _
  have X2 := Lib.hid (Bx.new 25 w 0 (.slice none 0 0))
  have Hr := Lib.hid (h.below hb1 hlt)
  have Hb := Lib.hid hb1
  have hsz : (w.alloc (.cells #[.int .i64 0, .slice none 0 0] 25)).heap.size = w.heap.size + 1 := by simp
  have Hsz := Lib.hid hsz
  clear h hb1 hsz
  go_enter Try.func15, Try.ntmps15
  go_wp2_with fail
  refine (r_random B g q _ Hr.out (by omega)).mono ?_
  rintro e y ⟨s, A, n, c, cs, q1, rfl, ho, hv, hr, hq1, hg⟩
  rw [Hsz.out] at ho
  have X2 := Lib.hid (X2.out.grown hg (fun e => by have := Option.some.inj e; omega))
  have Hg := Lib.hid (gtrans (gbelow (some g) Hb.out (Nat.le_refl _)) hg)
  have Hr := Lib.hid hr
  obtain ⟨s1, s2, hsn, _⟩ := (Bd.okB_iff s cs).1 hv
  have hsq := Pt.sq_bd s s1 s2
  have hl := ho.1
  have hn49 : n ≤ 49 := by omega
  have hn1 : 1 ≤ n := by omega
  have z2 := X2.out.lt
  obtain ⟨ga, cap, hvv, _⟩ := World.ownsRow.form ho.2 (by omega)
  have hA : A = some ⟨ga, 0, none⟩ := by injection hvv
  subst hA
  have hga := ho.ge rfl
  have Ho := Lib.hid ho
  have hcap : n ≤ c := ho.cap_le
  clear hr hg hsn hl hv ho Hb hvv
  go_upto_region 2 with (fail)
  obtain ⟨y3, hy3, hb3, z3, z4⟩ := new_box y (.cells #[.int .i64 s, .slice (some ⟨ga, 0, none⟩) n c] 25)
  have X3 : Hid (Bx 25 y3 y.heap.size s (.slice (some ⟨ga, 0, none⟩) n c)) := Lib.hid (by rw [hy3]; exact Bx.new _ _ _ _)
  rw [← hy3]
  clear hy3
  have X2 := Lib.hid (X2.out.below hb3 X2.out.lt)
  have Hr := Lib.hid (Hr.out.below hb3 Hr.out.lt)
  have Ho := Lib.hid (Ho.out.below hb3)
  have Hg := Lib.hid (gtrans Hg.out (gbelow (some g) hb3 (Nat.le_refl _)))
  clear hb3
  go_wp2_with fail
  refine (r_pick B g q1 _ _ Hr.out (by omega)).mono ?_
  rintro e y4 ⟨x0, rfl, k1, k2, hr, hg⟩
  have X2 := Lib.hid (X2.out.grown hg (fun e => by have := Option.some.inj e; omega))
  have X3 := Lib.hid (X3.out.grown hg (fun e => by have := Option.some.inj e; omega))
  have Ho := Lib.hid (Ho.out.kept hg (fun g' hA e => by have := (Ho.out.ge hA).1; have := Option.some.inj e; omega))
  have Hg := Lib.hid (gtrans Hg.out hg)
  have Hr := Lib.hid hr
  have z5 := X3.out.lt
  clear hr hg
  by_cases h0 : x0 = 0
  · subst h0
    clear k1 k2
    have t0 := X3.out.cell0
    have t1 := X3.out.cell1
    have t2 := X3.out.lt
    have hlt4 := Hr.out.lt
    go_wp2_with fail
    have hl := Ints.lit y4 3 [0, 8, s + 1]
    refine (r_one B g (q1 + 1) _ _ [0, 8, s + 1] _ _ (Hr.out.below ((Below.refl _ _).alloc (Nat.le_refl _) _) Hr.out.lt) (by omega) hl (by simp) (by simp) (by simp) (by rintro b o e; injection e with e; injection e; omega)).mono ?_
    rintro e y5 ⟨x, rfl, hx, hr, hg⟩
    have hx8 : 0 ≤ x ∧ x ≤ 8 := by simp at hx; omega
    have hg5 := gtrans (World.grownBy_alloc y4 _ (some g)) hg
    have X2 := Lib.hid (X2.out.grown hg5 (fun e => by have := Option.some.inj e; omega))
    have X3 := Lib.hid (X3.out.grown hg5 (fun e => by have := Option.some.inj e; omega))
    have Ho := Lib.hid (Ho.out.kept hg5 (fun g' hA e => by have := (Ho.out.ge hA).1; have := Option.some.inj e; omega))
    have Hg := Lib.hid (gtrans Hg.out hg5)
    have Hr := Lib.hid hr
    clear hl hx hg hg5 hr t0 t1 t2
    have t0 := X3.out.cell0
    have t1 := X3.out.cell1
    have t2 := X3.out.lt
    have t3 := X3.out.frozen 0
    go_upto_region 9 with (fail)
    obtain ⟨y6, hy6⟩ : ∃ y6, y6 = y5.setCell ⟨y.heap.size, 0, none⟩ (.int .i64 x) := ⟨_, rfl⟩
    have hBg := Hr.out.1
    have X2 : Hid (Bx 25 y6 w.heap.size 0 (.slice none 0 0)) := Lib.hid (by rw [hy6]; exact X2.out.far (p := ⟨y.heap.size, 0, none⟩) (by show w.heap.size ≠ y.heap.size; omega) _)
    have X3 : Hid (Bx 25 y6 y.heap.size x (.slice (some ⟨ga, 0, none⟩) n c)) := Lib.hid (by rw [hy6]; exact X3.out.set0 x)
    have Ho : Hid (Own y6 (w.heap.size + 1) (some ⟨ga, 0, none⟩) n c cs) := Lib.hid (by rw [hy6]; exact Ho.out.far ⟨y.heap.size, 0, none⟩ (fun g' hA => by injection hA with hA; injection hA; show g' ≠ y.heap.size; omega) _)
    have Hr : Hid (Rdr y6 B g (q1 + 1 + 1)) := Lib.hid (by rw [hy6]; exact Hr.out.far ⟨y.heap.size, 0, none⟩ (by show g ≠ y.heap.size; omega) (by show B ≤ y.heap.size; omega) _)
    have Hg : Hid (w.grownBy y6 (some g)) := Lib.hid (by rw [hy6]; exact gset Hg.out ⟨y.heap.size, 0, none⟩ (by show w.heap.size ≤ y.heap.size; omega) _)
    rw [← hy6]
    clear hy6 t0 t1 t2 t3
    have Hi := Lib.hid (IntsF.of Ho.out)
    have K0 := Lib.hid ((X2.out.set0 x).cell0)
    have K1 := Lib.hid (((X2.out.set0 x).set1 (.slice (some ⟨ga, 0, none⟩) n c)).cell1)
    have t0 := X3.out.cell0
    have t1 := X3.out.cell1
    have t2 := X3.out.lt
    have r0 := X2.out.cell0
    have r1 := X2.out.cell1
    have r2 := X2.out.frozen 0
    have r3 := X2.out.frozen 1
    have r4 := X2.out.lt
    have hBg := Hr.out.1
    have Hr3 := Lib.hid ((Hr.out.far ⟨w.heap.size, 0, none⟩ (by show g ≠ w.heap.size; omega) (by show B ≤ w.heap.size; omega) (.int .i64 x)).far ⟨w.heap.size, 1, none⟩ (by show g ≠ w.heap.size; omega) (by show B ≤ w.heap.size; omega) (.slice (some ⟨ga, 0, none⟩) n c))
    have Hg3 := Lib.hid (gset (gset Hg.out ⟨w.heap.size, 0, none⟩ (Nat.le_refl _) (.int .i64 x)) ⟨w.heap.size, 1, none⟩ (Nat.le_refl _) (.slice (some ⟨ga, 0, none⟩) n c))
    have Hi3 := Lib.hid ((Hi.out.far ⟨w.heap.size, 0, none⟩ (Nat.lt_succ_self _) (.int .i64 x)).far ⟨w.heap.size, 1, none⟩ (Nat.lt_succ_self _) (.slice (some ⟨ga, 0, none⟩) n c))
    go_wp2_with fail
    have k0 := K0.out
    have k1 := K1.out
    refine bodyPost_ret (v := .agg #[.int .i64 x, .slice (some ⟨ga, 0, none⟩) n c]) (by simp [results, Try.results15, go_sem, k0, k1]) rfl ?_
    exact ⟨_, _, _, _, _, _, rfl, Hi3.out.weaken (by omega), by omega, by omega, by omega, by (first | omega | (have := own_capC Ho.out; omega)), by (first | omega | (have := own_capC Ho.out; omega)), Hr3.out, by omega, Hg3.out⟩
  · have e0 : (x0 == 0) = false := by simpa using h0
    by_cases h1 : x0 = 1
    · subst h1
      clear k1 k2 h0 e0
      obtain ⟨m, rfl⟩ : ∃ m, n = m + 1 := ⟨n - 1, by omega⟩
      obtain ⟨d, rfl⟩ : ∃ d, c = d + 1 := ⟨c - 1, by omega⟩
      have t0 := X3.out.cell0
      have t1 := X3.out.cell1
      have t2 := X3.out.lt
      have t3 := X3.out.frozen 1
      by_cases hd : d = 0
      · subst hd
        obtain rfl : m = 0 := by omega
        go_upto_region 9 with (fail)
        obtain ⟨y6, hy6⟩ : ∃ y6, y6 = y4.setCell ⟨y.heap.size, 1, none⟩ (.slice (some ⟨ga, 0, none⟩) 0 0) := ⟨_, rfl⟩
        have hBg := Hr.out.1
        have hgl := Hr.out.lt
        have X2 : Hid (Bx 25 y6 w.heap.size 0 (.slice none 0 0)) := Lib.hid (by rw [hy6]; exact X2.out.far (p := ⟨y.heap.size, 1, none⟩) (by show w.heap.size ≠ y.heap.size; omega) _)
        have X3 : Hid (Bx 25 y6 y.heap.size s (.slice (some ⟨ga, 0, none⟩) 0 0)) := Lib.hid (by rw [hy6]; exact X3.out.set1 _)
        have Ho : Hid (Own y6 (w.heap.size + 1) (some ⟨ga, 0, none⟩) (0 + 1) (0 + 1) cs) := Lib.hid (by rw [hy6]; exact Ho.out.far ⟨y.heap.size, 1, none⟩ (fun g' hA => by injection hA with hA; injection hA; show g' ≠ y.heap.size; omega) _)
        have Hr : Hid (Rdr y6 B g (q1 + 1)) := Lib.hid (by rw [hy6]; exact Hr.out.far ⟨y.heap.size, 1, none⟩ (by show g ≠ y.heap.size; omega) (by show B ≤ y.heap.size; omega) _)
        have Hg : Hid (w.grownBy y6 (some g)) := Lib.hid (by rw [hy6]; exact gset Hg.out ⟨y.heap.size, 1, none⟩ (by show w.heap.size ≤ y.heap.size; omega) _)
        rw [← hy6]
        clear hy6 t0 t1 t2 t3
        have Hi : Hid (IntsF y6 (w.heap.size + 1) (some ⟨ga, 0, none⟩) 0 []) := Lib.hid ⟨rfl, .inl rfl⟩
        have K0 := Lib.hid ((X2.out.set0 s).cell0)
        have K1 := Lib.hid (((X2.out.set0 s).set1 (.slice (some ⟨ga, 0, none⟩) 0 0)).cell1)
        have t0 := X3.out.cell0
        have t1 := X3.out.cell1
        have t2 := X3.out.lt
        have r0 := X2.out.cell0
        have r1 := X2.out.cell1
        have r2 := X2.out.frozen 0
        have r3 := X2.out.frozen 1
        have r4 := X2.out.lt
        have hBg := Hr.out.1
        have Hr3 := Lib.hid ((Hr.out.far ⟨w.heap.size, 0, none⟩ (by show g ≠ w.heap.size; omega) (by show B ≤ w.heap.size; omega) (.int .i64 s)).far ⟨w.heap.size, 1, none⟩ (by show g ≠ w.heap.size; omega) (by show B ≤ w.heap.size; omega) (.slice (some ⟨ga, 0, none⟩) 0 0))
        have Hg3 := Lib.hid (gset (gset Hg.out ⟨w.heap.size, 0, none⟩ (Nat.le_refl _) (.int .i64 s)) ⟨w.heap.size, 1, none⟩ (Nat.le_refl _) (.slice (some ⟨ga, 0, none⟩) 0 0))
        have Hi3 := Lib.hid ((Hi.out.far ⟨w.heap.size, 0, none⟩ (Nat.lt_succ_self _) (.int .i64 s)).far ⟨w.heap.size, 1, none⟩ (Nat.lt_succ_self _) (.slice (some ⟨ga, 0, none⟩) 0 0))
        go_wp2_with fail
        have k0 := K0.out
        have k1 := K1.out
        refine bodyPost_ret (v := .agg #[.int .i64 s, .slice (some ⟨ga, 0, none⟩) 0 0]) (by simp [results, Try.results15, go_sem, k0, k1]) rfl ?_
        exact ⟨_, _, _, _, _, _, rfl, Hi3.out.weaken (by omega), by omega, by omega, by omega, by (first | omega | (have := own_capC Ho.out; omega)), by (first | omega | (have := own_capC Ho.out; omega)), Hr3.out, by omega, Hg3.out⟩
      · have hd' : ¬ (d + 1 = 1) := by omega
        go_upto_region 9 with (fail)
        obtain ⟨y6, hy6⟩ : ∃ y6, y6 = y4.setCell ⟨y.heap.size, 1, none⟩ (.slice (some ⟨ga, 1, none⟩) m d) := ⟨_, rfl⟩
        have hBg := Hr.out.1
        have hgl := Hr.out.lt
        have X2 : Hid (Bx 25 y6 w.heap.size 0 (.slice none 0 0)) := Lib.hid (by rw [hy6]; exact X2.out.far (p := ⟨y.heap.size, 1, none⟩) (by show w.heap.size ≠ y.heap.size; omega) _)
        have X3 : Hid (Bx 25 y6 y.heap.size s (.slice (some ⟨ga, 1, none⟩) m d)) := Lib.hid (by rw [hy6]; exact X3.out.set1 _)
        have Ho : Hid (Own y6 (w.heap.size + 1) (some ⟨ga, 0, none⟩) (m + 1) (d + 1) cs) := Lib.hid (by rw [hy6]; exact Ho.out.far ⟨y.heap.size, 1, none⟩ (fun g' hA => by injection hA with hA; injection hA; show g' ≠ y.heap.size; omega) _)
        have Hr : Hid (Rdr y6 B g (q1 + 1)) := Lib.hid (by rw [hy6]; exact Hr.out.far ⟨y.heap.size, 1, none⟩ (by show g ≠ y.heap.size; omega) (by show B ≤ y.heap.size; omega) _)
        have Hg : Hid (w.grownBy y6 (some g)) := Lib.hid (by rw [hy6]; exact gset Hg.out ⟨y.heap.size, 1, none⟩ (by show w.heap.size ≤ y.heap.size; omega) _)
        rw [← hy6]
        clear hy6 t0 t1 t2 t3
        have Hi := Lib.hid (IntsF.tail (IntsF.of Ho.out))
        have K0 := Lib.hid ((X2.out.set0 s).cell0)
        have K1 := Lib.hid (((X2.out.set0 s).set1 (.slice (some ⟨ga, 1, none⟩) m d)).cell1)
        have t0 := X3.out.cell0
        have t1 := X3.out.cell1
        have t2 := X3.out.lt
        have r0 := X2.out.cell0
        have r1 := X2.out.cell1
        have r2 := X2.out.frozen 0
        have r3 := X2.out.frozen 1
        have r4 := X2.out.lt
        have hBg := Hr.out.1
        have Hr3 := Lib.hid ((Hr.out.far ⟨w.heap.size, 0, none⟩ (by show g ≠ w.heap.size; omega) (by show B ≤ w.heap.size; omega) (.int .i64 s)).far ⟨w.heap.size, 1, none⟩ (by show g ≠ w.heap.size; omega) (by show B ≤ w.heap.size; omega) (.slice (some ⟨ga, 1, none⟩) m d))
        have Hg3 := Lib.hid (gset (gset Hg.out ⟨w.heap.size, 0, none⟩ (Nat.le_refl _) (.int .i64 s)) ⟨w.heap.size, 1, none⟩ (Nat.le_refl _) (.slice (some ⟨ga, 1, none⟩) m d))
        have Hi3 := Lib.hid ((Hi.out.far ⟨w.heap.size, 0, none⟩ (Nat.lt_succ_self _) (.int .i64 s)).far ⟨w.heap.size, 1, none⟩ (Nat.lt_succ_self _) (.slice (some ⟨ga, 1, none⟩) m d))
        go_wp2_with fail
        have k0 := K0.out
        have k1 := K1.out
        refine bodyPost_ret (v := .agg #[.int .i64 s, .slice (some ⟨ga, 1, none⟩) m d]) (by simp [results, Try.results15, go_sem, k0, k1]) rfl ?_
        exact ⟨_, _, _, _, _, _, rfl, Hi3.out.weaken (by omega), by omega, by omega, by omega, by (first | omega | (have := own_capC Ho.out; omega)), by (first | omega | (have := own_capC Ho.out; omega)), Hr3.out, by omega, Hg3.out⟩
    · have e1 : (x0 == 1) = false := by simpa using h1
      by_cases h2 : x0 = 2
      · subst h2
        clear k1 k2 h0 h1 e0 e1
        have t0 := X3.out.cell0
        have t1 := X3.out.cell1
        have t2 := X3.out.lt
        have hlt4 := Hr.out.lt
        have hn0 : (0 : Int) < n := by omega
        go_wp2_with fail
        go_region_with (first | (go_at_call 31; refine (r_one B g (q1 + 1) _ _ [-1, 3] (y4.heap.size + 1) _ (by exact (show Rdr (y4.alloc (.cells #[.int .i64 (-1), .int .i64 3] 3)) B g (q1 + 1) from Hr.out.below ((Below.refl _ _).alloc (Nat.le_refl _) _) Hr.out.lt)) (by omega) (by exact Ints.lit y4 3 [-1, 3]) (by show y4.heap.size + 1 ≤ (y4.alloc (.cells #[.int .i64 (-1), .int .i64 3] 3)).heap.size; simp) (by simp) (by simp) (by rintro b o e; injection e with e; injection e; omega)).mono ?_; rintro e y5 ⟨x, rfl, hx, hr, hg⟩; have hg5 : y4.grownBy y5 (some g) := gtrans (World.grownBy_alloc y4 (.cells #[.int .i64 (-1), .int .i64 3] 3) (some g)) ⟨hg.os, hg.tape, hg.output, hg.size, hg.block⟩; have HX2 := Lib.hid (X2.out.grown hg5 (fun e => by have := Option.some.inj e; omega)); have HX3 := Lib.hid (X3.out.grown hg5 (fun e => by have := Option.some.inj e; omega)); have HO := Lib.hid (Ho.out.kept hg5 (fun g' hA e => by have := (Ho.out.ge hA).1; have := Option.some.inj e; omega)); have u0 := HX3.out.cell0; have u1 := HX3.out.cell1; have u2 := HX3.out.lt; have u3 := World.ownsRow.cellAt HO.out.2 0 (by omega); rw [List.getElem?_eq_getElem (by rw [List.length_map, HO.out.1]; omega)] at u3; have u4 := World.ownsRow.frozenAt HO.out.2 0; have HR := Lib.hid hr; have HG := Lib.hid (gtrans Hg.out hg5); clear hr hg hg5 hx))
        all_goals go_upto_region 9 with (fail)
        all_goals
          obtain ⟨y6, hy6⟩ : ∃ y6, y6 = y5.setCell ⟨ga, 0, none⟩ (.int .i64 x) := ⟨_, rfl⟩
          have hBg := HR.out.1
          have X2 : Hid (Bx 25 y6 w.heap.size 0 (.slice none 0 0)) := Lib.hid (by rw [hy6]; exact HX2.out.far (p := ⟨ga, 0, none⟩) (by show w.heap.size ≠ ga; omega) _)
          have X3 : Hid (Bx 25 y6 y.heap.size s (.slice (some ⟨ga, 0, none⟩) n c)) := Lib.hid (by rw [hy6]; exact HX3.out.far (p := ⟨ga, 0, none⟩) (by show y.heap.size ≠ ga; omega) _)
          have Ho : Hid (Own y6 (w.heap.size + 1) (some ⟨ga, 0, none⟩) n c (cs.set 0 x)) := Lib.hid (by rw [hy6]; exact (HO.out.stored 0 x).1)
          have Hr : Hid (Rdr y6 B g (q1 + 1 + 1)) := Lib.hid (by rw [hy6]; exact HR.out.far ⟨ga, 0, none⟩ (by show g ≠ ga; omega) (by show B ≤ ga; omega) _)
          have Hg : Hid (w.grownBy y6 (some g)) := Lib.hid (by rw [hy6]; exact gset HG.out ⟨ga, 0, none⟩ (by show w.heap.size ≤ ga; omega) _)
          rw [← hy6]
          clear hy6 u0 u1 u2 u3 u4 t0 t1 t2
          have Hi := Lib.hid (IntsF.of Ho.out)
          have K0 := Lib.hid ((X2.out.set0 s).cell0)
          have K1 := Lib.hid (((X2.out.set0 s).set1 (.slice (some ⟨ga, 0, none⟩) n c)).cell1)
          have t0 := X3.out.cell0
          have t1 := X3.out.cell1
          have t2 := X3.out.lt
          have r0 := X2.out.cell0
          have r1 := X2.out.cell1
          have r2 := X2.out.frozen 0
          have r3 := X2.out.frozen 1
          have r4 := X2.out.lt
          have hBg := Hr.out.1
          have Hr3 := Lib.hid ((Hr.out.far ⟨w.heap.size, 0, none⟩ (by show g ≠ w.heap.size; omega) (by show B ≤ w.heap.size; omega) (.int .i64 s)).far ⟨w.heap.size, 1, none⟩ (by show g ≠ w.heap.size; omega) (by show B ≤ w.heap.size; omega) (.slice (some ⟨ga, 0, none⟩) n c))
          have Hg3 := Lib.hid (gset (gset Hg.out ⟨w.heap.size, 0, none⟩ (Nat.le_refl _) (.int .i64 s)) ⟨w.heap.size, 1, none⟩ (Nat.le_refl _) (.slice (some ⟨ga, 0, none⟩) n c))
          have Hi3 := Lib.hid ((Hi.out.far ⟨w.heap.size, 0, none⟩ (Nat.lt_succ_self _) (.int .i64 s)).far ⟨w.heap.size, 1, none⟩ (Nat.lt_succ_self _) (.slice (some ⟨ga, 0, none⟩) n c))
          go_wp2_with fail
          have k0 := K0.out
          have k1 := K1.out
          refine bodyPost_ret (v := .agg #[.int .i64 s, .slice (some ⟨ga, 0, none⟩) n c]) (by simp [results, Try.results15, go_sem, k0, k1]) rfl ?_
          exact ⟨_, _, _, _, _, _, rfl, Hi3.out.weaken (by omega), by omega, by omega, by omega, by (first | omega | (have := own_capC Ho.out; omega)), by (first | omega | (have := own_capC Ho.out; omega)), Hr3.out, by omega, Hg3.out⟩
      · have e2 : (x0 == 2) = false := by simpa using h2
        clear h0 h1 h2
        have Hi := Lib.hid (IntsF.of Ho.out)
        have K0 := Lib.hid ((X2.out.set0 s).cell0)
        have K1 := Lib.hid (((X2.out.set0 s).set1 (.slice (some ⟨ga, 0, none⟩) n c)).cell1)
        have t0 := X3.out.cell0
        have t1 := X3.out.cell1
        have t2 := X3.out.lt
        have r0 := X2.out.cell0
        have r1 := X2.out.cell1
        have r2 := X2.out.frozen 0
        have r3 := X2.out.frozen 1
        have r4 := X2.out.lt
        have hBg := Hr.out.1
        have Hr3 := Lib.hid ((Hr.out.far ⟨w.heap.size, 0, none⟩ (by show g ≠ w.heap.size; omega) (by show B ≤ w.heap.size; omega) (.int .i64 s)).far ⟨w.heap.size, 1, none⟩ (by show g ≠ w.heap.size; omega) (by show B ≤ w.heap.size; omega) (.slice (some ⟨ga, 0, none⟩) n c))
        have Hg3 := Lib.hid (gset (gset Hg.out ⟨w.heap.size, 0, none⟩ (Nat.le_refl _) (.int .i64 s)) ⟨w.heap.size, 1, none⟩ (Nat.le_refl _) (.slice (some ⟨ga, 0, none⟩) n c))
        have Hi3 := Lib.hid ((Hi.out.far ⟨w.heap.size, 0, none⟩ (Nat.lt_succ_self _) (.int .i64 s)).far ⟨w.heap.size, 1, none⟩ (Nat.lt_succ_self _) (.slice (some ⟨ga, 0, none⟩) n c))
        go_wp2_with fail
        have k0 := K0.out
        have k1 := K1.out
        refine bodyPost_ret (v := .agg #[.int .i64 s, .slice (some ⟨ga, 0, none⟩) n c]) (by simp [results, Try.results15, go_sem, k0, k1]) rfl ?_
        exact ⟨_, _, _, _, _, _, rfl, Hi3.out.weaken (by omega), by omega, by omega, by omega, by (first | omega | (have := own_capC Ho.out; omega)), by (first | omega | (have := own_capC Ho.out; omega)), Hr3.out, by omega, Hg3.out⟩
end Go.Proofs.Ytmddkifadknlfaa

namespace Go.Proofs.Ytmddkifadknlfaa
set_option maxRecDepth 100000
open Go.RowKit

/-- A drawn board whose row has room as a slice has it. -/
def DrawnLC (w : World) (e : Ending) (w' : World) : Prop :=
  ∃ (s : Int) (A : Option Addr) (n c : Nat) (cs : List Int), e = .returned (.agg #[.int .i64 s, .slice A n c]) ∧ Ints w' w'.heap.size A n cs ∧ n ≤ 49 ∧ 0 ≤ s ∧ s ≤ 8 ∧ n ≤ c ∧ c ≤ 9223372036854775807 ∧ Below w.heap.size w w'

set_option maxHeartbeats 2000000 in
theorem d_vb (w : World) (a : Option Addr) (len cap : Nat) (zs : List Int) (h : IsRow .u8 w a len cap zs) :
    Calls Try.prog 5 #[.slice a len cap] w fun e w' => DrawnLC w e w' := by
  have hb1 : Below w.heap.size w (w.alloc (.cells #[.int .i64 0, .slice none 0 0] 25)) := (Below.refl _ _).alloc (Nat.le_refl _) _
  have X2 := Lib.hid (Bx.new 25 w 0 (.slice none 0 0))
  have Hb := Lib.hid hb1
  have hsz : (w.alloc (.cells #[.int .i64 0, .slice none 0 0] 25)).heap.size = w.heap.size + 1 := by simp
  have Hsz := Lib.hid hsz
  have H := Lib.hid (h.below hb1)
  clear h hb1 hsz
  go_enter Try.func5, Try.ntmps5
  go_wp2_with fail
  refine (r_new _ _ _ _ zs H.out).mono ?_
  rintro e y ⟨g, rfl, hr, hb⟩
  have Hg := Lib.hid hr.1
  rw [Hsz.out] at Hg
  have hg1 := Hg.out
  have X2 := Lib.hid (X2.out.below hb X2.out.lt)
  have Hb := Lib.hid (Hb.out.trans (hb.mono (by rw [Hsz.out]; omega)))
  have zy := X2.out.lt
  have Hr := Lib.hid hr
  clear hr hb
  go_wp2_with fail
  refine (r_anyC _ g 0 _ Hr.out (by omega)).mono ?_
  rintro e y2 ⟨s, A, n, c, cs, q', rfl, hi, hn, s0, s8, hc1, hc2, hr, hq, hg⟩
  have X2 := Lib.hid (X2.out.grown hg (fun e => by have := Option.some.inj e; omega))
  have Hb := Lib.hid (Hb.out.trans (below_g hg (by omega) (fun k hk => by have := Option.some.inj hk; omega)))
  have Hcap := Lib.hid (And.intro hc1 hc2)
  have Hi := Lib.hid (((hi.far ⟨w.heap.size, 0, none⟩ (by show w.heap.size < y.heap.size; omega) (.int .i64 s)).far ⟨w.heap.size, 1, none⟩ (by show w.heap.size < y.heap.size; omega) (.slice A n c)).ints)
  clear hi hr hg hq hc1 hc2
  have r0 := X2.out.cell0
  have r1 := X2.out.cell1
  have r2 := X2.out.frozen 0
  have r3 := X2.out.frozen 1
  have r4 := X2.out.lt
  have K0 := Lib.hid ((X2.out.set0 s).cell0)
  have K1 := Lib.hid (((X2.out.set0 s).set1 (.slice A n c)).cell1)
  have Hb3 := Lib.hid ((Hb.out.setCell (p := ⟨w.heap.size, 0, none⟩) (Nat.le_refl _) (.int .i64 s)).setCell (p := ⟨w.heap.size, 1, none⟩) (Nat.le_refl _) (.slice A n c))
  go_wp2_with fail
  have k0 := K0.out
  have k1 := K1.out
  refine bodyPost_ret (v := .agg #[.int .i64 s, .slice A n c]) (by simp [results, Try.results5, go_sem, k0, k1]) rfl ?_
  exact ⟨_, _, _, _, _, rfl, Hi.out, hn, s0, s8, Hcap.out.1, Hcap.out.2, Hb3.out⟩

section
variable (s : Int) (w : World) (A : Option Addr) (n c : Nat) (cs : List Int) (b : Bool) (h : Ints w w.heap.size A n cs) (hn : n ≤ 49) (hb : Bd.okB s cs = b)
include h hn hb
theorem i_vbV : Calls Try.prog 6 #[.agg #[.int .i64 s, .slice A n c]] w fun e w' => e = .returned (.bool b) ∧ Below w.heap.size w w' := by
  subst hb
  exact i_validBoard s w _ A n c cs h (Nat.le_refl _) (by omega)
theorem s_vbV : Calls Try.prog 7 #[.agg #[.int .i64 s, .slice A n c]] w fun e w' => e = .returned (.bool b) ∧ Below w.heap.size w w' := by
  subst hb
  exact s_VB s w _ A n c cs h (Nat.le_refl _) (by omega)
omit hb in
theorem i_fmtV (hc : n ≤ c) (hc2 : c ≤ 9223372036854775807) (T : ByteArray) (hT : Hid (fmtB s cs = T)) : Calls Try.prog 8 #[.agg #[.int .i64 s, .slice A n c]] w fun e w' => e = .returned (.string T) ∧ Below w.heap.size w w' := by
  rw [← hT.out]
  exact i_FormatB s w _ A n c cs h (Nat.le_refl _) (by omega) hc hc2
end
theorem i_cntF (s : Int) (w : World) (A : Option Addr) (n c : Nat) (cs : List Int) (F : Int → Int) (h : Ints w w.heap.size A n cs) (hn : n ≤ 49) (hF : Hid (∀ x, cntB s cs x = F x)) (x : Int) :
    Calls Try.prog 9 #[.agg #[.int .i64 s, .slice A n c], .int .i64 x] w fun e w' => e = .returned (.int .i64 (F x)) ∧ Below w.heap.size w w' := i_cntV s w A n c cs x (F x) h hn (hF.out x)
theorem sum_wrap {a b c q : Int} (h0 : 0 ≤ a + b ∧ a + b ≤ 98) (h : a + b + c = q) : IntKind.i64.wrap (IntKind.i64.wrap (a + b) + c) = IntKind.i64.wrap q := by
  have e : IntKind.i64.wrap (a + b) = a + b := by simp [IntKind.wrap, IntKind.bits, IntKind.signed]; omega
  rw [e, h]
theorem fmt_no {s : Int} {cs : List Int} (h : Bd.okB s cs = false) : fmtB s cs = ⟨#[]⟩ := by rw [fmtB, h]; rfl
theorem fmt_yes {s : Int} {cs : List Int} (h : Bd.okB s cs = true) : 0 < (fmtB s cs).size := by
  obtain ⟨q1, q2, _, _⟩ := (Bd.okB_iff s cs).1 h
  rw [fmtB, if_pos h]
  unfold strOfNums
  simp only [ByteArray.size, List.size_toArray, List.length_map, Fm.fmt_len]
  exact Nat.mul_pos (by omega) (by omega)
theorem str_ne {T : ByteArray} (h : 0 < T.size) : T.toList.isEmpty = false := by
  rw [ByteArray.toList_eq]
  obtain ⟨⟨l⟩⟩ := T
  cases l with
  | nil => exact absurd h (Nat.lt_irrefl 0)
  | cons x l => rfl
theorem cnt_le {s x : Int} {cs : List Int} (h : Bd.okB s cs = true) : 0 ≤ cntB s cs x ∧ cntB s cs x ≤ 49 := by
  obtain ⟨q1, q2, q3, _⟩ := (Bd.okB_iff s cs).1 h
  have := Pt.sq_bd s q1 q2
  have := cnt_bd x cs
  rw [cntB, if_pos h]
  omega
theorem cnt_sum {s : Int} {cs : List Int} (h : Bd.okB s cs = true) : cntB s cs 0 + cntB s cs 1 + cntB s cs 2 = s * s := by
  obtain ⟨_, _, q3, q4⟩ := (Bd.okB_iff s cs).1 h
  have key : ∀ l : List Int, (∀ c ∈ l, 0 ≤ c ∧ c ≤ 2) → cnt 0 l + cnt 1 l + cnt 2 l = l.length := by
    intro l
    induction l with
    | nil => intro _; rfl
    | cons a l ih =>
      intro hl
      have h1 := ih fun c hc => hl c (List.mem_cons_of_mem _ hc)
      have h2 := hl a (List.mem_cons_self ..)
      have h3 : a = 0 ∨ a = 1 ∨ a = 2 := by omega
      unfold cnt at h1 ⊢
      rcases h3 with rfl | rfl | rfl <;> simp at h1 ⊢ <;> omega
  rw [cntB, cntB, cntB, if_pos h, if_pos h, if_pos h, key cs q4]
  exact q3
end Go.Proofs.Ytmddkifadknlfaa

