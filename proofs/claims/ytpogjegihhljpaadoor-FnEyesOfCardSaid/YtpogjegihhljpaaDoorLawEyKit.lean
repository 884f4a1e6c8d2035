/-
  Texts that laws over drawn boards stand on: Rand, Any, Step, DrawLI, DrF, PureBt, Tz, PureBg, Bits, BitsB, PureOc, Ones, PureMk, Pos, Aro, EyeI, EyeC, EyeE, EyeP, SpecB, Dia, EyeS, EyeT, EyeU, EyeV, EyeW, EyeX, EyeY, ListsB, EyLw.
-/
import Derived.Test.YtpogjegihhljpaaDoorPlayed
import Derived.Test.YtpogjegihhljpaaDoorParseS
import Derived.Test.YtpogjegihhljpaaDoorTrS
import Derived.Test.YtpogjegihhljpaaDoorLists
import Derived.Lib.TrailingZeros
import Derived.Test.YtpogjegihhljpaaDoorBase
import Derived.Laws.BitsAllLaws
import Derived.Lib.LaidTab
import Derived.Test.YtpogjegihhljpaaDoorPurePt
import Derived.Test.YtpogjegihhljpaaDoorWords
import Derived.LoopTactic
import Derived.RegionTactic
import Derived.Laws.BitsLemmas
import Derived.Test.YtpogjegihhljpaaDoorBoardX
import Derived.Deep.RegionWith
import Derived.Deep.DeepCutAuto
import Derived.Deep.QuietTactic
import Derived.BigQuiet
import Derived.Test.YtpogjegihhljpaaDoorWordsB
import Derived.Test.YtpogjegihhljpaaDoorFactPt
import Derived.Test.YtpogjegihhljpaaDoorNbSpec
import Derived.Test.YtpogjegihhljpaaDoorSpecA
import Derived.Test.YtpogjegihhljpaaDoorBoardI
namespace Go.Proofs.YtpogjegihhljpaaDoor
set_option maxRecDepth 100000
open Go.RowKit

theorem okL_steps {f : Nat → Nat} {cs l : List Int} (hc : OkL cs) (hl : OkL l) (j : Nat) (hj : j ≤ cs.length) : OkL (Bd.steps f cs j l) := by
  induction j with
  | zero => exact hl
  | succ j ih =>
    have h1 := hc j (by omega)
    exact (ih (by omega)).set _ h1.1 h1.2
theorem okL_mv {s k : Int} {cs : List Int} (hc : OkL cs) : OkL (Bd.mv s k cs) := okL_steps hc hc _ (Nat.le_refl _)
theorem okL_oth {cs : List Int} (hc : OkL cs) : OkL (othCs cs) := by
  rw [okL_mem] at hc ⊢
  intro c hm
  unfold othCs at hm
  obtain ⟨x, hx, rfl⟩ := List.mem_map.1 hm
  have := hc x hx
  have h3 : x = 0 ∨ x = 1 ∨ x = 2 := by omega
  rcases h3 with rfl | rfl | rfl <;> decide
theorem okB_oth {s : Int} {cs : List Int} (h : Bd.okB s cs = true) : Bd.okB s (othCs cs) = true := by
  obtain ⟨a, b, c, d⟩ := (Bd.okB_iff s cs).1 h
  exact (Bd.okB_iff s _).2 ⟨a, b, by rw [othCs_len]; exact c, okL_mem.1 (okL_oth (okL_mem.2 d))⟩
theorem okB_mv {s k : Int} {cs : List Int} (h : Bd.okB s cs = true) : Bd.okB s (Bd.mv s k cs) = true := by
  obtain ⟨a, b, c, d⟩ := (Bd.okB_iff s cs).1 h
  exact (Bd.okB_iff s _).2 ⟨a, b, by rw [Bd.mv_len]; exact c, okL_mem.1 (okL_mv (okL_mem.2 d))⟩
theorem okB_new {s : Int} (h1 : 1 ≤ s) (h2 : s ≤ 7) : Bd.okB s (List.replicate (s * s).toNat 0) = true := by
  have := Pt.sq_bd s h1 h2
  exact (Bd.okB_iff s _).2 ⟨h1, h2, by rw [List.length_replicate]; omega, okL_mem.1 (okL_zero _)⟩

/-- The texts of the corners. -/
def Nine (w : World) (g : Nat) : Prop := ∀ j, j < 9 → ∃ S : ByteArray, w.cell? ⟨g, j, none⟩ = some (.string S) ∧ S.size ≤ 100

theorem r_corners (w : World) : Calls Tryd.prog 100 #[] w fun e w' => e = .returned (.slice (some ⟨w.heap.size, 0, none⟩) 9 9) ∧ Nine w' w.heap.size ∧ Below w.heap.size w w' := by
  go_enter Tryd.func100, Tryd.ntmps100
  go_wp2_with fail
  go_ret
  refine ⟨rfl, fun j hj => ?_, (Below.refl _ _).alloc (Nat.le_refl _) _⟩
  rw [World.cell?_alloc_at _ _ _ _ rfl]
  match j, hj with
  | 0, _ => exact ⟨_, rfl, by decide⟩
  | 1, _ => exact ⟨_, rfl, by decide⟩
  | 2, _ => exact ⟨_, rfl, by decide⟩
  | 3, _ => exact ⟨_, rfl, by decide⟩
  | 4, _ => exact ⟨_, rfl, by decide⟩
  | 5, _ => exact ⟨_, rfl, by decide⟩
  | 6, _ => exact ⟨_, rfl, by decide⟩
  | 7, _ => exact ⟨_, rfl, by decide⟩
  | 8, _ => exact ⟨_, rfl, by decide⟩

set_option maxRecDepth 100000 in
set_option maxHeartbeats 8000000 in
theorem r_random (B g q : Nat) (w : World) (h : Rdr w B g q) (hq : q ≤ 10000000000) :
    Calls Tryd.prog 73 #[.pointer (some ⟨g, 0, none⟩)] w fun e w' => DrawnB w B g w.heap.size (q + 200) e w' := by
  have hlt := h.lt
  have hb1 : Below w.heap.size w (w.alloc (.cells #[.int .i64 0, .slice none 0 0] 25)) := (Below.refl _ _).alloc (Nat.le_refl _) _
  have X2 := Lib.hid (Bx.new 25 w 0 (.slice none 0 0))
  have Hr := Lib.hid (h.below hb1 hlt)
  have Hb := Lib.hid hb1
  clear h hb1
  go_enter Tryd.func73, Tryd.ntmps73
  go_wp2_with fail
  refine (r_pick B g q _ _ Hr.out (by omega)).mono ?_
  rintro e y ⟨x0, rfl, k1, k2, hr, hg⟩
  have X2 := Lib.hid (X2.out.grown hg (fun e => by have := Option.some.inj e; omega))
  have Hg := Lib.hid (gtrans (gbelow (some g) Hb.out (Nat.le_refl _)) hg)
  have Hr := Lib.hid hr
  have z2 := X2.out.lt
  clear hr hg Hb
  by_cases h0 : x0 = 0
  · subst h0
    clear k1 k2
    go_wp2_with fail
    refine (r_smallSize B g (q + 1) _ Hr.out (by omega)).mono ?_
    rintro e y2 ⟨s, rfl, ⟨s1, s2⟩, hr, hg⟩
    have X2 := Lib.hid (X2.out.grown hg (fun e => by have := Option.some.inj e; omega))
    have Hg := Lib.hid (gtrans Hg.out hg)
    have Hr := Lib.hid hr
    have z3 := X2.out.lt
    have hsq := Pt.sq_bd s s1 s2
    clear hr hg
    go_wp2_with fail
    refine (s_new s _).mono ?_
    rintro e y3 ⟨A1, n, c1, rfl, ho, hb⟩
    have hs1 : newS s = s := by rw [newS, if_pos ((Pt.okS_iff s).2 ⟨s1, s2⟩)]
    have hc1 : newCs s = List.replicate (s * s).toNat 0 := by rw [newCs, if_pos ((Pt.okS_iff s).2 ⟨s1, s2⟩)]
    rw [hc1] at ho
    rw [hs1]
    have hn : (s * s).toNat = n := by have := ho.1; simpa using this
    rw [hn] at ho
    have Hn : Hid (((n : Nat) : Int) = s * s) := Lib.hid (by omega)
    have hn49 : n ≤ 49 := by omega
    have zz := hb.size
    have X2 := Lib.hid (X2.out.below hb X2.out.lt)
    have Ho := Lib.hid ho
    have Hr := Lib.hid (Hr.out.below hb Hr.out.lt)
    have Hg := Lib.hid (gtrans Hg.out (gbelow (some g) hb (Nat.le_refl _)))
    clear hb hs1 hc1 ho hn
    go_upto_region 4 with (fail)
    obtain ⟨y4, hy4, hb4, z4, z5⟩ := new_box y3 (.cells #[.int .i64 s, .slice A1 n c1] 25)
    have X3 : Hid (Bx 25 y4 y3.heap.size s (.slice A1 n c1)) := Lib.hid (by rw [hy4]; exact Bx.new _ _ _ _)
    rw [← hy4]
    clear hy4
    have X2 := Lib.hid (X2.out.below hb4 X2.out.lt)
    have Hr := Lib.hid (Hr.out.below hb4 Hr.out.lt)
    have Hra := Lib.hid (fun g' (hA : A1 = some ⟨g', 0, none⟩) => (Ho.out.ge hA).2)
    have Ho := Lib.hid (Ho.out.below hb4)
    have Hg := Lib.hid (gtrans Hg.out (gbelow (some g) hb4 (Nat.le_refl _)))
    clear hb4
    go_wp2_with fail
    go_loopw [4] (fun v wr => ∃ (p q1 : Nat) (cs : List Int), p ≤ n ∧ v = .int .i64 (p : Nat) ∧ q1 = q + 2 + p ∧ Own wr y2.heap.size A1 n c1 cs ∧ OkL cs ∧ Bx 25 wr w.heap.size 0 (.slice none 0 0) ∧ Bx 25 wr y3.heap.size s (.slice A1 n c1) ∧ Rdr wr B g q1 ∧ w.grownBy wr (some g)) (fun v _ => n - (intOf v).toNat)
    case atStart => exact ⟨0, q + 2, _, by omega, rfl, rfl, Ho.out, okL_zero n, X2.out, X3.out, Hr.out, Hg.out⟩
    case round =>
      clear X2 X3 Ho Hr Hg
      obtain ⟨p, q1, cs, hp, rfl, hq1, ho, hok, hx2, hx3, hr, hg⟩ := hrel
      have X2 := Lib.hid hx2
      have X3 := Lib.hid hx3
      have Ho := Lib.hid ho
      have Hok := Lib.hid hok
      have Hr := Lib.hid hr
      have Hg := Lib.hid hg
      have hq2 : q1 ≤ q + 60 := by omega
      have Hq1 := Lib.hid hq1
      clear ho hok hx2 hx3 hr hg hq1
      have t0 := X3.out.cell0
      have t1 := X3.out.cell1
      have t2 := X3.out.lt
      by_cases hpn : p < n
      · obtain ⟨ga, hA1⟩ : ∃ ga, A1 = some ⟨ga, 0, none⟩ := by
          obtain ⟨ga, cap, hv, _⟩ := World.ownsRow.form Ho.out.2 (by omega)
          exact ⟨ga, by injection hv⟩
        subst hA1
        have hga1 := (Ho.out.ge rfl).1
        have hga2 := Hra.out ga rfl
        have hpi : (p : Int) < n := by omega
        go_wp2_with fail
        go_region_with (go_at_call 45; refine (r_pick B g q1 _ _ (by exact Hr.out) (by omega)).mono ?_; rintro e yp ⟨x, rfl, x1, x2, hr, hg⟩; have hgw : wr.grownBy yp (some g) := ⟨hg.os, hg.tape, hg.output, hg.size, hg.block⟩; have zp := hgw.size; have HX3 := Lib.hid (X3.out.grown hgw (fun e => by have := Option.some.inj e; omega)); have HX2 := Lib.hid (X2.out.grown hgw (fun e => by have := Option.some.inj e; omega)); have u0 := HX3.out.cell0; have u1 := HX3.out.cell1; have u2 := HX3.out.lt; have HO := Lib.hid (Ho.out.kept hgw (fun g' hA e => by have := (Ho.out.ge hA).1; have := Option.some.inj e; omega)); have u3 := World.ownsRow.cellAt HO.out.2 p (by omega); rw [List.getElem?_eq_getElem (by rw [List.length_map, HO.out.1]; exact hpn)] at u3; have u4 := World.ownsRow.frozenAt HO.out.2 p; have HR := Lib.hid hr; have HG := Lib.hid (gtrans Hg.out hgw); clear hr hg hgw)
        all_goals go_wp2_with fail
        all_goals go_roundw
        all_goals try (simp [intOf]; omega)
        all_goals
          have hr3 := HR.out.far ⟨ga, p, none⟩ (by show g ≠ ga; omega) (by have := HR.out.1; show B ≤ ga; omega) (.int .i64 x)
          have hg3 := gset HG.out ⟨ga, p, none⟩ (by show w.heap.size ≤ ga; omega) (.int .i64 x)
          exact ⟨p + 1, q1 + 1, _, by omega, by go_num, by have := Hq1.out; omega, (HO.out.stored p x).1, Hok.out.set p x1 (by omega), HX2.out.far (p := ⟨ga, p, none⟩) (by show w.heap.size ≠ ga; omega) _, HX3.out.far (p := ⟨ga, p, none⟩) (by show y3.heap.size ≠ ga; omega) _, hr3, hg3⟩
      · obtain rfl : p = n := by omega
        have Hv := Lib.hid (okB_mk s1 s2 (by rw [Ho.out.1]; exact Hn.out) Hok.out)
        have K0 := Lib.hid ((X2.out.set0 s).cell0)
        have K1 := Lib.hid (((X2.out.set0 s).set1 (.slice A1 p c1)).cell1)
        have r0 := X2.out.cell0
        have r1 := X2.out.cell1
        have r2 := X2.out.frozen 0
        have r3 := X2.out.frozen 1
        have r4 := X2.out.lt
        have hBg := Hr.out.1
        have Hr3 := Lib.hid ((Hr.out.far ⟨w.heap.size, 0, none⟩ (by show g ≠ w.heap.size; omega) (by show B ≤ w.heap.size; omega) (.int .i64 s)).far ⟨w.heap.size, 1, none⟩ (by show g ≠ w.heap.size; omega) (by show B ≤ w.heap.size; omega) (.slice A1 p c1))
        have Hg3 := Lib.hid (gset (gset Hg.out ⟨w.heap.size, 0, none⟩ (Nat.le_refl _) (.int .i64 s)) ⟨w.heap.size, 1, none⟩ (Nat.le_refl _) (.slice A1 p c1))
        have Ho3 := Lib.hid ((Ho.out.far ⟨w.heap.size, 0, none⟩ (fun g' hA => by have := (Ho.out.ge hA).1; show g' ≠ w.heap.size; omega) (.int .i64 s)).far ⟨w.heap.size, 1, none⟩ (fun g' hA => by have := (Ho.out.ge hA).1; show g' ≠ w.heap.size; omega) (.slice A1 p c1))
        go_wp2_with fail
        have k0 := K0.out
        have k1 := K1.out
        refine bodyPost_ret (v := .agg #[.int .i64 s, .slice A1 p c1]) (by simp [results, Tryd.results73, go_sem, k0, k1]) rfl ?_
        exact ⟨_, _, _, _, _, _, rfl, Ho3.out.weaken (by omega), Hv.out, Hr3.out, by omega, Hg3.out⟩
  · have e0 : (x0 == 0) = false := by simpa using h0
    by_cases h1 : x0 = 1
    · subst h1
      clear k1 k2 h0 e0
      go_wp2_with fail
      refine (r_corners _).mono ?_
      rintro e y2 ⟨rfl, hN, hb⟩
      have X2 := Lib.hid (X2.out.below hb X2.out.lt)
      have Hg := Lib.hid (gtrans Hg.out (gbelow (some g) hb (Nat.le_refl _)))
      have Hrl := Hr.out.lt
      have Hr := Lib.hid (Hr.out.below hb Hr.out.lt)
      have HN := Lib.hid hN
      have z3 := hb.size
      clear hN hb
      have zy : y.heap.size < y2.heap.size := by
        obtain ⟨S, h1, _⟩ := HN.out 0 (by omega)
        exact World.block_lt_of_cell? _ _ h1
      go_wp2_with fail
      refine (r_pick B g (q + 1) _ _ Hr.out (by omega)).mono ?_
      rintro e y3 ⟨j, rfl, j1, j2, hr, hg⟩
      obtain ⟨j, rfl⟩ := Int.eq_ofNat_of_zero_le j1
      have hj9 : j < 9 := by omega
      obtain ⟨S, hS1, hS2⟩ := HN.out j hj9
      have hc := (World.cell?_of_block (w' := y3) (w := y2) (a := ⟨y.heap.size, j, none⟩) (hg.block y.heap.size zy (by intro e; have := Option.some.inj e; omega))).trans hS1
      have X2 := Lib.hid (X2.out.grown hg (fun e => by have := Option.some.inj e; omega))
      have Hg := Lib.hid (gtrans Hg.out hg)
      have Hr := Lib.hid hr
      have z4 := hg.size
      have hj9' : (j : Int) < 9 := by omega
      clear hr hg hS1 HN j2
      go_wp2_with fail
      refine (s_ParseBoard S _ (by omega)).mono ?_
      rintro e y4 ⟨s', A, n, c, cs, ok, rfl, hwhat, hb⟩
      have X2 := Lib.hid (X2.out.below hb X2.out.lt)
      have Hg := Lib.hid (gtrans Hg.out (gbelow (some g) hb (Nat.le_refl _)))
      have Hr := Lib.hid (Hr.out.below hb Hr.out.lt)
      have Hwhat := Lib.hid hwhat
      have z5 := hb.size
      clear hwhat hb hc
      go_upto_region 13 with (fail)
      obtain ⟨y5, hy5, hb5, z6, z7⟩ := new_box y4 (.cells #[.int .i64 s', .slice A n c] 25)
      have X6 : Hid (Bx 25 y5 y4.heap.size s' (.slice A n c)) := Lib.hid (by rw [hy5]; exact Bx.new _ _ _ _)
      rw [← hy5]
      clear hy5
      have X2 := Lib.hid (X2.out.below hb5 X2.out.lt)
      have Hr := Lib.hid (Hr.out.below hb5 Hr.out.lt)
      have Hg := Lib.hid (gtrans Hg.out (gbelow (some g) hb5 (Nat.le_refl _)))
      cases ok with
      | false =>
        clear hb5 Hwhat
        go_wp2_with fail
        refine (s_new 3 _).mono ?_
        rintro e y6 ⟨A6, n6, c6, rfl, ho, hb⟩
        have hs1 : newS 3 = 3 := rfl
        have hc1 : newCs 3 = List.replicate (3 * 3 : Int).toNat 0 := rfl
        rw [hc1] at ho
        rw [hs1]
        have X2 := Lib.hid (X2.out.below hb X2.out.lt)
        have Hg := Lib.hid (gtrans Hg.out (gbelow (some g) hb (Nat.le_refl _)))
        have Hr := Lib.hid (Hr.out.below hb Hr.out.lt)
        have Ho := Lib.hid ho
        clear ho hb hs1 hc1
        have K0 := Lib.hid ((X2.out.set0 3).cell0)
        have K1 := Lib.hid (((X2.out.set0 3).set1 (.slice A6 n6 c6)).cell1)
        have r0 := X2.out.cell0
        have r1 := X2.out.cell1
        have r2 := X2.out.frozen 0
        have r3 := X2.out.frozen 1
        have r4 := X2.out.lt
        have hBg := Hr.out.1
        have Hr3 := Lib.hid ((Hr.out.far ⟨w.heap.size, 0, none⟩ (by show g ≠ w.heap.size; omega) (by show B ≤ w.heap.size; omega) (.int .i64 3)).far ⟨w.heap.size, 1, none⟩ (by show g ≠ w.heap.size; omega) (by show B ≤ w.heap.size; omega) (.slice A6 n6 c6))
        have Hg3 := Lib.hid (gset (gset Hg.out ⟨w.heap.size, 0, none⟩ (Nat.le_refl _) (.int .i64 3)) ⟨w.heap.size, 1, none⟩ (Nat.le_refl _) (.slice A6 n6 c6))
        have Ho3 := Lib.hid ((Ho.out.far ⟨w.heap.size, 0, none⟩ (fun g' hA => by have := (Ho.out.ge hA).1; show g' ≠ w.heap.size; omega) (.int .i64 3)).far ⟨w.heap.size, 1, none⟩ (fun g' hA => by have := (Ho.out.ge hA).1; show g' ≠ w.heap.size; omega) (.slice A6 n6 c6))
        go_wp2_with fail
        have k0 := K0.out
        have k1 := K1.out
        refine bodyPost_ret (v := .agg #[.int .i64 3, .slice A6 n6 c6]) (by simp [results, Tryd.results73, go_sem, k0, k1]) rfl ?_
        exact ⟨_, _, _, _, _, _, rfl, Ho3.out.weaken (by omega), okB_new (by omega) (by omega), Hr3.out, by omega, Hg3.out⟩
      | true =>
        obtain ⟨ho, hv, _⟩ := Hwhat.out rfl
        have Ho := Lib.hid (ho.below hb5)
        have Hv := Lib.hid hv
        have Hra := Lib.hid (fun g' (hA : A = some ⟨g', 0, none⟩) => (ho.ge hA).2)
        clear Hwhat ho hv hb5
        go_wp2_with fail
        refine (r_pick B g (q + 2) _ _ Hr.out (by omega)).mono ?_
        rintro e y7 ⟨f, rfl, f1, f2, hr, hg⟩
        have X2 := Lib.hid (X2.out.grown hg (fun e => by have := Option.some.inj e; omega))
        have X6 := Lib.hid (X6.out.grown hg (fun e => by have := Option.some.inj e; omega))
        have Ho := Lib.hid (Ho.out.kept hg (fun g' hA e => by have := (Ho.out.ge hA).1; have := Option.some.inj e; omega))
        have Hg := Lib.hid (gtrans Hg.out hg)
        have Hr := Lib.hid hr
        have z8 := hg.size
        clear hr hg f2
        by_cases hf : f = 0
        · have hbf : (f == 0) = true := by simpa using hf
          clear hf
          have t0 := X6.out.cell0
          have t1 := X6.out.cell1
          have t2 := X6.out.lt
          go_wp2_with fail
          refine (s_invertBoard s' _ _ _ n c cs Ho.out.ints (Nat.le_refl _) (by have := Ho.out.1; obtain ⟨a1, a2, a3, _⟩ := (Bd.okB_iff s' cs).1 Hv.out; have := Pt.sq_bd s' a1 a2; omega) ((Bd.okB_iff s' cs).1 Hv.out).2.2.2).mono ?_
          rintro e y8 ⟨A8, n8, c8, rfl, ho8, hb⟩
          have X2 := Lib.hid (X2.out.below hb X2.out.lt)
          have X6 := Lib.hid (X6.out.below hb X6.out.lt)
          have Hg := Lib.hid (gtrans Hg.out (gbelow (some g) hb (Nat.le_refl _)))
          have Hr := Lib.hid (Hr.out.below hb Hr.out.lt)
          have Ho8 := Lib.hid ho8
          have Hv8 := Lib.hid (okB_oth Hv.out)
          have z9 := hb.size
          clear ho8 hb t0 t1 t2
          have t0 := X6.out.cell0
          have t1 := X6.out.cell1
          have t2 := X6.out.lt
          have t3 := X6.out.frozen 0
          have t4 := X6.out.frozen 1
          go_upto_region 17 with (fail)
          obtain ⟨y9, hy9⟩ : ∃ y9, y9 = (y8.setCell ⟨y4.heap.size, 0, none⟩ (.int .i64 s')).setCell ⟨y4.heap.size, 1, none⟩ (.slice A8 n8 c8) := ⟨_, rfl⟩
          have es : y9.heap.size = y8.heap.size := by rw [hy9]; simp [World.setCell]
          have hBg := Hr.out.1
          have hgl := Hr.out.lt
          have X2 : Hid (Bx 25 y9 w.heap.size 0 (.slice none 0 0)) := Lib.hid (by rw [hy9]; exact (X2.out.far (p := ⟨y4.heap.size, 0, none⟩) (by show w.heap.size ≠ y4.heap.size; omega) (.int .i64 s')).far (p := ⟨y4.heap.size, 1, none⟩) (by show w.heap.size ≠ y4.heap.size; omega) (.slice A8 n8 c8))
          have X6 : Hid (Bx 25 y9 y4.heap.size s' (.slice A8 n8 c8)) := Lib.hid (by rw [hy9]; exact (X6.out.set0 s').set1 (.slice A8 n8 c8))
          have Ho8 : Hid (Own y9 y7.heap.size A8 n8 c8 (othCs cs)) := Lib.hid (by rw [hy9]; exact (Ho8.out.far ⟨y4.heap.size, 0, none⟩ (fun g' hA => by have := (Ho8.out.ge hA).1; show g' ≠ y4.heap.size; omega) (.int .i64 s')).far ⟨y4.heap.size, 1, none⟩ (fun g' hA => by have := (Ho8.out.ge hA).1; show g' ≠ y4.heap.size; omega) (.slice A8 n8 c8))
          have Hr : Hid (Rdr y9 B g (q + 2 + 1)) := Lib.hid (by rw [hy9]; exact (Hr.out.far ⟨y4.heap.size, 0, none⟩ (by show g ≠ y4.heap.size; omega) (by show B ≤ y4.heap.size; omega) (.int .i64 s')).far ⟨y4.heap.size, 1, none⟩ (by show g ≠ y4.heap.size; omega) (by show B ≤ y4.heap.size; omega) (.slice A8 n8 c8))
          have Hg : Hid (w.grownBy y9 (some g)) := Lib.hid (by rw [hy9]; exact gset (gset Hg.out ⟨y4.heap.size, 0, none⟩ (by show w.heap.size ≤ y4.heap.size; omega) (.int .i64 s')) ⟨y4.heap.size, 1, none⟩ (by show w.heap.size ≤ y4.heap.size; omega) (.slice A8 n8 c8))
          rw [← hy9]
          clear hy9 t0 t1 t2 t3 t4
          obtain ⟨v1, v2, v3, v4⟩ := (Bd.okB_iff s' (othCs cs)).1 Hv8.out
          have hlcs := Ho8.out.1
          have Hns : Hid (((n8 : Nat) : Int) = s' * s') := Lib.hid (by rw [← v3, hlcs])
          clear v3 v4 hlcs
          have t0 := X6.out.cell0
          have t1 := X6.out.cell1
          have t2 := X6.out.lt
          go_upto_region 17 with (fail)
          go_region_with (first | (go_at_call 45; refine (r_pick B g (q + 2 + 1) _ _ (by exact Hr.out) (by omega)).mono ?_; rintro e yp ⟨kk, rfl, kk1, kk2, hr, hg⟩; have hgw : y9.grownBy yp (some g) := ⟨hg.os, hg.tape, hg.output, hg.size, hg.block⟩; have zp := hgw.size; have HX6 := Lib.hid (X6.out.grown hgw (fun e => by have := Option.some.inj e; omega)); have HX2 := Lib.hid (X2.out.grown hgw (fun e => by have := Option.some.inj e; omega)); have u0 := HX6.out.cell0; have u1 := HX6.out.cell1; have u2 := HX6.out.lt; have HO := Lib.hid (Ho8.out.kept hgw (fun g' hA e => by have := (Ho8.out.ge hA).1; have := Option.some.inj e; omega)); have HR := Lib.hid hr; have HG := Lib.hid (gtrans Hg.out hgw); have kk3 : kk < 8 := (by omega); clear hr hg hgw kk2) | (go_at_call 103; refine (s_transformBoard s' kk _ yp.heap.size _ _ _ (othCs cs) (by exact HO.out.ints) ?_ v1 v2 Hns.out kk1 kk3).mono ?_; (show yp.heap.size ≤ yp.heap.size; omega); rintro e yt ⟨A3, n3, c3, rfl, ho, hb⟩; have hbw : Below yp.heap.size yp yt := ⟨hb.os, hb.tape, hb.output, hb.size, hb.block⟩; have HX2t := Lib.hid (HX2.out.below hbw HX2.out.lt); have u3 := (HX6.out.below hbw HX6.out.lt).cell0; have u4 := (HX6.out.below hbw HX6.out.lt).cell1; have r0 := HX2t.out.cell0; have r1 := HX2t.out.cell1; have r2 := HX2t.out.frozen 0; have r3 := HX2t.out.frozen 1; have r4 := HX2t.out.lt; have HO3 : Hid (Own yt yp.heap.size A3 n3 c3 (Bd.mv s' kk (othCs cs))) := Lib.hid ho; have HRt := Lib.hid (HR.out.below hbw HR.out.lt); have HGt := Lib.hid (gtrans HG.out (gbelow (some g) hbw (Nat.le_refl _))); clear ho hb hbw))
          all_goals go_wp2_with fail
          all_goals
            have k0 := (HX2t.out.set0 s').cell0
            have k1 := ((HX2t.out.set0 s').set1 (.slice A3 n3 c3)).cell1
            refine bodyPost_ret (v := .agg #[.int .i64 s', .slice A3 n3 c3]) (by simp [results, Tryd.results73, go_sem, k0, k1]) rfl ?_
            have hBg := HRt.out.1
            have hr3 := (HRt.out.far ⟨w.heap.size, 0, none⟩ (by show g ≠ w.heap.size; omega) (by show B ≤ w.heap.size; omega) (.int .i64 s')).far ⟨w.heap.size, 1, none⟩ (by show g ≠ w.heap.size; omega) (by show B ≤ w.heap.size; omega) (.slice A3 n3 c3)
            have hg3 := gset (gset HGt.out ⟨w.heap.size, 0, none⟩ (Nat.le_refl _) (.int .i64 s')) ⟨w.heap.size, 1, none⟩ (Nat.le_refl _) (.slice A3 n3 c3)
            have ho3 := (HO3.out.far ⟨w.heap.size, 0, none⟩ (fun g' hA => by have := (HO3.out.ge hA).1; show g' ≠ w.heap.size; omega) (.int .i64 s')).far ⟨w.heap.size, 1, none⟩ (fun g' hA => by have := (HO3.out.ge hA).1; show g' ≠ w.heap.size; omega) (.slice A3 n3 c3)
            exact ⟨_, _, _, _, _, _, rfl, ho3.weaken (by omega), okB_mv Hv8.out, hr3, by omega, hg3⟩
        · have hbf : (f == 0) = false := by simpa using hf
          clear hf
          obtain ⟨v1, v2, v3, v4⟩ := (Bd.okB_iff s' cs).1 Hv.out
          have hlcs := Ho.out.1
          have Hns : Hid (((n : Nat) : Int) = s' * s') := Lib.hid (by rw [← v3, hlcs])
          clear v3 v4 hlcs
          have t0 := X6.out.cell0
          have t1 := X6.out.cell1
          have t2 := X6.out.lt
          go_upto_region 17 with (fail)
          go_region_with (first | (go_at_call 45; refine (r_pick B g (q + 2 + 1) _ _ (by exact Hr.out) (by omega)).mono ?_; rintro e yp ⟨kk, rfl, kk1, kk2, hr, hg⟩; have hgw : y7.grownBy yp (some g) := ⟨hg.os, hg.tape, hg.output, hg.size, hg.block⟩; have zp := hgw.size; have HX6 := Lib.hid (X6.out.grown hgw (fun e => by have := Option.some.inj e; omega)); have HX2 := Lib.hid (X2.out.grown hgw (fun e => by have := Option.some.inj e; omega)); have u0 := HX6.out.cell0; have u1 := HX6.out.cell1; have u2 := HX6.out.lt; have HO := Lib.hid (Ho.out.kept hgw (fun g' hA e => by have := (Ho.out.ge hA).1; have := Option.some.inj e; omega)); have HR := Lib.hid hr; have HG := Lib.hid (gtrans Hg.out hgw); have kk3 : kk < 8 := (by omega); clear hr hg hgw kk2) | (go_at_call 103; refine (s_transformBoard s' kk _ yp.heap.size _ _ _ cs (by exact HO.out.ints) ?_ v1 v2 Hns.out kk1 kk3).mono ?_; (show yp.heap.size ≤ yp.heap.size; omega); rintro e yt ⟨A3, n3, c3, rfl, ho, hb⟩; have hbw : Below yp.heap.size yp yt := ⟨hb.os, hb.tape, hb.output, hb.size, hb.block⟩; have HX2t := Lib.hid (HX2.out.below hbw HX2.out.lt); have u3 := (HX6.out.below hbw HX6.out.lt).cell0; have u4 := (HX6.out.below hbw HX6.out.lt).cell1; have r0 := HX2t.out.cell0; have r1 := HX2t.out.cell1; have r2 := HX2t.out.frozen 0; have r3 := HX2t.out.frozen 1; have r4 := HX2t.out.lt; have HO3 : Hid (Own yt yp.heap.size A3 n3 c3 (Bd.mv s' kk cs)) := Lib.hid ho; have HRt := Lib.hid (HR.out.below hbw HR.out.lt); have HGt := Lib.hid (gtrans HG.out (gbelow (some g) hbw (Nat.le_refl _))); clear ho hb hbw))
          all_goals go_wp2_with fail
          all_goals
            have k0 := (HX2t.out.set0 s').cell0
            have k1 := ((HX2t.out.set0 s').set1 (.slice A3 n3 c3)).cell1
            refine bodyPost_ret (v := .agg #[.int .i64 s', .slice A3 n3 c3]) (by simp [results, Tryd.results73, go_sem, k0, k1]) rfl ?_
            have hBg := HRt.out.1
            have hr3 := (HRt.out.far ⟨w.heap.size, 0, none⟩ (by show g ≠ w.heap.size; omega) (by show B ≤ w.heap.size; omega) (.int .i64 s')).far ⟨w.heap.size, 1, none⟩ (by show g ≠ w.heap.size; omega) (by show B ≤ w.heap.size; omega) (.slice A3 n3 c3)
            have hg3 := gset (gset HGt.out ⟨w.heap.size, 0, none⟩ (Nat.le_refl _) (.int .i64 s')) ⟨w.heap.size, 1, none⟩ (Nat.le_refl _) (.slice A3 n3 c3)
            have ho3 := (HO3.out.far ⟨w.heap.size, 0, none⟩ (fun g' hA => by have := (HO3.out.ge hA).1; show g' ≠ w.heap.size; omega) (.int .i64 s')).far ⟨w.heap.size, 1, none⟩ (fun g' hA => by have := (HO3.out.ge hA).1; show g' ≠ w.heap.size; omega) (.slice A3 n3 c3)
            exact ⟨_, _, _, _, _, _, rfl, ho3.weaken (by omega), okB_mv Hv.out, hr3, by omega, hg3⟩
    · have e1 : (x0 == 1) = false := by simpa using h1
      by_cases h2 : x0 = 2
      · subst h2
        clear k1 k2 h0 h1 e0 e1
        go_wp2_with fail
        refine (r_corners _).mono ?_
        rintro e y2 ⟨rfl, hN, hb⟩
        have X2 := Lib.hid (X2.out.below hb X2.out.lt)
        have Hg := Lib.hid (gtrans Hg.out (gbelow (some g) hb (Nat.le_refl _)))
        have Hrl := Hr.out.lt
        have Hr := Lib.hid (Hr.out.below hb Hr.out.lt)
        have HN := Lib.hid hN
        have z3 := hb.size
        clear hN hb
        have zy : y.heap.size < y2.heap.size := by
          obtain ⟨S, h1, _⟩ := HN.out 0 (by omega)
          exact World.block_lt_of_cell? _ _ h1
        go_wp2_with fail
        refine (r_pick B g (q + 1) _ _ Hr.out (by omega)).mono ?_
        rintro e y3 ⟨j, rfl, j1, j2, hr, hg⟩
        obtain ⟨j, rfl⟩ := Int.eq_ofNat_of_zero_le j1
        have hj9 : j < 9 := by omega
        obtain ⟨S, hS1, hS2⟩ := HN.out j hj9
        have hc := (World.cell?_of_block (w' := y3) (w := y2) (a := ⟨y.heap.size, j, none⟩) (hg.block y.heap.size zy (by intro e; have := Option.some.inj e; omega))).trans hS1
        have X2 := Lib.hid (X2.out.grown hg (fun e => by have := Option.some.inj e; omega))
        have Hg := Lib.hid (gtrans Hg.out hg)
        have Hr := Lib.hid hr
        have z4 := hg.size
        have hj9' : (j : Int) < 9 := by omega
        clear hr hg hS1 HN j2
        go_wp2_with fail
        refine (s_ParseBoard S _ (by omega)).mono ?_
        rintro e y4 ⟨s', A, n, c, cs, ok, rfl, hwhat, hb⟩
        have X2 := Lib.hid (X2.out.below hb X2.out.lt)
        have Hg := Lib.hid (gtrans Hg.out (gbelow (some g) hb (Nat.le_refl _)))
        have Hr := Lib.hid (Hr.out.below hb Hr.out.lt)
        have Hwhat := Lib.hid hwhat
        have z5 := hb.size
        clear hwhat hb hc
        go_upto_region 13 with (fail)
        obtain ⟨y5, hy5, hb5, z6, z7⟩ := new_box y4 (.cells #[.int .i64 s', .slice A n c] 25)
        have X6 : Hid (Bx 25 y5 y4.heap.size s' (.slice A n c)) := Lib.hid (by rw [hy5]; exact Bx.new _ _ _ _)
        rw [← hy5]
        clear hy5
        have X2 := Lib.hid (X2.out.below hb5 X2.out.lt)
        have Hr := Lib.hid (Hr.out.below hb5 Hr.out.lt)
        have Hg := Lib.hid (gtrans Hg.out (gbelow (some g) hb5 (Nat.le_refl _)))
        cases ok with
        | false =>
          clear hb5 Hwhat
          go_wp2_with fail
          refine (s_new 3 _).mono ?_
          rintro e y6 ⟨A6, n6, c6, rfl, ho, hb⟩
          have hs1 : newS 3 = 3 := rfl
          have hc1 : newCs 3 = List.replicate (3 * 3 : Int).toNat 0 := rfl
          rw [hc1] at ho
          rw [hs1]
          have X2 := Lib.hid (X2.out.below hb X2.out.lt)
          have Hg := Lib.hid (gtrans Hg.out (gbelow (some g) hb (Nat.le_refl _)))
          have Hr := Lib.hid (Hr.out.below hb Hr.out.lt)
          have Ho := Lib.hid ho
          clear ho hb hs1 hc1
          have K0 := Lib.hid ((X2.out.set0 3).cell0)
          have K1 := Lib.hid (((X2.out.set0 3).set1 (.slice A6 n6 c6)).cell1)
          have r0 := X2.out.cell0
          have r1 := X2.out.cell1
          have r2 := X2.out.frozen 0
          have r3 := X2.out.frozen 1
          have r4 := X2.out.lt
          have hBg := Hr.out.1
          have Hr3 := Lib.hid ((Hr.out.far ⟨w.heap.size, 0, none⟩ (by show g ≠ w.heap.size; omega) (by show B ≤ w.heap.size; omega) (.int .i64 3)).far ⟨w.heap.size, 1, none⟩ (by show g ≠ w.heap.size; omega) (by show B ≤ w.heap.size; omega) (.slice A6 n6 c6))
          have Hg3 := Lib.hid (gset (gset Hg.out ⟨w.heap.size, 0, none⟩ (Nat.le_refl _) (.int .i64 3)) ⟨w.heap.size, 1, none⟩ (Nat.le_refl _) (.slice A6 n6 c6))
          have Ho3 := Lib.hid ((Ho.out.far ⟨w.heap.size, 0, none⟩ (fun g' hA => by have := (Ho.out.ge hA).1; show g' ≠ w.heap.size; omega) (.int .i64 3)).far ⟨w.heap.size, 1, none⟩ (fun g' hA => by have := (Ho.out.ge hA).1; show g' ≠ w.heap.size; omega) (.slice A6 n6 c6))
          go_wp2_with fail
          have k0 := K0.out
          have k1 := K1.out
          refine bodyPost_ret (v := .agg #[.int .i64 3, .slice A6 n6 c6]) (by simp [results, Tryd.results73, go_sem, k0, k1]) rfl ?_
          exact ⟨_, _, _, _, _, _, rfl, Ho3.out.weaken (by omega), okB_new (by omega) (by omega), Hr3.out, by omega, Hg3.out⟩
        | true =>
          obtain ⟨ho, hv, _⟩ := Hwhat.out rfl
          have Ho := Lib.hid (ho.below hb5)
          have Hv := Lib.hid hv
          have Hra := Lib.hid (fun g' (hA : A = some ⟨g', 0, none⟩) => (ho.ge hA).2)
          clear Hwhat ho hv hb5
          go_wp2_with fail
          refine (r_pick B g (q + 2) _ _ Hr.out (by omega)).mono ?_
          rintro e y7 ⟨f, rfl, f1, f2, hr, hg⟩
          have X2 := Lib.hid (X2.out.grown hg (fun e => by have := Option.some.inj e; omega))
          have X6 := Lib.hid (X6.out.grown hg (fun e => by have := Option.some.inj e; omega))
          have Ho := Lib.hid (Ho.out.kept hg (fun g' hA e => by have := (Ho.out.ge hA).1; have := Option.some.inj e; omega))
          have Hg := Lib.hid (gtrans Hg.out hg)
          have Hr := Lib.hid hr
          have z8 := hg.size
          clear hr hg f2
          by_cases hf : f = 0
          · have hbf : (f == 0) = true := by simpa using hf
            clear hf
            have t0 := X6.out.cell0
            have t1 := X6.out.cell1
            have t2 := X6.out.lt
            go_wp2_with fail
            refine (s_invertBoard s' _ _ _ n c cs Ho.out.ints (Nat.le_refl _) (by have := Ho.out.1; obtain ⟨a1, a2, a3, _⟩ := (Bd.okB_iff s' cs).1 Hv.out; have := Pt.sq_bd s' a1 a2; omega) ((Bd.okB_iff s' cs).1 Hv.out).2.2.2).mono ?_
            rintro e y8 ⟨A8, n8, c8, rfl, ho8, hb⟩
            have X2 := Lib.hid (X2.out.below hb X2.out.lt)
            have X6 := Lib.hid (X6.out.below hb X6.out.lt)
            have Hg := Lib.hid (gtrans Hg.out (gbelow (some g) hb (Nat.le_refl _)))
            have Hr := Lib.hid (Hr.out.below hb Hr.out.lt)
            have Ho8 := Lib.hid ho8
            have Hv8 := Lib.hid (okB_oth Hv.out)
            have z9 := hb.size
            clear ho8 hb t0 t1 t2
            have t0 := X6.out.cell0
            have t1 := X6.out.cell1
            have t2 := X6.out.lt
            have t3 := X6.out.frozen 0
            have t4 := X6.out.frozen 1
            go_upto_region 17 with (fail)
            obtain ⟨y9, hy9⟩ : ∃ y9, y9 = (y8.setCell ⟨y4.heap.size, 0, none⟩ (.int .i64 s')).setCell ⟨y4.heap.size, 1, none⟩ (.slice A8 n8 c8) := ⟨_, rfl⟩
            have es : y9.heap.size = y8.heap.size := by rw [hy9]; simp [World.setCell]
            have hBg := Hr.out.1
            have hgl := Hr.out.lt
            have X2 : Hid (Bx 25 y9 w.heap.size 0 (.slice none 0 0)) := Lib.hid (by rw [hy9]; exact (X2.out.far (p := ⟨y4.heap.size, 0, none⟩) (by show w.heap.size ≠ y4.heap.size; omega) (.int .i64 s')).far (p := ⟨y4.heap.size, 1, none⟩) (by show w.heap.size ≠ y4.heap.size; omega) (.slice A8 n8 c8))
            have X6 : Hid (Bx 25 y9 y4.heap.size s' (.slice A8 n8 c8)) := Lib.hid (by rw [hy9]; exact (X6.out.set0 s').set1 (.slice A8 n8 c8))
            have Ho8 : Hid (Own y9 y7.heap.size A8 n8 c8 (othCs cs)) := Lib.hid (by rw [hy9]; exact (Ho8.out.far ⟨y4.heap.size, 0, none⟩ (fun g' hA => by have := (Ho8.out.ge hA).1; show g' ≠ y4.heap.size; omega) (.int .i64 s')).far ⟨y4.heap.size, 1, none⟩ (fun g' hA => by have := (Ho8.out.ge hA).1; show g' ≠ y4.heap.size; omega) (.slice A8 n8 c8))
            have Hr : Hid (Rdr y9 B g (q + 2 + 1)) := Lib.hid (by rw [hy9]; exact (Hr.out.far ⟨y4.heap.size, 0, none⟩ (by show g ≠ y4.heap.size; omega) (by show B ≤ y4.heap.size; omega) (.int .i64 s')).far ⟨y4.heap.size, 1, none⟩ (by show g ≠ y4.heap.size; omega) (by show B ≤ y4.heap.size; omega) (.slice A8 n8 c8))
            have Hg : Hid (w.grownBy y9 (some g)) := Lib.hid (by rw [hy9]; exact gset (gset Hg.out ⟨y4.heap.size, 0, none⟩ (by show w.heap.size ≤ y4.heap.size; omega) (.int .i64 s')) ⟨y4.heap.size, 1, none⟩ (by show w.heap.size ≤ y4.heap.size; omega) (.slice A8 n8 c8))
            rw [← hy9]
            clear hy9 t0 t1 t2 t3 t4
            obtain ⟨v1, v2, v3, v4⟩ := (Bd.okB_iff s' (othCs cs)).1 Hv8.out
            have hlcs := Ho8.out.1
            have Hns : Hid (((n8 : Nat) : Int) = s' * s') := Lib.hid (by rw [← v3, hlcs])
            clear v3 v4 hlcs
            have t0 := X6.out.cell0
            have t1 := X6.out.cell1
            have t2 := X6.out.lt
            go_upto_region 17 with (fail)
            go_region_with (first | (go_at_call 45; refine (r_pick B g (q + 2 + 1) _ _ (by exact Hr.out) (by omega)).mono ?_; rintro e yp ⟨kk, rfl, kk1, kk2, hr, hg⟩; have hgw : y9.grownBy yp (some g) := ⟨hg.os, hg.tape, hg.output, hg.size, hg.block⟩; have zp := hgw.size; have HX6 := Lib.hid (X6.out.grown hgw (fun e => by have := Option.some.inj e; omega)); have HX2 := Lib.hid (X2.out.grown hgw (fun e => by have := Option.some.inj e; omega)); have u0 := HX6.out.cell0; have u1 := HX6.out.cell1; have u2 := HX6.out.lt; have HO := Lib.hid (Ho8.out.kept hgw (fun g' hA e => by have := (Ho8.out.ge hA).1; have := Option.some.inj e; omega)); have HR := Lib.hid hr; have HG := Lib.hid (gtrans Hg.out hgw); have kk3 : kk < 8 := (by omega); clear hr hg hgw kk2) | (go_at_call 103; refine (s_transformBoard s' kk _ yp.heap.size _ _ _ (othCs cs) (by exact HO.out.ints) ?_ v1 v2 Hns.out kk1 kk3).mono ?_; (show yp.heap.size ≤ yp.heap.size; omega); rintro e yt ⟨A3, n3, c3, rfl, ho, hb⟩; have hbw : Below yp.heap.size yp yt := ⟨hb.os, hb.tape, hb.output, hb.size, hb.block⟩; have HX2t := Lib.hid (HX2.out.below hbw HX2.out.lt); have u3 := (HX6.out.below hbw HX6.out.lt).cell0; have u4 := (HX6.out.below hbw HX6.out.lt).cell1; have r0 := HX2t.out.cell0; have r1 := HX2t.out.cell1; have r2 := HX2t.out.frozen 0; have r3 := HX2t.out.frozen 1; have r4 := HX2t.out.lt; have HO3 : Hid (Own yt yp.heap.size A3 n3 c3 (Bd.mv s' kk (othCs cs))) := Lib.hid ho; have HRt := Lib.hid (HR.out.below hbw HR.out.lt); have HGt := Lib.hid (gtrans HG.out (gbelow (some g) hbw (Nat.le_refl _))); clear ho hb hbw))
            all_goals go_wp2_with fail
            all_goals
              have k0 := (HX2t.out.set0 s').cell0
              have k1 := ((HX2t.out.set0 s').set1 (.slice A3 n3 c3)).cell1
              refine bodyPost_ret (v := .agg #[.int .i64 s', .slice A3 n3 c3]) (by simp [results, Tryd.results73, go_sem, k0, k1]) rfl ?_
              have hBg := HRt.out.1
              have hr3 := (HRt.out.far ⟨w.heap.size, 0, none⟩ (by show g ≠ w.heap.size; omega) (by show B ≤ w.heap.size; omega) (.int .i64 s')).far ⟨w.heap.size, 1, none⟩ (by show g ≠ w.heap.size; omega) (by show B ≤ w.heap.size; omega) (.slice A3 n3 c3)
              have hg3 := gset (gset HGt.out ⟨w.heap.size, 0, none⟩ (Nat.le_refl _) (.int .i64 s')) ⟨w.heap.size, 1, none⟩ (Nat.le_refl _) (.slice A3 n3 c3)
              have ho3 := (HO3.out.far ⟨w.heap.size, 0, none⟩ (fun g' hA => by have := (HO3.out.ge hA).1; show g' ≠ w.heap.size; omega) (.int .i64 s')).far ⟨w.heap.size, 1, none⟩ (fun g' hA => by have := (HO3.out.ge hA).1; show g' ≠ w.heap.size; omega) (.slice A3 n3 c3)
              exact ⟨_, _, _, _, _, _, rfl, ho3.weaken (by omega), okB_mv Hv8.out, hr3, by omega, hg3⟩
          · have hbf : (f == 0) = false := by simpa using hf
            clear hf
            obtain ⟨v1, v2, v3, v4⟩ := (Bd.okB_iff s' cs).1 Hv.out
            have hlcs := Ho.out.1
            have Hns : Hid (((n : Nat) : Int) = s' * s') := Lib.hid (by rw [← v3, hlcs])
            clear v3 v4 hlcs
            have t0 := X6.out.cell0
            have t1 := X6.out.cell1
            have t2 := X6.out.lt
            go_upto_region 17 with (fail)
            go_region_with (first | (go_at_call 45; refine (r_pick B g (q + 2 + 1) _ _ (by exact Hr.out) (by omega)).mono ?_; rintro e yp ⟨kk, rfl, kk1, kk2, hr, hg⟩; have hgw : y7.grownBy yp (some g) := ⟨hg.os, hg.tape, hg.output, hg.size, hg.block⟩; have zp := hgw.size; have HX6 := Lib.hid (X6.out.grown hgw (fun e => by have := Option.some.inj e; omega)); have HX2 := Lib.hid (X2.out.grown hgw (fun e => by have := Option.some.inj e; omega)); have u0 := HX6.out.cell0; have u1 := HX6.out.cell1; have u2 := HX6.out.lt; have HO := Lib.hid (Ho.out.kept hgw (fun g' hA e => by have := (Ho.out.ge hA).1; have := Option.some.inj e; omega)); have HR := Lib.hid hr; have HG := Lib.hid (gtrans Hg.out hgw); have kk3 : kk < 8 := (by omega); clear hr hg hgw kk2) | (go_at_call 103; refine (s_transformBoard s' kk _ yp.heap.size _ _ _ cs (by exact HO.out.ints) ?_ v1 v2 Hns.out kk1 kk3).mono ?_; (show yp.heap.size ≤ yp.heap.size; omega); rintro e yt ⟨A3, n3, c3, rfl, ho, hb⟩; have hbw : Below yp.heap.size yp yt := ⟨hb.os, hb.tape, hb.output, hb.size, hb.block⟩; have HX2t := Lib.hid (HX2.out.below hbw HX2.out.lt); have u3 := (HX6.out.below hbw HX6.out.lt).cell0; have u4 := (HX6.out.below hbw HX6.out.lt).cell1; have r0 := HX2t.out.cell0; have r1 := HX2t.out.cell1; have r2 := HX2t.out.frozen 0; have r3 := HX2t.out.frozen 1; have r4 := HX2t.out.lt; have HO3 : Hid (Own yt yp.heap.size A3 n3 c3 (Bd.mv s' kk cs)) := Lib.hid ho; have HRt := Lib.hid (HR.out.below hbw HR.out.lt); have HGt := Lib.hid (gtrans HG.out (gbelow (some g) hbw (Nat.le_refl _))); clear ho hb hbw))
            all_goals go_wp2_with fail
            all_goals
              have k0 := (HX2t.out.set0 s').cell0
              have k1 := ((HX2t.out.set0 s').set1 (.slice A3 n3 c3)).cell1
              refine bodyPost_ret (v := .agg #[.int .i64 s', .slice A3 n3 c3]) (by simp [results, Tryd.results73, go_sem, k0, k1]) rfl ?_
              have hBg := HRt.out.1
              have hr3 := (HRt.out.far ⟨w.heap.size, 0, none⟩ (by show g ≠ w.heap.size; omega) (by show B ≤ w.heap.size; omega) (.int .i64 s')).far ⟨w.heap.size, 1, none⟩ (by show g ≠ w.heap.size; omega) (by show B ≤ w.heap.size; omega) (.slice A3 n3 c3)
              have hg3 := gset (gset HGt.out ⟨w.heap.size, 0, none⟩ (Nat.le_refl _) (.int .i64 s')) ⟨w.heap.size, 1, none⟩ (Nat.le_refl _) (.slice A3 n3 c3)
              have ho3 := (HO3.out.far ⟨w.heap.size, 0, none⟩ (fun g' hA => by have := (HO3.out.ge hA).1; show g' ≠ w.heap.size; omega) (.int .i64 s')).far ⟨w.heap.size, 1, none⟩ (fun g' hA => by have := (HO3.out.ge hA).1; show g' ≠ w.heap.size; omega) (.slice A3 n3 c3)
              exact ⟨_, _, _, _, _, _, rfl, ho3.weaken (by omega), okB_mv Hv.out, hr3, by omega, hg3⟩
      · have e2 : (x0 == 2) = false := by simpa using h2
        clear h0 h1 h2
        go_wp2_with fail
        refine (r_smallSize B g (q + 1) _ Hr.out (by omega)).mono ?_
        rintro e y2 ⟨s, rfl, ⟨s1, s2⟩, hr, hg⟩
        have X2 := Lib.hid (X2.out.grown hg (fun e => by have := Option.some.inj e; omega))
        have Hg := Lib.hid (gtrans Hg.out hg)
        have Hr := Lib.hid hr
        have z3 := X2.out.lt
        clear hr hg
        go_wp2_with fail
        refine (r_played s B g (q + 1 + 1) _ Hr.out (by omega) s1 s2).mono ?_
        rintro e y3 ⟨s', A, n, c, cs, q', rfl, ho, hv, hr, hq', hg⟩
        have X2 := Lib.hid (X2.out.grown hg (fun e => by have := Option.some.inj e; omega))
        have Hg := Lib.hid (gtrans Hg.out hg)
        have Hr := Lib.hid hr
        have Ho := Lib.hid ho
        have Hv := Lib.hid hv
        have z4 := X2.out.lt
        clear hr hg ho hv
        have K0 := Lib.hid ((X2.out.set0 s').cell0)
        have K1 := Lib.hid (((X2.out.set0 s').set1 (.slice A n c)).cell1)
        have r0 := X2.out.cell0
        have r1 := X2.out.cell1
        have r2 := X2.out.frozen 0
        have r3 := X2.out.frozen 1
        have r4 := X2.out.lt
        have hBg := Hr.out.1
        have Hr3 := Lib.hid ((Hr.out.far ⟨w.heap.size, 0, none⟩ (by show g ≠ w.heap.size; omega) (by show B ≤ w.heap.size; omega) (.int .i64 s')).far ⟨w.heap.size, 1, none⟩ (by show g ≠ w.heap.size; omega) (by show B ≤ w.heap.size; omega) (.slice A n c))
        have Hg3 := Lib.hid (gset (gset Hg.out ⟨w.heap.size, 0, none⟩ (Nat.le_refl _) (.int .i64 s')) ⟨w.heap.size, 1, none⟩ (Nat.le_refl _) (.slice A n c))
        have Ho3 := Lib.hid ((Ho.out.far ⟨w.heap.size, 0, none⟩ (fun g' hA => by have := (Ho.out.ge hA).1; show g' ≠ w.heap.size; omega) (.int .i64 s')).far ⟨w.heap.size, 1, none⟩ (fun g' hA => by have := (Ho.out.ge hA).1; show g' ≠ w.heap.size; omega) (.slice A n c))
        go_wp2_with fail
        have k0 := K0.out
        have k1 := K1.out
        refine bodyPost_ret (v := .agg #[.int .i64 s', .slice A n c]) (by simp [results, Tryd.results73, go_sem, k0, k1]) rfl ?_
        exact ⟨_, _, _, _, _, _, rfl, Ho3.out.weaken (by omega), Hv.out, Hr3.out, by omega, Hg3.out⟩
end Go.Proofs.YtpogjegihhljpaaDoor

namespace Go.Proofs.YtpogjegihhljpaaDoor
set_option maxRecDepth 100000
open Go.RowKit

/-- The slice at A of n elements reads as the ints xs, and its memory lies from block lo on. -/
def IntsF (w : World) (lo : Nat) (A : Option Addr) (n : Nat) (xs : List Int) : Prop :=
  xs.length = n ∧ (n = 0 ∨ ∃ b o, A = some ⟨b, o, none⟩ ∧ lo ≤ b ∧ b < w.heap.size ∧ ∀ j, j < n → w.cell? ⟨b, o + j, none⟩ = some (.int .i64 (xs.getD j 0)))
theorem IntsF.ints {w : World} {lo n : Nat} {A : Option Addr} {xs : List Int} (h : IntsF w lo A n xs) : Ints w w.heap.size A n xs := by
  refine ⟨h.1, ?_⟩
  rcases h.2 with h | ⟨b, o, hA, _, hb, hc⟩
  · exact .inl h
  · exact .inr ⟨b, o, hA, hb, hc⟩
theorem IntsF.of {w : World} {lo n c : Nat} {A : Option Addr} {xs : List Int} (h : Own w lo A n c xs) : IntsF w lo A n xs := by
  refine ⟨h.1, ?_⟩
  rcases h.ints.2 with h0 | ⟨b, o, hA, hb, hc⟩
  · exact .inl h0
  · by_cases hn : n = 0
    · exact .inl hn
    · obtain ⟨g, cap, hv, hg, hlt⟩ := World.ownsRow.form h.2 (by omega)
      have hA2 : A = some ⟨g, 0, none⟩ := by injection hv
      have : b = g := by rw [hA] at hA2; injection hA2 with e; injection e
      exact .inr ⟨b, o, hA, by omega, hb, hc⟩
theorem IntsF.weaken {w : World} {lo lo' n : Nat} {A : Option Addr} {xs : List Int} (h : IntsF w lo A n xs) (hl : lo' ≤ lo) : IntsF w lo' A n xs := by
  refine ⟨h.1, ?_⟩
  rcases h.2 with h | ⟨b, o, hA, h1, h2, hc⟩
  · exact .inl h
  · exact .inr ⟨b, o, hA, by omega, h2, hc⟩
theorem IntsF.far {w : World} {lo n : Nat} {A : Option Addr} {xs : List Int} (h : IntsF w lo A n xs) (p : Addr) (hp : p.block < lo) (u : Value) : IntsF (w.setCell p u) lo A n xs := by
  refine ⟨h.1, ?_⟩
  rcases h.2 with h | ⟨b, o, hA, h1, h2, hc⟩
  · exact .inl h
  · exact .inr ⟨b, o, hA, h1, by simpa [World.setCell] using h2, fun j hj => (World.cell?_of_block (w' := w.setCell p u) (w := w) (a := ⟨b, o + j, none⟩) (Below.heap_setCell w p u b (by omega))).trans (hc j hj)⟩
theorem IntsF.grown {w w' : World} {lo n g : Nat} {A : Option Addr} {xs : List Int} (h : IntsF w lo A n xs) (hg : w.grownBy w' (some g)) (hl : g < lo) : IntsF w' lo A n xs := by
  refine ⟨h.1, ?_⟩
  rcases h.2 with h | ⟨b, o, hA, h1, h2, hc⟩
  · exact .inl h
  · exact .inr ⟨b, o, hA, h1, Nat.lt_of_lt_of_le h2 hg.size, fun j hj => (World.cell?_of_block (w' := w') (w := w) (a := ⟨b, o + j, none⟩) (hg.block b h2 (fun e => by have := Option.some.inj e; omega))).trans (hc j hj)⟩
theorem IntsF.below {w w' : World} {lo n : Nat} {A : Option Addr} {xs : List Int} (h : IntsF w lo A n xs) (hb : Below w.heap.size w w') : IntsF w' lo A n xs := by
  refine ⟨h.1, ?_⟩
  rcases h.2 with h | ⟨b, o, hA, h1, h2, hc⟩
  · exact .inl h
  · exact .inr ⟨b, o, hA, h1, Nat.lt_of_lt_of_le h2 hb.size, fun j hj => (World.cell?_of_block (w' := w') (w := w) (a := ⟨b, o + j, none⟩) (hb.block b h2)).trans (hc j hj)⟩
theorem IntsF.tail {w : World} {lo n b o : Nat} {xs : List Int} (h : IntsF w lo (some ⟨b, o, none⟩) (n + 1) xs) : IntsF w lo (some ⟨b, o + 1, none⟩) n xs.tail := by
  refine ⟨by rw [List.length_tail, h.1]; rfl, ?_⟩
  rcases h.2 with h0 | ⟨b', o', hA, h1, h2, hc⟩
  · omega
  · injection hA with hA
    injection hA with e1 e2
    subst e1; subst e2
    refine .inr ⟨b, o + 1, rfl, h1, h2, fun j hj => ?_⟩
    have := hc (j + 1) (by omega)
    rw [show o + 1 + j = o + (j + 1) by omega, this]
    cases xs <;> simp [List.getD_eq_getElem?_getD]

theorem Own.cap_le {w : World} {B n c : Nat} {A : Option Addr} {xs : List Int} (h : Own w B A n c xs) : n ≤ c := by
  rcases h.2.2 with ⟨e, _⟩ | ⟨g, cap, cur, e, _, _, h, _⟩
  · injection e with _ e1 e2; omega
  · injection e with _ _ e2; omega

/-- A board that a draw made: of any size from 0 to 8, any cells, at most 49. -/
def DrawnA (w : World) (B g lo q : Nat) (e : Ending) (w' : World) : Prop :=
  ∃ (s : Int) (A : Option Addr) (n c : Nat) (cs : List Int) (q' : Nat), e = .returned (.agg #[.int .i64 s, .slice A n c]) ∧ IntsF w' lo A n cs ∧ n ≤ 49 ∧ 0 ≤ s ∧ s ≤ 8 ∧ Rdr w' B g q' ∧ q' ≤ q ∧ w.grownBy w' (some g)

set_option maxRecDepth 100000 in
set_option maxHeartbeats 8000000 in
theorem r_any (B g q : Nat) (w : World) (h : Rdr w B g q) (hq : q ≤ 1000000000) :
    Calls Tryd.prog 42 #[.pointer (some ⟨g, 0, none⟩)] w fun e w' => DrawnA w B g w.heap.size (q + 202) e w' := by
  have hlt := h.lt
  have hb1 : Below w.heap.size w (w.alloc (.cells #[.int .i64 0, .slice none 0 0] 25)) := (Below.refl _ _).alloc (Nat.le_refl _) _
  have X2 := Lib.hid (Bx.new 25 w 0 (.slice none 0 0))
  have Hr := Lib.hid (h.below hb1 hlt)
  have Hb := Lib.hid hb1
  have hsz : (w.alloc (.cells #[.int .i64 0, .slice none 0 0] 25)).heap.size = w.heap.size + 1 := by simp
  have Hsz := Lib.hid hsz
  clear h hb1 hsz
  go_enter Tryd.func42, Tryd.ntmps42
  go_wp2_with fail
  refine (r_random B g q _ Hr.out (by omega)).mono ?_
  rintro e y ⟨s, A, n, c, cs, q1, rfl, ho, hv, hr, hq1, hg⟩
  rw [Hsz.out] at ho
  have X2 := Lib.hid (X2.out.grown hg (fun e => by have := Option.some.inj e; omega))
  have Hg := Lib.hid (gtrans (gbelow (some g) Hb.out (Nat.le_refl _)) hg)
  have Hr := Lib.hid hr
  obtain ⟨s1, s2, hsn, _⟩ := (Bd.okB_iff s cs).1 hv
  have hsq := Pt.sq_bd s s1 s2
  have hl := ho.1
  have hn49 : n ≤ 49 := by omega
  have hn1 : 1 ≤ n := by omega
  have z2 := X2.out.lt
  obtain ⟨ga, cap, hvv, _⟩ := World.ownsRow.form ho.2 (by omega)
  have hA : A = some ⟨ga, 0, none⟩ := by injection hvv
  subst hA
  have hga := ho.ge rfl
  have Ho := Lib.hid ho
  have hcap : n ≤ c := ho.cap_le
  clear hr hg hsn hl hv ho Hb hvv
  go_upto_region 2 with (fail)
  obtain ⟨y3, hy3, hb3, z3, z4⟩ := new_box y (.cells #[.int .i64 s, .slice (some ⟨ga, 0, none⟩) n c] 25)
  have X3 : Hid (Bx 25 y3 y.heap.size s (.slice (some ⟨ga, 0, none⟩) n c)) := Lib.hid (by rw [hy3]; exact Bx.new _ _ _ _)
  rw [← hy3]
  clear hy3
  have X2 := Lib.hid (X2.out.below hb3 X2.out.lt)
  have Hr := Lib.hid (Hr.out.below hb3 Hr.out.lt)
  have Ho := Lib.hid (Ho.out.below hb3)
  have Hg := Lib.hid (gtrans Hg.out (gbelow (some g) hb3 (Nat.le_refl _)))
  clear hb3
  go_wp2_with fail
  refine (r_pick B g q1 _ _ Hr.out (by omega)).mono ?_
  rintro e y4 ⟨x0, rfl, k1, k2, hr, hg⟩
  have X2 := Lib.hid (X2.out.grown hg (fun e => by have := Option.some.inj e; omega))
  have X3 := Lib.hid (X3.out.grown hg (fun e => by have := Option.some.inj e; omega))
  have Ho := Lib.hid (Ho.out.kept hg (fun g' hA e => by have := (Ho.out.ge hA).1; have := Option.some.inj e; omega))
  have Hg := Lib.hid (gtrans Hg.out hg)
  have Hr := Lib.hid hr
  have z5 := X3.out.lt
  clear hr hg
  by_cases h0 : x0 = 0
  · subst h0
    clear k1 k2
    have t0 := X3.out.cell0
    have t1 := X3.out.cell1
    have t2 := X3.out.lt
    have hlt4 := Hr.out.lt
    go_wp2_with fail
    have hl := Ints.lit y4 3 [0, 8, s + 1]
    refine (r_one B g (q1 + 1) _ _ [0, 8, s + 1] _ _ (Hr.out.below ((Below.refl _ _).alloc (Nat.le_refl _) _) Hr.out.lt) (by omega) hl (by simp) (by simp) (by simp) (by rintro b o e; injection e with e; injection e; omega)).mono ?_
    rintro e y5 ⟨x, rfl, hx, hr, hg⟩
    have hx8 : 0 ≤ x ∧ x ≤ 8 := by simp at hx; omega
    have hg5 := gtrans (World.grownBy_alloc y4 _ (some g)) hg
    have X2 := Lib.hid (X2.out.grown hg5 (fun e => by have := Option.some.inj e; omega))
    have X3 := Lib.hid (X3.out.grown hg5 (fun e => by have := Option.some.inj e; omega))
    have Ho := Lib.hid (Ho.out.kept hg5 (fun g' hA e => by have := (Ho.out.ge hA).1; have := Option.some.inj e; omega))
    have Hg := Lib.hid (gtrans Hg.out hg5)
    have Hr := Lib.hid hr
    clear hl hx hg hg5 hr t0 t1 t2
    have t0 := X3.out.cell0
    have t1 := X3.out.cell1
    have t2 := X3.out.lt
    have t3 := X3.out.frozen 0
    go_upto_region 9 with (fail)
    obtain ⟨y6, hy6⟩ : ∃ y6, y6 = y5.setCell ⟨y.heap.size, 0, none⟩ (.int .i64 x) := ⟨_, rfl⟩
    have hBg := Hr.out.1
    have X2 : Hid (Bx 25 y6 w.heap.size 0 (.slice none 0 0)) := Lib.hid (by rw [hy6]; exact X2.out.far (p := ⟨y.heap.size, 0, none⟩) (by show w.heap.size ≠ y.heap.size; omega) _)
    have X3 : Hid (Bx 25 y6 y.heap.size x (.slice (some ⟨ga, 0, none⟩) n c)) := Lib.hid (by rw [hy6]; exact X3.out.set0 x)
    have Ho : Hid (Own y6 (w.heap.size + 1) (some ⟨ga, 0, none⟩) n c cs) := Lib.hid (by rw [hy6]; exact Ho.out.far ⟨y.heap.size, 0, none⟩ (fun g' hA => by injection hA with hA; injection hA; show g' ≠ y.heap.size; omega) _)
    have Hr : Hid (Rdr y6 B g (q1 + 1 + 1)) := Lib.hid (by rw [hy6]; exact Hr.out.far ⟨y.heap.size, 0, none⟩ (by show g ≠ y.heap.size; omega) (by show B ≤ y.heap.size; omega) _)
    have Hg : Hid (w.grownBy y6 (some g)) := Lib.hid (by rw [hy6]; exact gset Hg.out ⟨y.heap.size, 0, none⟩ (by show w.heap.size ≤ y.heap.size; omega) _)
    rw [← hy6]
    clear hy6 t0 t1 t2 t3
    have Hi := Lib.hid (IntsF.of Ho.out)
    have K0 := Lib.hid ((X2.out.set0 x).cell0)
    have K1 := Lib.hid (((X2.out.set0 x).set1 (.slice (some ⟨ga, 0, none⟩) n c)).cell1)
    have t0 := X3.out.cell0
    have t1 := X3.out.cell1
    have t2 := X3.out.lt
    have r0 := X2.out.cell0
    have r1 := X2.out.cell1
    have r2 := X2.out.frozen 0
    have r3 := X2.out.frozen 1
    have r4 := X2.out.lt
    have hBg := Hr.out.1
    have Hr3 := Lib.hid ((Hr.out.far ⟨w.heap.size, 0, none⟩ (by show g ≠ w.heap.size; omega) (by show B ≤ w.heap.size; omega) (.int .i64 x)).far ⟨w.heap.size, 1, none⟩ (by show g ≠ w.heap.size; omega) (by show B ≤ w.heap.size; omega) (.slice (some ⟨ga, 0, none⟩) n c))
    have Hg3 := Lib.hid (gset (gset Hg.out ⟨w.heap.size, 0, none⟩ (Nat.le_refl _) (.int .i64 x)) ⟨w.heap.size, 1, none⟩ (Nat.le_refl _) (.slice (some ⟨ga, 0, none⟩) n c))
    have Hi3 := Lib.hid ((Hi.out.far ⟨w.heap.size, 0, none⟩ (Nat.lt_succ_self _) (.int .i64 x)).far ⟨w.heap.size, 1, none⟩ (Nat.lt_succ_self _) (.slice (some ⟨ga, 0, none⟩) n c))
    go_wp2_with fail
    have k0 := K0.out
    have k1 := K1.out
    refine bodyPost_ret (v := .agg #[.int .i64 x, .slice (some ⟨ga, 0, none⟩) n c]) (by simp [results, Tryd.results42, go_sem, k0, k1]) rfl ?_
    exact ⟨_, _, _, _, _, _, rfl, Hi3.out.weaken (by omega), by omega, by omega, by omega, Hr3.out, by omega, Hg3.out⟩
  · have e0 : (x0 == 0) = false := by simpa using h0
    by_cases h1 : x0 = 1
    · subst h1
      clear k1 k2 h0 e0
      obtain ⟨m, rfl⟩ : ∃ m, n = m + 1 := ⟨n - 1, by omega⟩
      obtain ⟨d, rfl⟩ : ∃ d, c = d + 1 := ⟨c - 1, by omega⟩
      have t0 := X3.out.cell0
      have t1 := X3.out.cell1
      have t2 := X3.out.lt
      have t3 := X3.out.frozen 1
      by_cases hd : d = 0
      · subst hd
        obtain rfl : m = 0 := by omega
        go_upto_region 9 with (fail)
        obtain ⟨y6, hy6⟩ : ∃ y6, y6 = y4.setCell ⟨y.heap.size, 1, none⟩ (.slice (some ⟨ga, 0, none⟩) 0 0) := ⟨_, rfl⟩
        have hBg := Hr.out.1
        have hgl := Hr.out.lt
        have X2 : Hid (Bx 25 y6 w.heap.size 0 (.slice none 0 0)) := Lib.hid (by rw [hy6]; exact X2.out.far (p := ⟨y.heap.size, 1, none⟩) (by show w.heap.size ≠ y.heap.size; omega) _)
        have X3 : Hid (Bx 25 y6 y.heap.size s (.slice (some ⟨ga, 0, none⟩) 0 0)) := Lib.hid (by rw [hy6]; exact X3.out.set1 _)
        have Ho : Hid (Own y6 (w.heap.size + 1) (some ⟨ga, 0, none⟩) (0 + 1) (0 + 1) cs) := Lib.hid (by rw [hy6]; exact Ho.out.far ⟨y.heap.size, 1, none⟩ (fun g' hA => by injection hA with hA; injection hA; show g' ≠ y.heap.size; omega) _)
        have Hr : Hid (Rdr y6 B g (q1 + 1)) := Lib.hid (by rw [hy6]; exact Hr.out.far ⟨y.heap.size, 1, none⟩ (by show g ≠ y.heap.size; omega) (by show B ≤ y.heap.size; omega) _)
        have Hg : Hid (w.grownBy y6 (some g)) := Lib.hid (by rw [hy6]; exact gset Hg.out ⟨y.heap.size, 1, none⟩ (by show w.heap.size ≤ y.heap.size; omega) _)
        rw [← hy6]
        clear hy6 t0 t1 t2 t3
        have Hi : Hid (IntsF y6 (w.heap.size + 1) (some ⟨ga, 0, none⟩) 0 []) := Lib.hid ⟨rfl, .inl rfl⟩
        have K0 := Lib.hid ((X2.out.set0 s).cell0)
        have K1 := Lib.hid (((X2.out.set0 s).set1 (.slice (some ⟨ga, 0, none⟩) 0 0)).cell1)
        have t0 := X3.out.cell0
        have t1 := X3.out.cell1
        have t2 := X3.out.lt
        have r0 := X2.out.cell0
        have r1 := X2.out.cell1
        have r2 := X2.out.frozen 0
        have r3 := X2.out.frozen 1
        have r4 := X2.out.lt
        have hBg := Hr.out.1
        have Hr3 := Lib.hid ((Hr.out.far ⟨w.heap.size, 0, none⟩ (by show g ≠ w.heap.size; omega) (by show B ≤ w.heap.size; omega) (.int .i64 s)).far ⟨w.heap.size, 1, none⟩ (by show g ≠ w.heap.size; omega) (by show B ≤ w.heap.size; omega) (.slice (some ⟨ga, 0, none⟩) 0 0))
        have Hg3 := Lib.hid (gset (gset Hg.out ⟨w.heap.size, 0, none⟩ (Nat.le_refl _) (.int .i64 s)) ⟨w.heap.size, 1, none⟩ (Nat.le_refl _) (.slice (some ⟨ga, 0, none⟩) 0 0))
        have Hi3 := Lib.hid ((Hi.out.far ⟨w.heap.size, 0, none⟩ (Nat.lt_succ_self _) (.int .i64 s)).far ⟨w.heap.size, 1, none⟩ (Nat.lt_succ_self _) (.slice (some ⟨ga, 0, none⟩) 0 0))
        go_wp2_with fail
        have k0 := K0.out
        have k1 := K1.out
        refine bodyPost_ret (v := .agg #[.int .i64 s, .slice (some ⟨ga, 0, none⟩) 0 0]) (by simp [results, Tryd.results42, go_sem, k0, k1]) rfl ?_
        exact ⟨_, _, _, _, _, _, rfl, Hi3.out.weaken (by omega), by omega, by omega, by omega, Hr3.out, by omega, Hg3.out⟩
      · have hd' : ¬ (d + 1 = 1) := by omega
        go_upto_region 9 with (fail)
        obtain ⟨y6, hy6⟩ : ∃ y6, y6 = y4.setCell ⟨y.heap.size, 1, none⟩ (.slice (some ⟨ga, 1, none⟩) m d) := ⟨_, rfl⟩
        have hBg := Hr.out.1
        have hgl := Hr.out.lt
        have X2 : Hid (Bx 25 y6 w.heap.size 0 (.slice none 0 0)) := Lib.hid (by rw [hy6]; exact X2.out.far (p := ⟨y.heap.size, 1, none⟩) (by show w.heap.size ≠ y.heap.size; omega) _)
        have X3 : Hid (Bx 25 y6 y.heap.size s (.slice (some ⟨ga, 1, none⟩) m d)) := Lib.hid (by rw [hy6]; exact X3.out.set1 _)
        have Ho : Hid (Own y6 (w.heap.size + 1) (some ⟨ga, 0, none⟩) (m + 1) (d + 1) cs) := Lib.hid (by rw [hy6]; exact Ho.out.far ⟨y.heap.size, 1, none⟩ (fun g' hA => by injection hA with hA; injection hA; show g' ≠ y.heap.size; omega) _)
        have Hr : Hid (Rdr y6 B g (q1 + 1)) := Lib.hid (by rw [hy6]; exact Hr.out.far ⟨y.heap.size, 1, none⟩ (by show g ≠ y.heap.size; omega) (by show B ≤ y.heap.size; omega) _)
        have Hg : Hid (w.grownBy y6 (some g)) := Lib.hid (by rw [hy6]; exact gset Hg.out ⟨y.heap.size, 1, none⟩ (by show w.heap.size ≤ y.heap.size; omega) _)
        rw [← hy6]
        clear hy6 t0 t1 t2 t3
        have Hi := Lib.hid (IntsF.tail (IntsF.of Ho.out))
        have K0 := Lib.hid ((X2.out.set0 s).cell0)
        have K1 := Lib.hid (((X2.out.set0 s).set1 (.slice (some ⟨ga, 1, none⟩) m d)).cell1)
        have t0 := X3.out.cell0
        have t1 := X3.out.cell1
        have t2 := X3.out.lt
        have r0 := X2.out.cell0
        have r1 := X2.out.cell1
        have r2 := X2.out.frozen 0
        have r3 := X2.out.frozen 1
        have r4 := X2.out.lt
        have hBg := Hr.out.1
        have Hr3 := Lib.hid ((Hr.out.far ⟨w.heap.size, 0, none⟩ (by show g ≠ w.heap.size; omega) (by show B ≤ w.heap.size; omega) (.int .i64 s)).far ⟨w.heap.size, 1, none⟩ (by show g ≠ w.heap.size; omega) (by show B ≤ w.heap.size; omega) (.slice (some ⟨ga, 1, none⟩) m d))
        have Hg3 := Lib.hid (gset (gset Hg.out ⟨w.heap.size, 0, none⟩ (Nat.le_refl _) (.int .i64 s)) ⟨w.heap.size, 1, none⟩ (Nat.le_refl _) (.slice (some ⟨ga, 1, none⟩) m d))
        have Hi3 := Lib.hid ((Hi.out.far ⟨w.heap.size, 0, none⟩ (Nat.lt_succ_self _) (.int .i64 s)).far ⟨w.heap.size, 1, none⟩ (Nat.lt_succ_self _) (.slice (some ⟨ga, 1, none⟩) m d))
        go_wp2_with fail
        have k0 := K0.out
        have k1 := K1.out
        refine bodyPost_ret (v := .agg #[.int .i64 s, .slice (some ⟨ga, 1, none⟩) m d]) (by simp [results, Tryd.results42, go_sem, k0, k1]) rfl ?_
        exact ⟨_, _, _, _, _, _, rfl, Hi3.out.weaken (by omega), by omega, by omega, by omega, Hr3.out, by omega, Hg3.out⟩
    · have e1 : (x0 == 1) = false := by simpa using h1
      by_cases h2 : x0 = 2
      · subst h2
        clear k1 k2 h0 h1 e0 e1
        have t0 := X3.out.cell0
        have t1 := X3.out.cell1
        have t2 := X3.out.lt
        have hlt4 := Hr.out.lt
        have hn0 : (0 : Int) < n := by omega
        go_wp2_with fail
        go_region_with (first | (go_at_call 74; refine (r_one B g (q1 + 1) _ _ [-1, 3] (y4.heap.size + 1) _ (by exact (show Rdr (y4.alloc (.cells #[.int .i64 (-1), .int .i64 3] 3)) B g (q1 + 1) from Hr.out.below ((Below.refl _ _).alloc (Nat.le_refl _) _) Hr.out.lt)) (by omega) (by exact Ints.lit y4 3 [-1, 3]) (by show y4.heap.size + 1 ≤ (y4.alloc (.cells #[.int .i64 (-1), .int .i64 3] 3)).heap.size; simp) (by simp) (by simp) (by rintro b o e; injection e with e; injection e; omega)).mono ?_; rintro e y5 ⟨x, rfl, hx, hr, hg⟩; have hg5 : y4.grownBy y5 (some g) := gtrans (World.grownBy_alloc y4 (.cells #[.int .i64 (-1), .int .i64 3] 3) (some g)) ⟨hg.os, hg.tape, hg.output, hg.size, hg.block⟩; have HX2 := Lib.hid (X2.out.grown hg5 (fun e => by have := Option.some.inj e; omega)); have HX3 := Lib.hid (X3.out.grown hg5 (fun e => by have := Option.some.inj e; omega)); have HO := Lib.hid (Ho.out.kept hg5 (fun g' hA e => by have := (Ho.out.ge hA).1; have := Option.some.inj e; omega)); have u0 := HX3.out.cell0; have u1 := HX3.out.cell1; have u2 := HX3.out.lt; have u3 := World.ownsRow.cellAt HO.out.2 0 (by omega); rw [List.getElem?_eq_getElem (by rw [List.length_map, HO.out.1]; omega)] at u3; have u4 := World.ownsRow.frozenAt HO.out.2 0; have HR := Lib.hid hr; have HG := Lib.hid (gtrans Hg.out hg5); clear hr hg hg5 hx))
        all_goals go_upto_region 9 with (fail)
        all_goals
          obtain ⟨y6, hy6⟩ : ∃ y6, y6 = y5.setCell ⟨ga, 0, none⟩ (.int .i64 x) := ⟨_, rfl⟩
          have hBg := HR.out.1
          have X2 : Hid (Bx 25 y6 w.heap.size 0 (.slice none 0 0)) := Lib.hid (by rw [hy6]; exact HX2.out.far (p := ⟨ga, 0, none⟩) (by show w.heap.size ≠ ga; omega) _)
          have X3 : Hid (Bx 25 y6 y.heap.size s (.slice (some ⟨ga, 0, none⟩) n c)) := Lib.hid (by rw [hy6]; exact HX3.out.far (p := ⟨ga, 0, none⟩) (by show y.heap.size ≠ ga; omega) _)
          have Ho : Hid (Own y6 (w.heap.size + 1) (some ⟨ga, 0, none⟩) n c (cs.set 0 x)) := Lib.hid (by rw [hy6]; exact (HO.out.stored 0 x).1)
          have Hr : Hid (Rdr y6 B g (q1 + 1 + 1)) := Lib.hid (by rw [hy6]; exact HR.out.far ⟨ga, 0, none⟩ (by show g ≠ ga; omega) (by show B ≤ ga; omega) _)
          have Hg : Hid (w.grownBy y6 (some g)) := Lib.hid (by rw [hy6]; exact gset HG.out ⟨ga, 0, none⟩ (by show w.heap.size ≤ ga; omega) _)
          rw [← hy6]
          clear hy6 u0 u1 u2 u3 u4 t0 t1 t2
          have Hi := Lib.hid (IntsF.of Ho.out)
          have K0 := Lib.hid ((X2.out.set0 s).cell0)
          have K1 := Lib.hid (((X2.out.set0 s).set1 (.slice (some ⟨ga, 0, none⟩) n c)).cell1)
          have t0 := X3.out.cell0
          have t1 := X3.out.cell1
          have t2 := X3.out.lt
          have r0 := X2.out.cell0
          have r1 := X2.out.cell1
          have r2 := X2.out.frozen 0
          have r3 := X2.out.frozen 1
          have r4 := X2.out.lt
          have hBg := Hr.out.1
          have Hr3 := Lib.hid ((Hr.out.far ⟨w.heap.size, 0, none⟩ (by show g ≠ w.heap.size; omega) (by show B ≤ w.heap.size; omega) (.int .i64 s)).far ⟨w.heap.size, 1, none⟩ (by show g ≠ w.heap.size; omega) (by show B ≤ w.heap.size; omega) (.slice (some ⟨ga, 0, none⟩) n c))
          have Hg3 := Lib.hid (gset (gset Hg.out ⟨w.heap.size, 0, none⟩ (Nat.le_refl _) (.int .i64 s)) ⟨w.heap.size, 1, none⟩ (Nat.le_refl _) (.slice (some ⟨ga, 0, none⟩) n c))
          have Hi3 := Lib.hid ((Hi.out.far ⟨w.heap.size, 0, none⟩ (Nat.lt_succ_self _) (.int .i64 s)).far ⟨w.heap.size, 1, none⟩ (Nat.lt_succ_self _) (.slice (some ⟨ga, 0, none⟩) n c))
          go_wp2_with fail
          have k0 := K0.out
          have k1 := K1.out
          refine bodyPost_ret (v := .agg #[.int .i64 s, .slice (some ⟨ga, 0, none⟩) n c]) (by simp [results, Tryd.results42, go_sem, k0, k1]) rfl ?_
          exact ⟨_, _, _, _, _, _, rfl, Hi3.out.weaken (by omega), by omega, by omega, by omega, Hr3.out, by omega, Hg3.out⟩
      · have e2 : (x0 == 2) = false := by simpa using h2
        clear h0 h1 h2
        have Hi := Lib.hid (IntsF.of Ho.out)
        have K0 := Lib.hid ((X2.out.set0 s).cell0)
        have K1 := Lib.hid (((X2.out.set0 s).set1 (.slice (some ⟨ga, 0, none⟩) n c)).cell1)
        have t0 := X3.out.cell0
        have t1 := X3.out.cell1
        have t2 := X3.out.lt
        have r0 := X2.out.cell0
        have r1 := X2.out.cell1
        have r2 := X2.out.frozen 0
        have r3 := X2.out.frozen 1
        have r4 := X2.out.lt
        have hBg := Hr.out.1
        have Hr3 := Lib.hid ((Hr.out.far ⟨w.heap.size, 0, none⟩ (by show g ≠ w.heap.size; omega) (by show B ≤ w.heap.size; omega) (.int .i64 s)).far ⟨w.heap.size, 1, none⟩ (by show g ≠ w.heap.size; omega) (by show B ≤ w.heap.size; omega) (.slice (some ⟨ga, 0, none⟩) n c))
        have Hg3 := Lib.hid (gset (gset Hg.out ⟨w.heap.size, 0, none⟩ (Nat.le_refl _) (.int .i64 s)) ⟨w.heap.size, 1, none⟩ (Nat.le_refl _) (.slice (some ⟨ga, 0, none⟩) n c))
        have Hi3 := Lib.hid ((Hi.out.far ⟨w.heap.size, 0, none⟩ (Nat.lt_succ_self _) (.int .i64 s)).far ⟨w.heap.size, 1, none⟩ (Nat.lt_succ_self _) (.slice (some ⟨ga, 0, none⟩) n c))
        go_wp2_with fail
        have k0 := K0.out
        have k1 := K1.out
        refine bodyPost_ret (v := .agg #[.int .i64 s, .slice (some ⟨ga, 0, none⟩) n c]) (by simp [results, Tryd.results42, go_sem, k0, k1]) rfl ?_
        exact ⟨_, _, _, _, _, _, rfl, Hi3.out.weaken (by omega), by omega, by omega, by omega, Hr3.out, by omega, Hg3.out⟩
end Go.Proofs.YtpogjegihhljpaaDoor

namespace Go.Proofs.YtpogjegihhljpaaDoor
set_option maxRecDepth 100000
open Go.RowKit

theorem undrew {a b : World} (h : Below a.drew.heap.size a.drew b) : Below a.heap.size a b := ⟨h.os, h.tape, h.output, h.size, h.block⟩
theorem Ints.step {w w' : World} {n : Nat} {A : Option Addr} {xs : List Int} (h : Ints w w.heap.size A n xs) (hb : Below w.heap.size w w') : Ints w' w'.heap.size A n xs := (h.below hb (Nat.le_refl _)).more hb.size
theorem Bx.step {t : TypeId} {w w' : World} {g : Nat} {s : Int} {v : Value} (h : Bx t w g s v) (hb : Below w.heap.size w w') : Bx t w' g s v := h.below hb h.lt
theorem bstep {a w w' : World} (h : Below a.heap.size a w) (hb : Below w.heap.size w w') : Below a.heap.size a w' := h.trans (hb.mono h.size)

theorem l_eqB (s : Int) (w : World) (A A' : Option Addr) (n c c' : Nat) (xs : List Int) (h : Ints w w.heap.size A n xs) (h' : Ints w w.heap.size A' n xs) (hn : n ≤ 1000000) :
    Calls Tryd.prog 15 #[.agg #[.int .i64 s, .slice A n c], .agg #[.int .i64 s, .slice A' n c']] w fun e w' => e = .returned (.bool true) ∧ Below w.heap.size w w' := by
  have hb2 : Below w.heap.size w ((w.alloc (.cells #[.int .i64 s, .slice A n c] 25)).alloc (.cells #[.int .i64 s, .slice A' n c'] 25)) := ((Below.refl _ _).alloc (Nat.le_refl _) _).alloc (by simp) _
  have H := Lib.hid (h.below hb2 (Nat.le_refl _))
  have H' := Lib.hid (h'.below hb2 (Nat.le_refl _))
  have Hb := Lib.hid hb2
  clear h h' hb2
  go_enter Tryd.func15, Tryd.ntmps15
  go_wp2_with fail
  refine (eqi_t _ _ _ _ _ n _ _ xs H.out H'.out (by omega)).mono ?_
  rintro e w' ⟨k, rfl, rfl⟩
  go_wp2_with fail
  go_ret
  exact ⟨rfl, drew_below Hb.out k⟩

theorem IsRow.below {k : IntKind} {w w' : World} {a : Option Addr} {len cap : Nat} {zs : List Int} (h : IsRow k w a len cap zs) (hb : Below w.heap.size w w') : IsRow k w' a len cap zs := by
  rcases h with h | ⟨x, hx, h1, h2, h3, h4, h5⟩
  · exact .inl h
  · refine .inr ⟨x, hx, h1, h2, h3, fun i hi => ?_, h5⟩
    have := h4 i hi
    exact (World.cell?_of_block (w := w) (a := x.add i) (hb.block _ (World.block_lt_of_cell? w _ this))).trans this

/-- What a law's draw of a board gives. -/
def DrawnL (w : World) (e : Ending) (w' : World) : Prop :=
  ∃ (s : Int) (A : Option Addr) (n c : Nat) (cs : List Int), e = .returned (.agg #[.int .i64 s, .slice A n c]) ∧ Ints w' w'.heap.size A n cs ∧ n ≤ 49 ∧ 0 ≤ s ∧ s ≤ 8 ∧ Below w.heap.size w w'
/-- The same with an int. -/
def DrawnLI (P : Int → Prop) (w : World) (e : Ending) (w' : World) : Prop :=
  ∃ (s : Int) (A : Option Addr) (n c : Nat) (cs : List Int) (x : Int), e = .returned (.tuple #[.agg #[.int .i64 s, .slice A n c], .int .i64 x]) ∧ Ints w' w'.heap.size A n cs ∧ n ≤ 49 ∧ 0 ≤ s ∧ s ≤ 8 ∧ P x ∧ Below w.heap.size w w'

end Go.Proofs.YtpogjegihhljpaaDoor

namespace Go.Proofs.YtpogjegihhljpaaDoor
set_option maxRecDepth 100000
open Go.RowKit

theorem r_anyColor (B g q : Nat) (w : World) (h : Rdr w B g q) (hq : q ≤ 1000000000000) :
    Calls Tryd.prog 43 #[.pointer (some ⟨g, 0, none⟩)] w fun e w' => Got (fun x => -1 ≤ x ∧ x ≤ 3) w B g (q + 1) e w' := by
  have hlt := h.lt
  go_enter Tryd.func43, Tryd.ntmps43
  go_wp2_with fail
  have hl := Ints.lit w 3 [1, 2, 1, 2, 1, 2, 1, 2, 1, 2, 0, 3, -1]
  refine (r_one B g q _ _ [1, 2, 1, 2, 1, 2, 1, 2, 1, 2, 0, 3, -1] _ _ (h.below ((Below.refl _ _).alloc (Nat.le_refl _) _) hlt) hq hl (by simp) (by simp) (by simp) (by rintro b o e; injection e with e; injection e; omega)).mono ?_
  rintro e w1 ⟨x, rfl, hx, hr, hw⟩
  have Hr := Lib.hid hr
  have Hw := Lib.hid (gtrans (World.grownBy_alloc w _ (some g)) hw)
  have Hx := Lib.hid hx
  clear hr hw hl hx
  go_wp2_with fail
  go_ret
  refine ⟨_, rfl, ?_, Hr.out, Hw.out⟩
  have := Hx.out
  simp at this
  omega

set_option maxRecDepth 100000 in
set_option maxHeartbeats 2000000 in
theorem d_cnt (w : World) (a : Option Addr) (len cap : Nat) (zs : List Int) (h : IsRow .u8 w a len cap zs) :
    Calls Tryd.prog 65 #[.slice a len cap] w fun e w' => DrawnLI (fun x => -1 ≤ x ∧ x ≤ 8) w e w' := by
  have hb1 : Below w.heap.size w (w.alloc (.cells #[.int .i64 0, .slice none 0 0] 25)) := (Below.refl _ _).alloc (Nat.le_refl _) _
  have X2 := Lib.hid (Bx.new 25 w 0 (.slice none 0 0))
  have Hb := Lib.hid hb1
  have hsz : (w.alloc (.cells #[.int .i64 0, .slice none 0 0] 25)).heap.size = w.heap.size + 1 := by simp
  have Hsz := Lib.hid hsz
  have H := Lib.hid (h.below hb1)
  clear h hb1 hsz
  go_enter Tryd.func65, Tryd.ntmps65
  go_wp2_with fail
  refine (r_new _ _ _ _ zs H.out).mono ?_
  rintro e y ⟨g, rfl, hr, hb⟩
  have Hg := Lib.hid hr.1
  rw [Hsz.out] at Hg
  have hg1 := Hg.out
  have X2 := Lib.hid (X2.out.below hb X2.out.lt)
  have Hb := Lib.hid (Hb.out.trans (hb.mono (by rw [Hsz.out]; omega)))
  have zy := X2.out.lt
  obtain ⟨Bq, Hr⟩ : ∃ Bq, Hid (Rdr y Bq g 0) := ⟨_, Lib.hid hr⟩
  clear hr hb
  go_wp2_with fail
  have hgy := Hr.out.lt
  refine (r_any Bq g 0 _ Hr.out (by omega)).mono ?_
  rintro e y2 ⟨s, A, n, c, cs, q', rfl, hi, hn, s0, s8, hr, hq, hg⟩
  have X2 := Lib.hid (X2.out.grown hg (fun e => by have := Option.some.inj e; omega))
  have Hb := Lib.hid (Hb.out.trans (below_g hg (by omega) (fun k hk => by have := Option.some.inj hk; omega)))
  have Hi := Lib.hid hi
  have Hr := Lib.hid hr
  have hgl := hr.lt
  have zz := hg.size
  clear hi hr hg
  go_upto_region 3 with (fail)
  obtain ⟨y3, hy3, hb3, z3, z4⟩ := new_box y2 (.cells #[.int .i64 s, .slice A n c] 25)
  have X5 : Hid (Bx 25 y3 y2.heap.size s (.slice A n c)) := Lib.hid (by rw [hy3]; exact Bx.new _ _ _ _)
  rw [← hy3]
  clear hy3
  have X2 := Lib.hid (X2.out.below hb3 X2.out.lt)
  have Hr := Lib.hid (Hr.out.below hb3 Hr.out.lt)
  have Hi := Lib.hid (Hi.out.below hb3)
  have Hb := Lib.hid (Hb.out.trans (hb3.mono (by omega)))
  clear hb3
  have t0 := X5.out.cell0
  have t1 := X5.out.cell1
  have t2 := X5.out.lt
  go_region_with (first | (go_at_call 43; refine (r_anyColor Bq g q' _ (by exact Hr.out) (by omega)).mono ?_; rintro e y5 ⟨x, rfl, hx, hr, hg⟩; have hg5 : y3.grownBy y5 (some g) := ⟨hg.os, hg.tape, hg.output, hg.size, hg.block⟩; have hx8 : -1 ≤ x ∧ x ≤ 8 := (by omega); have HX2 := Lib.hid (X2.out.grown hg5 (fun e => by have := Option.some.inj e; omega)); have HX5 := Lib.hid (X5.out.grown hg5 (fun e => by have := Option.some.inj e; omega)); have HI := Lib.hid (Hi.out.grown hg5 (by omega)); have HB := Lib.hid (Hb.out.trans (below_g hg5 (by omega) (fun k hk => by have := Option.some.inj hk; omega))); have u0 := HX5.out.cell0; have u1 := HX5.out.cell1; have u2 := HX5.out.lt; have r0 := HX2.out.cell0; have r1 := HX2.out.cell1; have r2 := HX2.out.frozen 0; have r3 := HX2.out.frozen 1; have r4 := HX2.out.lt; clear hr hg hg5))
  all_goals go_wp2_with fail
  all_goals
    have k0 := (HX2.out.set0 s).cell0
    have k1 := ((HX2.out.set0 s).set1 (.slice A n c)).cell1
    refine bodyPost_ret (v := .tuple #[.agg #[.int .i64 s, .slice A n c], .int .i64 x]) (by simp [results, Tryd.results65, go_sem, k0, k1]) rfl ?_
    have hi3 := ((HI.out.far ⟨w.heap.size, 0, none⟩ (by show w.heap.size < y.heap.size; omega) (.int .i64 s)).far ⟨w.heap.size, 1, none⟩ (by show w.heap.size < y.heap.size; omega) (.slice A n c)).ints
    have hb3 := (HB.out.setCell (p := ⟨w.heap.size, 0, none⟩) (Nat.le_refl _) (.int .i64 s)).setCell (p := ⟨w.heap.size, 1, none⟩) (Nat.le_refl _) (.slice A n c)
    exact ⟨_, _, _, _, _, _, rfl, hi3, hn, s0, s8, hx8, hb3⟩

end Go.Proofs.YtpogjegihhljpaaDoor

namespace Go.Proofs.YtpogjegihhljpaaDoor
set_option maxRecDepth 100000
open Go.RowKit

/-- The same, and the row lies in new memory. -/
def DrawnLF (P : Int → Prop) (w : World) (e : Ending) (w' : World) : Prop :=
  ∃ (s : Int) (A : Option Addr) (n c : Nat) (cs : List Int) (x : Int) (lo : Nat), e = .returned (.tuple #[.agg #[.int .i64 s, .slice A n c], .int .i64 x]) ∧ w.heap.size ≤ lo ∧ IntsF w' lo A n cs ∧ n ≤ 49 ∧ 0 ≤ s ∧ s ≤ 8 ∧ P x ∧ Below w.heap.size w w'

set_option maxRecDepth 100000 in
set_option maxHeartbeats 2000000 in
theorem d_cntF (w : World) (a : Option Addr) (len cap : Nat) (zs : List Int) (h : IsRow .u8 w a len cap zs) :
    Calls Tryd.prog 65 #[.slice a len cap] w fun e w' => DrawnLF (fun x => -1 ≤ x ∧ x ≤ 8) w e w' := by
  have hb1 : Below w.heap.size w (w.alloc (.cells #[.int .i64 0, .slice none 0 0] 25)) := (Below.refl _ _).alloc (Nat.le_refl _) _
  have X2 := Lib.hid (Bx.new 25 w 0 (.slice none 0 0))
  have Hb := Lib.hid hb1
  have hsz : (w.alloc (.cells #[.int .i64 0, .slice none 0 0] 25)).heap.size = w.heap.size + 1 := by simp
  have Hsz := Lib.hid hsz
  have H := Lib.hid (h.below hb1)
  clear h hb1 hsz
  go_enter Tryd.func65, Tryd.ntmps65
  go_wp2_with fail
  refine (r_new _ _ _ _ zs H.out).mono ?_
  rintro e y ⟨g, rfl, hr, hb⟩
  have Hg := Lib.hid hr.1
  rw [Hsz.out] at Hg
  have hg1 := Hg.out
  have X2 := Lib.hid (X2.out.below hb X2.out.lt)
  have Hb := Lib.hid (Hb.out.trans (hb.mono (by rw [Hsz.out]; omega)))
  have zy := X2.out.lt
  obtain ⟨Bq, Hr⟩ : ∃ Bq, Hid (Rdr y Bq g 0) := ⟨_, Lib.hid hr⟩
  clear hr hb
  go_wp2_with fail
  have hgy := Hr.out.lt
  refine (r_any Bq g 0 _ Hr.out (by omega)).mono ?_
  rintro e y2 ⟨s, A, n, c, cs, q', rfl, hi, hn, s0, s8, hr, hq, hg⟩
  have X2 := Lib.hid (X2.out.grown hg (fun e => by have := Option.some.inj e; omega))
  have Hb := Lib.hid (Hb.out.trans (below_g hg (by omega) (fun k hk => by have := Option.some.inj hk; omega)))
  have Hi := Lib.hid hi
  have Hr := Lib.hid hr
  have hgl := hr.lt
  have zz := hg.size
  clear hi hr hg
  go_upto_region 3 with (fail)
  obtain ⟨y3, hy3, hb3, z3, z4⟩ := new_box y2 (.cells #[.int .i64 s, .slice A n c] 25)
  have X5 : Hid (Bx 25 y3 y2.heap.size s (.slice A n c)) := Lib.hid (by rw [hy3]; exact Bx.new _ _ _ _)
  rw [← hy3]
  clear hy3
  have X2 := Lib.hid (X2.out.below hb3 X2.out.lt)
  have Hr := Lib.hid (Hr.out.below hb3 Hr.out.lt)
  have Hi := Lib.hid (Hi.out.below hb3)
  have Hb := Lib.hid (Hb.out.trans (hb3.mono (by omega)))
  clear hb3
  have t0 := X5.out.cell0
  have t1 := X5.out.cell1
  have t2 := X5.out.lt
  go_region_with (first | (go_at_call 43; refine (r_anyColor Bq g q' _ (by exact Hr.out) (by omega)).mono ?_; rintro e y5 ⟨x, rfl, hx, hr, hg⟩; have hg5 : y3.grownBy y5 (some g) := ⟨hg.os, hg.tape, hg.output, hg.size, hg.block⟩; have hx8 : -1 ≤ x ∧ x ≤ 8 := (by omega); have HX2 := Lib.hid (X2.out.grown hg5 (fun e => by have := Option.some.inj e; omega)); have HX5 := Lib.hid (X5.out.grown hg5 (fun e => by have := Option.some.inj e; omega)); have HI := Lib.hid (Hi.out.grown hg5 (by omega)); have HB := Lib.hid (Hb.out.trans (below_g hg5 (by omega) (fun k hk => by have := Option.some.inj hk; omega))); have u0 := HX5.out.cell0; have u1 := HX5.out.cell1; have u2 := HX5.out.lt; have r0 := HX2.out.cell0; have r1 := HX2.out.cell1; have r2 := HX2.out.frozen 0; have r3 := HX2.out.frozen 1; have r4 := HX2.out.lt; clear hr hg hg5))
  all_goals go_wp2_with fail
  all_goals
    have k0 := (HX2.out.set0 s).cell0
    have k1 := ((HX2.out.set0 s).set1 (.slice A n c)).cell1
    refine bodyPost_ret (v := .tuple #[.agg #[.int .i64 s, .slice A n c], .int .i64 x]) (by simp [results, Tryd.results65, go_sem, k0, k1]) rfl ?_
    have hi3 := ((HI.out.far ⟨w.heap.size, 0, none⟩ (by show w.heap.size < y.heap.size; omega) (.int .i64 s)).far ⟨w.heap.size, 1, none⟩ (by show w.heap.size < y.heap.size; omega) (.slice A n c))
    have hb3 := (HB.out.setCell (p := ⟨w.heap.size, 0, none⟩) (Nat.le_refl _) (.int .i64 s)).setCell (p := ⟨w.heap.size, 1, none⟩) (Nat.le_refl _) (.slice A n c)
    exact ⟨_, _, _, _, _, _, _, rfl, (by omega), hi3, hn, s0, s8, hx8, hb3⟩

set_option maxHeartbeats 2000000 in
theorem d_ey (w : World) (a : Option Addr) (len cap : Nat) (zs : List Int) (h : IsRow .u8 w a len cap zs) :
    Calls Tryd.prog 28 #[.slice a len cap] w fun e w' => DrawnLI (fun x => -1 ≤ x ∧ x ≤ 8) w e w' := by
  have hb1 : Below w.heap.size w (w.alloc (.cells #[.int .i64 0, .slice none 0 0] 25)) := (Below.refl _ _).alloc (Nat.le_refl _) _
  have X2 := Lib.hid (Bx.new 25 w 0 (.slice none 0 0))
  have Hb := Lib.hid hb1
  have H := Lib.hid (h.below hb1)
  clear h hb1
  go_enter Tryd.func28, Tryd.ntmps28
  go_wp2_with fail
  refine (d_cntF _ _ _ _ zs H.out).mono ?_
  rintro e y2 ⟨s, A, n, c, cs, x, lo, rfl, hlo, hi, hn, s0, s8, hx, hb⟩
  have hlo2 : w.heap.size < lo := by simp at hlo; omega
  have X2 := Lib.hid (X2.out.below hb X2.out.lt)
  have Hb := Lib.hid (Hb.out.trans (hb.mono (by simp)))
  have Hi := Lib.hid hi
  have Hx := Lib.hid hx
  clear hi hb hx
  have r0 := X2.out.cell0
  have r1 := X2.out.cell1
  have r2 := X2.out.frozen 0
  have r3 := X2.out.frozen 1
  have r4 := X2.out.lt
  have K0 := Lib.hid ((X2.out.set0 s).cell0)
  have K1 := Lib.hid (((X2.out.set0 s).set1 (.slice A n c)).cell1)
  have Hb3 := Lib.hid ((Hb.out.setCell (p := ⟨w.heap.size, 0, none⟩) (Nat.le_refl _) (.int .i64 s)).setCell (p := ⟨w.heap.size, 1, none⟩) (Nat.le_refl _) (.slice A n c))
  go_wp2_with fail
  have k0 := K0.out
  have k1 := K1.out
  refine bodyPost_ret (v := .tuple #[.agg #[.int .i64 s, .slice A n c], .int .i64 x]) (by simp [results, Tryd.results28, go_sem, k0, k1]) rfl ?_
  have hi3 := ((Hi.out.far ⟨w.heap.size, 0, none⟩ hlo2 (.int .i64 s)).far ⟨w.heap.size, 1, none⟩ hlo2 (.slice A n c)).ints
  exact ⟨_, _, _, _, _, _, rfl, hi3, hn, s0, s8, Hx.out, Hb3.out⟩

set_option maxHeartbeats 2000000 in
theorem d_cap (w : World) (a : Option Addr) (len cap : Nat) (zs : List Int) (h : IsRow .u8 w a len cap zs) :
    Calls Tryd.prog 25 #[.slice a len cap] w fun e w' => DrawnLI (fun x => -1 ≤ x ∧ x ≤ 8) w e w' := by
  have hb1 : Below w.heap.size w (w.alloc (.cells #[.int .i64 0, .slice none 0 0] 25)) := (Below.refl _ _).alloc (Nat.le_refl _) _
  have X2 := Lib.hid (Bx.new 25 w 0 (.slice none 0 0))
  have Hb := Lib.hid hb1
  have H := Lib.hid (h.below hb1)
  clear h hb1
  go_enter Tryd.func25, Tryd.ntmps25
  go_wp2_with fail
  refine (d_cntF _ _ _ _ zs H.out).mono ?_
  rintro e y2 ⟨s, A, n, c, cs, x, lo, rfl, hlo, hi, hn, s0, s8, hx, hb⟩
  have hlo2 : w.heap.size < lo := by simp at hlo; omega
  have X2 := Lib.hid (X2.out.below hb X2.out.lt)
  have Hb := Lib.hid (Hb.out.trans (hb.mono (by simp)))
  have Hi := Lib.hid hi
  have Hx := Lib.hid hx
  clear hi hb hx
  have r0 := X2.out.cell0
  have r1 := X2.out.cell1
  have r2 := X2.out.frozen 0
  have r3 := X2.out.frozen 1
  have r4 := X2.out.lt
  have K0 := Lib.hid ((X2.out.set0 s).cell0)
  have K1 := Lib.hid (((X2.out.set0 s).set1 (.slice A n c)).cell1)
  have Hb3 := Lib.hid ((Hb.out.setCell (p := ⟨w.heap.size, 0, none⟩) (Nat.le_refl _) (.int .i64 s)).setCell (p := ⟨w.heap.size, 1, none⟩) (Nat.le_refl _) (.slice A n c))
  go_wp2_with fail
  have k0 := K0.out
  have k1 := K1.out
  refine bodyPost_ret (v := .tuple #[.agg #[.int .i64 s, .slice A n c], .int .i64 x]) (by simp [results, Tryd.results25, go_sem, k0, k1]) rfl ?_
  have hi3 := ((Hi.out.far ⟨w.heap.size, 0, none⟩ hlo2 (.int .i64 s)).far ⟨w.heap.size, 1, none⟩ hlo2 (.slice A n c)).ints
  exact ⟨_, _, _, _, _, _, rfl, hi3, hn, s0, s8, Hx.out, Hb3.out⟩

end Go.Proofs.YtpogjegihhljpaaDoor

namespace Go.Proofs.YtpogjegihhljpaaDoor.Bt
set_option maxRecDepth 100000

/-- The points of a set below n, in ascending order. -/
def pts (m n : Nat) : List Int := ((List.range n).filter fun q => m.testBit q).map fun (q : Nat) => (q : Int)
theorem pts_yes {m j : Nat} (h : m.testBit j = true) : pts m (j + 1) = pts m j ++ [(j : Int)] := by
  unfold pts
  rw [List.range_succ, List.filter_append, List.filter_cons, h]
  simp
theorem pts_no {m j : Nat} (h : m.testBit j = false) : pts m (j + 1) = pts m j := by
  unfold pts
  rw [List.range_succ, List.filter_append, List.filter_cons, h]
  simp
theorem pts_gap {m j k : Nat} (hjk : j ≤ k) (h : ∀ i, j ≤ i → i < k → m.testBit i = false) : pts m k = pts m j := by
  induction k with
  | zero => have : j = 0 := by omega
            rw [this]
  | succ k ih =>
    by_cases e : j = k + 1
    · rw [e]
    · rw [pts_no (h k (by omega) (by omega))]
      exact ih (by omega) fun i h1 h2 => h i h1 (by omega)
theorem pts_len (m n : Nat) : (pts m n).length ≤ n := by
  unfold pts
  rw [List.length_map]
  have := List.length_filter_le (fun q => m.testBit q) (List.range n)
  simpa using this
theorem pts_ext {m m' n : Nat} (h : ∀ q, q < n → m.testBit q = m'.testBit q) : pts m n = pts m' n := by
  unfold pts
  congr 1
  exact List.filter_congr fun q hq => h q (List.mem_range.1 hq)
theorem pts_mem {m n : Nat} {x : Int} : x ∈ pts m n ↔ ∃ q : Nat, x = q ∧ q < n ∧ m.testBit q = true := by
  unfold pts
  simp only [List.mem_map, List.mem_filter, List.mem_range]
  constructor
  · rintro ⟨q, ⟨a, b⟩, rfl⟩
    exact ⟨q, rfl, a, b⟩
  · rintro ⟨q, rfl, a, b⟩
    exact ⟨q, ⟨a, b⟩, rfl⟩
theorem high {m n j : Nat} (h : m < 2 ^ n) (hj : n ≤ j) : m.testBit j = false :=
  Nat.testBit_lt_two_pow (Nat.lt_of_lt_of_le h (Nat.pow_le_pow_right (by decide) hj))
theorem pts_more {m n k : Nat} (h : m < 2 ^ n) (hk : n ≤ k) : pts m k = pts m n := pts_gap hk fun _ hi _ => high h hi

/-- The lowest bit of x. -/
theorem low {x n : Nat} (h0 : x ≠ 0) (h : x < 2 ^ n) : ∃ a, x = 2 ^ (Lib.ctz n x + 1) * a + 2 ^ Lib.ctz n x ∧ Lib.ctz n x < n := by
  obtain ⟨a, ha, hk⟩ := Lib.ctzFrom_spec n x (by omega) h
  have e : Lib.ctz n x = Lib.ctzFrom n x := by simp [Lib.ctz, h0]
  rw [e]
  refine ⟨a, ?_, hk⟩
  have : 2 ^ (Lib.ctzFrom n x + 1) * a + 2 ^ Lib.ctzFrom n x = 2 ^ Lib.ctzFrom n x * (2 * a + 1) := by
    rw [Nat.pow_succ, Nat.mul_add, Nat.mul_one, Nat.mul_assoc]
  rw [this]
  exact ha
theorem two_lt (c : Nat) : 2 ^ c < 2 ^ (c + 1) := Nat.pow_lt_pow_right (by decide) (by omega)
theorem low_bit {x n : Nat} (h0 : x ≠ 0) (h : x < 2 ^ n) : x.testBit (Lib.ctz n x) = true ∧ (∀ i, i < Lib.ctz n x → x.testBit i = false) ∧ ∀ j, (x &&& (x - 1)).testBit j = (x.testBit j && decide (Lib.ctz n x < j)) := by
  obtain ⟨a, ha, _⟩ := low h0 h
  generalize Lib.ctz n x = c at ha
  have hp := Nat.two_pow_pos c
  have e1 : ∀ j, x.testBit j = if j < c + 1 then (2 ^ c).testBit j else a.testBit (j - (c + 1)) := fun j => by
    rw [ha, Nat.testBit_two_pow_mul_add _ (two_lt c)]
  have e2 : ∀ j, (x - 1).testBit j = if j < c + 1 then (2 ^ c - 1).testBit j else a.testBit (j - (c + 1)) := fun j => by
    have : x - 1 = 2 ^ (c + 1) * a + (2 ^ c - 1) := by omega
    rw [this, Nat.testBit_two_pow_mul_add _ (by have := two_lt c; omega)]
  refine ⟨?_, fun i hi => ?_, fun j => ?_⟩
  · rw [e1, if_pos (by omega), Nat.testBit_two_pow]; simp
  · rw [e1, if_pos (by omega), Nat.testBit_two_pow]; simp; omega
  · rw [Nat.testBit_and, e1, e2]
    by_cases hj : j < c + 1
    · rw [if_pos hj, if_pos hj, Nat.testBit_two_pow, Nat.testBit_two_pow_sub_one]
      have : decide (c < j) = false := by simp; omega
      rw [this]
      by_cases hc : c = j
      · subst hc; simp
      · simp [hc]
    · rw [if_neg hj, if_neg hj]
      have : decide (c < j) = true := by simp; omega
      rw [this]; simp
theorem and_pred_lt {x : Nat} (h0 : x ≠ 0) : x &&& (x - 1) < x := Nat.lt_of_le_of_lt Nat.and_le_right (by omega)

/-- What the walk over the bits has at its k-th point: the points below k, and the bits from k on. -/
def From (m k r : Nat) : Prop := ∀ j, r.testBit j = (m.testBit j && decide (k ≤ j))
theorem From.zero (m : Nat) : From m 0 m := fun j => by simp
theorem From.done {m k r n : Nat} (h : From m k r) (h0 : r = 0) (hk : k ≤ n) : pts m k = pts m n := by
  subst h0
  refine (pts_gap hk fun i h1 _ => ?_).symm
  have := h i
  rw [Nat.zero_testBit] at this
  simp at this
  cases e : m.testBit i
  · rfl
  · exact absurd (this e) (by omega)
theorem From.step {m k r n : Nat} (h : From m k r) (h0 : r ≠ 0) (hr : r < 2 ^ n) : pts m (Lib.ctz n r + 1) = pts m k ++ [((Lib.ctz n r : Nat) : Int)] ∧ From m (Lib.ctz n r + 1) (r &&& (r - 1)) ∧ Lib.ctz n r < n ∧ k ≤ Lib.ctz n r := by
  obtain ⟨b1, b2, b3⟩ := low_bit h0 hr
  obtain ⟨_, _, hc⟩ := low h0 hr
  generalize Lib.ctz n r = c at b1 b2 b3 hc
  have hck : k ≤ c := by
    have := h c
    rw [b1] at this
    simp at this
    exact this.2
  have hmc : m.testBit c = true := by
    have := h c
    rw [b1] at this
    simp at this
    exact this.1
  refine ⟨?_, fun j => ?_, hc, hck⟩
  · rw [pts_yes hmc, pts_gap hck fun i h1 h2 => ?_]
    have := h i
    rw [b2 i h2] at this
    simp [h1] at this
    exact this
  · rw [b3, h j]
    by_cases hj : c < j
    · have e1 : decide (k ≤ j) = true := by simp; omega
      have e2 : decide (c + 1 ≤ j) = true := by simp; omega
      have e3 : decide (c < j) = true := by simp; omega
      rw [e1, e2, e3]; simp
    · have e2 : decide (c + 1 ≤ j) = false := by simp; omega
      have e3 : decide (c < j) = false := by simp; omega
      rw [e2, e3]; simp

/-- 2^64 − 1 − a. -/
theorem not_bit {a j : Nat} (ha : a < 18446744073709551616) : (18446744073709551615 - a).testBit j = (decide (j < 64) && !a.testBit j) := by
  have : 18446744073709551615 - a = 2 ^ 64 - (a + 1) := by omega
  rw [this, Nat.testBit_two_pow_sub_succ (by omega)]
theorem andNot_bit {a b j : Nat} (ha : a < 18446744073709551616) (hb : b < 18446744073709551616) : (a &&& (18446744073709551615 - b)).testBit j = (a.testBit j && !b.testBit j) := by
  rw [Nat.testBit_and, not_bit hb]
  by_cases h : j < 64
  · simp [h]
  · rw [high (n := 64) ha (by omega)]; simp
theorem or_lt {a b n : Nat} (ha : a < 2 ^ n) (hb : b < 2 ^ n) : a ||| b < 2 ^ n := Nat.or_lt_two_pow ha hb
theorem and_lt {a b n : Nat} (ha : a < 2 ^ n) : a &&& b < 2 ^ n := Nat.lt_of_le_of_lt Nat.and_le_left ha
end Go.Proofs.YtpogjegihhljpaaDoor.Bt

namespace Go.Proofs.YtpogjegihhljpaaDoor
set_option maxRecDepth 100000
open Go.RowKit

/-- The table of the lowest bits lies in its variable. -/
def Tab (w : World) : Prop := 2 < w.heap.size ∧ ∀ j, j < 64 → w.cell? ⟨2, j, none⟩ = some (.int .u8 ((Lib.deBruijn64tab.getD j 0 : Nat) : Int))
theorem Tab.below {w w' : World} (h : Tab w) (hb : Below w.heap.size w w') : Tab w' :=
  ⟨Nat.lt_of_lt_of_le h.1 hb.size, fun j hj => (hb.cell (p := ⟨2, j, none⟩) h.1).trans (h.2 j hj)⟩
theorem Tab.grown {w w' : World} {B : Nat} {row : Option Nat} (h : Tab w) (hg : w.grownBy w' row) (hB : 2 < B) (hr : ∀ k, row = some k → B ≤ k) : Tab w' :=
  ⟨Nat.lt_of_lt_of_le h.1 hg.size, fun j hj => (World.cell?_of_block (w := w) (hg.block 2 h.1 (fun e => by have := hr _ e.symm; omega))).trans (h.2 j hj)⟩
theorem Tab.alloc {w : World} (h : Tab w) (o : Obj) : Tab (w.alloc o) := h.below ((Below.refl _ _).alloc (Nat.le_refl _) _)
theorem Tab.drewN {w : World} (h : Tab w) (n : Nat) : Tab (w.drewN n) := h
theorem Tab.of {w : World} (h : Lib.TabIs Tryd.prog w "math/bits.deBruijn64tab" .u8 (Lib.deBruijn64tab.map fun (n : Nat) => (n : Int))) (hg : Tryd.prog.globalNamed "math/bits.deBruijn64tab" = some 2) : Tab w := by
  have hc : ∀ j, j < 64 → w.cell? ⟨2, j, none⟩ = some (.int .u8 ((Lib.deBruijn64tab.getD j 0 : Nat) : Int)) := fun j hj => by
    have := World.var?_cell hg h j
    rw [this]
    have hl : j < Lib.deBruijn64tab.length := hj
    simp [List.getD_eq_getElem?_getD, List.getElem?_eq_getElem hl]
  refine ⟨?_, hc⟩
  rcases Nat.lt_or_ge 2 w.heap.size with hlt | hge
  · exact hlt
  · have := hc 0 (by omega)
    simp [World.cell?, Array.getElem?_eq_none hge] at this

theorem tz_walk (x k idx : Nat) (w : World) (hx0 : ((x : Int) == 0) = false)
    (key : IntKind.u64.wrap (bits BinOp.and IntKind.u64 (x : Int) (IntKind.u64.wrap (-(x : Int))) * 285870213051353865) / 288230376151711744 = (idx : Int))
    (hi : idx < 64) (hk : k < 64) (hcell : w.cell? ⟨2, idx, none⟩ = some (.int .u8 k)) :
    Calls Tryd.prog 79 #[.int .u64 x] w fun e w' => e = .returned (.int .i64 k) ∧ w = w' := by
  go_enter Tryd.func79, Tryd.ntmps79
  go_wp2_with (simp only [key])
  go_ret
  exact ⟨rfl, rfl⟩

theorem neg_u64 (x : Nat) (h0 : x ≠ 0) (h : x < 18446744073709551616) : IntKind.u64.wrap (-(x : Int)) = ((2 ^ 64 - x : Nat) : Int) := by
  rw [show IntKind.u64.wrap (-(x : Int)) = (-(x : Int)) % 18446744073709551616 by simp [IntKind.wrap, IntKind.bits, IntKind.signed]]
  omega

theorem i_tz (x : Nat) (w : World) (ht : Tab w) (h0 : x ≠ 0) (h : x < 18446744073709551616) :
    Calls Tryd.prog 79 #[.int .u64 x] w fun e w' => e = .returned (.int .i64 ((Lib.ctz 64 x : Nat) : Int)) ∧ w = w' := by
  obtain ⟨hlow, hk⟩ := Lib.lowest_bit 64 x h0 h
  obtain ⟨hi, htab⟩ := Lib.deBruijn64_at _ hk
  have hcell := ht.2 _ hi
  rw [htab] at hcell
  refine tz_walk x _ _ w (by simp; omega) ?_ hi hk hcell
  rw [neg_u64 x h0 h, u64_and_nat x _ h (by omega), hlow]
  rw [show ∀ n : Int, IntKind.u64.wrap n = n % 18446744073709551616 from fun n => by simp [IntKind.wrap, IntKind.bits, IntKind.signed]]
  generalize 2 ^ Lib.ctz 64 x = t
  omega
end Go.Proofs.YtpogjegihhljpaaDoor

namespace Go.Proofs.YtpogjegihhljpaaDoor.Bt
set_option maxRecDepth 100000
open Pt

def full (s : Nat) : Nat := 2 ^ (s * s) - 1
def fst_ (s : Nat) : Nat := full s / (2 ^ s - 1)
def lst_ (s : Nat) : Nat := fst_ s * 2 ^ (s - 1)
def bes (s m : Nat) : Nat := (m &&& (18446744073709551615 - fst_ s)) / 2 ||| (m &&& (18446744073709551615 - lst_ s)) * 2 % 18446744073709551616
def abv (s m : Nat) : Nat := (m * 2 ^ s % 18446744073709551616 ||| m / 2 ^ s) &&& full s
def aro (s m : Nat) : Nat := bes s m ||| abv s m

theorem seven {P : Nat → Prop} (h : ∀ k : Fin 7, P ((k : Nat) + 1)) (s : Nat) (h1 : 1 ≤ s) (h2 : s ≤ 7) : P s := by
  obtain ⟨k, rfl⟩ : ∃ k, s = k + 1 := ⟨s - 1, by omega⟩
  exact h ⟨k, by omega⟩
theorem masks (s : Nat) (h1 : 1 ≤ s) (h2 : s ≤ 7) : fst_ s < 2 ^ 49 ∧ lst_ s < 2 ^ 49 ∧ full s < 2 ^ 49 ∧ 1 ≤ 2 ^ s - 1 ∧ 2 ^ s ≤ 128 ∧ 2 ^ (s - 1) ≤ 64 ∧ 2 ^ (s * s) ≤ 2 ^ 49 :=
  seven (P := fun s => fst_ s < 2 ^ 49 ∧ lst_ s < 2 ^ 49 ∧ full s < 2 ^ 49 ∧ 1 ≤ 2 ^ s - 1 ∧ 2 ^ s ≤ 128 ∧ 2 ^ (s - 1) ≤ 64 ∧ 2 ^ (s * s) ≤ 2 ^ 49) (by decide +kernel) s h1 h2
theorem fst_bit (s j : Nat) (h1 : 1 ≤ s) (h2 : s ≤ 7) (hj : j < 50) : (fst_ s).testBit j = (decide (j < s * s) && decide (j % s = 0)) :=
  seven (P := fun s => ∀ j : Fin 50, (fst_ s).testBit j = (decide ((j : Nat) < s * s) && decide ((j : Nat) % s = 0))) (by decide +kernel) s h1 h2 ⟨j, hj⟩
theorem lst_bit (s j : Nat) (h1 : 1 ≤ s) (h2 : s ≤ 7) (hj : j < 50) : (lst_ s).testBit j = (decide (j < s * s) && decide (j % s = s - 1)) :=
  seven (P := fun s => ∀ j : Fin 50, (lst_ s).testBit j = (decide ((j : Nat) < s * s) && decide ((j : Nat) % s = s - 1))) (by decide +kernel) s h1 h2 ⟨j, hj⟩
theorem sq_nat (s : Nat) (h1 : 1 ≤ s) (h2 : s ≤ 7) : 1 ≤ s * s ∧ s * s ≤ 49 ∧ s ≤ s * s :=
  seven (P := fun s => 1 ≤ s * s ∧ s * s ≤ 49 ∧ s ≤ s * s) (by decide) s h1 h2
theorem full_bit (s j : Nat) : (full s).testBit j = decide (j < s * s) := Nat.testBit_two_pow_sub_one _ _

theorem bes_bit (s m q : Nat) (h1 : 1 ≤ s) (h2 : s ≤ 7) (hm : m < 2 ^ (s * s)) :
    (bes s m).testBit q = (decide (q < s * s) && ((decide (q % s < s - 1) && m.testBit (q + 1)) || (decide (0 < q % s) && m.testBit (q - 1)))) := by
  obtain ⟨a1, a2, a3, a4, a5, a6, a7⟩ := masks s h1 h2
  obtain ⟨b1, b2, b3⟩ := sq_nat s h1 h2
  have hm64 : m < 18446744073709551616 := by omega
  have e1 : ((m &&& (18446744073709551615 - fst_ s)) / 2).testBit q = (m.testBit (q + 1) && !(fst_ s).testBit (q + 1)) := by
    rw [← Nat.testBit_succ, andNot_bit hm64 (by omega)]
  have e2 : ((m &&& (18446744073709551615 - lst_ s)) * 2 % 18446744073709551616).testBit q = (decide (q < 64) && (decide (1 ≤ q) && (m.testBit (q - 1) && !(lst_ s).testBit (q - 1)))) := by
    have := Nat.testBit_mod_two_pow ((m &&& (18446744073709551615 - lst_ s)) * 2) 64 q
    rw [show (2 : Nat) ^ 64 = 18446744073709551616 by decide] at this
    rw [this]
    have := Nat.testBit_mul_two_pow (m &&& (18446744073709551615 - lst_ s)) q 1
    rw [show (2 : Nat) ^ 1 = 2 by decide] at this
    rw [this, andNot_bit hm64 (by omega)]
  unfold bes
  rw [Nat.testBit_or, e1, e2]
  by_cases hq : q < s * s
  · have c1 : m.testBit (q + 1) = true → q + 1 < s * s := fun h => by
      rcases Nat.lt_or_ge (q + 1) (s * s) with h' | h'
      · exact h'
      · rw [high hm h'] at h; cases h
    rw [fst_bit s (q + 1) h1 h2 (by omega), lst_bit s (q - 1) h1 h2 (by omega)]
    have f1 : decide (q < s * s) = true := by simpa using hq
    have f2 : decide (q < 64) = true := by simp; omega
    have f3 : (m.testBit (q + 1) && !(decide (q + 1 < s * s) && decide ((q + 1) % s = 0))) = (decide (q % s < s - 1) && m.testBit (q + 1)) := by
      cases e : m.testBit (q + 1)
      · simp
      · have g1 := c1 e
        have g2 : ((q + 1) % s = 0) ↔ ¬ q % s < s - 1 := by
          have : s = 1 ∨ s = 2 ∨ s = 3 ∨ s = 4 ∨ s = 5 ∨ s = 6 ∨ s = 7 := by omega
          rcases this with rfl | rfl | rfl | rfl | rfl | rfl | rfl <;> omega
        have g3 : decide (q + 1 < s * s) = true := by simpa using g1
        rw [g3]
        by_cases g : q % s < s - 1
        · have : decide ((q + 1) % s = 0) = false := by rw [decide_eq_false_iff_not, g2]; exact fun hn => hn g
          rw [this]; simp [g]
        · have : decide ((q + 1) % s = 0) = true := by rw [decide_eq_true_eq, g2]; exact g
          rw [this]; simp [g]
    have f4 : (decide (1 ≤ q) && (m.testBit (q - 1) && !(decide (q - 1 < s * s) && decide ((q - 1) % s = s - 1)))) = (decide (0 < q % s) && m.testBit (q - 1)) := by
      by_cases g : 1 ≤ q
      · have g2 : ((q - 1) % s = s - 1) ↔ ¬ 0 < q % s := by
          have : s = 1 ∨ s = 2 ∨ s = 3 ∨ s = 4 ∨ s = 5 ∨ s = 6 ∨ s = 7 := by omega
          rcases this with rfl | rfl | rfl | rfl | rfl | rfl | rfl <;> omega
        have g3 : decide (q - 1 < s * s) = true := by simp; omega
        rw [g3]
        by_cases g' : 0 < q % s
        · have : decide ((q - 1) % s = s - 1) = false := by rw [decide_eq_false_iff_not, g2]; exact fun hn => hn g'
          rw [this]; simp [g, g']
        · have : decide ((q - 1) % s = s - 1) = true := by rw [decide_eq_true_eq, g2]; exact g'
          rw [this]; simp [g']
      · have : q = 0 := by omega
        subst this
        simp
    rw [f1, f2, f3, Bool.true_and, Bool.true_and, f4]
  · have f1 : decide (q < s * s) = false := by simpa using hq
    rw [f1, Bool.false_and, high hm (show s * s ≤ q + 1 by omega)]
    by_cases g : q - 1 < s * s
    · have hq1 : q = s * s := by omega
      rw [lst_bit s (q - 1) h1 h2 (by omega)]
      have g2 : (q - 1) % s = s - 1 := by
        subst hq1
        have : s = 1 ∨ s = 2 ∨ s = 3 ∨ s = 4 ∨ s = 5 ∨ s = 6 ∨ s = 7 := by omega
        rcases this with rfl | rfl | rfl | rfl | rfl | rfl | rfl <;> decide
      simp [g, g2]
    · rw [high hm (show s * s ≤ q - 1 by omega)]; simp

theorem abv_bit (s m q : Nat) (h1 : 1 ≤ s) (h2 : s ≤ 7) :
    (abv s m).testBit q = (decide (q < s * s) && ((decide (s ≤ q) && m.testBit (q - s)) || m.testBit (q + s))) := by
  obtain ⟨b1, b2, b3⟩ := sq_nat s h1 h2
  unfold abv
  rw [Nat.testBit_and, Nat.testBit_or, full_bit]
  have e1 : (m * 2 ^ s % 18446744073709551616).testBit q = (decide (q < 64) && (decide (s ≤ q) && m.testBit (q - s))) := by
    have := Nat.testBit_mod_two_pow (m * 2 ^ s) 64 q
    rw [show (2 : Nat) ^ 64 = 18446744073709551616 by decide] at this
    rw [this, Nat.testBit_mul_two_pow]
  have e2 : (m / 2 ^ s).testBit q = m.testBit (q + s) := by rw [Nat.testBit_div_two_pow]
  rw [e1, e2]
  by_cases hq : q < s * s
  · have f2 : decide (q < 64) = true := by simp; omega
    rw [f2]; simp [hq]
  · simp [hq]

/-- The points around a set: those with a neighbour in it. -/
theorem aro_bit (s m q : Nat) (h1 : 1 ≤ s) (h2 : s ≤ 7) (hm : m < 2 ^ (s * s)) :
    (aro s m).testBit q = (decide (q < s * s) && (nbs s q).any fun x => m.testBit x.toNat) := by
  unfold aro
  rw [Nat.testBit_or, bes_bit s m q h1 h2 hm, abv_bit s m q h1 h2]
  by_cases hq : q < s * s
  · have f1 : decide (q < s * s) = true := by simpa using hq
    rw [f1, Bool.true_and, Bool.true_and, Bool.true_and]
    unfold nbs nbL nbA nbB nbU
    rw [List.any_append, List.any_append, List.any_append]
    have g1 : ((if (s : Int) ≤ q then [(q : Int) - s] else []).any fun x => m.testBit x.toNat) = (decide (s ≤ q) && m.testBit (q - s)) := by
      by_cases h : s ≤ q
      · rw [if_pos (by omega)]
        have : ((q : Int) - s).toNat = q - s := by omega
        simp [this, h]
      · rw [if_neg (by omega)]; simp [h]
    have g2 : ((if 0 < (q : Int) % s then [(q : Int) - 1] else []).any fun x => m.testBit x.toNat) = (decide (0 < q % s) && m.testBit (q - 1)) := by
      by_cases h : 0 < q % s
      · rw [if_pos (by omega)]
        have : ((q : Int) - 1).toNat = q - 1 := by omega
        simp [this, h]
      · rw [if_neg (by omega)]; simp [h]
    have g3 : ((if (q : Int) % s < s - 1 then [(q : Int) + 1] else []).any fun x => m.testBit x.toNat) = (decide (q % s < s - 1) && m.testBit (q + 1)) := by
      by_cases h : q % s < s - 1
      · rw [if_pos (by omega)]
        have : ((q : Int) + 1).toNat = q + 1 := by omega
        simp [this, h]
      · rw [if_neg (by omega)]; simp [h]
    have g4 : ((if (q : Int) + s < s * s then [(q : Int) + s] else []).any fun x => m.testBit x.toNat) = m.testBit (q + s) := by
      by_cases h : q + s < s * s
      · rw [if_pos (by have : ((q + s : Nat) : Int) < ((s * s : Nat) : Int) := by exact_mod_cast h
                       simpa using this)]
        have : ((q : Int) + s).toNat = q + s := by omega
        simp [this]
      · rw [if_neg (fun h' => h (by have : ((q + s : Nat) : Int) < ((s * s : Nat) : Int) := by simpa using h'
                                    exact_mod_cast this)), high hm (by omega)]; simp
    rw [g1, g2, g3, g4]
    cases (decide (q % s < s - 1) && m.testBit (q + 1)) <;> cases (decide (0 < q % s) && m.testBit (q - 1)) <;> cases (decide (s ≤ q) && m.testBit (q - s)) <;> cases m.testBit (q + s) <;> rfl
  · simp [hq]

theorem bes_lt (s m : Nat) (h1 : 1 ≤ s) (h2 : s ≤ 7) (hm : m < 2 ^ (s * s)) : bes s m < 2 ^ (s * s) := by
  refine Nat.lt_pow_two_of_testBit _ fun i hi => ?_
  rw [bes_bit s m i h1 h2 hm]
  have : decide (i < s * s) = false := by simpa using hi
  rw [this, Bool.false_and]
theorem abv_lt (s m : Nat) : abv s m < 2 ^ (s * s) := by
  unfold abv
  rw [Nat.and_comm]
  refine and_lt ?_
  have := Nat.two_pow_pos (s * s)
  unfold full; omega
theorem aro_lt (s m : Nat) (h1 : 1 ≤ s) (h2 : s ≤ 7) (hm : m < 2 ^ (s * s)) : aro s m < 2 ^ (s * s) := or_lt (bes_lt s m h1 h2 hm) (abv_lt s m)

/-! ### Diagonals -/
def diY (s p : Int) (i : Nat) : Int := p / s - 1 + (i / 2 * 2 : Nat)
def diX (s p : Int) (i : Nat) : Int := p % s - 1 + (i % 2 * 2 : Nat)
def di1 (s p : Int) (i : Nat) : List Int := if (0 ≤ diY s p i ∧ diY s p i ≤ s - 1) ∧ (0 ≤ diX s p i ∧ diX s p i ≤ s - 1) then [diY s p i * s + diX s p i] else []
def dis (s p : Int) : Nat → List Int
  | 0 => []
  | i + 1 => dis s p i ++ di1 s p i
def dia (s p : Int) : List Int := dis s p 4
def diag (s p : Int) : List Int := if okP s p then dia s p else []
theorem di1_len (s p : Int) (i : Nat) : (di1 s p i).length ≤ 1 := by unfold di1; split <;> simp
theorem dis_len (s p : Int) (i : Nat) : (dis s p i).length ≤ i := by
  induction i with
  | zero => simp [dis]
  | succ i ih => have := di1_len s p i; simp only [dis, List.length_append]; omega
theorem dia_bits (s p : Nat) (h1 : 1 ≤ s) (h2 : s ≤ 7) (h4 : p < s * s) : pts (abv s (bes s (2 ^ p))) 64 = dia s p ∧ 2 ^ p < 2 ^ (s * s) := by
  have h := all_sp (P := fun s p => pts (abv s.toNat (bes s.toNat (2 ^ p.toNat))) 64 = dia s p ∧ 2 ^ p.toNat < 2 ^ (s.toNat * s.toNat)) (by decide +kernel) (s : Int) (p : Int) (by omega) (by omega) (by omega) (by exact_mod_cast h4)
  simpa using h
end Go.Proofs.YtpogjegihhljpaaDoor.Bt

namespace Go.Proofs.YtpogjegihhljpaaDoor
set_option maxRecDepth 100000
open Go.RowKit

theorem wrap_u (n : Int) : IntKind.u64.wrap n = n % 18446744073709551616 := by simp [IntKind.wrap, IntKind.bits, IntKind.signed]
theorem pow_u (p : Nat) (h : p < 64) : IntKind.u64.wrap (2 ^ p) = ((2 ^ p : Nat) : Int) := by
  have : 2 ^ p < 2 ^ 64 := Nat.pow_lt_pow_right (by decide) h
  rw [wrap_u]
  have e : ((2 : Int) ^ p) = ((2 ^ p : Nat) : Int) := by push_cast; rfl
  rw [e]
  generalize 2 ^ p = t at this ⊢
  omega

theorem i_only (p : Nat) (w : World) (h : p < 64) :
    Calls Tryd.prog 70 #[.int .i64 p] w fun e w' => e = .returned (.int .u64 ((2 ^ p : Nat) : Int)) ∧ w = w' := by
  have H := Lib.hid (pow_u p h)
  go_enter Tryd.func70, Tryd.ntmps70
  go_wp2_with fail
  go_ret
  exact ⟨by rw [← H.out]; rfl, rfl⟩

theorem i_list (m : Nat) (w : World) (ht : Tab w) (hm : m < 18446744073709551616) :
    Calls Tryd.prog 51 #[.int .u64 m] w fun e w' => ∃ A n c, e = .returned (.slice A n c) ∧ Own w' w.heap.size A n c (Bt.pts m 64) ∧ Below w.heap.size w w' := by
  have HT := Lib.hid ht
  clear ht
  go_enter Tryd.func51, Tryd.ntmps51
  go_wp2_with fail
  go_loopw [3, 4] (fun v r wr => ∃ k m' A n c, v = .slice A n c ∧ r = .int .u64 ((m' : Nat) : Int) ∧ k ≤ 64 ∧ Bt.From m k m' ∧ m' < 18446744073709551616 ∧ Own wr w.heap.size A n c (Bt.pts m k) ∧ Below w.heap.size w wr) (fun _ r _ => (intOf r).toNat)
  case atStart => exact ⟨0, m, _, _, _, rfl, rfl, by omega, Bt.From.zero m, hm, Own.nil _ _, Below.refl _ _⟩
  case round =>
    obtain ⟨k, m', A, n, c, rfl, rfl, hk, hf, hm', ho, hb⟩ := hrel
    have Hf := Lib.hid hf
    have Ho := Lib.hid ho
    have Hb := Lib.hid hb
    have hz := hb.size
    have hn : n ≤ 64 := by have := ho.1; have := Bt.pts_len m k; omega
    clear hf ho hb
    by_cases h0 : m' = 0
    · subst h0
      go_wp2_with fail
      go_ret
      exact ⟨_, _, _, rfl, by rw [← Hf.out.done rfl hk]; exact Ho.out, Hb.out⟩
    · have e0 : ((m' : Int) != 0) = true := by simp; omega
      obtain ⟨s1, s2, s3, s4⟩ := Hf.out.step (n := 64) h0 (by omega)
      have hlt := Bt.and_pred_lt h0
      have S1 := Lib.hid s1
      have S2 := Lib.hid s2
      have e1 : ((m' : Int) - 1) = ((m' - 1 : Nat) : Int) := by omega
      have e2 : bits BinOp.and IntKind.u64 (m' : Int) ((m' - 1 : Nat) : Int) = ((m' &&& (m' - 1) : Nat) : Int) := u64_and_nat _ _ hm' (by omega)
      have E1 := Lib.hid e1
      have E2 := Lib.hid e2
      clear s1 s2 e1 e2
      go_wp2_with fail
      refine (i_tz m' _ (HT.out.below Hb.out) h0 hm').mono ?_
      rintro e w' ⟨rfl, rfl⟩
      go_wp2_with (at_builtin; refine app1 rfl _ _ rfl _ _ _ _ _ _ _ _ rfl rfl (by simp) Ho.out hz (by omega) ?_; intro A' c' w' hown' hb' hlt' _)
      go_roundw
      case rel => exact ⟨Lib.ctz 64 m' + 1, m' &&& (m' - 1), _, _, _, rfl, (by rw [E1.out, E2.out]), (by omega), S2.out, (by omega), (by rw [S1.out]; exact hown'), Hb.out.trans (hb'.mono (by omega))⟩
      case measure => rw [E1.out, E2.out]; simp [intOf]; omega
end Go.Proofs.YtpogjegihhljpaaDoor

namespace Go.Proofs.YtpogjegihhljpaaDoor
set_option maxRecDepth 100000
open Go.RowKit

theorem i_onlyN (x : Int) (p a : Nat) (w : World) (hx : x = p) (ha : a = 2 ^ p) (h : p < 64) :
    Calls Tryd.prog 70 #[.int .i64 x] w fun e w' => e = .returned (.int .u64 (a : Int)) ∧ w = w' := by
  subst hx
  subst ha
  exact i_only p w h

theorem bes_val (s m C : Nat) (h1 : 1 ≤ s) (h2 : s ≤ 7) (hm : m < 18446744073709551616) (hC : C = Bt.fst_ s) :
    bits .or .u64 (bits .andNot .u64 (m : Int) (C : Int) / 2) (IntKind.u64.wrap (bits .andNot .u64 (m : Int) (IntKind.u64.wrap ((C : Int) * 2 ^ (s - 1))) * 2)) = ((Bt.bes s m : Nat) : Int) := by
  subst hC
  obtain ⟨a1, a2, a3, a4, a5, a6, a7⟩ := Bt.masks s h1 h2
  have e1 : IntKind.u64.wrap ((Bt.fst_ s : Int) * 2 ^ (s - 1)) = ((Bt.lst_ s : Nat) : Int) := by
    have : (Bt.fst_ s : Int) * 2 ^ (s - 1) = ((Bt.lst_ s : Nat) : Int) := by unfold Bt.lst_; push_cast; rfl
    rw [this, wrap_u]
    omega
  rw [e1, u64_andNot_nat m _ hm (by omega), u64_andNot_nat m _ hm (by omega)]
  have h3 : m &&& (18446744073709551615 - Bt.fst_ s) ≤ m := Nat.and_le_left
  unfold Bt.bes
  generalize m &&& (18446744073709551615 - Bt.fst_ s) = x at h3
  generalize m &&& (18446744073709551615 - Bt.lst_ s) = y
  have e2 : (x : Int) / 2 = ((x / 2 : Nat) : Int) := by omega
  have e3 : IntKind.u64.wrap ((y : Int) * 2) = ((y * 2 % 18446744073709551616 : Nat) : Int) := by rw [wrap_u]; omega
  rw [e2, e3, u64_or_nat _ _ (by omega) (by omega)]

theorem i_beside (s m : Nat) (w : World) (h1 : 1 ≤ s) (h2 : s ≤ 7) (hm : m < 18446744073709551616) :
    Calls Tryd.prog 115 #[.int .u64 m, .int .i64 s] w fun e w' => e = .returned (.int .u64 ((Bt.bes s m : Nat) : Int)) ∧ w = w' := by
  obtain ⟨a1, a2, a3, a4, a5, a6, a7⟩ := Bt.masks s h1 h2
  obtain ⟨b1, b2, b3⟩ := Bt.sq_nat s h1 h2
  have hss : (s : Int) * s ≤ 49 := by exact_mod_cast b2
  have hss0 : 0 ≤ (s : Int) * s := by exact_mod_cast Nat.zero_le _
  obtain ⟨a, ha⟩ : ∃ a, a = 2 ^ (s * s) := ⟨_, rfl⟩
  obtain ⟨b, hb⟩ : ∃ b, b = 2 ^ s := ⟨_, rfl⟩
  have hb1 : 2 ≤ b := by omega
  have ha1 : 1 ≤ a := by rw [ha]; exact Nat.two_pow_pos _
  obtain ⟨F, hF⟩ : ∃ F, F = a - 1 := ⟨_, rfl⟩
  obtain ⟨R, hR⟩ : ∃ R, R = b - 1 := ⟨_, rfl⟩
  obtain ⟨C, hC⟩ : ∃ C, C = F / R := ⟨_, rfl⟩
  have eC : C = Bt.fst_ s := by rw [hC, hF, hR, ha, hb]; rfl
  have rF : (a : Int) - 1 = (F : Int) := by omega
  have rR : (b : Int) - 1 = (R : Int) := by omega
  have hR1 : 1 ≤ R := by omega
  have hF49 : F < 2 ^ 49 := by omega
  have rC : (F : Int) / (R : Int) = (C : Int) := by rw [hC]; push_cast; rfl
  have hR2 : ((R : Int) == 0) = false := by simp; omega
  have hR3 : ¬ (R : Int) = 0 := by omega
  have hC49 : C ≤ 562949953421311 := by omega
  have hR4 : R ≤ 127 := by omega
  have hF4 : F ≤ 562949953421311 := by omega
  have Ha := Lib.hid ha
  have Hb := Lib.hid hb
  have HC := Lib.hid eC
  clear ha hb hF hR hC eC
  go_enter Tryd.func115, Tryd.ntmps115
  go_wp2_with fail
  refine (i_onlyN _ (s * s) a _ (by push_cast; rfl) Ha.out (by omega)).mono ?_
  rintro e w' ⟨rfl, rfl⟩
  go_wp2_with fail
  refine (i_onlyN _ s b _ rfl Hb.out (by omega)).mono ?_
  rintro e w' ⟨rfl, rfl⟩
  go_wp2_with fail
  go_ret
  exact ⟨by rw [← bes_val s m C h1 h2 hm HC.out]; rfl, rfl⟩

theorem abv_val (s m F : Nat) (h1 : 1 ≤ s) (h2 : s ≤ 7) (hm : m < 18446744073709551616) (hF : F = Bt.full s) :
    bits .and .u64 (bits .or .u64 (IntKind.u64.wrap ((m : Int) * 2 ^ s)) ((m : Int) / 2 ^ s)) (F : Int) = ((Bt.abv s m : Nat) : Int) := by
  subst hF
  obtain ⟨a1, a2, a3, a4, a5, a6, a7⟩ := Bt.masks s h1 h2
  have e1 : IntKind.u64.wrap ((m : Int) * 2 ^ s) = ((m * 2 ^ s % 18446744073709551616 : Nat) : Int) := by
    rw [wrap_u, show (m : Int) * 2 ^ s = ((m * 2 ^ s : Nat) : Int) by push_cast; rfl]
    generalize m * 2 ^ s = t
    omega
  have e2 : (m : Int) / 2 ^ s = ((m / 2 ^ s : Nat) : Int) := by push_cast; rfl
  have hd : m / 2 ^ s < 18446744073709551616 := Nat.lt_of_le_of_lt (Nat.div_le_self _ _) hm
  rw [e1, e2, u64_or_nat _ _ (by omega) hd, u64_and_nat _ _ (Bt.or_lt (n := 64) (by omega) (by omega)) (by omega)]
  rfl

theorem i_above (s m : Nat) (w : World) (h1 : 1 ≤ s) (h2 : s ≤ 7) (hm : m < 18446744073709551616) :
    Calls Tryd.prog 116 #[.int .u64 m, .int .i64 s] w fun e w' => Drew (.int .u64 ((Bt.abv s m : Nat) : Int)) w e w' := by
  obtain ⟨a1, a2, a3, a4, a5, a6, a7⟩ := Bt.masks s h1 h2
  obtain ⟨b1, b2, b3⟩ := Bt.sq_nat s h1 h2
  have hss : (s : Int) * s ≤ 49 := by exact_mod_cast b2
  have hss0 : 0 ≤ (s : Int) * s := by exact_mod_cast Nat.zero_le _
  obtain ⟨a, ha⟩ : ∃ a, a = 2 ^ (s * s) := ⟨_, rfl⟩
  have ha1 : 1 ≤ a := by rw [ha]; exact Nat.two_pow_pos _
  obtain ⟨F, hF⟩ : ∃ F, F = a - 1 := ⟨_, rfl⟩
  have eF : F = Bt.full s := by rw [hF, ha]; rfl
  have rF : (a : Int) - 1 = (F : Int) := by omega
  have hF4 : F ≤ 562949953421311 := by omega
  have Ha := Lib.hid ha
  have HF := Lib.hid eF
  clear ha hF eF
  go_enter Tryd.func116, Tryd.ntmps116
  go_wp2_with fail
  refine (i_onlyN _ (s * s) a _ (by push_cast; rfl) Ha.out (by omega)).mono ?_
  rintro e w' ⟨rfl, rfl⟩
  go_wp2_with fail
  go_quiet (fail)
  go_wp2_with fail
  go_ret
  exact ⟨_, by rw [← abv_val s m F h1 h2 hm HF.out]; rfl, rfl⟩

theorem i_diagonals (s p : Nat) (w : World) (h1 : 1 ≤ s) (h2 : s ≤ 7) (hp : p < s * s) :
    Calls Tryd.prog 111 #[.int .i64 s, .int .i64 p] w fun e w' => Drew (.int .u64 ((Bt.abv s (Bt.bes s (2 ^ p)) : Nat) : Int)) w e w' := by
  obtain ⟨b1, b2, b3⟩ := Bt.sq_nat s h1 h2
  obtain ⟨a, ha⟩ : ∃ a, a = 2 ^ p := ⟨_, rfl⟩
  have ha64 : a < 18446744073709551616 := by
    have : 2 ^ p < 2 ^ 64 := Nat.pow_lt_pow_right (by decide) (by omega)
    rw [ha]; omega
  have hlt : a < 2 ^ (s * s) := by rw [ha]; exact Nat.pow_lt_pow_right (by decide) hp
  have hb := Bt.bes_lt s a h1 h2 hlt
  have ha7 := (Bt.masks s h1 h2).2.2.2.2.2.2
  have hb64 : Bt.bes s a < 18446744073709551616 := by omega
  rw [← ha]
  have Ha := Lib.hid ha
  clear ha hb hlt ha7
  go_enter Tryd.func111, Tryd.ntmps111
  go_wp2_with fail
  refine (i_onlyN _ p a _ rfl Ha.out (by omega)).mono ?_
  rintro e w' ⟨rfl, rfl⟩
  go_wp2_with fail
  refine (i_beside s a _ h1 h2 ha64).mono ?_
  rintro e w' ⟨rfl, rfl⟩
  go_wp2_with fail
  refine (i_above s _ _ h1 h2 hb64).mono ?_
  rintro e w' ⟨k, rfl, rfl⟩
  go_wp2_with fail
  go_ret
  exact ⟨k, rfl, rfl⟩
end Go.Proofs.YtpogjegihhljpaaDoor

namespace Go.Proofs.YtpogjegihhljpaaDoor.Oc
set_option maxRecDepth 100000

def cnt (x m : Nat) : Nat := ((List.range m).filter fun q => x.testBit q).length
theorem pts_cnt (x m : Nat) : (Bt.pts x m).length = cnt x m := by simp [Bt.pts, cnt]

def M (c : Nat) : Nat → Nat
  | 0 => 0
  | n + 1 => c + 256 * M c n
theorem M_succ (c n : Nat) : M c (n + 1) = c + 256 * M c n := rfl
theorem and_cons (a b c d : Nat) (ha : a < 256) (hc : c < 256) : (a + 256 * b) &&& (c + 256 * d) = (a &&& c) + 256 * (b &&& d) := by
  have h1 : ((a + 256 * b) &&& (c + 256 * d)) % 256 = a &&& c := by
    have := Nat.and_mod_two_pow (a := a + 256 * b) (b := c + 256 * d) (n := 8)
    rw [show (2 : Nat) ^ 8 = 256 by decide] at this
    rw [this]
    congr 1 <;> omega
  have h2 : ((a + 256 * b) &&& (c + 256 * d)) / 256 = b &&& d := by
    have := Nat.and_div_two_pow (a := a + 256 * b) (b := c + 256 * d) (n := 8)
    rw [show (2 : Nat) ^ 8 = 256 by decide] at this
    rw [this]
    congr 1 <;> omega
  have := Nat.mod_add_div ((a + 256 * b) &&& (c + 256 * d)) 256
  rw [h1, h2] at this
  exact this.symm

def t1 (a : Nat) : Nat := (a / 2 &&& 85) + (a &&& 85)
def t2 (a : Nat) : Nat := (a / 4 &&& 51) + (a &&& 51)
def t3 (a : Nat) : Nat := (a / 16 + a) &&& 15
def s1 (n x : Nat) : Nat := (x / 2 &&& M 85 n) + (x &&& M 85 n)
def s2 (n x : Nat) : Nat := (x / 4 &&& M 51 n) + (x &&& M 51 n)
def s3 (n x : Nat) : Nat := (x / 16 + x) &&& M 15 n
def pc (a : Nat) : Nat := t3 (t2 (t1 a))

theorem d1 : ∀ a : Fin 256, ∀ j : Fin 2, ((a : Nat) / 2 + 128 * (j : Nat)) &&& 85 = (a : Nat) / 2 &&& 85 := by decide +kernel
theorem d2 : ∀ a : Fin 256, ∀ j : Fin 4, ((a : Nat) / 4 + 64 * (j : Nat)) &&& 51 = (a : Nat) / 4 &&& 51 := by decide +kernel
theorem d3 : ∀ a : Fin 69, ∀ j : Fin 5, ((a : Nat) / 16 + 16 * (j : Nat) + (a : Nat)) &&& 15 = t3 (a : Nat) := by decide +kernel
theorem d4 : ∀ a : Fin 256, t1 (a : Nat) < 256 ∧ t2 (t1 (a : Nat)) ≤ 68 ∧ t2 (t1 (a : Nat)) % 16 ≤ 4 ∧ pc (a : Nat) ≤ 8 ∧ pc (a : Nat) = cnt (a : Nat) 8 := by decide +kernel

theorem s1_cons (n a b : Nat) (ha : a < 256) : s1 (n + 1) (a + 256 * b) = t1 a + 256 * s1 n b := by
  have e : (a + 256 * b) / 2 = (a / 2 + 128 * (b % 2)) + 256 * (b / 2) := by omega
  have := d1 ⟨a, ha⟩ ⟨b % 2, by omega⟩
  simp only at this
  unfold s1 t1
  rw [M_succ, e, and_cons _ _ _ _ (by omega) (by decide), and_cons _ _ _ _ ha (by decide), this]
  omega
theorem s2_cons (n a b : Nat) (ha : a < 256) : s2 (n + 1) (a + 256 * b) = t2 a + 256 * s2 n b := by
  have e : (a + 256 * b) / 4 = (a / 4 + 64 * (b % 4)) + 256 * (b / 4) := by omega
  have := d2 ⟨a, ha⟩ ⟨b % 4, by omega⟩
  simp only at this
  unfold s2 t2
  rw [M_succ, e, and_cons _ _ _ _ (by omega) (by decide), and_cons _ _ _ _ ha (by decide), this]
  omega
theorem s3_cons (n a b : Nat) (ha : a ≤ 68) (hb : b % 16 ≤ 4) : s3 (n + 1) (a + 256 * b) = t3 a + 256 * s3 n b := by
  have e : (a + 256 * b) / 16 + (a + 256 * b) = (a / 16 + 16 * (b % 16) + a) + 256 * (b / 16 + b) := by omega
  have := d3 ⟨a, by omega⟩ ⟨b % 16, by omega⟩
  simp only at this
  unfold s3
  rw [M_succ, e, and_cons _ _ _ _ (by omega) (by decide), this]

def W : Nat → Nat → Nat
  | 0, _ => 0
  | n + 1, x => pc (x % 256) + 256 * W n (x / 256)
theorem bytes : ∀ (n x : Nat), s3 n (s2 n (s1 n x)) = W n x ∧ s2 n (s1 n x) % 16 ≤ 4
  | 0, x => by simp [s3, s2, M, W]
  | n + 1, x => by
    obtain ⟨i1, i2⟩ := bytes n (x / 256)
    have e : x = x % 256 + 256 * (x / 256) := by omega
    have h := d4 ⟨x % 256, by omega⟩
    simp only at h
    obtain ⟨h1, h2, h3, _, _⟩ := h
    have k1 : s1 (n + 1) x = t1 (x % 256) + 256 * s1 n (x / 256) := by
      conv => lhs; rw [e]
      exact s1_cons n _ _ (by omega)
    have k2 : s2 (n + 1) (s1 (n + 1) x) = t2 (t1 (x % 256)) + 256 * s2 n (s1 n (x / 256)) := by rw [k1]; exact s2_cons n _ _ h1
    refine ⟨?_, ?_⟩
    · rw [k2, s3_cons n _ _ h2 i2, i1]
      rfl
    · rw [k2]; omega

theorem cnt_cons (x m : Nat) : cnt x (8 + m) = cnt x 8 + cnt (x / 256) m := by
  unfold cnt
  rw [List.range_add, List.filter_append, List.length_append, List.filter_map, List.length_map]
  congr 2
  refine List.filter_congr fun q _ => ?_
  show x.testBit (8 + q) = (x / 256).testBit q
  have : (x / 2 ^ 8).testBit q = x.testBit (q + 8) := Nat.testBit_div_two_pow x q
  rw [show (2 : Nat) ^ 8 = 256 by decide] at this
  rw [this, Nat.add_comm]
theorem cnt_low (x : Nat) : cnt x 8 = pc (x % 256) := by
  have h := (d4 ⟨x % 256, by omega⟩).2.2.2.2
  simp only at h
  rw [h]
  unfold cnt
  congr 1
  refine List.filter_congr fun q hq => ?_
  have hq8 := List.mem_range.1 hq
  have := Nat.testBit_mod_two_pow x 8 q
  rw [show (2 : Nat) ^ 8 = 256 by decide] at this
  rw [this]
  simp [hq8]
theorem cnt_bytes (x : Nat) : ∀ n, cnt x (8 * (n + 1)) = pc (x % 256) + cnt (x / 256) (8 * n) := fun n => by
  rw [show 8 * (n + 1) = 8 + 8 * n by omega, cnt_cons, cnt_low]

def fin (x3 : Nat) : Nat :=
  let x4 := x3 + x3 / 256
  let x5 := x4 + x4 / 65536
  let x6 := x5 + x5 / 4294967296
  x6 &&& 127
theorem pc_le (a : Nat) : pc (a % 256) ≤ 8 := (d4 ⟨a % 256, by omega⟩).2.2.2.1
theorem fin_sum (c0 c1 c2 c3 c4 c5 c6 c7 : Nat) (h0 : c0 ≤ 8) (h1 : c1 ≤ 8) (h2 : c2 ≤ 8) (k3 : c3 ≤ 8) (k4 : c4 ≤ 8) (k5 : c5 ≤ 8) (h6 : c6 ≤ 8) (h7 : c7 ≤ 8) :
    fin (c0 + 256 * (c1 + 256 * (c2 + 256 * (c3 + 256 * (c4 + 256 * (c5 + 256 * (c6 + 256 * (c7 + 256 * 0)))))))) = c0 + (c1 + (c2 + (c3 + (c4 + (c5 + (c6 + (c7 + 0))))))) := by
  obtain ⟨x3, h3⟩ : ∃ x3, x3 = c0 + 256 * (c1 + 256 * (c2 + 256 * (c3 + 256 * (c4 + 256 * (c5 + 256 * (c6 + 256 * (c7 + 256 * 0))))))) := ⟨_, rfl⟩
  rw [← h3]
  obtain ⟨x4, h4⟩ : ∃ x4, x4 = x3 + x3 / 256 := ⟨_, rfl⟩
  obtain ⟨x5, h5⟩ : ∃ x5, x5 = x4 + x4 / 65536 := ⟨_, rfl⟩
  have hf : fin x3 = (x5 + x5 / 4294967296) &&& 127 := by rw [h5, h4]; rfl
  have hm := Nat.and_two_pow_sub_one_eq_mod (x5 + x5 / 4294967296) 7
  rw [show (2 : Nat) ^ 7 - 1 = 127 by decide, show (2 : Nat) ^ 7 = 128 by decide] at hm
  rw [hf, hm]
  clear hf hm
  have e4 : x4 = (c0 + c1) + 256 * (c1 + c2) + 65536 * ((c2 + c3) + 256 * (c3 + c4) + 65536 * ((c4 + c5) + 256 * (c5 + c6) + 65536 * ((c6 + c7) + 256 * c7))) := by omega
  clear h4 h3
  have e5 : x5 = (c0 + c1 + c2 + c3) + 256 * (c1 + c2 + c3 + c4) + 65536 * (c2 + c3 + c4 + c5 + 256 * (c3 + c4 + c5 + c6)) + 4294967296 * ((c4 + c5 + c6 + c7) + 256 * (c5 + c6 + c7) + 65536 * ((c6 + c7) + 256 * c7)) := by omega
  clear h5 e4
  have q5 : x5 / 4294967296 = (c4 + c5 + c6 + c7) + 256 * (c5 + c6 + c7) + 65536 * ((c6 + c7) + 256 * c7) := by omega
  obtain ⟨T, hT⟩ : ∃ T, T = 2 * (c1 + c2 + c3 + c4 + c5 + c6 + c7) + 512 * (c2 + c3 + c4 + c5 + c6 + c7) + 131072 * (c3 + c4 + c5 + c6 + c7) + 33554432 * ((c4 + c5 + c6 + c7) + 256 * (c5 + c6 + c7) + 65536 * ((c6 + c7) + 256 * c7)) := ⟨_, rfl⟩
  have e6 : x5 + x5 / 4294967296 = (c0 + (c1 + (c2 + (c3 + (c4 + (c5 + (c6 + (c7 + 0)))))))) + 128 * T := by rw [q5, e5, hT]; omega
  rw [e6]
  clear e5 q5 hT e6
  omega
/-- math/bits.OnesCount64, as its text sums. -/
def oc (x : Nat) : Nat := fin (s3 8 (s2 8 (s1 8 x)))
def S : Nat → Nat → Nat
  | 0, _ => 0
  | n + 1, x => pc (x % 256) + S n (x / 256)
theorem sums : ∀ n x, cnt x (8 * n) = S n x
  | 0, x => by simp [cnt, S]
  | n + 1, x => by rw [cnt_bytes, sums n (x / 256)]; rfl
theorem W_succ (n x : Nat) : W (n + 1) x = pc (x % 256) + 256 * W n (x / 256) := rfl
theorem S_succ (n x : Nat) : S (n + 1) x = pc (x % 256) + S n (x / 256) := rfl
theorem oc_cnt (x : Nat) : oc x = (Bt.pts x 64).length := by
  have e : cnt x 64 = S 8 x := sums 8 x
  rw [pts_cnt, e, oc, (bytes 8 x).1]
  rw [W_succ, W_succ, W_succ, W_succ, W_succ, W_succ, W_succ, W_succ, S_succ, S_succ, S_succ, S_succ, S_succ, S_succ, S_succ, S_succ]
  exact fin_sum _ _ _ _ _ _ _ _ (pc_le _) (pc_le _) (pc_le _) (pc_le _) (pc_le _) (pc_le _) (pc_le _) (pc_le _)
theorem masks : M 85 8 = 6148914691236517205 ∧ M 51 8 = 3689348814741910323 ∧ M 15 8 = 1085102592571150095 := by decide
end Go.Proofs.YtpogjegihhljpaaDoor.Oc

namespace Go.Proofs.YtpogjegihhljpaaDoor
set_option maxRecDepth 100000
open Go.RowKit

def E1 (X : Int) : Int := IntKind.u64.wrap (bits BinOp.and IntKind.u64 (X / 2) 6148914691236517205 + bits BinOp.and IntKind.u64 X 6148914691236517205)
def E2 (X : Int) : Int := IntKind.u64.wrap (bits BinOp.and IntKind.u64 (X / 4) 3689348814741910323 + bits BinOp.and IntKind.u64 X 3689348814741910323)
def E3 (X : Int) : Int := bits BinOp.and IntKind.u64 (IntKind.u64.wrap (X / 16 + X)) 1085102592571150095
def E4 (X : Int) : Int := IntKind.u64.wrap (X + X / 256)
def E5 (X : Int) : Int := IntKind.u64.wrap (X + X / 65536)
def E6 (X : Int) : Int := IntKind.u64.wrap (X + X / 4294967296)
def E7 (X : Int) : Int := bits BinOp.and IntKind.i64 (wrap64 X) 127

theorem e1 (x : Nat) (hx : x < 18446744073709551616) : E1 (x : Int) = ((Oc.s1 8 x : Nat) : Int) ∧ Oc.s1 8 x ≤ 12297829382473034410 := by
  unfold E1 Oc.s1
  rw [Oc.masks.1, show (x : Int) / 2 = ((x / 2 : Nat) : Int) by omega, show (6148914691236517205 : Int) = ((6148914691236517205 : Nat) : Int) from rfl, u64_and_nat _ _ (by omega) (by decide), u64_and_nat _ _ hx (by decide), wrap_u]
  have h1 : x / 2 &&& 6148914691236517205 ≤ 6148914691236517205 := Nat.and_le_right
  have h2 : x &&& 6148914691236517205 ≤ 6148914691236517205 := Nat.and_le_right
  generalize x / 2 &&& 6148914691236517205 = a at *
  generalize x &&& 6148914691236517205 = b at *
  omega
theorem e2 (x : Nat) (hx : x < 18446744073709551616) : E2 (x : Int) = ((Oc.s2 8 x : Nat) : Int) ∧ Oc.s2 8 x ≤ 7378697629483820646 := by
  unfold E2 Oc.s2
  rw [Oc.masks.2.1, show (x : Int) / 4 = ((x / 4 : Nat) : Int) by omega, show (3689348814741910323 : Int) = ((3689348814741910323 : Nat) : Int) from rfl, u64_and_nat _ _ (by omega) (by decide), u64_and_nat _ _ hx (by decide), wrap_u]
  have h1 : x / 4 &&& 3689348814741910323 ≤ 3689348814741910323 := Nat.and_le_right
  have h2 : x &&& 3689348814741910323 ≤ 3689348814741910323 := Nat.and_le_right
  generalize x / 4 &&& 3689348814741910323 = a at *
  generalize x &&& 3689348814741910323 = b at *
  omega
theorem e3 (x : Nat) (hx : x ≤ 7378697629483820646) : E3 (x : Int) = ((Oc.s3 8 x : Nat) : Int) ∧ Oc.s3 8 x ≤ 1085102592571150095 := by
  unfold E3 Oc.s3
  rw [Oc.masks.2.2, wrap_u, show ((x : Int) / 16 + x) % 18446744073709551616 = ((x / 16 + x : Nat) : Int) by omega, show (1085102592571150095 : Int) = ((1085102592571150095 : Nat) : Int) from rfl, u64_and_nat _ _ (by omega) (by decide)]
  exact ⟨rfl, Nat.and_le_right⟩
theorem e7 (x : Nat) (hx : x ≤ 1085102592571150095) : E7 (E6 (E5 (E4 (x : Int)))) = ((Oc.fin x : Nat) : Int) := by
  have h4 : E4 (x : Int) = ((x + x / 256 : Nat) : Int) := by unfold E4; rw [wrap_u]; omega
  have h5 : E5 ((x + x / 256 : Nat) : Int) = ((x + x / 256 + (x + x / 256) / 65536 : Nat) : Int) := by unfold E5; rw [wrap_u]; omega
  have h6 : E6 ((x + x / 256 + (x + x / 256) / 65536 : Nat) : Int) = ((x + x / 256 + (x + x / 256) / 65536 + (x + x / 256 + (x + x / 256) / 65536) / 4294967296 : Nat) : Int) := by unfold E6; rw [wrap_u]; omega
  rw [h4, h5, h6]
  obtain ⟨y, hy⟩ : ∃ y, y = x + x / 256 + (x + x / 256) / 65536 + (x + x / 256 + (x + x / 256) / 65536) / 4294967296 := ⟨_, rfl⟩
  have hf : Oc.fin x = y &&& 127 := by rw [hy]; rfl
  have hyl : y < 2000000000000000000 := by omega
  rw [← hy, hf]
  clear hy hf h4 h5 h6
  unfold E7
  have hw : wrap64 (y : Int) = (y : Int) := by unfold wrap64; omega
  rw [hw]
  have := bits_nat .i64 63 (by decide) (fun n h0 h1 => by rw [IntKind.wrap_i64]; omega) y 127 (by omega) (by decide)
  exact this.1

theorem ones_val (x : Nat) (hx : x < 18446744073709551616) : E7 (E6 (E5 (E4 (E3 (E2 (E1 (x : Int))))))) = ((Bt.pts x 64).length : Int) := by
  obtain ⟨a1, a2⟩ := e1 x hx
  obtain ⟨b1, b2⟩ := e2 (Oc.s1 8 x) (by omega)
  obtain ⟨c1, c2⟩ := e3 (Oc.s2 8 (Oc.s1 8 x)) b2
  rw [a1, b1, c1, e7 _ c2]
  exact congrArg Nat.cast (Oc.oc_cnt x)

theorem i_ones (x : Nat) (w : World) (hx : x < 18446744073709551616) :
    Calls Tryd.prog 119 #[.int .u64 x] w fun e w' => e = .returned (.int .i64 ((Bt.pts x 64).length : Int)) ∧ w = w' := by
  have H := Lib.hid (ones_val x hx)
  go_enter Tryd.func119, Tryd.ntmps119
  go_wp2_with fail
  go_ret
  exact ⟨by rw [← H.out]; rfl, rfl⟩
theorem i_pcount (x : Nat) (w : World) (hx : x < 18446744073709551616) :
    Calls Tryd.prog 112 #[.int .u64 x] w fun e w' => e = .returned (.int .i64 ((Bt.pts x 64).length : Int)) ∧ w = w' := by
  go_enter Tryd.func112, Tryd.ntmps112
  go_wp2_with fail
  refine (i_ones x _ hx).mono ?_
  rintro e w' ⟨rfl, rfl⟩
  go_wp2_with fail
  go_ret
  exact ⟨rfl, rfl⟩
end Go.Proofs.YtpogjegihhljpaaDoor

namespace Go.Proofs.YtpogjegihhljpaaDoor.Bt
set_option maxRecDepth 100000

/-- The points below j with color x. -/
def msk (cs : List Int) (x : Int) : Nat → Nat
  | 0 => 0
  | j + 1 => if cs.getD j 0 = x then msk cs x j ||| 2 ^ j else msk cs x j
theorem msk_lt (cs : List Int) (x : Int) : ∀ j, msk cs x j < 2 ^ j
  | 0 => by simp [msk]
  | j + 1 => by
    have := msk_lt cs x j
    have h2 : 2 ^ j < 2 ^ (j + 1) := two_lt j
    unfold msk
    split
    · exact or_lt (by omega) h2
    · omega
theorem msk_bit (cs : List Int) (x : Int) : ∀ j p, (msk cs x j).testBit p = (decide (p < j) && decide (cs.getD p 0 = x))
  | 0, p => by simp [msk]
  | j + 1, p => by
    have ih := msk_bit cs x j p
    unfold msk
    by_cases hp : p = j
    · subst hp
      have hl : (msk cs x p).testBit p = false := high (msk_lt cs x p) (Nat.le_refl _)
      split
      · rename_i h
        rw [Nat.testBit_or, Nat.testBit_two_pow, hl, decide_eq_true h]
        simp
      · rename_i h
        rw [hl, decide_eq_false h]
        simp
    · have e : decide (p < j + 1) = decide (p < j) := decide_eq_decide.2 (by omega)
      rw [e]
      split
      · rw [Nat.testBit_or, Nat.testBit_two_pow, ih]
        have : decide (j = p) = false := by simp; omega
        rw [this, Bool.or_false]
      · exact ih
theorem msk_yes {cs : List Int} {x : Int} {j : Nat} (h : cs.getD j 0 = x) : msk cs x (j + 1) = msk cs x j ||| 2 ^ j := by rw [msk, if_pos h]
theorem msk_no {cs : List Int} {x : Int} {j : Nat} (h : cs.getD j 0 ≠ x) : msk cs x (j + 1) = msk cs x j := by rw [msk, if_neg h]
end Go.Proofs.YtpogjegihhljpaaDoor.Bt

namespace Go.Proofs.YtpogjegihhljpaaDoor
set_option maxRecDepth 100000
open Go.RowKit

/-- Block g holds a position: a size and three sets. -/
def Px (w : World) (g : Nat) (s : Int) (a b d : Nat) : Prop := w.heap[g]? = some (.cells #[.int .i64 s, .int .u64 (a : Nat), .int .u64 (b : Nat), .int .u64 (d : Nat)] 67 (0, 0))
section
variable {w w' : World} {g a b d : Nat} {s : Int}
theorem Px.lt (h : Px w g s a b d) : g < w.heap.size := by
  rcases Nat.lt_or_ge g w.heap.size with hlt | hge
  · exact hlt
  · unfold Px at h; rw [Array.getElem?_eq_none hge] at h; cases h
theorem Px.c0 (h : Px w g s a b d) : w.cell? ⟨g, 0, none⟩ = some (.int .i64 s) := by unfold Px at h; simp [World.cell?, h]
theorem Px.c1 (h : Px w g s a b d) : w.cell? ⟨g, 1, none⟩ = some (.int .u64 (a : Nat)) := by unfold Px at h; simp [World.cell?, h]
theorem Px.c2 (h : Px w g s a b d) : w.cell? ⟨g, 2, none⟩ = some (.int .u64 (b : Nat)) := by unfold Px at h; simp [World.cell?, h]
theorem Px.c3 (h : Px w g s a b d) : w.cell? ⟨g, 3, none⟩ = some (.int .u64 (d : Nat)) := by unfold Px at h; simp [World.cell?, h]
theorem Px.fz (h : Px w g s a b d) (i : Nat) : w.frozen? ⟨g, i, none⟩ = false := by unfold Px at h; simp [World.frozen?, h]
theorem Px.new (w : World) (s : Int) (a b d : Nat) : Px (w.alloc (.cells #[.int .i64 s, .int .u64 (a : Nat), .int .u64 (b : Nat), .int .u64 (d : Nat)] 67)) w.heap.size s a b d := heap_alloc_new w _
theorem Px.below {B : Nat} (h : Px w g s a b d) (hb : Below B w w') (hg : g < B) : Px w' g s a b d := (hb.block g hg).trans h
theorem Px.step (h : Px w g s a b d) (hb : Below w.heap.size w w') : Px w' g s a b d := h.below hb h.lt
theorem Px.far (h : Px w g s a b d) {p : Addr} (hp : g ≠ p.block) (u : Value) : Px (w.setCell p u) g s a b d := (Below.heap_setCell w p u g hp).trans h
theorem Px.set0 (h : Px w g s a b d) (x : Int) : Px (w.setCell ⟨g, 0, none⟩ (.int .i64 x)) g x a b d := by unfold Px at h ⊢; simp [World.setCell, Array.getElem?_modify, h]
theorem Px.set1 (h : Px w g s a b d) (x : Nat) : Px (w.setCell ⟨g, 1, none⟩ (.int .u64 (x : Nat))) g s x b d := by unfold Px at h ⊢; simp [World.setCell, Array.getElem?_modify, h]
theorem Px.set2 (h : Px w g s a b d) (x : Nat) : Px (w.setCell ⟨g, 2, none⟩ (.int .u64 (x : Nat))) g s a x d := by unfold Px at h ⊢; simp [World.setCell, Array.getElem?_modify, h]
theorem Px.set3 (h : Px w g s a b d) (x : Nat) : Px (w.setCell ⟨g, 3, none⟩ (.int .u64 (x : Nat))) g s a b x := by unfold Px at h ⊢; simp [World.setCell, Array.getElem?_modify, h]
end

set_option maxHeartbeats 2000000 in
theorem i_positionOf (k : Nat) (w : World) (B : Nat) (A : Option Addr) (n c : Nat) (cs : List Int) (h : Ints w B A n cs) (hB : B ≤ w.heap.size) (hv : Bd.okB (k : Int) cs = true) :
    Calls Tryd.prog 48 #[.agg #[.int .i64 (k : Nat), .slice A n c]] w fun e w' => e = .returned (.agg #[.int .i64 (k : Nat), .int .u64 (Bt.msk cs 0 n : Nat), .int .u64 (Bt.msk cs 1 n : Nat), .int .u64 (Bt.msk cs 2 n : Nat)]) ∧ Below w.heap.size w w' := by
  obtain ⟨q1, q2, q3, q4⟩ := (Bd.okB_iff (k : Int) cs).1 hv
  have hl := h.1
  have hsq := Pt.sq_bd (k : Int) q1 q2
  have hn49 : n ≤ 49 := by omega
  have hn1 : 1 ≤ n := by omega
  obtain ⟨b0, o0, rfl, hbB, hcc⟩ : ∃ b o, A = some ⟨b, o, none⟩ ∧ b < B ∧ ∀ j, j < n → w.cell? ⟨b, o + j, none⟩ = some (.int .i64 (cs.getD j 0)) := by
    rcases h.2 with h0 | ⟨b, o, hA, hbB, hc⟩
    · omega
    · exact ⟨b, o, hA, hbB, hc⟩
  have hok : ∀ j, j < n → 0 ≤ cs.getD j 0 ∧ cs.getD j 0 ≤ 2 := fun j hj => by
    have hj' : j < cs.length := by omega
    rw [List.getD_eq_getElem?_getD, List.getElem?_eq_getElem hj']
    exact q4 _ (List.getElem_mem hj')
  have e1 : (w.alloc (.cells #[.int .i64 (k : Nat), .slice (some ⟨b0, o0, none⟩) n c] 25)).heap.size = w.heap.size + 1 := by simp
  have x0 := ((Bx.new 25 w (k : Nat) (.slice (some ⟨b0, o0, none⟩) n c)).alloc (.cells #[.int .i64 0, .int .u64 0, .int .u64 0, .int .u64 0] 67)).alloc (.cells #[.int .i64 (k : Nat), .int .u64 0, .int .u64 0, .int .u64 0] 67)
  have p0 := Px.new (w.alloc (.cells #[.int .i64 (k : Nat), .slice (some ⟨b0, o0, none⟩) n c] 25)) 0 0 0 0
  have p1 := Px.new ((w.alloc (.cells #[.int .i64 (k : Nat), .slice (some ⟨b0, o0, none⟩) n c] 25)).alloc (.cells #[.int .i64 0, .int .u64 0, .int .u64 0, .int .u64 0] 67)) (k : Nat) 0 0 0
  have hb3 : Below w.heap.size w (((w.alloc (.cells #[.int .i64 (k : Nat), .slice (some ⟨b0, o0, none⟩) n c] 25)).alloc (.cells #[.int .i64 0, .int .u64 0, .int .u64 0, .int .u64 0] 67)).alloc (.cells #[.int .i64 (k : Nat), .int .u64 0, .int .u64 0, .int .u64 0] 67)) := (((Below.refl _ _).alloc (Nat.le_refl _) _).alloc (by simp) _).alloc (by simp; omega) _
  have X0 := Lib.hid (Bx.new 25 w (k : Nat) (.slice (some ⟨b0, o0, none⟩) n c))
  have u0 := X0.out.cell0
  have u1 := X0.out.cell1
  have Hcc := Lib.hid hcc
  have Hok := Lib.hid hok
  have HL := Lib.hid hl
  have X3 := Lib.hid x0
  have P0 := Lib.hid p0
  have P1 := Lib.hid p1
  have Hb3 := Lib.hid hb3
  have E1' := Lib.hid e1
  clear h hcc hok hl q3 q4 hv x0 p0 p1 hb3 e1
  go_enter Tryd.func48, Tryd.ntmps48
  go_wp2_with fail
  obtain ⟨y, hy⟩ : ∃ y, y = (((w.alloc (.cells #[.int .i64 (k : Nat), .slice (some ⟨b0, o0, none⟩) n c] 25)).alloc (.cells #[.int .i64 0, .int .u64 0, .int .u64 0, .int .u64 0] 67)).alloc (.cells #[.int .i64 (k : Nat), .int .u64 0, .int .u64 0, .int .u64 0] 67)) := ⟨_, rfl⟩
  rw [← hy]
  have X3 : Hid (Bx 25 y w.heap.size (k : Nat) (.slice (some ⟨b0, o0, none⟩) n c)) := Lib.hid (by rw [hy]; exact X3.out)
  have P0 : Hid (Px y (w.heap.size + 1) 0 0 0 0) := Lib.hid (by rw [hy]; exact (show Px _ _ 0 0 0 0 by have := P0.out.step ((Below.refl _ _).alloc (Nat.le_refl _) (.cells #[.int .i64 (k : Nat), .int .u64 0, .int .u64 0, .int .u64 0] 67)); simpa using this))
  have P1 : Hid (Px y (w.heap.size + 1 + 1) (k : Nat) 0 0 0) := Lib.hid (by rw [hy]; simpa using P1.out)
  have Hb3 : Hid (Below w.heap.size w y) := Lib.hid (by rw [hy]; exact Hb3.out)
  have hyz : w.heap.size + 3 = y.heap.size := by rw [hy]; simp
  have Hyz := Lib.hid hyz
  clear hy hyz u0 u1 X0
  go_loopw [12] (fun i wr => ∃ j : Nat, j ≤ n ∧ i = .int .i64 j ∧ Px wr (w.heap.size + 1 + 1) (k : Nat) (Bt.msk cs 0 j) (Bt.msk cs 1 j) (Bt.msk cs 2 j) ∧ Px wr (w.heap.size + 1) 0 0 0 0 ∧ Below w.heap.size w wr) (fun i _ => n - (intOf i).toNat)
  case atStart => exact ⟨0, by omega, rfl, P1.out, P0.out, Hb3.out⟩
  case round =>
    clear P0 P1 Hb3 X3 Hyz
    obtain ⟨j, hj, rfl, hp1, hp0, hb⟩ := hrel
    have P1 := Lib.hid hp1
    have P0 := Lib.hid hp0
    have Hb := Lib.hid hb
    clear hp1 hp0 hb
    by_cases hjn : j < n
    · have hjI : (j : Int) < n := by omega
      have ck := (Hb.out.cell (p := ⟨b0, o0 + j, none⟩) (by show b0 < _; omega)).trans (Hcc.out j hjn)
      have hx := Hok.out j hjn
      obtain ⟨x, hxe⟩ : ∃ x, cs.getD j 0 = x := ⟨_, rfl⟩
      rw [hxe] at ck hx
      have Hx := Lib.hid hxe
      obtain ⟨P, hP⟩ : ∃ P, P = 2 ^ j := ⟨_, rfl⟩
      have HP := Lib.hid hP
      have hP64 : P < 18446744073709551616 := by
        have : 2 ^ j < 2 ^ 64 := Nat.pow_lt_pow_right (by decide) (by omega)
        omega
      have hm : ∀ z : Int, Bt.msk cs z j < 18446744073709551616 := fun z => by
        have h1 := Bt.msk_lt cs z j
        have h2 : 2 ^ j < 2 ^ 64 := Nat.pow_lt_pow_right (by decide) (by omega)
        omega
      obtain ⟨m0, hm0⟩ : ∃ m, Bt.msk cs 0 j = m := ⟨_, rfl⟩
      obtain ⟨m1, hm1⟩ : ∃ m, Bt.msk cs 1 j = m := ⟨_, rfl⟩
      obtain ⟨m2, hm2⟩ : ∃ m, Bt.msk cs 2 j = m := ⟨_, rfl⟩
      have r0 : bits .or .u64 (m0 : Int) (P : Int) = ((m0 ||| P : Nat) : Int) := u64_or_nat _ _ (by rw [← hm0]; exact hm 0) hP64
      have r1 : bits .or .u64 (m1 : Int) (P : Int) = ((m1 ||| P : Nat) : Int) := u64_or_nat _ _ (by rw [← hm1]; exact hm 1) hP64
      have r2 : bits .or .u64 (m2 : Int) (P : Int) = ((m2 ||| P : Nat) : Int) := u64_or_nat _ _ (by rw [← hm2]; exact hm 2) hP64
      have R0 := Lib.hid r0
      have R1 := Lib.hid r1
      have R2 := Lib.hid r2
      rw [hm0, hm1, hm2] at P1
      have Hm0 := Lib.hid hm0
      have Hm1 := Lib.hid hm1
      have Hm2 := Lib.hid hm2
      clear hm0 hm1 hm2 r0 r1 r2 hm hP hxe hP64
      have hx3 : x = 0 ∨ x = 1 ∨ x = 2 := by omega
      clear hx
      rcases hx3 with rfl | rfl | rfl
      · have p1 := P1.out.c1
        have f1 := P1.out.fz 1
        have hfin : Px wr (w.heap.size + 1 + 1) (k : Nat) m0 m1 m2 → Px (wr.setCell ⟨w.heap.size + 1 + 1, 1, none⟩ (.int .u64 (bits .or .u64 (m0 : Int) (P : Int)))) (w.heap.size + 1 + 1) (k : Nat) (Bt.msk cs 0 (j + 1)) (Bt.msk cs 1 (j + 1)) (Bt.msk cs 2 (j + 1)) := fun h => by
          have e0 : Bt.msk cs 0 (j + 1) = m0 ||| P := by rw [Bt.msk_yes Hx.out, Hm0.out, HP.out]
          have e1 : Bt.msk cs 1 (j + 1) = m1 := by rw [Bt.msk_no (by rw [Hx.out]; decide), Hm1.out]
          have e2 : Bt.msk cs 2 (j + 1) = m2 := by rw [Bt.msk_no (by rw [Hx.out]; decide), Hm2.out]
          rw [e0, e1, e2, R0.out]
          exact h.set1 _
        have Hfin := Lib.hid (hfin P1.out)
        have P0' := Lib.hid (P0.out.far (p := ⟨w.heap.size + 1 + 1, 1, none⟩) (by show w.heap.size + 1 ≠ w.heap.size + 1 + 1; omega) (.int .u64 (bits .or .u64 (m0 : Int) (P : Int))))
        have Hb' := Lib.hid (Hb.out.setCell (p := ⟨w.heap.size + 1 + 1, 1, none⟩) (by show w.heap.size ≤ w.heap.size + 1 + 1; omega) (.int .u64 (bits .or .u64 (m0 : Int) (P : Int))))
        clear hfin
        go_wp2_with fail
        go_region_with (go_at_call 70; refine (i_onlyN _ j P _ rfl HP.out (by omega)).mono ?_; rintro e w' ⟨rfl, rfl⟩)
        all_goals
          go_wp2_with fail
          go_roundw
          case rel => exact ⟨j + 1, by omega, by go_num, Hfin.out, P0'.out, ⟨Hb'.out.os, Hb'.out.tape, Hb'.out.output, Hb'.out.size, Hb'.out.block⟩⟩
          case measure => simp [intOf]; omega
      · have p1 := P1.out.c2
        have f1 := P1.out.fz 2
        have hfin : Px wr (w.heap.size + 1 + 1) (k : Nat) m0 m1 m2 → Px (wr.setCell ⟨w.heap.size + 1 + 1, 2, none⟩ (.int .u64 (bits .or .u64 (m1 : Int) (P : Int)))) (w.heap.size + 1 + 1) (k : Nat) (Bt.msk cs 0 (j + 1)) (Bt.msk cs 1 (j + 1)) (Bt.msk cs 2 (j + 1)) := fun h => by
          have e1 : Bt.msk cs 1 (j + 1) = m1 ||| P := by rw [Bt.msk_yes Hx.out, Hm1.out, HP.out]
          have e0 : Bt.msk cs 0 (j + 1) = m0 := by rw [Bt.msk_no (by rw [Hx.out]; decide), Hm0.out]
          have e2 : Bt.msk cs 2 (j + 1) = m2 := by rw [Bt.msk_no (by rw [Hx.out]; decide), Hm2.out]
          rw [e0, e1, e2, R1.out]
          exact h.set2 _
        have Hfin := Lib.hid (hfin P1.out)
        have P0' := Lib.hid (P0.out.far (p := ⟨w.heap.size + 1 + 1, 2, none⟩) (by show w.heap.size + 1 ≠ w.heap.size + 1 + 1; omega) (.int .u64 (bits .or .u64 (m1 : Int) (P : Int))))
        have Hb' := Lib.hid (Hb.out.setCell (p := ⟨w.heap.size + 1 + 1, 2, none⟩) (by show w.heap.size ≤ w.heap.size + 1 + 1; omega) (.int .u64 (bits .or .u64 (m1 : Int) (P : Int))))
        clear hfin
        go_wp2_with fail
        go_region_with (go_at_call 70; refine (i_onlyN _ j P _ rfl HP.out (by omega)).mono ?_; rintro e w' ⟨rfl, rfl⟩)
        all_goals
          go_wp2_with fail
          go_roundw
          case rel => exact ⟨j + 1, by omega, by go_num, Hfin.out, P0'.out, ⟨Hb'.out.os, Hb'.out.tape, Hb'.out.output, Hb'.out.size, Hb'.out.block⟩⟩
          case measure => simp [intOf]; omega
      · have p1 := P1.out.c3
        have f1 := P1.out.fz 3
        have hfin : Px wr (w.heap.size + 1 + 1) (k : Nat) m0 m1 m2 → Px (wr.setCell ⟨w.heap.size + 1 + 1, 3, none⟩ (.int .u64 (bits .or .u64 (m2 : Int) (P : Int)))) (w.heap.size + 1 + 1) (k : Nat) (Bt.msk cs 0 (j + 1)) (Bt.msk cs 1 (j + 1)) (Bt.msk cs 2 (j + 1)) := fun h => by
          have e2 : Bt.msk cs 2 (j + 1) = m2 ||| P := by rw [Bt.msk_yes Hx.out, Hm2.out, HP.out]
          have e0 : Bt.msk cs 0 (j + 1) = m0 := by rw [Bt.msk_no (by rw [Hx.out]; decide), Hm0.out]
          have e1 : Bt.msk cs 1 (j + 1) = m1 := by rw [Bt.msk_no (by rw [Hx.out]; decide), Hm1.out]
          rw [e0, e1, e2, R2.out]
          exact h.set3 _
        have Hfin := Lib.hid (hfin P1.out)
        have P0' := Lib.hid (P0.out.far (p := ⟨w.heap.size + 1 + 1, 3, none⟩) (by show w.heap.size + 1 ≠ w.heap.size + 1 + 1; omega) (.int .u64 (bits .or .u64 (m2 : Int) (P : Int))))
        have Hb' := Lib.hid (Hb.out.setCell (p := ⟨w.heap.size + 1 + 1, 3, none⟩) (by show w.heap.size ≤ w.heap.size + 1 + 1; omega) (.int .u64 (bits .or .u64 (m2 : Int) (P : Int))))
        clear hfin
        go_wp2_with fail
        go_region_with (go_at_call 70; refine (i_onlyN _ j P _ rfl HP.out (by omega)).mono ?_; rintro e w' ⟨rfl, rfl⟩)
        all_goals
          go_wp2_with fail
          go_roundw
          case rel => exact ⟨j + 1, by omega, by go_num, Hfin.out, P0'.out, ⟨Hb'.out.os, Hb'.out.tape, Hb'.out.output, Hb'.out.size, Hb'.out.block⟩⟩
          case measure => simp [intOf]; omega
    · have c0 := P1.out.c0
      have c1 := P1.out.c1
      have c2 := P1.out.c2
      have c3 := P1.out.c3
      have d0 := P0.out.c0
      have d1 := P0.out.c1
      have d2 := P0.out.c2
      have d3 := P0.out.c3
      have f0 := P0.out.fz 0
      have f1 := P0.out.fz 1
      have f2 := P0.out.fz 2
      have f3 := P0.out.fz 3
      have hlt := P0.out.lt
      have hjn' : n = j := by omega
      have HJ := Lib.hid hjn'
      have hge : ¬ (j : Int) < n := by omega
      obtain ⟨m0, hm0⟩ : ∃ m, Bt.msk cs 0 j = m := ⟨_, rfl⟩
      obtain ⟨m1, hm1⟩ : ∃ m, Bt.msk cs 1 j = m := ⟨_, rfl⟩
      obtain ⟨m2, hm2⟩ : ∃ m, Bt.msk cs 2 j = m := ⟨_, rfl⟩
      rw [hm0] at c1
      rw [hm1] at c2
      rw [hm2] at c3
      have Hm0 := Lib.hid hm0
      have Hm1 := Lib.hid hm1
      have Hm2 := Lib.hid hm2
      have Hb' := Lib.hid ((((Hb.out.setCell (p := ⟨w.heap.size + 1, 0, none⟩) (by show w.heap.size ≤ w.heap.size + 1; omega) (.int .i64 (k : Nat))).setCell (p := ⟨w.heap.size + 1, 1, none⟩) (by show w.heap.size ≤ w.heap.size + 1; omega) (.int .u64 (m0 : Nat))).setCell (p := ⟨w.heap.size + 1, 2, none⟩) (by show w.heap.size ≤ w.heap.size + 1; omega) (.int .u64 (m1 : Nat))).setCell (p := ⟨w.heap.size + 1, 3, none⟩) (by show w.heap.size ≤ w.heap.size + 1; omega) (.int .u64 (m2 : Nat)))
      have t0 : Px wr (w.heap.size + 1) 0 0 0 0 := P0.out
      have t1 : Px ((((wr.setCell ⟨w.heap.size + 1, 0, none⟩ (.int .i64 (k : Nat))).setCell ⟨w.heap.size + 1, 1, none⟩ (.int .u64 (m0 : Nat))).setCell ⟨w.heap.size + 1, 2, none⟩ (.int .u64 (m1 : Nat))).setCell ⟨w.heap.size + 1, 3, none⟩ (.int .u64 (m2 : Nat))) (w.heap.size + 1) (k : Nat) m0 m1 m2 := (((t0.set0 (k : Nat)).set1 m0).set2 m1).set3 m2
      have T1 := Lib.hid t1
      clear hm0 hm1 hm2 t0 t1 hjn' hjn
      go_wp2_with fail
      have k0 := T1.out.c0
      have k1 := T1.out.c1
      have k2 := T1.out.c2
      have k3 := T1.out.c3
      refine bodyPost_ret (v := .agg #[.int .i64 (k : Nat), .int .u64 (m0 : Nat), .int .u64 (m1 : Nat), .int .u64 (m2 : Nat)]) (by simp [results, Tryd.results48, go_sem, k0, k1, k2, k3]) rfl ?_
      exact ⟨by rw [HJ.out, Hm0.out, Hm1.out, Hm2.out], Hb'.out⟩
end Go.Proofs.YtpogjegihhljpaaDoor

namespace Go.Proofs.YtpogjegihhljpaaDoor
set_option maxRecDepth 100000
open Go.RowKit

/-- It only reads: what it draws alone may have changed. -/
def Qt (v : Value) (w : World) (e : Ending) (w' : World) : Prop := e = .returned v ∧ ∃ m, w' = w.drewN m

theorem i_around (s m : Nat) (w : World) (h1 : 1 ≤ s) (h2 : s ≤ 7) (hm : m < 2 ^ (s * s)) :
    Calls Tryd.prog 105 #[.int .u64 m, .int .i64 s] w fun e w' => e = .returned (.int .u64 ((Bt.aro s m : Nat) : Int)) ∧ ∃ d, w' = w.drewN d := by
  have h7 := (Bt.masks s h1 h2).2.2.2.2.2.2
  have hm64 : m < 18446744073709551616 := by omega
  have hb := Bt.bes_lt s m h1 h2 hm
  have ha := Bt.abv_lt s m
  have hor : bits .or .u64 ((Bt.bes s m : Nat) : Int) ((Bt.abv s m : Nat) : Int) = ((Bt.aro s m : Nat) : Int) := u64_or_nat _ _ (by omega) (by omega)
  have HO := Lib.hid hor
  clear hor hb ha h7 hm
  go_enter Tryd.func105, Tryd.ntmps105
  go_wp2_with fail
  refine (i_beside s m _ h1 h2 hm64).mono ?_
  rintro e w' ⟨rfl, rfl⟩
  go_wp2_with fail
  refine (i_above s m _ h1 h2 hm64).mono ?_
  rintro e w' ⟨k, rfl, rfl⟩
  go_wp2_with fail
  go_ret
  exact ⟨by rw [← HO.out]; rfl, _, rfl⟩
theorem i_oth1 (w : World) : Calls Tryd.prog 75 #[.int .i64 1] w fun e w' => e = .returned (.int .i64 2) ∧ w' = w := by
  go_enter Tryd.func75, Tryd.ntmps75
  go_wp2_with fail
  go_ret
  exact ⟨rfl, rfl⟩
theorem i_oth2 (w : World) : Calls Tryd.prog 75 #[.int .i64 2] w fun e w' => e = .returned (.int .i64 1) ∧ w' = w := by
  go_enter Tryd.func75, Tryd.ntmps75
  go_wp2_with fail
  go_ret
  exact ⟨rfl, rfl⟩
end Go.Proofs.YtpogjegihhljpaaDoor

namespace Go.Proofs.YtpogjegihhljpaaDoor
set_option maxRecDepth 100000
open Go.RowKit

/-- Empty points all of whose neighbours have the color of M. -/
def encM (s E M O : Nat) : Nat := (E &&& Bt.aro s M) &&& (18446744073709551615 - Bt.aro s (E ||| O))
/-- Whether the corners of a point hold. -/
def holdB (s p O : Nat) : Bool := if (Bt.pts (Bt.abv s (Bt.bes s (2 ^ p))) 64).length = 4 then decide ((Bt.pts (Bt.abv s (Bt.bes s (2 ^ p)) &&& O) 64).length ≤ 1) else decide ((Bt.pts (Bt.abv s (Bt.bes s (2 ^ p)) &&& O) 64).length = 0)

section
variable (s E M O : Nat) (w : World) (h1 : 1 ≤ s) (h2 : s ≤ 7) (hE : E < 2 ^ (s * s)) (hM : M < 2 ^ (s * s)) (hO : O < 2 ^ (s * s))
include h1 h2 hE hM hO

set_option maxHeartbeats 2000000 in
theorem i_enclosed1 : Calls Tryd.prog 93 #[.agg #[.int .i64 (s : Nat), .int .u64 (E : Nat), .int .u64 (M : Nat), .int .u64 (O : Nat)], .int .i64 1] w fun e w' => e = .returned (.int .u64 ((encM s E M O : Nat) : Int)) ∧ Below w.heap.size w w' := by
  have h7 := (Bt.masks s h1 h2).2.2.2.2.2.2
  obtain ⟨Q, hQ⟩ : ∃ Q, Q = E ||| O := ⟨_, rfl⟩
  have hQl : Q < 2 ^ (s * s) := by rw [hQ]; exact Bt.or_lt hE hO
  have hAM := Bt.aro_lt s M h1 h2 hM
  have hAQ := Bt.aro_lt s Q h1 h2 hQl
  obtain ⟨aM, haM⟩ : ∃ a, a = Bt.aro s M := ⟨_, rfl⟩
  obtain ⟨aQ, haQ⟩ : ∃ a, a = Bt.aro s Q := ⟨_, rfl⟩
  rw [← haM] at hAM
  rw [← haQ] at hAQ
  obtain ⟨X, hX⟩ : ∃ X, X = E &&& aM := ⟨_, rfl⟩
  have hXE : X ≤ E := by rw [hX]; exact Nat.and_le_left
  have r1 : bits .or .u64 (E : Int) (O : Int) = (Q : Int) := by rw [hQ]; exact u64_or_nat _ _ (by omega) (by omega)
  have r2 : bits .and .u64 (E : Int) (aM : Int) = (X : Int) := by rw [hX]; exact u64_and_nat _ _ (by omega) (by omega)
  have r3 : bits .andNot .u64 (X : Int) (aQ : Int) = ((encM s E M O : Nat) : Int) := by rw [u64_andNot_nat _ _ (by omega) (by omega), hX, haM, haQ, hQ]; rfl
  have cM : ∀ w, Calls Tryd.prog 105 #[.int .u64 (M : Nat), .int .i64 (s : Nat)] w fun e w' => e = .returned (.int .u64 (aM : Int)) ∧ ∃ d, w' = w.drewN d := fun w => by rw [haM]; exact i_around s M w h1 h2 hM
  have cQ : ∀ w, Calls Tryd.prog 105 #[.int .u64 (Q : Nat), .int .i64 (s : Nat)] w fun e w' => e = .returned (.int .u64 (aQ : Int)) ∧ ∃ d, w' = w.drewN d := fun w => by rw [haQ]; exact i_around s Q w h1 h2 hQl
  have CM := Lib.hid cM
  have CQ := Lib.hid cQ
  have P0 := Lib.hid (Px.new w (s : Nat) E M O)
  have Hb := Lib.hid ((Below.refl w.heap.size w).alloc (Nat.le_refl _) (.cells #[.int .i64 (s : Nat), .int .u64 (E : Nat), .int .u64 (M : Nat), .int .u64 (O : Nat)] 67))
  have R3 := Lib.hid r3
  have c0 := P0.out.c0
  have c1 := P0.out.c1
  have c2 := P0.out.c2
  have c3 := P0.out.c3
  clear h7 hQ hQl hAM hAQ haM haQ hX hXE r3 cM cQ hE hM hO
  go_enter Tryd.func93, Tryd.ntmps93
  go_wp2_with fail
  go_quiet ((go_at_call 75; exact Calls.quiet_of_same (i_oth1 _)))
  go_wp2_with fail
  obtain ⟨y, hy⟩ : ∃ y, y = (w.alloc (.cells #[.int .i64 (s : Nat), .int .u64 (E : Nat), .int .u64 (M : Nat), .int .u64 (O : Nat)] 67)).drewN nq := ⟨_, rfl⟩
  have P1 : Hid (Px y w.heap.size (s : Nat) E M O) := Lib.hid (by rw [hy]; exact P0.out)
  have Hb1 : Hid (Below w.heap.size w y) := Lib.hid (by rw [hy]; exact ⟨Hb.out.os, Hb.out.tape, Hb.out.output, Hb.out.size, Hb.out.block⟩)
  rw [← hy]
  clear hy c0 c1 c2 c3 P0 Hb
  have c0 := P1.out.c0
  have c1 := P1.out.c1
  have c2 := P1.out.c2
  have c3 := P1.out.c3
  go_quiet ((first | (go_at_call 105; (with_reducible show Calls _ _ #[.int .u64 (M : Nat), _] _ _); exact Calls.quiet_of (CM.out _)) | (go_at_call 105; (with_reducible show Calls _ _ #[.int .u64 (Q : Nat), _] _ _); exact Calls.quiet_of (CQ.out _))))
  go_wp2_with fail
  go_ret
  exact ⟨by rw [← R3.out]; rfl, ⟨Hb1.out.os, Hb1.out.tape, Hb1.out.output, Hb1.out.size, Hb1.out.block⟩⟩

set_option maxHeartbeats 2000000 in
theorem i_enclosed2 : Calls Tryd.prog 93 #[.agg #[.int .i64 (s : Nat), .int .u64 (E : Nat), .int .u64 (O : Nat), .int .u64 (M : Nat)], .int .i64 2] w fun e w' => e = .returned (.int .u64 ((encM s E M O : Nat) : Int)) ∧ Below w.heap.size w w' := by
  have h7 := (Bt.masks s h1 h2).2.2.2.2.2.2
  obtain ⟨Q, hQ⟩ : ∃ Q, Q = E ||| O := ⟨_, rfl⟩
  have hQl : Q < 2 ^ (s * s) := by rw [hQ]; exact Bt.or_lt hE hO
  have hAM := Bt.aro_lt s M h1 h2 hM
  have hAQ := Bt.aro_lt s Q h1 h2 hQl
  obtain ⟨aM, haM⟩ : ∃ a, a = Bt.aro s M := ⟨_, rfl⟩
  obtain ⟨aQ, haQ⟩ : ∃ a, a = Bt.aro s Q := ⟨_, rfl⟩
  rw [← haM] at hAM
  rw [← haQ] at hAQ
  obtain ⟨X, hX⟩ : ∃ X, X = E &&& aM := ⟨_, rfl⟩
  have hXE : X ≤ E := by rw [hX]; exact Nat.and_le_left
  have r1 : bits .or .u64 (E : Int) (O : Int) = (Q : Int) := by rw [hQ]; exact u64_or_nat _ _ (by omega) (by omega)
  have r2 : bits .and .u64 (E : Int) (aM : Int) = (X : Int) := by rw [hX]; exact u64_and_nat _ _ (by omega) (by omega)
  have r3 : bits .andNot .u64 (X : Int) (aQ : Int) = ((encM s E M O : Nat) : Int) := by rw [u64_andNot_nat _ _ (by omega) (by omega), hX, haM, haQ, hQ]; rfl
  have cM : ∀ w, Calls Tryd.prog 105 #[.int .u64 (M : Nat), .int .i64 (s : Nat)] w fun e w' => e = .returned (.int .u64 (aM : Int)) ∧ ∃ d, w' = w.drewN d := fun w => by rw [haM]; exact i_around s M w h1 h2 hM
  have cQ : ∀ w, Calls Tryd.prog 105 #[.int .u64 (Q : Nat), .int .i64 (s : Nat)] w fun e w' => e = .returned (.int .u64 (aQ : Int)) ∧ ∃ d, w' = w.drewN d := fun w => by rw [haQ]; exact i_around s Q w h1 h2 hQl
  have CM := Lib.hid cM
  have CQ := Lib.hid cQ
  have P0 := Lib.hid (Px.new w (s : Nat) E O M)
  have Hb := Lib.hid ((Below.refl w.heap.size w).alloc (Nat.le_refl _) (.cells #[.int .i64 (s : Nat), .int .u64 (E : Nat), .int .u64 (O : Nat), .int .u64 (M : Nat)] 67))
  have R3 := Lib.hid r3
  have c0 := P0.out.c0
  have c1 := P0.out.c1
  have c2 := P0.out.c2
  have c3 := P0.out.c3
  clear h7 hQ hQl hAM hAQ haM haQ hX hXE r3 cM cQ hE hM hO
  go_enter Tryd.func93, Tryd.ntmps93
  go_wp2_with fail
  go_quiet ((go_at_call 75; exact Calls.quiet_of_same (i_oth2 _)))
  go_wp2_with fail
  obtain ⟨y, hy⟩ : ∃ y, y = (w.alloc (.cells #[.int .i64 (s : Nat), .int .u64 (E : Nat), .int .u64 (O : Nat), .int .u64 (M : Nat)] 67)).drewN nq := ⟨_, rfl⟩
  have P1 : Hid (Px y w.heap.size (s : Nat) E O M) := Lib.hid (by rw [hy]; exact P0.out)
  have Hb1 : Hid (Below w.heap.size w y) := Lib.hid (by rw [hy]; exact ⟨Hb.out.os, Hb.out.tape, Hb.out.output, Hb.out.size, Hb.out.block⟩)
  rw [← hy]
  clear hy c0 c1 c2 c3 P0 Hb
  have c0 := P1.out.c0
  have c1 := P1.out.c1
  have c2 := P1.out.c2
  have c3 := P1.out.c3
  go_quiet ((first | (go_at_call 105; (with_reducible show Calls _ _ #[.int .u64 (M : Nat), _] _ _); exact Calls.quiet_of (CM.out _)) | (go_at_call 105; (with_reducible show Calls _ _ #[.int .u64 (Q : Nat), _] _ _); exact Calls.quiet_of (CQ.out _))))
  go_wp2_with fail
  go_ret
  exact ⟨by rw [← R3.out]; rfl, ⟨Hb1.out.os, Hb1.out.tape, Hb1.out.output, Hb1.out.size, Hb1.out.block⟩⟩


end
end Go.Proofs.YtpogjegihhljpaaDoor

namespace Go.Proofs.YtpogjegihhljpaaDoor
set_option maxRecDepth 100000
open Go.RowKit

section
variable (s p E M O : Nat) (w : World) (h1 : 1 ≤ s) (h2 : s ≤ 7) (hp : p < s * s) (hO : O < 2 ^ (s * s))
include h1 h2 hp hO

set_option maxHeartbeats 2000000 in
theorem i_cornersHold1 : Calls Tryd.prog 94 #[.agg #[.int .i64 (s : Nat), .int .u64 (E : Nat), .int .u64 (M : Nat), .int .u64 (O : Nat)], .int .i64 (p : Nat), .int .i64 1] w fun e w' => e = .returned (.bool (holdB s p O)) ∧ Below w.heap.size w w' := by
  have h7 := (Bt.masks s h1 h2).2.2.2.2.2.2
  have hCl := Bt.abv_lt s (Bt.bes s (2 ^ p))
  have cD : ∀ w, Calls Tryd.prog 111 #[.int .i64 (s : Nat), .int .i64 (p : Nat)] w fun e w' => Drew (.int .u64 ((Bt.abv s (Bt.bes s (2 ^ p)) : Nat) : Int)) w e w' := fun w => i_diagonals s p w h1 h2 hp
  have hh : holdB s p O = if (Bt.pts (Bt.abv s (Bt.bes s (2 ^ p))) 64).length = 4 then decide ((Bt.pts (Bt.abv s (Bt.bes s (2 ^ p)) &&& O) 64).length ≤ 1) else decide ((Bt.pts (Bt.abv s (Bt.bes s (2 ^ p)) &&& O) 64).length = 0) := rfl
  obtain ⟨C, hC⟩ : ∃ C, Bt.abv s (Bt.bes s (2 ^ p)) = C := ⟨_, rfl⟩
  rw [hC] at hCl cD hh
  obtain ⟨L, hL⟩ : ∃ L, C &&& O = L := ⟨_, rfl⟩
  have hLC : L ≤ C := by rw [← hL]; exact Nat.and_le_left
  have hC64 : C < 18446744073709551616 := by omega
  have hL64 : L < 18446744073709551616 := by omega
  have r1 : bits .and .u64 (C : Int) (O : Int) = (L : Int) := by rw [← hL]; exact u64_and_nat _ _ hC64 (by omega)
  rw [hL] at hh
  have cC : ∀ w, Calls Tryd.prog 112 #[.int .u64 (C : Nat)] w fun e w' => e = .returned (.int .i64 ((Bt.pts C 64).length : Int)) ∧ w = w' := fun w => i_pcount C w hC64
  have cL : ∀ w, Calls Tryd.prog 112 #[.int .u64 (L : Nat)] w fun e w' => e = .returned (.int .i64 ((Bt.pts L 64).length : Int)) ∧ w = w' := fun w => i_pcount L w hL64
  have lC := Bt.pts_len C 64
  have lL := Bt.pts_len L 64
  obtain ⟨nC, hnC⟩ : ∃ n, (Bt.pts C 64).length = n := ⟨_, rfl⟩
  obtain ⟨nL, hnL⟩ : ∃ n, (Bt.pts L 64).length = n := ⟨_, rfl⟩
  rw [hnC] at cC hh lC
  rw [hnL] at cL hh lL
  have CD := Lib.hid cD
  have CC := Lib.hid cC
  have CL := Lib.hid cL
  have HH := Lib.hid hh
  have P0 := Lib.hid (Px.new w (s : Nat) E M O)
  have Hb := Lib.hid ((Below.refl w.heap.size w).alloc (Nat.le_refl _) (.cells #[.int .i64 (s : Nat), .int .u64 (E : Nat), .int .u64 (M : Nat), .int .u64 (O : Nat)] 67))
  have c0 := P0.out.c0
  have c1 := P0.out.c1
  have c2 := P0.out.c2
  have c3 := P0.out.c3
  clear h7 hCl hC hL hLC hC64 hL64 cD cC cL hh hnC hnL hO
  by_cases h4 : nC = 4
  · have b4 : ((nC : Int) == 4) = true := by rw [h4]; rfl
    have HH4 : Hid (holdB s p O = decide ((nL : Int) ≤ 1)) := Lib.hid (by rw [HH.out, if_pos h4]; exact decide_eq_decide.2 (by omega))
    clear h4
    go_enter Tryd.func94, Tryd.ntmps94
    go_wp2_with fail
    refine (CD.out _).mono ?_
    rintro e w' ⟨k, rfl, rfl⟩
    go_wp2_with fail
    refine (i_oth1 _).mono ?_
    rintro e w' ⟨rfl, rfl⟩
    go_wp2_with fail
    refine (CL.out _).mono ?_
    rintro e w' ⟨rfl, rfl⟩
    go_wp2_with fail
    refine (CC.out _).mono ?_
    rintro e w' ⟨rfl, rfl⟩
    go_wp2_with fail
    go_ret
    exact ⟨ret_bool HH4.out.symm, ⟨Hb.out.os, Hb.out.tape, Hb.out.output, Hb.out.size, Hb.out.block⟩⟩
  · have b4 : ((nC : Int) == 4) = false := by simp; omega
    have HH4 : Hid (holdB s p O = ((nL : Int) == 0)) := Lib.hid (by
      rw [HH.out, if_neg h4, Bool.eq_iff_iff, decide_eq_true_eq, beq_iff_eq]
      omega)
    clear h4
    go_enter Tryd.func94, Tryd.ntmps94
    go_wp2_with fail
    refine (CD.out _).mono ?_
    rintro e w' ⟨k, rfl, rfl⟩
    go_wp2_with fail
    refine (i_oth1 _).mono ?_
    rintro e w' ⟨rfl, rfl⟩
    go_wp2_with fail
    refine (CL.out _).mono ?_
    rintro e w' ⟨rfl, rfl⟩
    go_wp2_with fail
    refine (CC.out _).mono ?_
    rintro e w' ⟨rfl, rfl⟩
    go_wp2_with fail
    go_ret
    exact ⟨ret_bool HH4.out.symm, ⟨Hb.out.os, Hb.out.tape, Hb.out.output, Hb.out.size, Hb.out.block⟩⟩

set_option maxHeartbeats 2000000 in
theorem i_cornersHold2 : Calls Tryd.prog 94 #[.agg #[.int .i64 (s : Nat), .int .u64 (E : Nat), .int .u64 (O : Nat), .int .u64 (M : Nat)], .int .i64 (p : Nat), .int .i64 2] w fun e w' => e = .returned (.bool (holdB s p O)) ∧ Below w.heap.size w w' := by
  have h7 := (Bt.masks s h1 h2).2.2.2.2.2.2
  have hCl := Bt.abv_lt s (Bt.bes s (2 ^ p))
  have cD : ∀ w, Calls Tryd.prog 111 #[.int .i64 (s : Nat), .int .i64 (p : Nat)] w fun e w' => Drew (.int .u64 ((Bt.abv s (Bt.bes s (2 ^ p)) : Nat) : Int)) w e w' := fun w => i_diagonals s p w h1 h2 hp
  have hh : holdB s p O = if (Bt.pts (Bt.abv s (Bt.bes s (2 ^ p))) 64).length = 4 then decide ((Bt.pts (Bt.abv s (Bt.bes s (2 ^ p)) &&& O) 64).length ≤ 1) else decide ((Bt.pts (Bt.abv s (Bt.bes s (2 ^ p)) &&& O) 64).length = 0) := rfl
  obtain ⟨C, hC⟩ : ∃ C, Bt.abv s (Bt.bes s (2 ^ p)) = C := ⟨_, rfl⟩
  rw [hC] at hCl cD hh
  obtain ⟨L, hL⟩ : ∃ L, C &&& O = L := ⟨_, rfl⟩
  have hLC : L ≤ C := by rw [← hL]; exact Nat.and_le_left
  have hC64 : C < 18446744073709551616 := by omega
  have hL64 : L < 18446744073709551616 := by omega
  have r1 : bits .and .u64 (C : Int) (O : Int) = (L : Int) := by rw [← hL]; exact u64_and_nat _ _ hC64 (by omega)
  rw [hL] at hh
  have cC : ∀ w, Calls Tryd.prog 112 #[.int .u64 (C : Nat)] w fun e w' => e = .returned (.int .i64 ((Bt.pts C 64).length : Int)) ∧ w = w' := fun w => i_pcount C w hC64
  have cL : ∀ w, Calls Tryd.prog 112 #[.int .u64 (L : Nat)] w fun e w' => e = .returned (.int .i64 ((Bt.pts L 64).length : Int)) ∧ w = w' := fun w => i_pcount L w hL64
  have lC := Bt.pts_len C 64
  have lL := Bt.pts_len L 64
  obtain ⟨nC, hnC⟩ : ∃ n, (Bt.pts C 64).length = n := ⟨_, rfl⟩
  obtain ⟨nL, hnL⟩ : ∃ n, (Bt.pts L 64).length = n := ⟨_, rfl⟩
  rw [hnC] at cC hh lC
  rw [hnL] at cL hh lL
  have CD := Lib.hid cD
  have CC := Lib.hid cC
  have CL := Lib.hid cL
  have HH := Lib.hid hh
  have P0 := Lib.hid (Px.new w (s : Nat) E O M)
  have Hb := Lib.hid ((Below.refl w.heap.size w).alloc (Nat.le_refl _) (.cells #[.int .i64 (s : Nat), .int .u64 (E : Nat), .int .u64 (O : Nat), .int .u64 (M : Nat)] 67))
  have c0 := P0.out.c0
  have c1 := P0.out.c1
  have c2 := P0.out.c2
  have c3 := P0.out.c3
  clear h7 hCl hC hL hLC hC64 hL64 cD cC cL hh hnC hnL hO
  by_cases h4 : nC = 4
  · have b4 : ((nC : Int) == 4) = true := by rw [h4]; rfl
    have HH4 : Hid (holdB s p O = decide ((nL : Int) ≤ 1)) := Lib.hid (by rw [HH.out, if_pos h4]; exact decide_eq_decide.2 (by omega))
    clear h4
    go_enter Tryd.func94, Tryd.ntmps94
    go_wp2_with fail
    refine (CD.out _).mono ?_
    rintro e w' ⟨k, rfl, rfl⟩
    go_wp2_with fail
    refine (i_oth2 _).mono ?_
    rintro e w' ⟨rfl, rfl⟩
    go_wp2_with fail
    refine (CL.out _).mono ?_
    rintro e w' ⟨rfl, rfl⟩
    go_wp2_with fail
    refine (CC.out _).mono ?_
    rintro e w' ⟨rfl, rfl⟩
    go_wp2_with fail
    go_ret
    exact ⟨ret_bool HH4.out.symm, ⟨Hb.out.os, Hb.out.tape, Hb.out.output, Hb.out.size, Hb.out.block⟩⟩
  · have b4 : ((nC : Int) == 4) = false := by simp; omega
    have HH4 : Hid (holdB s p O = ((nL : Int) == 0)) := Lib.hid (by
      rw [HH.out, if_neg h4, Bool.eq_iff_iff, decide_eq_true_eq, beq_iff_eq]
      omega)
    clear h4
    go_enter Tryd.func94, Tryd.ntmps94
    go_wp2_with fail
    refine (CD.out _).mono ?_
    rintro e w' ⟨k, rfl, rfl⟩
    go_wp2_with fail
    refine (i_oth2 _).mono ?_
    rintro e w' ⟨rfl, rfl⟩
    go_wp2_with fail
    refine (CL.out _).mono ?_
    rintro e w' ⟨rfl, rfl⟩
    go_wp2_with fail
    refine (CC.out _).mono ?_
    rintro e w' ⟨rfl, rfl⟩
    go_wp2_with fail
    go_ret
    exact ⟨ret_bool HH4.out.symm, ⟨Hb.out.os, Hb.out.tape, Hb.out.output, Hb.out.size, Hb.out.block⟩⟩

end
end Go.Proofs.YtpogjegihhljpaaDoor

namespace Go.Proofs.YtpogjegihhljpaaDoor
set_option maxRecDepth 100000
open Go.RowKit

theorem encM_lt {s E M O : Nat} (hE : E < 2 ^ (s * s)) : encM s E M O < 2 ^ (s * s) := Nat.lt_of_le_of_lt Nat.and_le_left (Nat.lt_of_le_of_lt Nat.and_le_left hE)

/-- The eyes among the enclosed points Y. -/
def IsEy (s Y O m : Nat) : Prop := ∀ q, m.testBit q = (Y.testBit q && holdB s q O)
theorem IsEy.one {s Y O m m' : Nat} (h : IsEy s Y O m) (h' : IsEy s Y O m') : m = m' := Nat.eq_of_testBit_eq fun q => (h q).trans (h' q).symm
def EyP (s O : Nat) (l : List Int) (m : Nat) : Prop := ∀ q : Nat, m.testBit q = (decide ((q : Int) ∈ l) && holdB s q O)
theorem EyP.yes {s O m q : Nat} {l : List Int} {k : Nat} (h : EyP s O (l.take k) m) (hk : k < l.length) (hq : l.getD k 0 = (q : Int)) (hh : holdB s q O = true) : EyP s O (l.take (k + 1)) (m ||| 2 ^ q) := by
  intro z
  have ht : l.take (k + 1) = l.take k ++ [(q : Int)] := by
    rw [List.take_succ_eq_append_getElem hk]
    congr 2
    rw [List.getD_eq_getElem?_getD, List.getElem?_eq_getElem hk] at hq
    exact hq
  rw [Nat.testBit_or, h z, Nat.testBit_two_pow, ht]
  by_cases e : q = z
  · subst e
    simp [hh]
  · have e2 : ((z : Int) = (q : Int)) = False := by simp; omega
    simp [e, e2]
theorem EyP.no {s O m q : Nat} {l : List Int} {k : Nat} (h : EyP s O (l.take k) m) (hk : k < l.length) (hq : l.getD k 0 = (q : Int)) (hh : holdB s q O = false) : EyP s O (l.take (k + 1)) m := by
  intro z
  have ht : l.take (k + 1) = l.take k ++ [(q : Int)] := by
    rw [List.take_succ_eq_append_getElem hk]
    congr 2
    rw [List.getD_eq_getElem?_getD, List.getElem?_eq_getElem hk] at hq
    exact hq
  rw [h z, ht]
  by_cases e : q = z
  · subst e
    simp [hh]
  · have e2 : ((z : Int) = (q : Int)) = False := by simp; omega
    simp [e2]
theorem EyP.done {s O m Y : Nat} (hY : Y < 2 ^ 64) (h : EyP s O (Bt.pts Y 64) m) : IsEy s Y O m := by
  intro q
  rw [h q]
  congr 1
  rw [Bool.eq_iff_iff, decide_eq_true_eq, Bt.pts_mem]
  constructor
  · rintro ⟨z, hz, _, h2⟩
    have : q = z := by omega
    rw [this]; exact h2
  · intro hb
    refine ⟨q, rfl, ?_, hb⟩
    rcases Nat.lt_or_ge q 64 with h' | h'
    · exact h'
    · rw [Bt.high hY h'] at hb; cases hb

section
variable (s E M O : Nat) (w : World) (ht : Tab w) (h1 : 1 ≤ s) (h2 : s ≤ 7) (hE : E < 2 ^ (s * s)) (hM : M < 2 ^ (s * s)) (hO : O < 2 ^ (s * s))
include ht h1 h2 hE hM hO

set_option maxRecDepth 100000 in
set_option maxHeartbeats 2000000 in
theorem i_eyes1 : Calls Tryd.prog 67 #[.agg #[.int .i64 (s : Nat), .int .u64 (E : Nat), .int .u64 (M : Nat), .int .u64 (O : Nat)], .int .i64 1] w fun e w' => ∃ m : Nat, e = .returned (.tuple #[.int .u64 (m : Nat), .int .u64 ((encM s E M O &&& (18446744073709551615 - m) : Nat) : Int)]) ∧ IsEy s (encM s E M O) O m ∧ Below w.heap.size w w' := by
  have h7 := (Bt.masks s h1 h2).2.2.2.2.2.2
  have hsq := (Bt.sq_nat s h1 h2).2.1
  have cE : ∀ w, Calls Tryd.prog 93 #[.agg #[.int .i64 (s : Nat), .int .u64 (E : Nat), .int .u64 (M : Nat), .int .u64 (O : Nat)], .int .i64 1] w fun e w' => e = .returned (.int .u64 ((encM s E M O : Nat) : Int)) ∧ Below w.heap.size w w' := fun w => i_enclosed1 s E M O w h1 h2 hE hM hO
  have hYl := encM_lt (M := M) (O := O) hE
  obtain ⟨Y, hY⟩ : ∃ Y, encM s E M O = Y := ⟨_, rfl⟩
  rw [hY] at cE hYl ⊢
  have hY64 : Y < 18446744073709551616 := by omega
  obtain ⟨l, hl⟩ : ∃ l, Bt.pts Y 64 = l := ⟨_, rfl⟩
  have cL : ∀ w, Tab w → Calls Tryd.prog 51 #[.int .u64 (Y : Nat)] w fun e w' => ∃ A n c, e = .returned (.slice A n c) ∧ Own w' w.heap.size A n c l ∧ Below w.heap.size w w' := fun w ht => by rw [← hl]; exact i_list Y w ht hY64
  have hpt : ∀ k, k < l.length → ∃ q : Nat, l.getD k 0 = (q : Int) ∧ q < s * s := fun k hk => by
    have hm : l.getD k 0 ∈ Bt.pts Y 64 := by rw [hl, List.getD_eq_getElem?_getD, List.getElem?_eq_getElem hk]; exact List.getElem_mem _
    obtain ⟨q, e1, _, e3⟩ := Bt.pts_mem.1 hm
    refine ⟨q, e1, ?_⟩
    rcases Nat.lt_or_ge q (s * s) with h' | h'
    · exact h'
    · rw [Bt.high hYl h'] at e3; cases e3
  have hll : l.length ≤ 64 := by rw [← hl]; exact Bt.pts_len Y 64
  have HL := Lib.hid hl
  have CE := Lib.hid cE
  have CL := Lib.hid cL
  have Hpt := Lib.hid hpt
  have HY64 := Lib.hid (show Y < 2 ^ 64 by omega)
  have CH : Hid (∀ q w, q < s * s → Calls Tryd.prog 94 #[.agg #[.int .i64 (s : Nat), .int .u64 (E : Nat), .int .u64 (M : Nat), .int .u64 (O : Nat)], .int .i64 (q : Nat), .int .i64 1] w fun e w' => e = .returned (.bool (holdB s q O)) ∧ Below w.heap.size w w') := Lib.hid fun q w hq => i_cornersHold1 s q E M O w h1 h2 hq hO
  have P0 := Lib.hid (Px.new w (s : Nat) E M O)
  have Hb := Lib.hid ((Below.refl w.heap.size w).alloc (Nat.le_refl _) (.cells #[.int .i64 (s : Nat), .int .u64 (E : Nat), .int .u64 (M : Nat), .int .u64 (O : Nat)] 67))
  have HT := Lib.hid (ht.alloc (.cells #[.int .i64 (s : Nat), .int .u64 (E : Nat), .int .u64 (M : Nat), .int .u64 (O : Nat)] 67))
  have c0 := P0.out.c0
  have c1 := P0.out.c1
  have c2 := P0.out.c2
  have c3 := P0.out.c3
  have h764 : 2 ^ (s * s) ≤ 2 ^ 49 := h7
  clear hY hl cE cL hpt hE hM hO ht h7 hY64
  go_enter Tryd.func67, Tryd.ntmps67
  go_wp2_with fail
  refine (CE.out _).mono ?_
  rintro e y ⟨rfl, hb⟩
  have P0 := Lib.hid (P0.out.step hb)
  have Hb := Lib.hid (Hb.out.trans (hb.mono (by simp)))
  have HT := Lib.hid (HT.out.below hb)
  clear hb c0 c1 c2 c3
  go_wp2_with fail
  refine (CL.out _ HT.out).mono ?_
  rintro e y2 ⟨A, n, c, rfl, ho, hb⟩
  have P0 := Lib.hid (P0.out.step hb)
  have Hb := Lib.hid (Hb.out.trans (hb.mono Hb.out.size))
  have HI := Lib.hid ho.ints
  have hln := ho.1
  have Hln := Lib.hid hln
  have hn64 : n ≤ 64 := by omega
  clear hb ho hln hll
  go_wp2_with fail
  go_loopw [7, 16] (fun v i wr => ∃ (k m : Nat), k ≤ n ∧ i = .int .i64 (k : Nat) ∧ v = .int .u64 (m : Nat) ∧ m < 2 ^ (s * s) ∧ EyP s O (l.take k) m ∧ Below y2.heap.size y2 wr) (fun _ i _ => n - (intOf i).toNat)
  case atStart => exact ⟨0, 0, by omega, rfl, rfl, Nat.two_pow_pos _, fun q => by simp, Below.refl _ _⟩
  case round =>
    obtain ⟨k, m, hk, rfl, rfl, hm, hey, hbr⟩ := hrel
    have Q0 := Lib.hid (P0.out.step hbr)
    have HIr := Lib.hid (HI.out.below hbr (Nat.le_refl _))
    have Hey := Lib.hid hey
    have Hbr := Lib.hid hbr
    have Hm := Lib.hid hm
    have c0 := Q0.out.c0
    have c1 := Q0.out.c1
    have c2 := Q0.out.c2
    have c3 := Q0.out.c3
    have hm64 : m < 18446744073709551616 := by omega
    clear hbr hey hm
    by_cases hkn : k < n
    · obtain ⟨q, hq, hqs⟩ := Hpt.out k (by have := Hln.out; omega)
      rcases HIr.out.2 with h0 | ⟨b, o, rfl, hbB, hc⟩
      · omega
      · have ck := hc k hkn
        rw [hq] at ck
        have Hq := Lib.hid hq
        have hkI : (k : Int) < n := by omega
        have hq49 : q < 64 := by omega
        clear hc hq
        rcases Bool.eq_false_or_eq_true (holdB s q O) with hh | hh
        · have HH := Lib.hid hh
          obtain ⟨P, hP⟩ : ∃ P, P = 2 ^ q := ⟨_, rfl⟩
          have hPl : P < 2 ^ (s * s) := by rw [hP]; exact Nat.pow_lt_pow_right (by decide) hqs
          have r1 : bits .or .u64 (m : Int) (P : Int) = ((m ||| P : Nat) : Int) := u64_or_nat _ _ hm64 (by omega)
          have hml := Bt.or_lt Hm.out hPl
          have R1 := Lib.hid r1
          have Hml := Lib.hid hml
          have HP := Lib.hid hP
          clear hh r1 hml hP hPl
          go_wp2_with fail
          refine (CH.out q _ hqs).mono ?_
          rintro e y3 ⟨rfl, hb⟩
          have Hb3 := Lib.hid (Hbr.out.trans (hb.mono Hbr.out.size))
          rw [HH.out]
          clear hb c0 c1 c2 c3 ck
          go_wp2_with fail
          refine (i_onlyN _ q P _ rfl HP.out hq49).mono ?_
          rintro e w' ⟨rfl, rfl⟩
          go_wp2_with fail
          go_roundw
          case rel => exact ⟨k + 1, m ||| P, by omega, by go_num, by rw [R1.out], Hml.out, by rw [HP.out]; exact Hey.out.yes (by have := Hln.out; omega) Hq.out HH.out, Hb3.out⟩
          case measure => simp [intOf]; omega
        · have HH := Lib.hid hh
          clear hh
          go_wp2_with fail
          refine (CH.out q _ hqs).mono ?_
          rintro e y3 ⟨rfl, hb⟩
          have Hb3 := Lib.hid (Hbr.out.trans (hb.mono Hbr.out.size))
          rw [HH.out]
          clear hb c0 c1 c2 c3 ck
          go_wp2_with fail
          go_roundw
          case rel => exact ⟨k + 1, m, by omega, by go_num, rfl, Hm.out, Hey.out.no (by have := Hln.out; omega) Hq.out HH.out, Hb3.out⟩
          case measure => simp [intOf]; omega
    · have hkn' : k = n := by omega
      have hfull : l.take k = l := List.take_of_length_le (by have := Hln.out; omega)
      have hdone : IsEy s Y O m := EyP.done HY64.out (by rw [HL.out, ← hfull]; exact Hey.out)
      have r1 : bits .andNot .u64 (Y : Int) (m : Int) = ((Y &&& (18446744073709551615 - m) : Nat) : Int) := u64_andNot_nat _ _ (by have := HY64.out; omega) hm64
      have Hd := Lib.hid hdone
      have R1 := Lib.hid r1
      have Hf := Lib.hid (Hb.out.trans (Hbr.out.mono Hb.out.size))
      clear hkn' hfull hdone r1
      go_wp2_with fail
      go_ret2
      exact ⟨m, by rw [← R1.out]; rfl, Hd.out, Hf.out⟩

set_option maxRecDepth 100000 in
set_option maxHeartbeats 2000000 in
theorem i_eyes2 : Calls Tryd.prog 67 #[.agg #[.int .i64 (s : Nat), .int .u64 (E : Nat), .int .u64 (O : Nat), .int .u64 (M : Nat)], .int .i64 2] w fun e w' => ∃ m : Nat, e = .returned (.tuple #[.int .u64 (m : Nat), .int .u64 ((encM s E M O &&& (18446744073709551615 - m) : Nat) : Int)]) ∧ IsEy s (encM s E M O) O m ∧ Below w.heap.size w w' := by
  have h7 := (Bt.masks s h1 h2).2.2.2.2.2.2
  have hsq := (Bt.sq_nat s h1 h2).2.1
  have cE : ∀ w, Calls Tryd.prog 93 #[.agg #[.int .i64 (s : Nat), .int .u64 (E : Nat), .int .u64 (O : Nat), .int .u64 (M : Nat)], .int .i64 2] w fun e w' => e = .returned (.int .u64 ((encM s E M O : Nat) : Int)) ∧ Below w.heap.size w w' := fun w => i_enclosed2 s E M O w h1 h2 hE hM hO
  have hYl := encM_lt (M := M) (O := O) hE
  obtain ⟨Y, hY⟩ : ∃ Y, encM s E M O = Y := ⟨_, rfl⟩
  rw [hY] at cE hYl ⊢
  have hY64 : Y < 18446744073709551616 := by omega
  obtain ⟨l, hl⟩ : ∃ l, Bt.pts Y 64 = l := ⟨_, rfl⟩
  have cL : ∀ w, Tab w → Calls Tryd.prog 51 #[.int .u64 (Y : Nat)] w fun e w' => ∃ A n c, e = .returned (.slice A n c) ∧ Own w' w.heap.size A n c l ∧ Below w.heap.size w w' := fun w ht => by rw [← hl]; exact i_list Y w ht hY64
  have hpt : ∀ k, k < l.length → ∃ q : Nat, l.getD k 0 = (q : Int) ∧ q < s * s := fun k hk => by
    have hm : l.getD k 0 ∈ Bt.pts Y 64 := by rw [hl, List.getD_eq_getElem?_getD, List.getElem?_eq_getElem hk]; exact List.getElem_mem _
    obtain ⟨q, e1, _, e3⟩ := Bt.pts_mem.1 hm
    refine ⟨q, e1, ?_⟩
    rcases Nat.lt_or_ge q (s * s) with h' | h'
    · exact h'
    · rw [Bt.high hYl h'] at e3; cases e3
  have hll : l.length ≤ 64 := by rw [← hl]; exact Bt.pts_len Y 64
  have HL := Lib.hid hl
  have CE := Lib.hid cE
  have CL := Lib.hid cL
  have Hpt := Lib.hid hpt
  have HY64 := Lib.hid (show Y < 2 ^ 64 by omega)
  have CH : Hid (∀ q w, q < s * s → Calls Tryd.prog 94 #[.agg #[.int .i64 (s : Nat), .int .u64 (E : Nat), .int .u64 (O : Nat), .int .u64 (M : Nat)], .int .i64 (q : Nat), .int .i64 2] w fun e w' => e = .returned (.bool (holdB s q O)) ∧ Below w.heap.size w w') := Lib.hid fun q w hq => i_cornersHold2 s q E M O w h1 h2 hq hO
  have P0 := Lib.hid (Px.new w (s : Nat) E O M)
  have Hb := Lib.hid ((Below.refl w.heap.size w).alloc (Nat.le_refl _) (.cells #[.int .i64 (s : Nat), .int .u64 (E : Nat), .int .u64 (O : Nat), .int .u64 (M : Nat)] 67))
  have HT := Lib.hid (ht.alloc (.cells #[.int .i64 (s : Nat), .int .u64 (E : Nat), .int .u64 (O : Nat), .int .u64 (M : Nat)] 67))
  have c0 := P0.out.c0
  have c1 := P0.out.c1
  have c2 := P0.out.c2
  have c3 := P0.out.c3
  have h764 : 2 ^ (s * s) ≤ 2 ^ 49 := h7
  clear hY hl cE cL hpt hE hM hO ht h7 hY64
  go_enter Tryd.func67, Tryd.ntmps67
  go_wp2_with fail
  refine (CE.out _).mono ?_
  rintro e y ⟨rfl, hb⟩
  have P0 := Lib.hid (P0.out.step hb)
  have Hb := Lib.hid (Hb.out.trans (hb.mono (by simp)))
  have HT := Lib.hid (HT.out.below hb)
  clear hb c0 c1 c2 c3
  go_wp2_with fail
  refine (CL.out _ HT.out).mono ?_
  rintro e y2 ⟨A, n, c, rfl, ho, hb⟩
  have P0 := Lib.hid (P0.out.step hb)
  have Hb := Lib.hid (Hb.out.trans (hb.mono Hb.out.size))
  have HI := Lib.hid ho.ints
  have hln := ho.1
  have Hln := Lib.hid hln
  have hn64 : n ≤ 64 := by omega
  clear hb ho hln hll
  go_wp2_with fail
  go_loopw [7, 16] (fun v i wr => ∃ (k m : Nat), k ≤ n ∧ i = .int .i64 (k : Nat) ∧ v = .int .u64 (m : Nat) ∧ m < 2 ^ (s * s) ∧ EyP s O (l.take k) m ∧ Below y2.heap.size y2 wr) (fun _ i _ => n - (intOf i).toNat)
  case atStart => exact ⟨0, 0, by omega, rfl, rfl, Nat.two_pow_pos _, fun q => by simp, Below.refl _ _⟩
  case round =>
    obtain ⟨k, m, hk, rfl, rfl, hm, hey, hbr⟩ := hrel
    have Q0 := Lib.hid (P0.out.step hbr)
    have HIr := Lib.hid (HI.out.below hbr (Nat.le_refl _))
    have Hey := Lib.hid hey
    have Hbr := Lib.hid hbr
    have Hm := Lib.hid hm
    have c0 := Q0.out.c0
    have c1 := Q0.out.c1
    have c2 := Q0.out.c2
    have c3 := Q0.out.c3
    have hm64 : m < 18446744073709551616 := by omega
    clear hbr hey hm
    by_cases hkn : k < n
    · obtain ⟨q, hq, hqs⟩ := Hpt.out k (by have := Hln.out; omega)
      rcases HIr.out.2 with h0 | ⟨b, o, rfl, hbB, hc⟩
      · omega
      · have ck := hc k hkn
        rw [hq] at ck
        have Hq := Lib.hid hq
        have hkI : (k : Int) < n := by omega
        have hq49 : q < 64 := by omega
        clear hc hq
        rcases Bool.eq_false_or_eq_true (holdB s q O) with hh | hh
        · have HH := Lib.hid hh
          obtain ⟨P, hP⟩ : ∃ P, P = 2 ^ q := ⟨_, rfl⟩
          have hPl : P < 2 ^ (s * s) := by rw [hP]; exact Nat.pow_lt_pow_right (by decide) hqs
          have r1 : bits .or .u64 (m : Int) (P : Int) = ((m ||| P : Nat) : Int) := u64_or_nat _ _ hm64 (by omega)
          have hml := Bt.or_lt Hm.out hPl
          have R1 := Lib.hid r1
          have Hml := Lib.hid hml
          have HP := Lib.hid hP
          clear hh r1 hml hP hPl
          go_wp2_with fail
          refine (CH.out q _ hqs).mono ?_
          rintro e y3 ⟨rfl, hb⟩
          have Hb3 := Lib.hid (Hbr.out.trans (hb.mono Hbr.out.size))
          rw [HH.out]
          clear hb c0 c1 c2 c3 ck
          go_wp2_with fail
          refine (i_onlyN _ q P _ rfl HP.out hq49).mono ?_
          rintro e w' ⟨rfl, rfl⟩
          go_wp2_with fail
          go_roundw
          case rel => exact ⟨k + 1, m ||| P, by omega, by go_num, by rw [R1.out], Hml.out, by rw [HP.out]; exact Hey.out.yes (by have := Hln.out; omega) Hq.out HH.out, Hb3.out⟩
          case measure => simp [intOf]; omega
        · have HH := Lib.hid hh
          clear hh
          go_wp2_with fail
          refine (CH.out q _ hqs).mono ?_
          rintro e y3 ⟨rfl, hb⟩
          have Hb3 := Lib.hid (Hbr.out.trans (hb.mono Hbr.out.size))
          rw [HH.out]
          clear hb c0 c1 c2 c3 ck
          go_wp2_with fail
          go_roundw
          case rel => exact ⟨k + 1, m, by omega, by go_num, rfl, Hm.out, Hey.out.no (by have := Hln.out; omega) Hq.out HH.out, Hb3.out⟩
          case measure => simp [intOf]; omega
    · have hkn' : k = n := by omega
      have hfull : l.take k = l := List.take_of_length_le (by have := Hln.out; omega)
      have hdone : IsEy s Y O m := EyP.done HY64.out (by rw [HL.out, ← hfull]; exact Hey.out)
      have r1 : bits .andNot .u64 (Y : Int) (m : Int) = ((Y &&& (18446744073709551615 - m) : Nat) : Int) := u64_andNot_nat _ _ (by have := HY64.out; omega) hm64
      have Hd := Lib.hid hdone
      have R1 := Lib.hid r1
      have Hf := Lib.hid (Hb.out.trans (Hbr.out.mono Hb.out.size))
      clear hkn' hfull hdone r1
      go_wp2_with fail
      go_ret2
      exact ⟨m, by rw [← R1.out]; rfl, Hd.out, Hf.out⟩

end
end Go.Proofs.YtpogjegihhljpaaDoor

namespace Go.Proofs.YtpogjegihhljpaaDoor
set_option maxRecDepth 100000
open Go.RowKit

theorem nbs_at {s : Int} {n : Nat} (h1 : 1 ≤ s) (h2 : s ≤ 7) (hn : (n : Int) = s * s) : ∀ x : Int, 0 ≤ x → x < n → ∀ y ∈ Pt.nbs s x, 0 ≤ y ∧ y < n := by
  intro x h0 hx y hy
  obtain ⟨m1, _, _⟩ := Pt.nbs_all s x h1 h2 h0 (by omega)
  have := List.all_eq_true.1 m1 y hy
  simp only [Bool.and_eq_true, decide_eq_true_eq] at this
  obtain ⟨_, _, a, b⟩ := (Pt.okP_iff s y).1 this.1.1
  exact ⟨a, by omega⟩

/-- All points of a list have a color. -/
def encA (cs : List Int) (x : Int) (l : List Int) : Bool := l.all fun q => cs.getD q.toNat 0 == x
/-- An enclosed point, by the list of its neighbours. -/
def encS (s : Int) (cs : List Int) (p x : Int) : Bool := encA cs x (Pt.nbs s p) && ((cs.getD p.toNat 0 == 0) && decide (0 < (Pt.nbs s p).length))
/-- How many points of a list have a color. -/
def cntS (cs : List Int) (y : Int) (l : List Int) : Nat := (l.filter fun q => cs.getD q.toNat 0 == y).length
def holdS (s : Int) (cs : List Int) (p y : Int) : Bool := (cntS cs y (Bt.dia s p) == 0) || ((cntS cs y (Bt.dia s p) == 1) && ((Bt.dia s p).length == 4))

theorem encA_succ {cs l : List Int} {x : Int} {k : Nat} (h : k < l.length) : encA cs x (l.take (k + 1)) = (encA cs x (l.take k) && (cs.getD (l.getD k 0).toNat 0 == x)) := by
  unfold encA
  rw [List.take_succ_eq_append_getElem h, List.all_append, List.getD_eq_getElem?_getD (l := l), List.getElem?_eq_getElem h]
  simp
theorem encA_bad {cs l : List Int} {x : Int} {k : Nat} (h : k < l.length) (hc : (cs.getD (l.getD k 0).toNat 0 == x) = false) : encA cs x l = false := by
  unfold encA
  rw [List.all_eq_false]
  refine ⟨l[k], List.getElem_mem _, ?_⟩
  rw [List.getD_eq_getElem?_getD (l := l), List.getElem?_eq_getElem h] at hc
  simpa using hc
theorem cntS_succ {cs l : List Int} {y : Int} {k : Nat} (h : k < l.length) : cntS cs y (l.take (k + 1)) = cntS cs y (l.take k) + (if (cs.getD (l.getD k 0).toNat 0 == y) then 1 else 0) := by
  unfold cntS
  rw [List.take_succ_eq_append_getElem h, List.filter_append, List.length_append, List.getD_eq_getElem?_getD (l := l), List.getElem?_eq_getElem h]
  congr 1
  show _ = if (cs.getD (l[k]).toNat 0 == y) then 1 else 0
  cases e : (cs.getD (l[k]).toNat 0 == y) <;> simp only [List.filter_cons, e, List.filter_nil] <;> rfl

theorem any_cong {l : List Int} {f g : Int → Bool} (h : ∀ z ∈ l, f z = g z) : l.any f = l.any g := by
  rw [Bool.eq_iff_iff, List.any_eq_true, List.any_eq_true]
  constructor
  · rintro ⟨z, hz, e⟩; exact ⟨z, hz, (h z hz) ▸ e⟩
  · rintro ⟨z, hz, e⟩; exact ⟨z, hz, (h z hz).symm ▸ e⟩

theorem pts_and (C O : Nat) (n : Nat) : Bt.pts (C &&& O) n = (Bt.pts C n).filter fun q => O.testBit q.toNat := by
  unfold Bt.pts
  rw [List.filter_map, List.filter_filter]
  congr 1
  apply List.filter_congr
  intro q _
  rw [Nat.testBit_and, Bool.and_comm]
  rfl

section
variable (s : Nat) (cs : List Int) (x y : Int) (n : Nat) (h1 : 1 ≤ s) (h2 : s ≤ 7) (hn : n = s * s)
include h1 h2 hn

theorem hold_eq (p : Nat) (hp : p < s * s) : holdB s p (Bt.msk cs y n) = holdS s cs p y := by
  obtain ⟨hd, _⟩ := Bt.dia_bits s p h1 h2 hp
  have hlt := Bt.abv_lt s (Bt.bes s (2 ^ p))
  have e : (Bt.pts (Bt.abv s (Bt.bes s (2 ^ p)) &&& Bt.msk cs y n) 64).length = cntS cs y (Bt.dia s p) := by
    rw [pts_and, hd, cntS]
    congr 1
    apply List.filter_congr
    intro q hq
    rw [← hd, Bt.pts_mem] at hq
    obtain ⟨z, rfl, _, hz⟩ := hq
    have hzn : z < n := by
      rw [hn]
      rcases Nat.lt_or_ge z (s * s) with h' | h'
      · exact h'
      · rw [Bt.high hlt h'] at hz; cases hz
    rw [Bt.msk_bit, Int.toNat_natCast, decide_eq_true hzn, Bool.true_and]
    rw [Bool.eq_iff_iff, decide_eq_true_eq, beq_iff_eq]
  have hle : cntS cs y (Bt.dia s p) ≤ (Bt.dia s p).length := List.length_filter_le _ _
  unfold holdB holdS
  rw [e, hd]
  generalize cntS cs y (Bt.dia s p) = a at *
  generalize (Bt.dia s p).length = b at *
  rw [Bool.eq_iff_iff]
  split
  · simp; omega
  · simp; omega

theorem enc_eq (hl : cs.length = n) (hok : ∀ c ∈ cs, 0 ≤ c ∧ c ≤ 2) (hx : (x = 1 ∧ y = 2) ∨ (x = 2 ∧ y = 1)) (p : Nat) (hp : p < s * s) : (encM s (Bt.msk cs 0 n) (Bt.msk cs x n) (Bt.msk cs y n)).testBit p = encS s cs p x := by
  have h7 := (Bt.masks s h1 h2).2.2.2.2.2.2
  have m0 : Bt.msk cs 0 n < 2 ^ (s * s) := by rw [← hn]; exact Bt.msk_lt cs 0 n
  have mx : Bt.msk cs x n < 2 ^ (s * s) := by rw [← hn]; exact Bt.msk_lt cs x n
  have my : Bt.msk cs y n < 2 ^ (s * s) := by rw [← hn]; exact Bt.msk_lt cs y n
  have mq := Bt.or_lt m0 my
  have a1 := Bt.aro_lt s _ h1 h2 mx
  have a2 := Bt.aro_lt s _ h1 h2 mq
  have hE : (Bt.msk cs 0 n &&& Bt.aro s (Bt.msk cs x n)) < 18446744073709551616 := Nat.lt_of_le_of_lt Nat.and_le_left (by omega)
  have hs : ((n : Nat) : Int) = (s : Int) * s := by rw [hn]; push_cast; rfl
  unfold encM
  rw [Bt.andNot_bit hE (by omega), Nat.testBit_and, Bt.aro_bit s _ _ h1 h2 mx, Bt.aro_bit s _ _ h1 h2 mq, Bt.msk_bit, decide_eq_true (show p < n by omega), decide_eq_true hp, Bool.true_and, Bool.true_and, Bool.true_and]
  have hin := nbs_at (n := n) (by omega) (by omega) hs (p : Int) (by omega) (by omega)
  have key : ∀ z ∈ Pt.nbs s p, (Bt.msk cs x n).testBit z.toNat = (cs.getD z.toNat 0 == x) ∧ (Bt.msk cs 0 n ||| Bt.msk cs y n).testBit z.toNat = !(cs.getD z.toNat 0 == x) := by
    intro z hz
    obtain ⟨z0, z1⟩ := hin z hz
    have hzn : z.toNat < n := by omega
    have hc := hok (cs.getD z.toNat 0) (by rw [List.getD_eq_getElem?_getD, List.getElem?_eq_getElem (by omega)]; exact List.getElem_mem _)
    rw [Nat.testBit_or, Bt.msk_bit, Bt.msk_bit, Bt.msk_bit, decide_eq_true hzn, Bool.true_and, Bool.true_and, Bool.true_and]
    generalize cs.getD z.toNat 0 = c at *
    constructor
    · rw [Bool.eq_iff_iff, decide_eq_true_eq, beq_iff_eq]
    · have : c = 0 ∨ c = 1 ∨ c = 2 := by omega
      rcases hx with ⟨rfl, rfl⟩ | ⟨rfl, rfl⟩ <;> rcases this with rfl | rfl | rfl <;> rfl
  unfold encS encA
  rw [Int.toNat_natCast]
  have e0 : decide (cs.getD p 0 = 0) = (cs.getD p 0 == 0) := by rw [Bool.eq_iff_iff, decide_eq_true_eq, beq_iff_eq]
  rw [e0]
  generalize (cs.getD p 0 == 0) = b0
  generalize Pt.nbs s p = l at *
  have e1 : (l.any fun z => (Bt.msk cs x n).testBit z.toNat) = l.any fun z => cs.getD z.toNat 0 == x := any_cong fun z hz => (key z hz).1
  have e2 : (l.any fun z => (Bt.msk cs 0 n ||| Bt.msk cs y n).testBit z.toNat) = l.any fun z => !(cs.getD z.toNat 0 == x) := any_cong fun z hz => (key z hz).2
  rw [e1, e2, List.not_any_eq_all_not]
  simp only [Bool.not_not]
  cases l with
  | nil => simp
  | cons z l =>
    rw [List.any_cons, List.all_cons, List.length_cons, decide_eq_true (Nat.succ_pos _)]
    generalize (cs.getD z.toNat 0 == x) = a
    generalize (l.any fun z => cs.getD z.toNat 0 == x) = b
    generalize (l.all fun z => cs.getD z.toNat 0 == x) = c
    cases a <;> cases b <;> cases c <;> cases b0 <;> rfl
end
end Go.Proofs.YtpogjegihhljpaaDoor

namespace Go.Proofs.YtpogjegihhljpaaDoor
set_option maxRecDepth 100000
open Go.RowKit

end Go.Proofs.YtpogjegihhljpaaDoor

namespace Go.Proofs.YtpogjegihhljpaaDoor
set_option maxRecDepth 100000
open Go.RowKit

theorem s_diagonals (s p : Int) (w : World) (h1 : 1 ≤ s) (h2 : s ≤ 7) (h3 : 0 ≤ p) (h4 : p < s * s) :
    Calls Tryd.prog 95 #[.int .i64 s, .int .i64 p] w fun e w' => ∃ A n c, e = .returned (.slice A n c) ∧ Own w' w.heap.size A n c (Bt.dia s p) ∧ Below w.heap.size w w' := by
  obtain ⟨d1, d2, d3, d4, d5⟩ := Pt.dm s p h1 h2 h3 h4
  have hb49 := Pt.sq_bd s h1 h2
  have hp49 : p ≤ 48 := by omega
  clear d5
  go_enter Tryd.func95, Tryd.ntmps95
  go_wp2_with fail
  go_loopw [5, 8] (fun v i wr => ∃ k A n c, k ≤ 4 ∧ v = .slice A n c ∧ i = .int .i64 ((k : Nat) : Int) ∧ Own wr w.heap.size A n c (Bt.dis s p k) ∧ Below w.heap.size w wr) (fun _ i _ => 4 - (intOf i).toNat)
  case atStart => exact ⟨0, _, _, _, by omega, rfl, rfl, Own.bare w w.heap.size (Nat.le_refl _), (Below.refl w.heap.size w).alloc (Nat.le_refl _) _⟩
  case round =>
    obtain ⟨k, A, n, c, hk, rfl, rfl, ho, hb⟩ := hrel
    have hz := hb.size
    have hn : n ≤ 4 := by have := ho.1; have := Bt.dis_len s p k; omega
    have Ho := Lib.hid ho
    have Hb := Lib.hid hb
    clear ho hb
    by_cases hlt : k < 4
    · obtain ⟨Y, hY⟩ : ∃ Y, p / s - 1 + (k : Int) / 2 * 2 = Y := ⟨_, rfl⟩
      obtain ⟨X, hX⟩ : ∃ X, p % s - 1 + (k : Int) % 2 * 2 = X := ⟨_, rfl⟩
      have eY : Bt.diY s p k = Y := by rw [← hY, Bt.diY]; push_cast; rfl
      have eX : Bt.diX s p k = X := by rw [← hX, Bt.diX]; push_cast; rfl
      have hdi : Bt.di1 s p k = if (0 ≤ Y ∧ Y ≤ s - 1) ∧ (0 ≤ X ∧ X ≤ s - 1) then [Y * s + X] else [] := by rw [Bt.di1, eY, eX]
      have HD := Lib.hid hdi
      have bY : -1 ≤ Y ∧ Y ≤ 8 := by omega
      have bX : -1 ≤ X ∧ X ≤ 8 := by omega
      obtain ⟨bY1, bY2⟩ := bY
      obtain ⟨bX1, bX2⟩ := bX
      clear hdi eY eX
      by_cases hy : 0 ≤ Y ∧ Y ≤ s - 1
      · have hyb : (decide (0 ≤ Y) && decide (Y ≤ s - 1)) = true := by simp [hy.1, hy.2]
        have Hyb := Lib.hid hyb
        clear hyb
        by_cases hx : 0 ≤ X ∧ X ≤ s - 1
        · have hxb : (decide (0 ≤ X) && decide (X ≤ s - 1)) = true := by simp [hx.1, hx.2]
          have Hxb := Lib.hid hxb
          have hl := Pt.lin_bd s Y X h1 h2 hy.1 hy.2 hx.1 hx.2
          obtain ⟨l1, l2, l3, l4⟩ := hl
          have HD' : Hid (Bt.di1 s p k = [Y * s + X]) := Lib.hid (by rw [HD.out, if_pos ⟨hy, hx⟩])
          clear hxb HD hy hx
          go_wp2_with fail
          refine (s_range _ _ _ _).mono ?_
          rintro e w' ⟨rfl, rfl⟩
          rw [Hyb.out]
          go_wp2_with fail
          refine (s_range _ _ _ _).mono ?_
          rintro e w' ⟨rfl, rfl⟩
          rw [Hxb.out]
          clear hY hX
          go_wp2_with (at_builtin; refine app1 rfl _ _ rfl _ _ _ _ _ _ _ _ rfl rfl (by simp) Ho.out hz (by omega) ?_; intro A' c' w' hown' hb' hlt' _)
          go_roundw
          case rel => exact ⟨k + 1, _, _, _, by omega, rfl, by go_num, by rw [Bt.dis, HD'.out]; exact hown', Hb.out.trans (hb'.mono (by omega))⟩
          case measure => simp [intOf]; omega
        · have hxb : (decide (0 ≤ X) && decide (X ≤ s - 1)) = false := by
            rcases Bool.eq_false_or_eq_true (decide (0 ≤ X) && decide (X ≤ s - 1)) with e | e
            · rw [Bool.and_eq_true, decide_eq_true_eq, decide_eq_true_eq] at e; exact absurd e hx
            · exact e
          have Hxb := Lib.hid hxb
          have HD' : Hid (Bt.di1 s p k = []) := Lib.hid (by rw [HD.out, if_neg (fun h => hx h.2)])
          clear hxb HD hy hx
          go_wp2_with fail
          refine (s_range _ _ _ _).mono ?_
          rintro e w' ⟨rfl, rfl⟩
          rw [Hyb.out]
          go_wp2_with fail
          refine (s_range _ _ _ _).mono ?_
          rintro e w' ⟨rfl, rfl⟩
          rw [Hxb.out]
          clear hY hX
          go_wp2_with fail
          go_roundw
          case rel => exact ⟨k + 1, _, _, _, by omega, rfl, by go_num, by rw [Bt.dis, HD'.out, List.append_nil]; exact Ho.out, Hb.out⟩
          case measure => simp [intOf]; omega
      · have hyb : (decide (0 ≤ Y) && decide (Y ≤ s - 1)) = false := by
          rcases Bool.eq_false_or_eq_true (decide (0 ≤ Y) && decide (Y ≤ s - 1)) with e | e
          · rw [Bool.and_eq_true, decide_eq_true_eq, decide_eq_true_eq] at e; exact absurd e hy
          · exact e
        have Hyb := Lib.hid hyb
        have HD' : Hid (Bt.di1 s p k = []) := Lib.hid (by rw [HD.out, if_neg (fun h => hy h.1)])
        clear hyb HD hy
        go_wp2_with fail
        refine (s_range _ _ _ _).mono ?_
        rintro e w' ⟨rfl, rfl⟩
        rw [Hyb.out]
        clear hY hX
        go_wp2_with fail
        go_roundw
        case rel => exact ⟨k + 1, _, _, _, by omega, rfl, by go_num, by rw [Bt.dis, HD'.out, List.append_nil]; exact Ho.out, Hb.out⟩
        case measure => simp [intOf]; omega
    · obtain rfl : k = 4 := by omega
      go_wp2_with fail
      go_ret
      exact ⟨_, _, _, rfl, Ho.out, Hb.out⟩

end Go.Proofs.YtpogjegihhljpaaDoor

namespace Go.Proofs.YtpogjegihhljpaaDoor
set_option maxRecDepth 100000
open Go.RowKit

theorem nbs_le (s p : Int) : (Pt.nbs s p).length ≤ 4 := by
  unfold Pt.nbs Pt.nbL Pt.nbA Pt.nbB Pt.nbU
  simp only [List.length_append]
  split <;> split <;> split <;> split <;> simp

theorem s_toIntT (w : World) : Calls Tryd.prog 96 #[.bool true] w fun e w' => e = .returned (.int .i64 1) ∧ w' = w := by
  go_enter Tryd.func96, Tryd.ntmps96
  go_wp2_with fail
  go_ret
  exact ⟨rfl, rfl⟩
theorem s_toIntF (w : World) : Calls Tryd.prog 96 #[.bool false] w fun e w' => e = .returned (.int .i64 0) ∧ w' = w := by
  go_enter Tryd.func96, Tryd.ntmps96
  go_wp2_with fail
  go_ret
  exact ⟨rfl, rfl⟩
theorem s_opp3 (c y : Int) (w : World) (h : y = 3 - c) (h1 : 1 ≤ c) (h2 : c ≤ 2) : Calls Tryd.prog 85 #[.int .i64 c] w fun e w' => e = .returned (.int .i64 y) ∧ w' = w := by
  have H := Lib.hid h
  clear h
  go_enter Tryd.func85, Tryd.ntmps85
  go_wp2_with fail
  go_ret
  exact ⟨ret_int H.out.symm, rfl⟩
theorem s_eyeColor (x : Int) (w : World) : Calls Tryd.prog 53 #[.int .i64 x] w fun e w' => e = .returned (.bool (decide (1 ≤ x) && decide (x ≤ 2))) ∧ w = w' := by
  go_enter Tryd.func53, Tryd.ntmps53
  go_wp2_with fail
  refine (s_range _ _ _ _).mono ?_
  rintro e w' ⟨rfl, rfl⟩
  go_wp2_with fail
  go_ret
  exact ⟨rfl, rfl⟩

section
variable (s p : Nat) (x : Int) (w : World) (B : Nat) (A : Option Addr) (n c : Nat) (cs : List Int) (h : Ints w B A n cs) (hB : B ≤ w.heap.size) (h1 : 1 ≤ s) (h2 : s ≤ 7) (hn : n = s * s) (hp : p < s * s)
include h hB h1 h2 hn hp

set_option maxHeartbeats 2000000 in
theorem s_enclosed : Calls Tryd.prog 69 #[.agg #[.int .i64 (s : Nat), .slice A n c], .int .i64 (p : Nat), .int .i64 x] w fun e w' => e = .returned (.bool (encS s cs p x)) ∧ Below w.heap.size w w' := by
  have hb1 : Below w.heap.size w (w.alloc (.cells #[.int .i64 (s : Nat), .slice A n c] 25)) := (Below.refl _ _).alloc (Nat.le_refl _) _
  have H := Lib.hid (h.below hb1 hB)
  have Hb := Lib.hid hb1
  have Bxx := Lib.hid (Bx.new 25 w (s : Nat) (.slice A n c))
  have hs : ((n : Nat) : Int) = (s : Int) * s := by rw [hn]; push_cast; rfl
  have hin := nbs_at (n := n) (by omega) (by omega) hs (p : Int) (by omega) (by omega)
  obtain ⟨g1, g2, g3⟩ := Bt.sq_nat s h1 h2
  have hpI : (p : Int) < (s : Int) * s := by exact_mod_cast hp
  have hp0 : (0 : Int) ≤ (p : Int) := by omega
  have hpn : (p : Int) < (n : Int) := by omega
  have hpn' : p < n := by omega
  have hn49 : n ≤ 49 := by omega
  have hs1 : (1 : Int) ≤ (s : Int) := by omega
  have hs7 : (s : Int) ≤ 7 := by omega
  have he : encS s cs p x = (encA cs x (Pt.nbs s p) && ((cs.getD p 0 == 0) && decide (0 < (Pt.nbs s p).length))) := rfl
  have cN : ∀ w, Calls Tryd.prog 97 #[.int .i64 (s : Nat), .int .i64 (p : Nat)] w fun e w' => ∃ A n c, e = .returned (.slice A n c) ∧ Own w' w.heap.size A n c (Pt.nbs s p) ∧ Below w.heap.size w w' := fun w => s_nbs s p w hs1 hs7 hp0 hpI
  have hln := nbs_le (s : Int) (p : Int)
  obtain ⟨l, hl⟩ : ∃ l, Pt.nbs s p = l := ⟨_, rfl⟩
  rw [hl] at hin he cN hln
  have Hin := Lib.hid hin
  have He := Lib.hid he
  have CN := Lib.hid cN
  have v0 := Bxx.out.cell0
  have v1 := Bxx.out.cell1
  clear hb1 h hn hp hs g1 g2 g3 hpI hin he cN hl hs1 hs7
  go_enter Tryd.func69, Tryd.ntmps69
  go_wp2_with fail
  refine (CN.out _).mono ?_
  rintro e y ⟨D, m, d, rfl, ho, hb⟩
  have H2 := Lib.hid (H.out.below hb (by simp; omega))
  have Bx2 := Lib.hid (Bxx.out.below hb (by simp))
  have Hb2 := Lib.hid (Hb.out.trans (hb.mono (by simp)))
  have Hi := Lib.hid ho.ints
  have hlm := ho.1
  have Hlm := Lib.hid hlm
  have hm4 : m ≤ 4 := by omega
  clear hb ho v0 v1 hln hlm
  go_wp2_with fail
  go_loopw [8] (fun i wr => ∃ k : Nat, k ≤ m ∧ i = .int .i64 (k : Nat) ∧ encA cs x (l.take k) = true ∧ ∃ d, wr = y.drewN d) (fun i _ => m - (intOf i).toNat)
  case atStart => exact ⟨0, by omega, rfl, rfl, 0, rfl⟩
  case round =>
    obtain ⟨k, hk, rfl, hok, dd, rfl⟩ := hrel
    have Hok := Lib.hid hok
    have v0 := Bx2.out.cell0
    have v1 := Bx2.out.cell1
    obtain ⟨b0, o0, rfl, _, hcc⟩ : ∃ b o, A = some ⟨b, o, none⟩ ∧ b < B ∧ ∀ j, j < n → y.cell? ⟨b, o + j, none⟩ = some (.int .i64 (cs.getD j 0)) := by
      rcases H2.out.2 with h0 | ⟨b, o, hA, hbB, hc⟩
      · omega
      · exact ⟨b, o, hA, hbB, hc⟩
    have HCC := Lib.hid hcc
    clear hok hcc
    by_cases hkm : k < m
    · rcases Hi.out.2 with h0 | ⟨b1, o1, rfl, _, hc1⟩
      · omega
      · have hkl : k < l.length := by have := Hlm.out; omega
        obtain ⟨q, hq⟩ : ∃ q : Nat, l.getD k 0 = (q : Int) := by
          have := (Hin.out (l.getD k 0) (by rw [List.getD_eq_getElem?_getD, List.getElem?_eq_getElem hkl]; exact List.getElem_mem _)).1
          exact ⟨(l.getD k 0).toNat, by omega⟩
        have hqn : q < n := by
          have := (Hin.out (l.getD k 0) (by rw [List.getD_eq_getElem?_getD, List.getElem?_eq_getElem hkl]; exact List.getElem_mem _)).2
          omega
        have ck := hc1 k hkm
        rw [hq] at ck
        have cq := HCC.out q hqn
        have hS := Lib.hid (encA_succ (cs := cs) (x := x) hkl)
        have hBd := Lib.hid (encA_bad (cs := cs) (x := x) hkl)
        rw [hq, Int.toNat_natCast] at hS hBd
        obtain ⟨z, hz⟩ : ∃ z, cs.getD q 0 = z := ⟨_, rfl⟩
        rw [hz] at cq hS hBd
        have hkI : (k : Int) < m := by omega
        have hqI : (q : Int) < n := by omega
        clear hc1 hq hz hkl
        rcases Bool.eq_false_or_eq_true (z == x) with e | e
        · have e' : (z != x) = false := by rw [bne, e]; rfl
          have HS := Lib.hid (hS.out.trans (by rw [Hok.out, e, Bool.true_and]))
          clear hS hBd e
          go_wp2_with fail
          go_quiet (fail)
          go_wp2_with fail
          go_roundw
          case rel => exact ⟨k + 1, by omega, by go_num, HS.out, _, rfl⟩
          case measure => (simp [intOf] <;> omega)
        · have e' : (z != x) = true := by rw [bne, e]; rfl
          have HS := Lib.hid (show encS s cs p x = false by rw [He.out, hBd.out e]; rfl)
          clear hS hBd e
          go_wp2_with fail
          go_quiet (fail)
          go_wp2_with fail
          go_ret
          exact ⟨ret_bool HS.out.symm, Hb2.out.os, Hb2.out.tape, Hb2.out.output, Hb2.out.size, Hb2.out.block⟩
    · have hfull : l.take k = l := List.take_of_length_le (by have := Hlm.out; omega)
      have cp := HCC.out p hpn'
      have hf : encS s cs p x = ((cs.getD p 0 == 0) && decide (0 < m)) := by
        have := Hok.out
        rw [hfull] at this
        rw [He.out, this, Bool.true_and]
        congr 1
        exact decide_eq_decide.2 (by have := Hlm.out; omega)
      obtain ⟨z, hz⟩ : ∃ z, cs.getD p 0 = z := ⟨_, rfl⟩
      rw [hz] at cp hf
      have Hf := Lib.hid hf
      clear hfull hf hz
      rcases Bool.eq_false_or_eq_true (z == 0) with e | e
      · have HS := Lib.hid (Hf.out.trans (by rw [e, Bool.true_and]))
        go_wp2_with fail
        go_ret
        exact ⟨ret_bool HS.out.symm, Hb2.out.os, Hb2.out.tape, Hb2.out.output, Hb2.out.size, Hb2.out.block⟩
      · have HS := Lib.hid (Hf.out.trans (by rw [e, Bool.false_and]))
        go_wp2_with fail
        go_ret
        exact ⟨ret_bool HS.out.symm, Hb2.out.os, Hb2.out.tape, Hb2.out.output, Hb2.out.size, Hb2.out.block⟩
end
end Go.Proofs.YtpogjegihhljpaaDoor

namespace Go.Proofs.YtpogjegihhljpaaDoor
set_option maxRecDepth 100000
open Go.RowKit

def eyeS (s : Int) (cs : List Int) (p x : Int) : Bool := encS s cs p x && holdS s cs p (3 - x)

section
variable (s p : Nat) (x : Int) (w : World) (B : Nat) (A : Option Addr) (n c : Nat) (cs : List Int) (h : Ints w B A n cs) (hB : B ≤ w.heap.size) (h1 : 1 ≤ s) (h2 : s ≤ 7) (hn : n = s * s) (hp : p < s * s) (x1 : 1 ≤ x) (x2 : x ≤ 2)
include h hB h1 h2 hn hp x1 x2

set_option maxHeartbeats 2000000 in
theorem s_isEye : Calls Tryd.prog 68 #[.agg #[.int .i64 (s : Nat), .slice A n c], .int .i64 (p : Nat), .int .i64 x] w fun e w' => e = .returned (.bool (eyeS s cs p x)) ∧ Below w.heap.size w w' := by
  have hb1 : Below w.heap.size w (w.alloc (.cells #[.int .i64 (s : Nat), .slice A n c] 25)) := (Below.refl _ _).alloc (Nat.le_refl _) _
  have H := Lib.hid (h.below hb1 hB)
  have Hb := Lib.hid hb1
  have Bxx := Lib.hid (Bx.new 25 w (s : Nat) (.slice A n c))
  obtain ⟨hd, _⟩ := Bt.dia_bits s p h1 h2 hp
  have hlt := Bt.abv_lt s (Bt.bes s (2 ^ p))
  have hin : ∀ z ∈ Bt.dia s p, ∃ q : Nat, z = (q : Int) ∧ q < n := by
    intro z hz
    rw [← hd, Bt.pts_mem] at hz
    obtain ⟨q, e, _, hq⟩ := hz
    refine ⟨q, e, ?_⟩
    rw [hn]
    rcases Nat.lt_or_ge q (s * s) with h' | h'
    · exact h'
    · rw [Bt.high hlt h'] at hq; cases hq
  obtain ⟨g1, g2, g3⟩ := Bt.sq_nat s h1 h2
  have hpI : (p : Int) < (s : Int) * s := by exact_mod_cast hp
  have hn49 : n ≤ 49 := by omega
  have hn1 : 1 ≤ n := by omega
  obtain ⟨yc, hy⟩ : ∃ yc, yc = 3 - x := ⟨_, rfl⟩
  have cO : ∀ w, Calls Tryd.prog 85 #[.int .i64 x] w fun e w' => e = .returned (.int .i64 yc) ∧ w' = w := fun w => s_opp3 x yc w hy x1 x2
  have cD : ∀ w, Calls Tryd.prog 95 #[.int .i64 (s : Nat), .int .i64 (p : Nat)] w fun e w' => ∃ A n c, e = .returned (.slice A n c) ∧ Own w' w.heap.size A n c (Bt.dia s p) ∧ Below w.heap.size w w' := fun w => s_diagonals s p w (by omega) (by omega) (by omega) hpI
  have cE : ∀ w, Ints w B A n cs → B ≤ w.heap.size → Calls Tryd.prog 69 #[.agg #[.int .i64 (s : Nat), .slice A n c], .int .i64 (p : Nat), .int .i64 x] w fun e w' => e = .returned (.bool (encS s cs p x)) ∧ Below w.heap.size w w' := fun w h hB => s_enclosed s p x w B A n c cs h hB h1 h2 hn hp
  have hln : (Bt.dia s p).length ≤ 4 := Bt.dis_len s p 4
  have he : eyeS s cs p x = (encS s cs p x && ((cntS cs yc (Bt.dia s p) == 0) || ((cntS cs yc (Bt.dia s p) == 1) && ((Bt.dia s p).length == 4)))) := by rw [eyeS, ← hy]; rfl
  obtain ⟨l, hl⟩ : ∃ l, Bt.dia s p = l := ⟨_, rfl⟩
  rw [hl] at hin he cD hln
  have Hin := Lib.hid hin
  have He := Lib.hid he
  have CD := Lib.hid cD
  have CE := Lib.hid cE
  have CO := Lib.hid cO
  have v0 := Bxx.out.cell0
  have v1 := Bxx.out.cell1
  clear hb1 h hn hp g1 g2 g3 hpI hin he cD cE cO hl hd hlt hy
  go_enter Tryd.func68, Tryd.ntmps68
  go_wp2_with fail
  refine (CD.out _).mono ?_
  rintro e y ⟨D, m, d, rfl, ho, hb⟩
  have H2 := Lib.hid (H.out.below hb (by simp; omega))
  have Bx2 := Lib.hid (Bxx.out.below hb (by simp))
  have Hb2 := Lib.hid (Hb.out.trans (hb.mono (by simp)))
  have Hi := Lib.hid ho.ints
  have hlm := ho.1
  have Hlm := Lib.hid hlm
  have hm4 : m ≤ 4 := by omega
  clear hb ho v0 v1 hln hlm
  go_wp2_with fail
  go_loopw [8, 9] (fun v i wr => ∃ (k a : Nat), k ≤ m ∧ v = .int .i64 (a : Nat) ∧ i = .int .i64 (k : Nat) ∧ a ≤ k ∧ cntS cs yc (l.take k) = a ∧ Below y.heap.size y wr) (fun _ i _ => m - (intOf i).toNat)
  case atStart => exact ⟨0, 0, by omega, rfl, rfl, Nat.le_refl _, rfl, Below.refl _ _⟩
  case round =>
    obtain ⟨k, a, hk, rfl, rfl, hak, hok, hbr⟩ := hrel
    have Hbr := Lib.hid hbr
    have Hok := Lib.hid hok
    have HIr := Lib.hid (H2.out.below hbr (by have := Hb2.out.size; omega))
    have Bxr := Lib.hid (Bx2.out.below hbr Bx2.out.lt)
    have HDr := Lib.hid (Hi.out.below hbr (Nat.le_refl _))
    have v0 := Bxr.out.cell0
    have v1 := Bxr.out.cell1
    obtain ⟨b0, o0, rfl, _, hcc⟩ : ∃ b o, A = some ⟨b, o, none⟩ ∧ b < B ∧ ∀ j, j < n → wr.cell? ⟨b, o + j, none⟩ = some (.int .i64 (cs.getD j 0)) := by
      rcases HIr.out.2 with h0 | ⟨b, o, hA, hbB, hc⟩
      · omega
      · exact ⟨b, o, hA, hbB, hc⟩
    have HCC := Lib.hid hcc
    clear hok hcc hbr
    by_cases hkm : k < m
    · rcases HDr.out.2 with h0 | ⟨b1, o1, rfl, _, hc1⟩
      · omega
      · have hkl : k < l.length := by have := Hlm.out; omega
        obtain ⟨q, hq, hqn⟩ := Hin.out (l.getD k 0) (by rw [List.getD_eq_getElem?_getD, List.getElem?_eq_getElem hkl]; exact List.getElem_mem _)
        have ck := hc1 k hkm
        rw [hq] at ck
        have cq := HCC.out q hqn
        have hS := Lib.hid (cntS_succ (cs := cs) (y := yc) hkl)
        rw [hq, Int.toNat_natCast, Hok.out] at hS
        obtain ⟨z, hz⟩ : ∃ z, cs.getD q 0 = z := ⟨_, rfl⟩
        rw [hz] at cq hS
        have hkI : (k : Int) < m := by omega
        have hqI : (q : Int) < n := by omega
        clear hc1 hq hz hkl
        rcases Bool.eq_false_or_eq_true (z == yc) with e | e
        · have HS := Lib.hid (show cntS cs yc (l.take (k + 1)) = a + 1 from hS.out.trans (by rw [e]; rfl))
          clear hS
          go_wp2_with fail
          go_quiet ((first | (go_at_call 85; exact Calls.quiet_of_same (CO.out _)) | (go_at_call 96; exact Calls.quiet_of_same (s_toIntT _))))
          go_wp2_with fail
          go_roundw
          case rel => exact ⟨k + 1, a + 1, by omega, by go_num, by go_num, by omega, HS.out, ⟨Hbr.out.os, Hbr.out.tape, Hbr.out.output, Hbr.out.size, Hbr.out.block⟩⟩
          case measure => simp [intOf] <;> omega
        · have HS := Lib.hid (show cntS cs yc (l.take (k + 1)) = a from hS.out.trans (by rw [e]; rfl))
          clear hS
          go_wp2_with fail
          go_quiet ((first | (go_at_call 85; exact Calls.quiet_of_same (CO.out _)) | (go_at_call 96; exact Calls.quiet_of_same (s_toIntF _))))
          go_wp2_with fail
          go_roundw
          case rel => exact ⟨k + 1, a, by omega, by go_num, by go_num, by omega, HS.out, ⟨Hbr.out.os, Hbr.out.tape, Hbr.out.output, Hbr.out.size, Hbr.out.block⟩⟩
          case measure => simp [intOf] <;> omega
    · have hfull : l.take k = l := List.take_of_length_le (by have := Hlm.out; omega)
      have hf : eyeS s cs p x = (encS s cs p x && (((a : Int) == 0) || (((a : Int) == 1) && ((m : Int) == 4)))) := by
        have e1 := Hok.out
        have e2 := Hlm.out
        rw [hfull] at e1
        rw [He.out, e1, e2]
        congr 1
        rw [Bool.eq_iff_iff]
        simp
        omega
      obtain ⟨b, hbb⟩ : ∃ b, encS s cs p x = b := ⟨_, rfl⟩
      rw [hbb] at hf
      have Hf := Lib.hid hf
      have HBB := Lib.hid hbb
      have Hbw := Lib.hid (Hb2.out.trans (Hbr.out.mono Hb2.out.size))
      clear hfull hf hbb
      go_wp2_with fail
      refine (CE.out _ HIr.out (by have := Hbw.out.size; omega)).mono ?_
      rintro e y2 ⟨rfl, hb⟩
      have Hb3 := Lib.hid (Hbw.out.trans (hb.mono Hbw.out.size))
      rw [HBB.out]
      clear hb v0 v1
      cases b
      · have HS := Lib.hid (Hf.out.trans (Bool.false_and _))
        go_wp2_with fail
        go_ret
        exact ⟨ret_bool HS.out.symm, Hb3.out⟩
      · rcases Bool.eq_false_or_eq_true ((a : Int) == 0) with e | e
        · have HS := Lib.hid (Hf.out.trans (by rw [e, Bool.true_or, Bool.true_and]))
          go_wp2_with fail
          go_ret
          exact ⟨ret_bool HS.out.symm, Hb3.out⟩
        · rcases Bool.eq_false_or_eq_true ((a : Int) == 1) with e' | e'
          · have HS := Lib.hid (Hf.out.trans (show _ = ((m : Int) == 4) by rw [e, e']; rfl))
            go_wp2_with fail
            go_ret
            exact ⟨ret_bool HS.out.symm, Hb3.out⟩
          · have HS := Lib.hid (Hf.out.trans (by rw [e, e', Bool.false_and, Bool.false_or, Bool.and_false]))
            go_wp2_with fail
            go_ret
            exact ⟨ret_bool HS.out.symm, Hb3.out⟩
end
end Go.Proofs.YtpogjegihhljpaaDoor

namespace Go.Proofs.YtpogjegihhljpaaDoor
set_option maxRecDepth 100000
open Go.RowKit

def eyB (s : Int) (cs : List Int) (p x : Int) : Bool := Bd.okB s cs && (Pt.okP s p && ((decide (1 ≤ x) && decide (x ≤ 2)) && eyeS s cs p x))

theorem s_vpt (s p : Int) (w : World) : Calls Tryd.prog 54 #[.int .i64 s, .int .i64 p] w fun e w' => e = .returned (.bool (decide (0 ≤ p) && decide (p ≤ wrap64 (wrap64 (s * s) - 1)))) ∧ w = w' := by
  go_enter Tryd.func54, Tryd.ntmps54
  go_wp2_with fail
  refine (s_range _ _ _ _).mono ?_
  rintro e w' ⟨rfl, rfl⟩
  go_wp2_with fail
  go_ret
  exact ⟨rfl, rfl⟩
theorem s_vptB (s p : Int) (w : World) (h1 : 1 ≤ s) (h2 : s ≤ 7) : Calls Tryd.prog 54 #[.int .i64 s, .int .i64 p] w fun e w' => e = .returned (.bool (Pt.okP s p)) ∧ w = w' := by
  have hsq := Pt.sq_bd s h1 h2
  have e1 : wrap64 (s * s) = s * s := by unfold wrap64; omega
  have e2 : wrap64 (s * s - 1) = s * s - 1 := by unfold wrap64; omega
  have e : (decide (0 ≤ p) && decide (p ≤ wrap64 (wrap64 (s * s) - 1))) = Pt.okP s p := by
    rw [e1, e2, Bool.eq_iff_iff, Pt.okP_iff, Bool.and_eq_true, decide_eq_true_eq, decide_eq_true_eq]
    omega
  rw [← e]
  exact s_vpt s p w
theorem i_eyeStone (x : Int) (w : World) : Calls Tryd.prog 46 #[.int .i64 x] w fun e w' => e = .returned (.bool (decide (1 ≤ x) && decide (x ≤ 2))) ∧ w = w' := by
  refine (i_isStone x w).mono ?_
  rintro e w' ⟨rfl, rfl⟩
  refine ⟨ret_bool ?_, rfl⟩
  rw [Bool.eq_iff_iff]
  simp
  omega

theorem bit_ne (m p : Nat) (hm : m < 18446744073709551616) (hp : p < 64) : (bits .and .u64 (m : Int) ((2 ^ p : Nat) : Int) != 0) = m.testBit p := by
  have hpp : 2 ^ p < 18446744073709551616 := Nat.pow_lt_pow_right (n := 64) (by decide) hp
  rw [u64_and_nat _ _ hm hpp]
  have hb : (m &&& 2 ^ p).testBit p = m.testBit p := by rw [Nat.testBit_and, Nat.testBit_two_pow_self, Bool.and_true]
  cases e : m.testBit p
  · have : m &&& 2 ^ p = 0 := Nat.eq_of_testBit_eq fun j => by
      rw [Nat.testBit_and, Nat.testBit_two_pow, Nat.zero_testBit]
      by_cases hj : p = j
      · subst hj; rw [e]; rfl
      · rw [decide_eq_false hj, Bool.and_false]
    rw [this]; rfl
  · have : m &&& 2 ^ p ≠ 0 := fun h0 => by rw [h0, Nat.zero_testBit, e] at hb; cases hb
    rw [bne_iff_ne]
    omega

section
variable (s p x : Int) (w : World) (B : Nat) (A : Option Addr) (n c : Nat) (cs : List Int) (h : Ints w B A n cs) (hB : B ≤ w.heap.size) (hn : n ≤ 1000000000)
include h hB hn

end
end Go.Proofs.YtpogjegihhljpaaDoor

namespace Go.Proofs.YtpogjegihhljpaaDoor
set_option maxRecDepth 100000
open Go.RowKit

/-- The program's eyes, as the model tells them. -/
theorem eye_bit (t q : Nat) (cs : List Int) (x y : Int) (n m : Nat) (h1 : 1 ≤ t) (h2 : t ≤ 7) (hn : n = t * t) (hl : cs.length = n) (hok : ∀ c ∈ cs, 0 ≤ c ∧ c ≤ 2) (hx : (x = 1 ∧ y = 2) ∨ (x = 2 ∧ y = 1)) (hq : q < t * t)
    (hm : IsEy t (encM t (Bt.msk cs 0 n) (Bt.msk cs x n) (Bt.msk cs y n)) (Bt.msk cs y n) m) : m.testBit q = eyeS t cs q x := by
  have hy : 3 - x = y := by omega
  rw [hm q, enc_eq t cs x y n h1 h2 hn hl hok hx q hq, hold_eq t cs y n h1 h2 hn q hq, eyeS, hy]
theorem ey_lt {s Y O m : Nat} (h : IsEy s Y O m) (hY : Y < 2 ^ 49) : m < 2 ^ 49 := by
  refine Nat.lt_pow_two_of_testBit _ fun j hj => ?_
  rw [h j, Bt.high hY hj, Bool.false_and]

theorem ey_ex (t Y O : Nat) (hY : Y < 2 ^ 64) : ∃ m, IsEy t Y O m := by
  have key : ∀ j, j ≤ 64 → ∃ m : Nat, ∀ z : Nat, m.testBit z = (decide (z < j) && (Y.testBit z && holdB t z O)) := by
    intro j
    induction j with
    | zero => exact fun _ => ⟨0, fun z => by simp⟩
    | succ j ih =>
      intro hj
      obtain ⟨m, hm⟩ := ih (by omega)
      cases e : (Y.testBit j && holdB t j O)
      · refine ⟨m, fun z => ?_⟩
        rw [hm z]
        by_cases hz : z = j
        · subst hz; rw [e, Bool.and_false, Bool.and_false]
        · congr 1; exact decide_eq_decide.2 (by omega)
      · refine ⟨m ||| 2 ^ j, fun z => ?_⟩
        rw [Nat.testBit_or, hm z, Nat.testBit_two_pow]
        by_cases hz : z = j
        · subst hz; rw [e]; simp
        · have a1 : decide (j = z) = false := decide_eq_false (by omega)
          rw [a1, Bool.or_false]
          congr 1; exact decide_eq_decide.2 (by omega)
  obtain ⟨m, hm⟩ := key 64 (Nat.le_refl _)
  refine ⟨m, fun z => ?_⟩
  rw [hm z]
  by_cases hz : z < 64
  · rw [decide_eq_true hz, Bool.true_and]
  · rw [Bt.high (n := 64) hY (by omega)]; simp

theorem i_eyesX (t : Nat) (cs : List Int) (x : Int) (n : Nat) (t1 : 1 ≤ t) (t2 : t ≤ 7) (hnn : n = t * t) (hl : cs.length = n) (hok : ∀ c ∈ cs, 0 ≤ c ∧ c ≤ 2) (hx : x = 1 ∨ x = 2) :
    ∃ m Y : Nat, m < 2 ^ 49 ∧ Y < 2 ^ (t * t) ∧ (∀ q, q < t * t → m.testBit q = eyeS t cs q x) ∧ (∀ q, q < t * t → Y.testBit q = encS t cs q x) ∧
      ∀ w, Tab w → Calls Tryd.prog 67 #[.agg #[.int .i64 (t : Nat), .int .u64 (Bt.msk cs 0 n : Nat), .int .u64 (Bt.msk cs 1 n : Nat), .int .u64 (Bt.msk cs 2 n : Nat)], .int .i64 x] w fun e w' => e = .returned (.tuple #[.int .u64 (m : Nat), .int .u64 ((Y &&& (18446744073709551615 - m) : Nat) : Int)]) ∧ Below w.heap.size w w' := by
  have h7 := (Bt.masks t t1 t2).2.2.2.2.2.2
  have l0 : Bt.msk cs 0 n < 2 ^ (t * t) := by rw [← hnn]; exact Bt.msk_lt cs 0 n
  have l1 : Bt.msk cs 1 n < 2 ^ (t * t) := by rw [← hnn]; exact Bt.msk_lt cs 1 n
  have l2 : Bt.msk cs 2 n < 2 ^ (t * t) := by rw [← hnn]; exact Bt.msk_lt cs 2 n
  rcases hx with rfl | rfl
  · have hY := encM_lt (s := t) (M := Bt.msk cs 1 n) (O := Bt.msk cs 2 n) l0
    obtain ⟨m, hm⟩ := ey_ex t (encM t (Bt.msk cs 0 n) (Bt.msk cs 1 n) (Bt.msk cs 2 n)) (Bt.msk cs 2 n) (by omega)
    refine ⟨m, _, ey_lt hm (Nat.lt_of_lt_of_le hY h7), hY, fun q hq => eye_bit t q cs 1 2 n m t1 t2 hnn hl hok (by simp) hq hm, fun q hq => enc_eq t cs 1 2 n t1 t2 hnn hl hok (by simp) q hq, fun w ht => (i_eyes1 t _ _ _ w ht t1 t2 l0 l1 l2).mono ?_⟩
    rintro e w' ⟨m', rfl, hm', hb⟩
    rw [hm'.one hm]
    exact ⟨rfl, hb⟩
  · have hY := encM_lt (s := t) (M := Bt.msk cs 2 n) (O := Bt.msk cs 1 n) l0
    obtain ⟨m, hm⟩ := ey_ex t (encM t (Bt.msk cs 0 n) (Bt.msk cs 2 n) (Bt.msk cs 1 n)) (Bt.msk cs 1 n) (by omega)
    refine ⟨m, _, ey_lt hm (Nat.lt_of_lt_of_le hY h7), hY, fun q hq => eye_bit t q cs 2 1 n m t1 t2 hnn hl hok (by simp) hq hm, fun q hq => enc_eq t cs 2 1 n t1 t2 hnn hl hok (by simp) q hq, fun w ht => (i_eyes2 t _ _ _ w ht t1 t2 l0 l2 l1).mono ?_⟩
    rintro e w' ⟨m', rfl, hm', hb⟩
    rw [hm'.one hm]
    exact ⟨rfl, hb⟩

section
variable (s p x : Int) (w : World) (B : Nat) (A : Option Addr) (n c : Nat) (cs : List Int) (h : Ints w B A n cs) (hB : B ≤ w.heap.size) (hn : n ≤ 1000000000) (ht : Tab w)
include h hB hn ht

set_option maxHeartbeats 2000000 in
theorem i_IsEye : Calls Tryd.prog 31 #[.agg #[.int .i64 s, .slice A n c], .int .i64 p, .int .i64 x] w fun e w' => e = .returned (.bool (eyB s cs p x)) ∧ Below w.heap.size w w' := by
  have hb1 : Below w.heap.size w (w.alloc (.cells #[.int .i64 s, .slice A n c] 25)) := (Below.refl _ _).alloc (Nat.le_refl _) _
  have H := Lib.hid (h.below hb1 hB)
  have Hb := Lib.hid hb1
  have Bxx := Lib.hid (Bx.new 25 w s (.slice A n c))
  have HT := Lib.hid (ht.alloc (.cells #[.int .i64 s, .slice A n c] 25))
  have Hl := Lib.hid h.1
  have He := Lib.hid (show eyB s cs p x = (Bd.okB s cs && (Pt.okP s p && ((decide (1 ≤ x) && decide (x ≤ 2)) && eyeS s cs p x))) from rfl)
  clear hb1 h ht
  obtain ⟨b1, e1⟩ : ∃ b, Bd.okB s cs = b := ⟨_, rfl⟩
  have He1 := Lib.hid e1
  cases b1
  · have HF := Lib.hid (show eyB s cs p x = false by rw [He.out, e1]; rfl)
    clear e1
    go_enter Tryd.func31, Tryd.ntmps31
    go_wp2_with fail
    refine (i_validBoard _ _ _ _ _ _ _ H.out (by simp; omega) hn).mono ?_
    rintro e y ⟨rfl, hb⟩
    have Hb2 := Lib.hid (Hb.out.trans (hb.mono (by simp)))
    clear hb
    rw [He1.out]
    go_wp2_with fail
    go_ret
    exact ⟨ret_bool HF.out.symm, Hb2.out⟩
  · obtain ⟨b2, e2⟩ : ∃ b, Pt.okP s p = b := ⟨_, rfl⟩
    have He2 := Lib.hid e2
    cases b2
    · have HF := Lib.hid (show eyB s cs p x = false by rw [He.out, He1.out, e2]; rfl)
      clear e2 e1
      go_enter Tryd.func31, Tryd.ntmps31
      go_wp2_with fail
      refine (i_validBoard _ _ _ _ _ _ _ H.out (by simp; omega) hn).mono ?_
      rintro e y ⟨rfl, hb⟩
      have v0 := (Bxx.out.below hb (by simp)).cell0
      have v1 := (Bxx.out.below hb (by simp)).cell1
      have Hb2 := Lib.hid (Hb.out.trans (hb.mono (by simp)))
      clear hb
      rw [He1.out]
      go_wp2_with fail
      refine (i_point _ _ _).mono ?_
      rintro e w' ⟨rfl, rfl⟩
      rw [He2.out]
      go_wp2_with fail
      go_ret
      exact ⟨ret_bool HF.out.symm, Hb2.out⟩
    · obtain ⟨_, _, p3, p4⟩ := (Pt.okP_iff s p).1 e2
      clear e2
      obtain ⟨b3, e3⟩ : ∃ b, (decide (1 ≤ x) && decide (x ≤ 2)) = b := ⟨_, rfl⟩
      have He3 := Lib.hid e3
      cases b3
      · have HF := Lib.hid (show eyB s cs p x = false by rw [He.out, He1.out, He2.out, e3]; rfl)
        clear e3 e1 p3 p4
        go_enter Tryd.func31, Tryd.ntmps31
        go_wp2_with fail
        refine (i_validBoard _ _ _ _ _ _ _ H.out (by simp; omega) hn).mono ?_
        rintro e y ⟨rfl, hb⟩
        have v0 := (Bxx.out.below hb (by simp)).cell0
        have v1 := (Bxx.out.below hb (by simp)).cell1
        have Hb2 := Lib.hid (Hb.out.trans (hb.mono (by simp)))
        clear hb
        rw [He1.out]
        go_wp2_with fail
        refine (i_point _ _ _).mono ?_
        rintro e w' ⟨rfl, rfl⟩
        rw [He2.out]
        go_wp2_with fail
        refine (i_eyeStone _ _).mono ?_
        rintro e w' ⟨rfl, rfl⟩
        rw [He3.out]
        go_wp2_with fail
        go_ret
        exact ⟨ret_bool HF.out.symm, Hb2.out⟩
      · have hx : 1 ≤ x ∧ x ≤ 2 := by simpa using e3
        obtain ⟨q1, q2, q3, q4⟩ := (Bd.okB_iff s cs).1 e1
        obtain ⟨t, rfl⟩ := Int.eq_ofNat_of_zero_le (show 0 ≤ s by omega)
        obtain ⟨q, rfl⟩ := Int.eq_ofNat_of_zero_le p3
        have hq : q < t * t := by exact_mod_cast p4
        have t1 : 1 ≤ t := by omega
        have t2 : t ≤ 7 := by omega
        have hnn : n = t * t := by
          have h' := Hl.out
          have : (n : Int) = (t : Int) * t := by omega
          exact_mod_cast this
        have hsq := (Bt.sq_nat t t1 t2).2.1
        have h7 := (Bt.masks t t1 t2).2.2.2.2.2.2
        have HF := Lib.hid (show eyB (t : Int) cs (q : Int) x = eyeS t cs q x by rw [He.out, He1.out, He2.out, e3]; rfl)
        have CP : Hid (∀ w, Ints w B A n cs → B ≤ w.heap.size → Calls Tryd.prog 48 #[.agg #[.int .i64 (t : Nat), .slice A n c]] w fun e w' => e = .returned (.agg #[.int .i64 (t : Nat), .int .u64 (Bt.msk cs 0 n : Nat), .int .u64 (Bt.msk cs 1 n : Nat), .int .u64 (Bt.msk cs 2 n : Nat)]) ∧ Below w.heap.size w w') := Lib.hid fun w h hB => i_positionOf t w B A n c cs h hB e1
        obtain ⟨m, Y, hml, hYl, hmb, _, cE⟩ := i_eyesX t cs x n t1 t2 hnn Hl.out q4 (by omega)
        have hm64 : m < 18446744073709551616 := by omega
        have hmq := hmb q hq
        obtain ⟨f, hf⟩ : ∃ f, f = Y &&& (18446744073709551615 - m) := ⟨_, rfl⟩
        rw [← hf] at cE
        have CE := Lib.hid cE
        clear hml hYl hmb hf
        have hq64 : q < 64 := by omega
        have hbit := bit_ne m q hm64 hq64
        obtain ⟨P, hP⟩ : ∃ P, P = 2 ^ q := ⟨_, rfl⟩
        rw [← hP, hmq, ← HF.out] at hbit
        have Hbit := Lib.hid hbit
        have HP := Lib.hid hP
        obtain ⟨E0, h0⟩ : ∃ E, Bt.msk cs 0 n = E := ⟨_, rfl⟩
        obtain ⟨E1, h1⟩ : ∃ E, Bt.msk cs 1 n = E := ⟨_, rfl⟩
        obtain ⟨E2, h2⟩ : ∃ E, Bt.msk cs 2 n = E := ⟨_, rfl⟩
        rw [h0, h1, h2] at CP CE
        clear e3 hnn hq p3 p4 e1 hbit hP hmq q1 q2 q3 q4 hsq h7 cE h0 h1 h2 hx
        go_enter Tryd.func31, Tryd.ntmps31
        go_wp2_with fail
        refine (i_validBoard _ _ _ _ _ _ _ H.out (by simp; omega) hn).mono ?_
        rintro e y ⟨rfl, hb⟩
        have v0 := (Bxx.out.below hb (by simp)).cell0
        have v1 := (Bxx.out.below hb (by simp)).cell1
        have H2 := Lib.hid (H.out.below hb (by simp; omega))
        have HT2 := Lib.hid (HT.out.below hb)
        have Hb2 := Lib.hid (Hb.out.trans (hb.mono (by simp)))
        clear hb
        rw [He1.out]
        go_wp2_with fail
        refine (i_point _ _ _).mono ?_
        rintro e w' ⟨rfl, rfl⟩
        rw [He2.out]
        go_wp2_with fail
        refine (i_eyeStone _ _).mono ?_
        rintro e w' ⟨rfl, rfl⟩
        rw [He3.out]
        go_wp2_with fail
        refine (CP.out _ H2.out (by have := Hb2.out.size; omega)).mono ?_
        rintro e y2 ⟨rfl, hb⟩
        have HT3 := Lib.hid (HT2.out.below hb)
        have Hb3 := Lib.hid (Hb2.out.trans (hb.mono Hb2.out.size))
        clear hb v0 v1
        go_wp2_with fail
        refine (CE.out _ HT3.out).mono ?_
        rintro e y3 ⟨rfl, hb⟩
        have Hb4 := Lib.hid (Hb3.out.trans (hb.mono Hb3.out.size))
        clear hb
        go_wp2_with fail
        refine (i_onlyN _ q P _ rfl HP.out hq64).mono ?_
        rintro e w' ⟨rfl, rfl⟩
        go_wp2_with fail
        go_ret
        exact ⟨ret_bool Hbit.out, Hb4.out⟩
end
end Go.Proofs.YtpogjegihhljpaaDoor

namespace Go.Proofs.YtpogjegihhljpaaDoor
set_option maxRecDepth 100000
open Go.RowKit

theorem own_blk {w : World} {B n c g : Nat} {A : Option Addr} {xs : List Int} (h : Own w B A n c xs) (hg : (Value.slice A n c).ownBlock = some g) : A = some ⟨g, 0, none⟩ := by
  rcases h.2.2 with ⟨e, _⟩ | ⟨g', cap, cur, e, _⟩
  · rw [e] at hg; cases hg
  · have hA : A = some ⟨g', 0, none⟩ := by injection e
    rw [hA] at hg ⊢
    have : g' = g := by simpa [Value.ownBlock] using hg
    rw [this]

/-- Two lists of the call's own, apart from each other. -/
structure TwoL (w : World) (B : Nat) (A : Option Addr) (n c : Nat) (xs : List Int) (D : Option Addr) (m d : Nat) (ys : List Int) : Prop where
  one : Own w B A n c xs
  two : Own w B D m d ys
  apart : ∀ g, A = some ⟨g, 0, none⟩ → D ≠ some ⟨g, 0, none⟩
theorem TwoL.below {w w' : World} {B n c m d : Nat} {A D : Option Addr} {xs ys : List Int} (h : TwoL w B A n c xs D m d ys) (hb : Below w.heap.size w w') : TwoL w' B A n c xs D m d ys := ⟨h.one.below hb, h.two.below hb, h.apart⟩
theorem TwoL.swap {w : World} {B n c m d : Nat} {A D : Option Addr} {xs ys : List Int} (h : TwoL w B A n c xs D m d ys) : TwoL w B D m d ys A n c xs := ⟨h.two, h.one, fun g h1 h2 => h.apart g h2 h1⟩
theorem TwoL.grow {w w' : World} {B n c c' m d : Nat} {A A' D : Option Addr} {xs xs' ys : List Int} (h : TwoL w B A n c xs D m d ys) (ho : Own w' B A' (n + 1) c' xs') (hg : w.grownBy w' (Value.slice A n c).ownBlock)
    (hat : ∀ g, A' = some ⟨g, 0, none⟩ → (Value.slice A n c).ownBlock = some g ∨ w.heap.size < g) : TwoL w' B A' (n + 1) c' xs' D m d ys := by
  refine ⟨ho, h.two.kept hg ?_, ?_⟩
  · intro g hD e
    exact h.apart g (own_blk h.one e) hD
  · intro g hA hD
    rcases hat g hA with e | e
    · exact h.apart g (own_blk h.one e) hD
    · have := (h.two.ge hD).2
      omega
theorem TwoL.under {w w' a : World} {B n c m d : Nat} {A D : Option Addr} {xs ys : List Int} (h : TwoL w B A n c xs D m d ys) (hb : Below B a w) (hg : w.grownBy w' (Value.slice A n c).ownBlock) (hB : B ≤ w.heap.size) : Below B a w' :=
  hb.grown hg hB (fun _ hk => (h.one.ge (own_blk h.one hk)).1)

section
variable (t : Nat) (x : Int) (w : World) (B : Nat) (A : Option Addr) (n c : Nat) (cs : List Int) (h : Ints w B A n cs) (hB : B ≤ w.heap.size) (h1 : 1 ≤ t) (h2 : t ≤ 7) (hn : n = t * t) (hv : Bd.okB t cs = true) (x1 : 1 ≤ x) (x2 : x ≤ 2)
  (m f : Nat) (hm : ∀ q, q < n → m.testBit q = eyeS t cs q x) (hf : ∀ q, q < n → f.testBit q = (encS t cs q x && !eyeS t cs q x))
include h hB h1 h2 hn hv x1 x2 hm hf

set_option maxHeartbeats 2000000 in
theorem s_EyesV : Calls Tryd.prog 30 #[.agg #[.int .i64 (t : Nat), .slice A n c], .int .i64 x] w fun e w' => ∃ A n1 c1 D n2 c2, e = .returned (.tuple #[.slice A n1 c1, .slice D n2 c2]) ∧ TwoL w' w.heap.size A n1 c1 (Bt.pts m n) D n2 c2 (Bt.pts f n) ∧ Below w.heap.size w w' := by
  have hb0 : Below w.heap.size w (w.alloc (.cells #[.int .i64 (t : Nat), .slice A n c] 25)) := (Below.refl _ _).alloc (Nat.le_refl _) _
  obtain ⟨W0, hW0⟩ : ∃ W, W = w.alloc (.cells #[.int .i64 (t : Nat), .slice A n c] 25) := ⟨_, rfl⟩
  have hs0 : W0.heap.size = w.heap.size + 1 := by rw [hW0]; simp
  have Bx0 : Bx 25 W0 w.heap.size (t : Nat) (.slice A n c) := by rw [hW0]; exact Bx.new _ _ _ _
  rw [← hW0] at hb0
  obtain ⟨W1, hW1⟩ : ∃ W, W = W0.alloc (.cells #[] 3) := ⟨_, rfl⟩
  obtain ⟨W2, hW2⟩ : ∃ W, W = W1.alloc (.cells #[] 3) := ⟨_, rfl⟩
  have b1 : Below W0.heap.size W0 W1 := by rw [hW1]; exact (Below.refl _ _).alloc (Nat.le_refl _) _
  have b2 : Below W1.heap.size W1 W2 := by rw [hW2]; exact (Below.refl _ _).alloc (Nat.le_refl _) _
  have hs1 : W1.heap.size = w.heap.size + 2 := by rw [hW1]; simp [hs0]
  have hs2 : W2.heap.size = w.heap.size + 3 := by rw [hW2]; simp [hs1]
  have o1 : Own W1 (w.heap.size + 1) (some ⟨w.heap.size + 1, 0, none⟩) 0 0 [] := by
    have := Own.bare W0 (w.heap.size + 1) (by omega)
    rw [← hW1, hs0] at this; exact this
  have o2 : Own W2 (w.heap.size + 1) (some ⟨w.heap.size + 1 + 1, 0, none⟩) 0 0 [] := by
    have := Own.bare W1 (w.heap.size + 1) (by omega)
    rw [← hW2, hs1] at this; exact this
  have two : TwoL W2 (w.heap.size + 1) (some ⟨w.heap.size + 1, 0, none⟩) 0 0 [] (some ⟨w.heap.size + 1 + 1, 0, none⟩) 0 0 [] := ⟨o1.below b2, o2, fun g e1 e2 => by injection e1 with e1; injection e2 with e2; injection e1 with e1; injection e2 with e2; omega⟩
  have hbb : Below w.heap.size w W2 := (hb0.trans (b1.mono (by omega))).trans (b2.mono (by omega))
  have H := Lib.hid (h.below hbb hB)
  have Bxx := Lib.hid ((Bx0.below b1 (by omega)).below b2 (by omega))
  have Hb := Lib.hid hbb
  have HW : W2 = ((w.alloc (.cells #[.int .i64 (t : Nat), .slice A n c] 25)).alloc (.cells #[] 3)).alloc (.cells #[] 3) := by rw [hW2, hW1, hW0]
  have Htwo := Lib.hid two
  obtain ⟨g1, g2, g3⟩ := Bt.sq_nat t h1 h2
  have hn49 : n ≤ 49 := by omega
  have hn1 : 1 ≤ n := by omega
  have Hv := Lib.hid hv
  have Hx : Hid ((decide (1 ≤ x) && decide (x ≤ 2)) = true) := Lib.hid (by simp [x1, x2])
  have CE : Hid (∀ (q : Nat) w, q < n → Ints w B A n cs → B ≤ w.heap.size → Calls Tryd.prog 68 #[.agg #[.int .i64 (t : Nat), .slice A n c], .int .i64 (q : Nat), .int .i64 x] w fun e w' => e = .returned (.bool (m.testBit q)) ∧ Below w.heap.size w w') := Lib.hid fun q w hq h hB => by
    rw [hm q hq]; exact s_isEye t q x w B A n c cs h hB h1 h2 hn (by omega) x1 x2
  have CN : Hid (∀ (q : Nat) w, q < n → Ints w B A n cs → B ≤ w.heap.size → m.testBit q = false → Calls Tryd.prog 69 #[.agg #[.int .i64 (t : Nat), .slice A n c], .int .i64 (q : Nat), .int .i64 x] w fun e w' => e = .returned (.bool (f.testBit q)) ∧ Below w.heap.size w w') := Lib.hid fun q w hq h hB hmq => by
    rw [hf q hq, ← hm q hq, hmq, Bool.not_false, Bool.and_true]; exact s_enclosed t q x w B A n c cs h hB h1 h2 hn (by omega)
  have HNf : Hid (∀ q, q < n → m.testBit q = true → f.testBit q = false) := Lib.hid fun q hq e => by rw [hf q hq, ← hm q hq, e, Bool.not_true, Bool.and_false]
  clear h h1 h2 hn hv x1 x2 hm hf hb0 hs0 hs1 b1 b2 o1 o2 two hbb g1 g2 g3 Bx0 hW1 hW2 hW0
  have v0 := Bxx.out.cell0
  have v1 := Bxx.out.cell1
  go_enter Tryd.func30, Tryd.ntmps30
  go_wp2_with fail
  rw [← HW]
  refine (s_validBoard _ _ _ _ _ _ _ H.out (by omega) (by omega)).mono ?_
  rintro e y ⟨rfl, hb⟩
  have H2 := Lib.hid (H.out.below hb (by omega))
  have Bx2 := Lib.hid (Bxx.out.below hb (by omega))
  have Ht2 := Lib.hid (Htwo.out.below hb)
  have Hb2 := Lib.hid (Hb.out.trans (hb.mono (by omega)))
  have hys : w.heap.size + 3 ≤ y.heap.size := by have := hb.size; omega
  have v0 := Bx2.out.cell0
  have v1 := Bx2.out.cell1
  clear hb HW
  rw [Hv.out]
  go_wp2_with fail
  refine (s_eyeColor _ _).mono ?_
  rintro e w' ⟨rfl, rfl⟩
  rw [Hx.out]
  clear v0 v1
  go_wp2_with fail
  go_loopw [6, 7, 8] (fun v u i wr => ∃ (k : Nat) (A1 : Option Addr) (n1 c1 : Nat) (D : Option Addr) (n2 c2 : Nat), k ≤ n ∧ v = .slice A1 n1 c1 ∧ u = .slice D n2 c2 ∧ i = .int .i64 (k : Nat) ∧ n1 ≤ k ∧ n2 ≤ k ∧ TwoL wr (w.heap.size + 1) A1 n1 c1 (Bt.pts m k) D n2 c2 (Bt.pts f k) ∧ Below (w.heap.size + 1) y wr) (fun _ _ i _ => n - (intOf i).toNat)
  case atStart => exact ⟨0, _, _, _, _, _, _, by omega, rfl, rfl, rfl, Nat.le_refl _, Nat.le_refl _, Ht2.out, Below.refl _ _⟩
  case round =>
    obtain ⟨k, A1, n1, c1, D, n2, c2, hk, rfl, rfl, rfl, hn1k, hn2k, htw, hbr⟩ := hrel
    have Bxr := Lib.hid (Bx2.out.below hbr (by omega))
    have Hr := Lib.hid (H2.out.below hbr (by omega))
    have Hbr := Lib.hid hbr
    have Htw := Lib.hid htw
    have hwr : w.heap.size + 3 ≤ wr.heap.size := by have := hbr.size; omega
    have v0 := Bxr.out.cell0
    have v1 := Bxr.out.cell1
    clear hbr htw
    by_cases hkn : k < n
    · have hkI : (k : Int) < n := by omega
      rcases Bool.eq_false_or_eq_true (m.testBit k) with e | e
      · have Hf0 := Lib.hid (HNf.out k hkn e)
        have He := Lib.hid e
        clear e
        go_wp2_with fail
        refine (CE.out k _ hkn Hr.out (by omega)).mono ?_
        rintro e y3 ⟨rfl, hb⟩
        rw [He.out]
        have Ht3 := Lib.hid (Htw.out.below hb)
        have Hb3 := Lib.hid (Hbr.out.trans (hb.mono (by omega)))
        have hz := hb.size
        clear hb v0 v1
        go_wp2_with (at_builtin; refine app1at rfl _ _ rfl _ _ _ _ _ _ _ _ rfl rfl (by simp) Ht3.out.one (by omega) (by omega) ?_; intro A' c' w' hown' hlt' hg' hat')
        have Ht4 := Lib.hid (Ht3.out.grow hown' hg' hat')
        have Hb4 := Lib.hid (Ht3.out.under Hb3.out hg' (by omega))
        clear hown' hg' hat'
        go_roundw
        case rel => exact ⟨k + 1, _, _, _, _, _, _, by omega, rfl, rfl, by go_num, by omega, by omega, by rw [Bt.pts_yes He.out, Bt.pts_no Hf0.out]; exact Ht4.out, Hb4.out⟩
        case measure => simp [intOf] <;> omega
      · have He := Lib.hid e
        clear e
        rcases Bool.eq_false_or_eq_true (f.testBit k) with e | e
        · have Hf0 := Lib.hid e
          clear e
          go_wp2_with fail
          refine (CE.out k _ hkn Hr.out (by omega)).mono ?_
          rintro e y3 ⟨rfl, hb⟩
          rw [He.out]
          have Ht3 := Lib.hid (Htw.out.below hb)
          have Hb3 := Lib.hid (Hbr.out.trans (hb.mono (by omega)))
          have Hr3 := Lib.hid (Hr.out.below hb (by omega))
          have Bx3 := Lib.hid (Bxr.out.below hb (by omega))
          have hz := hb.size
          clear hb v0 v1
          have v0 := Bx3.out.cell0
          have v1 := Bx3.out.cell1
          go_wp2_with fail
          refine (CN.out k _ hkn Hr3.out (by omega) He.out).mono ?_
          rintro e y4 ⟨rfl, hb⟩
          rw [Hf0.out]
          have Ht4 := Lib.hid (Ht3.out.below hb).swap
          have Hb4 := Lib.hid (Hb3.out.trans (hb.mono (by omega)))
          have hz2 := hb.size
          clear hb v0 v1
          go_wp2_with (at_builtin; refine app1at rfl _ _ rfl _ _ _ _ _ _ _ _ rfl rfl (by simp) Ht4.out.one (by omega) (by omega) ?_; intro A' c' w' hown' hlt' hg' hat')
          have Ht5 := Lib.hid (Ht4.out.grow hown' hg' hat').swap
          have Hb5 := Lib.hid (Ht4.out.under Hb4.out hg' (by omega))
          clear hown' hg' hat'
          go_roundw
          case rel => exact ⟨k + 1, _, _, _, _, _, _, by omega, rfl, rfl, by go_num, by omega, by omega, by rw [Bt.pts_yes Hf0.out, Bt.pts_no He.out]; exact Ht5.out, Hb5.out⟩
          case measure => simp [intOf] <;> omega
        · have Hf0 := Lib.hid e
          clear e
          go_wp2_with fail
          refine (CE.out k _ hkn Hr.out (by omega)).mono ?_
          rintro e y3 ⟨rfl, hb⟩
          rw [He.out]
          have Ht3 := Lib.hid (Htw.out.below hb)
          have Hb3 := Lib.hid (Hbr.out.trans (hb.mono (by omega)))
          have Hr3 := Lib.hid (Hr.out.below hb (by omega))
          have Bx3 := Lib.hid (Bxr.out.below hb (by omega))
          have hz := hb.size
          clear hb v0 v1
          have v0 := Bx3.out.cell0
          have v1 := Bx3.out.cell1
          go_wp2_with fail
          refine (CN.out k _ hkn Hr3.out (by omega) He.out).mono ?_
          rintro e y4 ⟨rfl, hb⟩
          rw [Hf0.out]
          have Ht4 := Lib.hid (Ht3.out.below hb)
          have Hb4 := Lib.hid (Hb3.out.trans (hb.mono (by omega)))
          have hz2 := hb.size
          clear hb v0 v1
          go_wp2_with fail
          go_roundw
          case rel => exact ⟨k + 1, _, _, _, _, _, _, by omega, rfl, rfl, by go_num, by omega, by omega, by rw [Bt.pts_no Hf0.out, Bt.pts_no He.out]; exact Ht4.out, Hb4.out⟩
          case measure => simp [intOf] <;> omega
    · obtain rfl : k = n := by omega
      have Hbf := Lib.hid (Hb2.out.trans (Hbr.out.mono (by omega)))
      go_wp2_with fail
      go_ret2
      exact ⟨_, _, _, _, _, _, rfl, ⟨Htw.out.one.weaken (by omega), Htw.out.two.weaken (by omega), Htw.out.apart⟩, Hbf.out⟩
end
end Go.Proofs.YtpogjegihhljpaaDoor

namespace Go.Proofs.YtpogjegihhljpaaDoor
set_option maxRecDepth 100000
open Go.RowKit

def eyOk (s : Int) (cs : List Int) (x : Int) : Bool := Bd.okB s cs && (decide (1 ≤ x) && decide (x ≤ 2))
def eyL (s : Int) (cs : List Int) (x : Int) : List Int := if eyOk s cs x then ((List.range cs.length).filter fun q => eyeS s cs (q : Nat) x).map fun (q : Nat) => (q : Int) else []
def eyW (s : Int) (cs : List Int) (x : Int) : List Int := if eyOk s cs x then ((List.range cs.length).filter fun q => encS s cs (q : Nat) x && !eyeS s cs (q : Nat) x).map fun (q : Nat) => (q : Int) else []
theorem eyL_len (s : Int) (cs : List Int) (x : Int) : (eyL s cs x).length ≤ cs.length := by
  unfold eyL; split
  · rw [List.length_map]; exact Nat.le_trans (List.length_filter_le _ _) (by simp)
  · simp
theorem eyW_len (s : Int) (cs : List Int) (x : Int) : (eyW s cs x).length ≤ cs.length := by
  unfold eyW; split
  · rw [List.length_map]; exact Nat.le_trans (List.length_filter_le _ _) (by simp)
  · simp
theorem pts_sel {m n : Nat} {g : Nat → Bool} (h : ∀ q, q < n → m.testBit q = g q) : Bt.pts m n = ((List.range n).filter g).map fun (q : Nat) => (q : Int) := by
  unfold Bt.pts
  congr 1
  exact List.filter_congr fun q hq => h q (List.mem_range.1 hq)

theorem ey_ltY {s Y O m k : Nat} (h : IsEy s Y O m) (hY : Y < 2 ^ k) : m < 2 ^ k := by
  refine Nat.lt_pow_two_of_testBit _ fun j hj => ?_
  rw [h j, Bt.high hY hj, Bool.false_and]
theorem i_eyesY (t : Nat) (cs : List Int) (x : Int) (n : Nat) (t1 : 1 ≤ t) (t2 : t ≤ 7) (hnn : n = t * t) (hl : cs.length = n) (hok : ∀ c ∈ cs, 0 ≤ c ∧ c ≤ 2) (hx : x = 1 ∨ x = 2) :
    ∃ m Y : Nat, m < 2 ^ 49 ∧ Y < 2 ^ (t * t) ∧ m < 2 ^ (t * t) ∧ (∀ q, q < t * t → m.testBit q = eyeS t cs q x) ∧ (∀ q, q < t * t → Y.testBit q = encS t cs q x) ∧
      ∀ w, Tab w → Calls Tryd.prog 67 #[.agg #[.int .i64 (t : Nat), .int .u64 (Bt.msk cs 0 n : Nat), .int .u64 (Bt.msk cs 1 n : Nat), .int .u64 (Bt.msk cs 2 n : Nat)], .int .i64 x] w fun e w' => e = .returned (.tuple #[.int .u64 (m : Nat), .int .u64 ((Y &&& (18446744073709551615 - m) : Nat) : Int)]) ∧ Below w.heap.size w w' := by
  have h7 := (Bt.masks t t1 t2).2.2.2.2.2.2
  have l0 : Bt.msk cs 0 n < 2 ^ (t * t) := by rw [← hnn]; exact Bt.msk_lt cs 0 n
  have l1 : Bt.msk cs 1 n < 2 ^ (t * t) := by rw [← hnn]; exact Bt.msk_lt cs 1 n
  have l2 : Bt.msk cs 2 n < 2 ^ (t * t) := by rw [← hnn]; exact Bt.msk_lt cs 2 n
  rcases hx with rfl | rfl
  · have hY := encM_lt (s := t) (M := Bt.msk cs 1 n) (O := Bt.msk cs 2 n) l0
    obtain ⟨m, hm⟩ := ey_ex t (encM t (Bt.msk cs 0 n) (Bt.msk cs 1 n) (Bt.msk cs 2 n)) (Bt.msk cs 2 n) (by omega)
    refine ⟨m, _, ey_lt hm (Nat.lt_of_lt_of_le hY h7), hY, ey_ltY hm hY, fun q hq => eye_bit t q cs 1 2 n m t1 t2 hnn hl hok (by simp) hq hm, fun q hq => enc_eq t cs 1 2 n t1 t2 hnn hl hok (by simp) q hq, fun w ht => (i_eyes1 t _ _ _ w ht t1 t2 l0 l1 l2).mono ?_⟩
    rintro e w' ⟨m', rfl, hm', hb⟩
    rw [hm'.one hm]
    exact ⟨rfl, hb⟩
  · have hY := encM_lt (s := t) (M := Bt.msk cs 2 n) (O := Bt.msk cs 1 n) l0
    obtain ⟨m, hm⟩ := ey_ex t (encM t (Bt.msk cs 0 n) (Bt.msk cs 2 n) (Bt.msk cs 1 n)) (Bt.msk cs 1 n) (by omega)
    refine ⟨m, _, ey_lt hm (Nat.lt_of_lt_of_le hY h7), hY, ey_ltY hm hY, fun q hq => eye_bit t q cs 2 1 n m t1 t2 hnn hl hok (by simp) hq hm, fun q hq => enc_eq t cs 2 1 n t1 t2 hnn hl hok (by simp) q hq, fun w ht => (i_eyes2 t _ _ _ w ht t1 t2 l0 l2 l1).mono ?_⟩
    rintro e w' ⟨m', rfl, hm', hb⟩
    rw [hm'.one hm]
    exact ⟨rfl, hb⟩

/-- What the program's sets say of the model's lists. -/
theorem ey_lists (t : Nat) (cs : List Int) (x : Int) (n : Nat) (t1 : 1 ≤ t) (t2 : t ≤ 7) (hnn : n = t * t) (hl : cs.length = n) (ho : Bd.okB t cs = true) (x1 : 1 ≤ x) (x2 : x ≤ 2) :
    ∃ m f : Nat, m < 2 ^ 49 ∧ f < 2 ^ 49 ∧ (∀ q, q < n → m.testBit q = eyeS t cs q x) ∧ (∀ q, q < n → f.testBit q = (encS t cs q x && !eyeS t cs q x)) ∧ eyL t cs x = Bt.pts m n ∧ eyW t cs x = Bt.pts f n ∧ eyL t cs x = Bt.pts m 64 ∧ eyW t cs x = Bt.pts f 64 ∧
      ∀ w, Tab w → Calls Tryd.prog 67 #[.agg #[.int .i64 (t : Nat), .int .u64 (Bt.msk cs 0 n : Nat), .int .u64 (Bt.msk cs 1 n : Nat), .int .u64 (Bt.msk cs 2 n : Nat)], .int .i64 x] w fun e w' => e = .returned (.tuple #[.int .u64 (m : Nat), .int .u64 (f : Nat)]) ∧ Below w.heap.size w w' := by
  obtain ⟨_, _, _, q4⟩ := (Bd.okB_iff (t : Int) cs).1 ho
  obtain ⟨m, Y, hml, hYl, hmn', hmb, hYb, cE⟩ := i_eyesY t cs x n t1 t2 hnn hl q4 (by omega)
  have h7 := (Bt.masks t t1 t2).2.2.2.2.2.2
  have hY64 : Y < 18446744073709551616 := by omega
  have hfb : ∀ q, (Y &&& (18446744073709551615 - m)).testBit q = (Y.testBit q && !m.testBit q) := fun q => Bt.andNot_bit hY64 (by omega)
  have hok : eyOk t cs x = true := by rw [eyOk, ho]; simp [x1, x2]
  have e1 : eyL t cs x = Bt.pts m n := by
    rw [eyL, if_pos hok, hl, pts_sel (g := fun q => eyeS t cs q x) fun q hq => hmb q (by omega)]
  have e2 : eyW t cs x = Bt.pts (Y &&& (18446744073709551615 - m)) n := by
    rw [eyW, if_pos hok, hl, pts_sel (g := fun q => encS t cs q x && !eyeS t cs q x) fun q hq => by rw [hfb, hYb q (by omega), hmb q (by omega)]]
  have fl : (Y &&& (18446744073709551615 - m)) < 2 ^ n := by rw [hnn]; exact Nat.lt_of_le_of_lt Nat.and_le_left hYl
  have hn49 : n ≤ 49 := by rw [hnn]; exact (Bt.sq_nat t t1 t2).2.1
  have hmn : ∀ q, n ≤ q → m.testBit q = false := fun q hq => Bt.high hmn' (by omega)
  refine ⟨m, _, hml, Nat.lt_of_lt_of_le fl (Nat.pow_le_pow_right (by decide) hn49), fun q hq => hmb q (by omega), fun q hq => by rw [hfb, hYb q (by omega), hmb q (by omega)], e1, e2, ?_, ?_, cE⟩
  · rw [e1]; exact (Bt.pts_gap (by omega) fun i hi _ => hmn i hi).symm
  · rw [e2]; exact (Bt.pts_more fl (by omega)).symm

section
variable (s x : Int) (w : World) (B : Nat) (A : Option Addr) (n c : Nat) (cs : List Int) (h : Ints w B A n cs) (hB : B ≤ w.heap.size) (hn : n ≤ 1000000000)
include h hB hn

set_option maxHeartbeats 2000000 in
theorem s_EyesOf : Calls Tryd.prog 30 #[.agg #[.int .i64 s, .slice A n c], .int .i64 x] w fun e w' => ∃ A n1 c1 D n2 c2, e = .returned (.tuple #[.slice A n1 c1, .slice D n2 c2]) ∧ TwoL w' w.heap.size A n1 c1 (eyL s cs x) D n2 c2 (eyW s cs x) ∧ Below w.heap.size w w' := by
  have hl := h.1
  by_cases hok : eyOk s cs x = true
  · rw [eyOk, Bool.and_eq_true, Bool.and_eq_true, decide_eq_true_eq, decide_eq_true_eq] at hok
    obtain ⟨ho, x1, x2⟩ := hok
    obtain ⟨q1, q2, q3, q4⟩ := (Bd.okB_iff s cs).1 ho
    obtain ⟨t, rfl⟩ := Int.eq_ofNat_of_zero_le (show 0 ≤ s by omega)
    have hnn : n = t * t := by
      have : (n : Int) = (t : Int) * t := by omega
      exact_mod_cast this
    obtain ⟨m, f, _, _, hm, hf, e1, e2, _, _, _⟩ := ey_lists t cs x n (by omega) (by omega) hnn hl ho x1 x2
    rw [e1, e2]
    exact s_EyesV t x w B A n c cs h hB (by omega) (by omega) hnn ho x1 x2 m f hm hf
  · have hok' : eyOk s cs x = false := by simpa using hok
    have HL := Lib.hid (show eyL s cs x = [] by rw [eyL, hok']; rfl)
    have HW := Lib.hid (show eyW s cs x = [] by rw [eyW, hok']; rfl)
    have hb0 : Below w.heap.size w (w.alloc (.cells #[.int .i64 s, .slice A n c] 25)) := (Below.refl _ _).alloc (Nat.le_refl _) _
    have hbb : Below w.heap.size w (((w.alloc (.cells #[.int .i64 s, .slice A n c] 25)).alloc (.cells #[] 3)).alloc (.cells #[] 3)) := (hb0.alloc (by simp) _).alloc (by simp; omega) _
    have Bxx := Lib.hid (((Bx.new 25 w s (.slice A n c)).alloc (.cells #[] 3)).alloc (.cells #[] 3))
    have H := Lib.hid (h.below hbb hB)
    have Hb := Lib.hid hbb
    have v0 := Bxx.out.cell0
    have v1 := Bxx.out.cell1
    have HO := Lib.hid hok'
    clear h hl hok hok' hb0 hbb
    obtain ⟨b1, e1⟩ : ∃ b, Bd.okB s cs = b := ⟨_, rfl⟩
    have He1 := Lib.hid e1
    clear e1
    cases b1
    · go_enter Tryd.func30, Tryd.ntmps30
      go_wp2_with fail
      refine (s_validBoard _ _ _ _ _ _ _ H.out (by simp; omega) hn).mono ?_
      rintro e y ⟨rfl, hb⟩
      have Hb2 := Lib.hid (Hb.out.trans (hb.mono (by simp; omega)))
      clear hb v0 v1
      rw [He1.out]
      go_wp2_with fail
      go_ret2
      exact ⟨_, _, _, _, _, _, rfl, ⟨by rw [HL.out]; exact Own.nil _ _, by rw [HW.out]; exact Own.nil _ _, fun g e => by cases e⟩, Hb2.out⟩
    · have He2 := Lib.hid (show (decide (1 ≤ x) && decide (x ≤ 2)) = false by have := HO.out; rw [eyOk, He1.out] at this; simpa using this)
      go_enter Tryd.func30, Tryd.ntmps30
      go_wp2_with fail
      refine (s_validBoard _ _ _ _ _ _ _ H.out (by simp; omega) hn).mono ?_
      rintro e y ⟨rfl, hb⟩
      have Hb2 := Lib.hid (Hb.out.trans (hb.mono (by simp; omega)))
      clear hb v0 v1
      rw [He1.out]
      go_wp2_with fail
      refine (s_eyeColor _ _).mono ?_
      rintro e w' ⟨rfl, rfl⟩
      rw [He2.out]
      go_wp2_with fail
      go_ret2
      exact ⟨_, _, _, _, _, _, rfl, ⟨by rw [HL.out]; exact Own.nil _ _, by rw [HW.out]; exact Own.nil _ _, fun g e => by cases e⟩, Hb2.out⟩

/-- The program's two lists: the second lies behind the first. -/
def TwoA (w : World) (xs ys : List Int) (e : Ending) (w' : World) : Prop := ∃ A n1 c1 D n2 c2 mid, e = .returned (.tuple #[.slice A n1 c1, .slice D n2 c2]) ∧ Own w' w.heap.size A n1 c1 xs ∧ (∀ g, A = some ⟨g, 0, none⟩ → g < mid) ∧ Own w' mid D n2 c2 ys ∧ w.heap.size ≤ mid ∧ mid ≤ w'.heap.size ∧ Below w.heap.size w w'

variable (ht : Tab w)
include ht
set_option maxHeartbeats 2000000 in
theorem i_EyesOf : Calls Tryd.prog 29 #[.agg #[.int .i64 s, .slice A n c], .int .i64 x] w (TwoA w (eyL s cs x) (eyW s cs x)) := by
  have hl := h.1
  have hb1 : Below w.heap.size w (w.alloc (.cells #[.int .i64 s, .slice A n c] 25)) := (Below.refl _ _).alloc (Nat.le_refl _) _
  have H := Lib.hid (h.below hb1 hB)
  have Hb := Lib.hid hb1
  have Bxx := Lib.hid (Bx.new 25 w s (.slice A n c))
  have HT := Lib.hid (ht.alloc (.cells #[.int .i64 s, .slice A n c] 25))
  clear h hb1 ht
  by_cases hok : eyOk s cs x = true
  · rw [eyOk, Bool.and_eq_true, Bool.and_eq_true, decide_eq_true_eq, decide_eq_true_eq] at hok
    obtain ⟨ho, x1, x2⟩ := hok
    obtain ⟨q1, q2, q3, q4⟩ := (Bd.okB_iff s cs).1 ho
    obtain ⟨t, rfl⟩ := Int.eq_ofNat_of_zero_le (show 0 ≤ s by omega)
    have hnn : n = t * t := by
      have : (n : Int) = (t : Int) * t := by omega
      exact_mod_cast this
    obtain ⟨m, f, hm49, hf49, _, _, _, _, e1, e2, cE⟩ := ey_lists t cs x n (by omega) (by omega) hnn hl ho x1 x2
    rw [e1, e2]
    have He1 := Lib.hid ho
    have He2 : Hid ((decide (1 ≤ x) && decide (x ≤ 2)) = true) := Lib.hid (by simp [x1, x2])
    have CE := Lib.hid cE
    have CP : Hid (∀ w, Ints w B A n cs → B ≤ w.heap.size → Calls Tryd.prog 48 #[.agg #[.int .i64 (t : Nat), .slice A n c]] w fun e w' => e = .returned (.agg #[.int .i64 (t : Nat), .int .u64 (Bt.msk cs 0 n : Nat), .int .u64 (Bt.msk cs 1 n : Nat), .int .u64 (Bt.msk cs 2 n : Nat)]) ∧ Below w.heap.size w w') := Lib.hid fun w h hB => i_positionOf t w B A n c cs h hB ho
    have CM : Hid (∀ w, Tab w → Calls Tryd.prog 51 #[.int .u64 (m : Nat)] w fun e w' => ∃ A n c, e = .returned (.slice A n c) ∧ Own w' w.heap.size A n c (Bt.pts m 64) ∧ Below w.heap.size w w') := Lib.hid fun w ht => i_list m w ht (by omega)
    have CF : Hid (∀ w, Tab w → Calls Tryd.prog 51 #[.int .u64 (f : Nat)] w fun e w' => ∃ A n c, e = .returned (.slice A n c) ∧ Own w' w.heap.size A n c (Bt.pts f 64) ∧ Below w.heap.size w w') := Lib.hid fun w ht => i_list f w ht (by omega)
    obtain ⟨E0, h0⟩ : ∃ E, Bt.msk cs 0 n = E := ⟨_, rfl⟩
    obtain ⟨E1, h1⟩ : ∃ E, Bt.msk cs 1 n = E := ⟨_, rfl⟩
    obtain ⟨E2, h2⟩ : ∃ E, Bt.msk cs 2 n = E := ⟨_, rfl⟩
    rw [h0, h1, h2] at CP CE
    clear ho x1 x2 q1 q2 q3 q4 hl hnn e1 e2 cE h0 h1 h2
    go_enter Tryd.func29, Tryd.ntmps29
    go_wp2_with fail
    refine (i_validBoard _ _ _ _ _ _ _ H.out (by simp; omega) hn).mono ?_
    rintro e y ⟨rfl, hb⟩
    have v0 := (Bxx.out.below hb (by simp)).cell0
    have v1 := (Bxx.out.below hb (by simp)).cell1
    have H2 := Lib.hid (H.out.below hb (by simp; omega))
    have HT2 := Lib.hid (HT.out.below hb)
    have Hb2 := Lib.hid (Hb.out.trans (hb.mono (by simp)))
    clear hb
    rw [He1.out]
    go_wp2_with fail
    refine (i_eyeStone _ _).mono ?_
    rintro e w' ⟨rfl, rfl⟩
    rw [He2.out]
    go_wp2_with fail
    refine (CP.out _ H2.out (by have := Hb2.out.size; omega)).mono ?_
    rintro e y2 ⟨rfl, hb⟩
    have HT3 := Lib.hid (HT2.out.below hb)
    have Hb3 := Lib.hid (Hb2.out.trans (hb.mono Hb2.out.size))
    clear hb v0 v1
    go_wp2_with fail
    refine (CE.out _ HT3.out).mono ?_
    rintro e y3 ⟨rfl, hb⟩
    have HT4 := Lib.hid (HT3.out.below hb)
    have Hb4 := Lib.hid (Hb3.out.trans (hb.mono Hb3.out.size))
    clear hb
    go_wp2_with fail
    refine (CM.out _ HT4.out).mono ?_
    rintro e y4 ⟨A1, n1, c1, rfl, ho1, hb⟩
    have HT5 := Lib.hid (HT4.out.below hb)
    have Hb5 := Lib.hid (Hb4.out.trans (hb.mono Hb4.out.size))
    have Ho1 := Lib.hid ho1
    clear hb ho1
    go_wp2_with fail
    refine (CF.out _ HT5.out).mono ?_
    rintro e y5 ⟨A2, n2, c2, rfl, ho2, hb⟩
    have Hb6 := Lib.hid (Hb5.out.trans (hb.mono Hb5.out.size))
    have Ho2 := Lib.hid ho2
    have Ho3 := Lib.hid (Ho1.out.below hb)
    have Hz := Lib.hid hb.size
    clear hb ho2
    go_wp2_with fail
    go_ret2
    exact ⟨_, _, _, _, _, _, y4.heap.size, rfl, Ho3.out.weaken Hb4.out.size, fun g e => (Ho1.out.ge e).2, Ho2.out, Hb5.out.size, Hz.out, Hb6.out⟩
  · have hok' : eyOk s cs x = false := by simpa using hok
    have HL := Lib.hid (show eyL s cs x = [] by rw [eyL, hok']; rfl)
    have HW := Lib.hid (show eyW s cs x = [] by rw [eyW, hok']; rfl)
    have HO := Lib.hid hok'
    clear hl hok hok'
    obtain ⟨b1, e1⟩ : ∃ b, Bd.okB s cs = b := ⟨_, rfl⟩
    have He1 := Lib.hid e1
    clear e1
    cases b1
    · go_enter Tryd.func29, Tryd.ntmps29
      go_wp2_with fail
      refine (i_validBoard _ _ _ _ _ _ _ H.out (by simp; omega) hn).mono ?_
      rintro e y ⟨rfl, hb⟩
      have Hb2 := Lib.hid (Hb.out.trans (hb.mono (by simp)))
      clear hb
      rw [He1.out]
      go_wp2_with fail
      go_ret2
      exact ⟨_, _, _, _, _, _, w.heap.size, rfl, by rw [HL.out]; exact Own.nil _ _, (fun g e => by cases e), by rw [HW.out]; exact Own.nil _ _, Nat.le_refl _, Hb2.out.size, Hb2.out⟩
    · have He2 := Lib.hid (show (decide (1 ≤ x) && decide (x ≤ 2)) = false by have := HO.out; rw [eyOk, He1.out] at this; simpa using this)
      go_enter Tryd.func29, Tryd.ntmps29
      go_wp2_with fail
      refine (i_validBoard _ _ _ _ _ _ _ H.out (by simp; omega) hn).mono ?_
      rintro e y ⟨rfl, hb⟩
      have Hb2 := Lib.hid (Hb.out.trans (hb.mono (by simp)))
      clear hb
      rw [He1.out]
      go_wp2_with fail
      refine (i_eyeStone _ _).mono ?_
      rintro e w' ⟨rfl, rfl⟩
      rw [He2.out]
      go_wp2_with fail
      go_ret2
      exact ⟨_, _, _, _, _, _, w.heap.size, rfl, by rw [HL.out]; exact Own.nil _ _, (fun g e => by cases e), by rw [HW.out]; exact Own.nil _ _, Nat.le_refl _, Hb2.out.size, Hb2.out⟩
end
end Go.Proofs.YtpogjegihhljpaaDoor

namespace Go.Proofs.YtpogjegihhljpaaDoor
set_option maxRecDepth 100000
open Go.RowKit
variable (s x : Int) (w : World) (B : Nat) (A : Option Addr) (n c : Nat) (cs : List Int) (la lb : List Int)
theorem s_EyL (ha : Hid (eyL s cs x = la)) (hb : Hid (eyW s cs x = lb)) (h : Ints w B A n cs) (hB : B ≤ w.heap.size) (hn : n ≤ 1000000000) : Calls Tryd.prog 30 #[.agg #[.int .i64 s, .slice A n c], .int .i64 x] w fun e w' => ∃ A n1 c1 D n2 c2, e = .returned (.tuple #[.slice A n1 c1, .slice D n2 c2]) ∧ TwoL w' w.heap.size A n1 c1 la D n2 c2 lb ∧ Below w.heap.size w w' := by
  rw [← ha.out, ← hb.out]; exact s_EyesOf s x w B A n c cs h hB hn
theorem i_EyL (ha : Hid (eyL s cs x = la)) (hb : Hid (eyW s cs x = lb)) (h : Ints w B A n cs) (hB : B ≤ w.heap.size) (hn : n ≤ 1000000000) (ht : Tab w) : Calls Tryd.prog 29 #[.agg #[.int .i64 s, .slice A n c], .int .i64 x] w fun e w' => ∃ A n1 c1 D n2 c2 mid, e = .returned (.tuple #[.slice A n1 c1, .slice D n2 c2]) ∧ Own w' w.heap.size A n1 c1 la ∧ (∀ g, A = some ⟨g, 0, none⟩ → g < mid) ∧ Own w' mid D n2 c2 lb ∧ w.heap.size ≤ mid ∧ mid ≤ w'.heap.size ∧ Below w.heap.size w w' := by
  rw [← ha.out, ← hb.out]; exact i_EyesOf s x w B A n c cs h hB hn ht
end Go.Proofs.YtpogjegihhljpaaDoor

namespace Go.Proofs.YtpogjegihhljpaaDoor
set_option maxRecDepth 100000
open Go.RowKit

theorem mem_at {xs : List Int} {x : Int} (h : x ∈ xs) : ∃ j, j < xs.length ∧ xs.getD j 0 = x ∧ ∀ i, i < j → xs.getD i 0 ≠ x := by
  induction xs with
  | nil => cases h
  | cons y l ih =>
    by_cases hy : y = x
    · exact ⟨0, by simp, by simpa using hy, fun i hi => by omega⟩
    · have hm : x ∈ l := by
        rcases List.mem_cons.1 h with h | h
        · exact absurd h.symm hy
        · exact h
      obtain ⟨j, hj, he, hb⟩ := ih hm
      refine ⟨j + 1, by simpa using hj, by simpa using he, fun i hi => ?_⟩
      match i with
      | 0 => simpa using hy
      | i + 1 => simpa using hb i (by omega)

theorem in_t (w : World) (B : Nat) (A : Option Addr) (n c : Nat) (xs : List Int) (x : Int) (h : Ints w B A n xs) (hn : n ≤ 1000000000) (hx : x ∈ xs) :
    Calls Tryd.prog 17 #[.slice A n c, .int .i64 x] w fun e w' => e = .returned (.bool true) ∧ w = w' := by
  obtain ⟨m, hm, he, hb⟩ := mem_at hx
  rw [h.1] at hm
  rcases h.2 with h0 | ⟨b, o, rfl, hlt, hc⟩
  · omega
  · have Hc := Lib.hid hc
    have Hb := Lib.hid hb
    have He := Lib.hid he
    clear hc hb he hx h
    go_enter Tryd.func17, Tryd.ntmps17
    go_wp2_with fail
    go_loop [5] (fun i => ∃ k : Nat, k ≤ m ∧ i = .int .i64 k) (fun i => n - (intOf i).toNat)
    case atStart => exact ⟨0, by omega, rfl⟩
    case round =>
      obtain ⟨k, hk, rfl⟩ := hrel
      have hck := Hc.out k (by omega)
      obtain ⟨y, hy⟩ : ∃ y, xs.getD k 0 = y := ⟨_, rfl⟩
      rw [hy] at hck
      by_cases hkm : k = m
      · have hyx : (y == x) = true := by rw [← hy, hkm, He.out]; simp
        clear hy hkm
        go_wp2_with fail
        go_ret
        exact ⟨rfl, rfl⟩
      · have hyx : (y == x) = false := by rw [← hy]; simpa using Hb.out k (by omega)
        clear hy
        go_wp2_with fail
        go_round
        case rel => exact ⟨k + 1, by omega, by go_num⟩
        case measure => simp [intOf]; omega

theorem rises_at {xs : List Int} (h : Pt.rises xs = true) (k : Nat) (hk : k + 1 < xs.length) : xs.getD k 0 < xs.getD (k + 1) 0 := by
  induction xs generalizing k with
  | nil => simp at hk
  | cons a l ih =>
    match l, k, hk, h with
    | [], k, hk, _ => simp at hk
    | b :: l, 0, _, h => simp [Pt.rises] at h; simpa using h.1
    | b :: l, k + 1, hk, h => simp [Pt.rises] at h; simpa using ih h.2 k (by simpa using hk)

theorem asc_t (w : World) (B : Nat) (A : Option Addr) (n c : Nat) (xs : List Int) (h : Ints w B A n xs) (hn : n ≤ 1000000000) (hx : Pt.rises xs = true) :
    Calls Tryd.prog 32 #[.slice A n c] w fun e w' => Drew (.bool true) w e w' := by
  have hr := rises_at hx
  rw [h.1] at hr
  have Hr := Lib.hid hr
  clear hr hx
  rcases h.2 with rfl | ⟨b, o, rfl, hlt, hc⟩
  · clear h
    go_enter Tryd.func32, Tryd.ntmps32
    go_wp2_with fail
    go_rounds 1
    go_ret
    exact ⟨0, rfl, rfl⟩
  · have Hc := Lib.hid hc
    clear hc h
    go_enter Tryd.func32, Tryd.ntmps32
    go_wp2_with fail
    go_loopw [3] (fun i wr => ∃ k : Nat, 1 ≤ k ∧ k ≤ n + 1 ∧ i = .int .i64 k ∧ ∃ d, wr = w.drewN d) (fun i _ => n + 1 - (intOf i).toNat)
    case atStart => exact ⟨1, by omega, by omega, rfl, 0, rfl⟩
    case round =>
      obtain ⟨k, hk1, hk2, rfl, d, rfl⟩ := hrel
      by_cases hlt : k < n
      · obtain ⟨j, rfl⟩ : ∃ j, k = j + 1 := ⟨k - 1, by omega⟩
        have c1 := Hc.out j (by omega)
        have c2 := Hc.out (j + 1) hlt
        have hab := Hr.out j hlt
        obtain ⟨x, hx⟩ : ∃ x, xs.getD j 0 = x := ⟨_, rfl⟩
        obtain ⟨y, hy⟩ : ∃ y, xs.getD (j + 1) 0 = y := ⟨_, rfl⟩
        rw [hx] at c1
        rw [hy] at c2
        rw [hx, hy] at hab
        clear hx hy
        have hd : decide (y ≤ x) = false := by rw [decide_eq_false_iff_not]; omega
        have e1 : IntKind.i64.wrap (((j + 1 : Nat) : Int) - 1) = (j : Int) := by rw [show (((j + 1 : Nat) : Int) - 1) = (j : Int) by omega]; exact IntWalk.i64_in _ (by omega)
        go_wp2_with fail
        go_quiet (fail)
        go_wp2_with fail
        go_roundw
        case rel => exact ⟨j + 1 + 1, by omega, by omega, by go_num, _, rfl⟩
        case measure => simp [intOf]; omega
      · go_wp2_with fail
        go_ret
        exact ⟨_, rfl, rfl⟩
end Go.Proofs.YtpogjegihhljpaaDoor

namespace Go.Proofs.YtpogjegihhljpaaDoor
set_option maxRecDepth 100000
open Go.RowKit

theorem in_no (w : World) (A : Option Addr) (n c : Nat) (xs : List Int) (x : Int) (h : Ints w w.heap.size A n xs) (hn : n ≤ 1000000000) (hx : x ∉ xs) :
    Calls Tryd.prog 17 #[.slice A n c, .int .i64 x] w fun e w' => e = .returned (.bool false) ∧ Below w.heap.size w w' := by
  have hne : ∀ j, j < n → xs.getD j 0 ≠ x := fun j hj e => hx (by
    have hj' : j < xs.length := by rw [h.1]; exact hj
    rw [← e, List.getD_eq_getElem?_getD, List.getElem?_eq_getElem hj']
    exact List.getElem_mem _)
  have Hne := Lib.hid hne
  clear hne hx
  rcases h.2 with rfl | ⟨b, o, rfl, hlt, hc⟩
  · clear h
    go_enter Tryd.func17, Tryd.ntmps17
    go_wp2_with fail
    go_rounds 1
    go_ret
    exact ⟨rfl, Below.refl _ _⟩
  · have Hc := Lib.hid hc
    clear hc h
    go_enter Tryd.func17, Tryd.ntmps17
    go_wp2_with fail
    go_loop [5] (fun i => ∃ k : Nat, k ≤ n ∧ i = .int .i64 k) (fun i => n - (intOf i).toNat)
    case atStart => exact ⟨0, by omega, rfl⟩
    case round =>
      obtain ⟨k, hk, rfl⟩ := hrel
      by_cases hkn : k < n
      · have hck := Hc.out k hkn
        obtain ⟨y, hy⟩ : ∃ y, xs.getD k 0 = y := ⟨_, rfl⟩
        rw [hy] at hck
        have hyx : (y == x) = false := by rw [← hy]; simpa using Hne.out k hkn
        clear hy
        go_wp2_with fail
        go_round
        case rel => exact ⟨k + 1, by omega, by go_num⟩
        case measure => simp [intOf]; omega
      · obtain rfl : k = n := by omega
        go_wp2_with fail
        go_ret
        exact ⟨rfl, Below.refl _ _⟩
theorem in_b (w : World) (A : Option Addr) (n c : Nat) (xs : List Int) (x : Int) (b : Bool) (h : Ints w w.heap.size A n xs) (hn : n ≤ 1000000000) (hb : decide (x ∈ xs) = b) :
    Calls Tryd.prog 17 #[.slice A n c, .int .i64 x] w fun e w' => e = .returned (.bool b) ∧ Below w.heap.size w w' := by
  cases b
  · exact in_no w A n c xs x h hn (by simpa using hb)
  · refine (in_t w _ A n c xs x h hn (by simpa using hb)).mono ?_
    rintro e w' ⟨rfl, rfl⟩
    exact ⟨rfl, Below.refl _ _⟩
theorem eq_b (w : World) (A A' : Option Addr) (n c c' : Nat) (xs : List Int) (h : Ints w w.heap.size A n xs) (h' : Ints w w.heap.size A' n xs) (hn : n ≤ 1000000) :
    Calls Tryd.prog 16 #[.slice A n c, .slice A' n c'] w fun e w' => e = .returned (.bool true) ∧ Below w.heap.size w w' := by
  refine (eqi_t w _ _ _ _ n _ _ xs h h' (by omega)).mono ?_
  rintro e w' ⟨k, rfl, rfl⟩
  exact ⟨rfl, drew_below (Below.refl _ _) k⟩
theorem vb_b (s : Int) (w : World) (A : Option Addr) (n c : Nat) (cs : List Int) (b : Bool) (h : Ints w w.heap.size A n cs) (hn : n ≤ 49) (hb : Bd.okB s cs = b) :
    Calls Tryd.prog 23 #[.agg #[.int .i64 s, .slice A n c]] w fun e w' => e = .returned (.bool b) ∧ Below w.heap.size w w' := by
  subst hb
  exact i_validBoard s w _ A n c cs h (Nat.le_refl _) (by omega)
theorem eye_b (s p x : Int) (w : World) (A : Option Addr) (n c : Nat) (cs : List Int) (b : Bool) (h : Ints w w.heap.size A n cs) (hn : n ≤ 49) (ht : Tab w) (hb : eyB s cs p x = b) :
    Calls Tryd.prog 31 #[.agg #[.int .i64 s, .slice A n c], .int .i64 p, .int .i64 x] w fun e w' => e = .returned (.bool b) ∧ Below w.heap.size w w' := by
  subst hb
  exact i_IsEye s p x w _ A n c cs h (Nat.le_refl _) (by omega) ht

theorem mem_eyL {s x : Int} {cs : List Int} (hv : Bd.okB s cs = true) (p : Nat) (hp : p < cs.length) : decide ((p : Int) ∈ eyL s cs x) = eyB s cs p x := by
  have hk : Pt.okP s (p : Int) = true := by
    obtain ⟨q1, q2, q3, _⟩ := (Bd.okB_iff s cs).1 hv
    exact (Pt.okP_iff s p).2 ⟨q1, q2, by omega, by omega⟩
  unfold eyL eyOk eyB
  rw [hv, hk, Bool.true_and, Bool.true_and, Bool.true_and]
  rcases e : (decide (1 ≤ x) && decide (x ≤ 2)) with _ | _
  · simp
  · rw [if_pos rfl, Bool.true_and]
    rcases e2 : eyeS s cs (p : Int) x with _ | _
    · rw [decide_eq_false_iff_not, List.mem_map]
      rintro ⟨q, hq, he⟩
      obtain rfl : q = p := by omega
      rw [List.mem_filter] at hq
      rw [e2] at hq
      exact absurd hq.2 (by decide)
    · rw [decide_eq_true_iff, List.mem_map]
      exact ⟨p, List.mem_filter.2 ⟨List.mem_range.2 hp, e2⟩, rfl⟩
theorem not_both {s x : Int} {cs : List Int} {p : Int} (h : p ∈ eyW s cs x) : p ∉ eyL s cs x := by
  intro h2
  unfold eyW at h
  unfold eyL at h2
  split at h
  · rename_i ho
    rw [if_pos ho] at h2
    obtain ⟨q, hq, he⟩ := List.mem_map.1 h
    obtain ⟨q', hq', he'⟩ := List.mem_map.1 h2
    obtain rfl : q = q' := by omega
    have a := (List.mem_filter.1 hq).2
    have b := (List.mem_filter.1 hq').2
    rw [b] at a
    simp at a
  · cases h
end Go.Proofs.YtpogjegihhljpaaDoor

