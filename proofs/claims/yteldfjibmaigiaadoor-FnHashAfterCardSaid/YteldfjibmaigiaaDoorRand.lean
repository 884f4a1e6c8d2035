/-
  The draw of a valid board.
-/
import Derived.Test.YteldfjibmaigiaaDoorPlayed
import Derived.Test.YteldfjibmaigiaaDoorParseS
import Derived.Test.YteldfjibmaigiaaDoorTrS
namespace Go.Proofs.YteldfjibmaigiaaDoor
set_option maxRecDepth 100000
open Go.RowKit

theorem okL_steps {f : Nat → Nat} {cs l : List Int} (hc : OkL cs) (hl : OkL l) (j : Nat) (hj : j ≤ cs.length) : OkL (Bd.steps f cs j l) := by
  induction j with
  | zero => exact hl
  | succ j ih =>
    have h1 := hc j (by omega)
    exact (ih (by omega)).set _ h1.1 h1.2
theorem okL_mv {s k : Int} {cs : List Int} (hc : OkL cs) : OkL (Bd.mv s k cs) := okL_steps hc hc _ (Nat.le_refl _)
theorem okL_oth {cs : List Int} (hc : OkL cs) : OkL (othCs cs) := by
  rw [okL_mem] at hc ⊢
  intro c hm
  unfold othCs at hm
  obtain ⟨x, hx, rfl⟩ := List.mem_map.1 hm
  have := hc x hx
  have h3 : x = 0 ∨ x = 1 ∨ x = 2 := by omega
  rcases h3 with rfl | rfl | rfl <;> decide
theorem okB_oth {s : Int} {cs : List Int} (h : Bd.okB s cs = true) : Bd.okB s (othCs cs) = true := by
  obtain ⟨a, b, c, d⟩ := (Bd.okB_iff s cs).1 h
  exact (Bd.okB_iff s _).2 ⟨a, b, by rw [othCs_len]; exact c, okL_mem.1 (okL_oth (okL_mem.2 d))⟩
theorem okB_mv {s k : Int} {cs : List Int} (h : Bd.okB s cs = true) : Bd.okB s (Bd.mv s k cs) = true := by
  obtain ⟨a, b, c, d⟩ := (Bd.okB_iff s cs).1 h
  exact (Bd.okB_iff s _).2 ⟨a, b, by rw [Bd.mv_len]; exact c, okL_mem.1 (okL_mv (okL_mem.2 d))⟩
theorem okB_new {s : Int} (h1 : 1 ≤ s) (h2 : s ≤ 7) : Bd.okB s (List.replicate (s * s).toNat 0) = true := by
  have := Pt.sq_bd s h1 h2
  exact (Bd.okB_iff s _).2 ⟨h1, h2, by rw [List.length_replicate]; omega, okL_mem.1 (okL_zero _)⟩

/-- The texts of the corners. -/
def Nine (w : World) (g : Nat) : Prop := ∀ j, j < 9 → ∃ S : ByteArray, w.cell? ⟨g, j, none⟩ = some (.string S) ∧ S.size ≤ 100

theorem r_corners (w : World) : Calls Tryd.prog 76 #[] w fun e w' => e = .returned (.slice (some ⟨w.heap.size, 0, none⟩) 9 9) ∧ Nine w' w.heap.size ∧ Below w.heap.size w w' := by
  go_enter Tryd.func76, Tryd.ntmps76
  go_wp2_with fail
  go_ret
  refine ⟨rfl, fun j hj => ?_, (Below.refl _ _).alloc (Nat.le_refl _) _⟩
  rw [World.cell?_alloc_at _ _ _ _ rfl]
  match j, hj with
  | 0, _ => exact ⟨_, rfl, by decide⟩
  | 1, _ => exact ⟨_, rfl, by decide⟩
  | 2, _ => exact ⟨_, rfl, by decide⟩
  | 3, _ => exact ⟨_, rfl, by decide⟩
  | 4, _ => exact ⟨_, rfl, by decide⟩
  | 5, _ => exact ⟨_, rfl, by decide⟩
  | 6, _ => exact ⟨_, rfl, by decide⟩
  | 7, _ => exact ⟨_, rfl, by decide⟩
  | 8, _ => exact ⟨_, rfl, by decide⟩

set_option maxRecDepth 100000 in
set_option maxHeartbeats 8000000 in
theorem r_random (B g q : Nat) (w : World) (h : Rdr w B g q) (hq : q ≤ 10000000000) :
    Calls Tryd.prog 50 #[.pointer (some ⟨g, 0, none⟩)] w fun e w' => DrawnB w B g w.heap.size (q + 200) e w' := by
  have hlt := h.lt
  have hb1 : Below w.heap.size w (w.alloc (.cells #[.int .i64 0, .slice none 0 0] 25)) := (Below.refl _ _).alloc (Nat.le_refl _) _
  have X2 := Lib.hid (Bx.new 25 w 0 (.slice none 0 0))
  have Hr := Lib.hid (h.below hb1 hlt)
  have Hb := Lib.hid hb1
  clear h hb1
  go_enter Tryd.func50, Tryd.ntmps50
  go_wp2_with fail
  refine (r_pick B g q _ _ Hr.out (by omega)).mono ?_
  rintro e y ⟨x0, rfl, k1, k2, hr, hg⟩
  have X2 := Lib.hid (X2.out.grown hg (fun e => by have := Option.some.inj e; omega))
  have Hg := Lib.hid (gtrans (gbelow (some g) Hb.out (Nat.le_refl _)) hg)
  have Hr := Lib.hid hr
  have z2 := X2.out.lt
  clear hr hg Hb
  by_cases h0 : x0 = 0
  · subst h0
    clear k1 k2
    go_wp2_with fail
    refine (r_smallSize B g (q + 1) _ Hr.out (by omega)).mono ?_
    rintro e y2 ⟨s, rfl, ⟨s1, s2⟩, hr, hg⟩
    have X2 := Lib.hid (X2.out.grown hg (fun e => by have := Option.some.inj e; omega))
    have Hg := Lib.hid (gtrans Hg.out hg)
    have Hr := Lib.hid hr
    have z3 := X2.out.lt
    have hsq := Pt.sq_bd s s1 s2
    clear hr hg
    go_wp2_with fail
    refine (s_new s _).mono ?_
    rintro e y3 ⟨A1, n, c1, rfl, ho, hb⟩
    have hs1 : newS s = s := by rw [newS, if_pos ((Pt.okS_iff s).2 ⟨s1, s2⟩)]
    have hc1 : newCs s = List.replicate (s * s).toNat 0 := by rw [newCs, if_pos ((Pt.okS_iff s).2 ⟨s1, s2⟩)]
    rw [hc1] at ho
    rw [hs1]
    have hn : (s * s).toNat = n := by have := ho.1; simpa using this
    rw [hn] at ho
    have Hn : Hid (((n : Nat) : Int) = s * s) := Lib.hid (by omega)
    have hn49 : n ≤ 49 := by omega
    have zz := hb.size
    have X2 := Lib.hid (X2.out.below hb X2.out.lt)
    have Ho := Lib.hid ho
    have Hr := Lib.hid (Hr.out.below hb Hr.out.lt)
    have Hg := Lib.hid (gtrans Hg.out (gbelow (some g) hb (Nat.le_refl _)))
    clear hb hs1 hc1 ho hn
    go_upto_region 4 with (fail)
    obtain ⟨y4, hy4, hb4, z4, z5⟩ := new_box y3 (.cells #[.int .i64 s, .slice A1 n c1] 25)
    have X3 : Hid (Bx 25 y4 y3.heap.size s (.slice A1 n c1)) := Lib.hid (by rw [hy4]; exact Bx.new _ _ _ _)
    rw [← hy4]
    clear hy4
    have X2 := Lib.hid (X2.out.below hb4 X2.out.lt)
    have Hr := Lib.hid (Hr.out.below hb4 Hr.out.lt)
    have Hra := Lib.hid (fun g' (hA : A1 = some ⟨g', 0, none⟩) => (Ho.out.ge hA).2)
    have Ho := Lib.hid (Ho.out.below hb4)
    have Hg := Lib.hid (gtrans Hg.out (gbelow (some g) hb4 (Nat.le_refl _)))
    clear hb4
    go_wp2_with fail
    go_loopw [4] (fun v wr => ∃ (p q1 : Nat) (cs : List Int), p ≤ n ∧ v = .int .i64 (p : Nat) ∧ q1 = q + 2 + p ∧ Own wr y2.heap.size A1 n c1 cs ∧ OkL cs ∧ Bx 25 wr w.heap.size 0 (.slice none 0 0) ∧ Bx 25 wr y3.heap.size s (.slice A1 n c1) ∧ Rdr wr B g q1 ∧ w.grownBy wr (some g)) (fun v _ => n - (intOf v).toNat)
    case atStart => exact ⟨0, q + 2, _, by omega, rfl, rfl, Ho.out, okL_zero n, X2.out, X3.out, Hr.out, Hg.out⟩
    case round =>
      clear X2 X3 Ho Hr Hg
      obtain ⟨p, q1, cs, hp, rfl, hq1, ho, hok, hx2, hx3, hr, hg⟩ := hrel
      have X2 := Lib.hid hx2
      have X3 := Lib.hid hx3
      have Ho := Lib.hid ho
      have Hok := Lib.hid hok
      have Hr := Lib.hid hr
      have Hg := Lib.hid hg
      have hq2 : q1 ≤ q + 60 := by omega
      have Hq1 := Lib.hid hq1
      clear ho hok hx2 hx3 hr hg hq1
      have t0 := X3.out.cell0
      have t1 := X3.out.cell1
      have t2 := X3.out.lt
      by_cases hpn : p < n
      · obtain ⟨ga, hA1⟩ : ∃ ga, A1 = some ⟨ga, 0, none⟩ := by
          obtain ⟨ga, cap, hv, _⟩ := World.ownsRow.form Ho.out.2 (by omega)
          exact ⟨ga, by injection hv⟩
        subst hA1
        have hga1 := (Ho.out.ge rfl).1
        have hga2 := Hra.out ga rfl
        have hpi : (p : Int) < n := by omega
        go_wp2_with fail
        go_region_with (go_at_call 28; refine (r_pick B g q1 _ _ (by exact Hr.out) (by omega)).mono ?_; rintro e yp ⟨x, rfl, x1, x2, hr, hg⟩; have hgw : wr.grownBy yp (some g) := ⟨hg.os, hg.tape, hg.output, hg.size, hg.block⟩; have zp := hgw.size; have HX3 := Lib.hid (X3.out.grown hgw (fun e => by have := Option.some.inj e; omega)); have HX2 := Lib.hid (X2.out.grown hgw (fun e => by have := Option.some.inj e; omega)); have u0 := HX3.out.cell0; have u1 := HX3.out.cell1; have u2 := HX3.out.lt; have HO := Lib.hid (Ho.out.kept hgw (fun g' hA e => by have := (Ho.out.ge hA).1; have := Option.some.inj e; omega)); have u3 := World.ownsRow.cellAt HO.out.2 p (by omega); rw [List.getElem?_eq_getElem (by rw [List.length_map, HO.out.1]; exact hpn)] at u3; have u4 := World.ownsRow.frozenAt HO.out.2 p; have HR := Lib.hid hr; have HG := Lib.hid (gtrans Hg.out hgw); clear hr hg hgw)
        all_goals go_wp2_with fail
        all_goals go_roundw
        all_goals try (simp [intOf]; omega)
        all_goals
          have hr3 := HR.out.far ⟨ga, p, none⟩ (by show g ≠ ga; omega) (by have := HR.out.1; show B ≤ ga; omega) (.int .i64 x)
          have hg3 := gset HG.out ⟨ga, p, none⟩ (by show w.heap.size ≤ ga; omega) (.int .i64 x)
          exact ⟨p + 1, q1 + 1, _, by omega, by go_num, by have := Hq1.out; omega, (HO.out.stored p x).1, Hok.out.set p x1 (by omega), HX2.out.far (p := ⟨ga, p, none⟩) (by show w.heap.size ≠ ga; omega) _, HX3.out.far (p := ⟨ga, p, none⟩) (by show y3.heap.size ≠ ga; omega) _, hr3, hg3⟩
      · obtain rfl : p = n := by omega
        have Hv := Lib.hid (okB_mk s1 s2 (by rw [Ho.out.1]; exact Hn.out) Hok.out)
        have K0 := Lib.hid ((X2.out.set0 s).cell0)
        have K1 := Lib.hid (((X2.out.set0 s).set1 (.slice A1 p c1)).cell1)
        have r0 := X2.out.cell0
        have r1 := X2.out.cell1
        have r2 := X2.out.frozen 0
        have r3 := X2.out.frozen 1
        have r4 := X2.out.lt
        have hBg := Hr.out.1
        have Hr3 := Lib.hid ((Hr.out.far ⟨w.heap.size, 0, none⟩ (by show g ≠ w.heap.size; omega) (by show B ≤ w.heap.size; omega) (.int .i64 s)).far ⟨w.heap.size, 1, none⟩ (by show g ≠ w.heap.size; omega) (by show B ≤ w.heap.size; omega) (.slice A1 p c1))
        have Hg3 := Lib.hid (gset (gset Hg.out ⟨w.heap.size, 0, none⟩ (Nat.le_refl _) (.int .i64 s)) ⟨w.heap.size, 1, none⟩ (Nat.le_refl _) (.slice A1 p c1))
        have Ho3 := Lib.hid ((Ho.out.far ⟨w.heap.size, 0, none⟩ (fun g' hA => by have := (Ho.out.ge hA).1; show g' ≠ w.heap.size; omega) (.int .i64 s)).far ⟨w.heap.size, 1, none⟩ (fun g' hA => by have := (Ho.out.ge hA).1; show g' ≠ w.heap.size; omega) (.slice A1 p c1))
        go_wp2_with fail
        have k0 := K0.out
        have k1 := K1.out
        refine bodyPost_ret (v := .agg #[.int .i64 s, .slice A1 p c1]) (by simp [results, Tryd.results50, go_sem, k0, k1]) rfl ?_
        exact ⟨_, _, _, _, _, _, rfl, Ho3.out.weaken (by omega), Hv.out, Hr3.out, by omega, Hg3.out⟩
  · have e0 : (x0 == 0) = false := by simpa using h0
    by_cases h1 : x0 = 1
    · subst h1
      clear k1 k2 h0 e0
      go_wp2_with fail
      refine (r_corners _).mono ?_
      rintro e y2 ⟨rfl, hN, hb⟩
      have X2 := Lib.hid (X2.out.below hb X2.out.lt)
      have Hg := Lib.hid (gtrans Hg.out (gbelow (some g) hb (Nat.le_refl _)))
      have Hrl := Hr.out.lt
      have Hr := Lib.hid (Hr.out.below hb Hr.out.lt)
      have HN := Lib.hid hN
      have z3 := hb.size
      clear hN hb
      have zy : y.heap.size < y2.heap.size := by
        obtain ⟨S, h1, _⟩ := HN.out 0 (by omega)
        exact World.block_lt_of_cell? _ _ h1
      go_wp2_with fail
      refine (r_pick B g (q + 1) _ _ Hr.out (by omega)).mono ?_
      rintro e y3 ⟨j, rfl, j1, j2, hr, hg⟩
      obtain ⟨j, rfl⟩ := Int.eq_ofNat_of_zero_le j1
      have hj9 : j < 9 := by omega
      obtain ⟨S, hS1, hS2⟩ := HN.out j hj9
      have hc := (World.cell?_of_block (w' := y3) (w := y2) (a := ⟨y.heap.size, j, none⟩) (hg.block y.heap.size zy (by intro e; have := Option.some.inj e; omega))).trans hS1
      have X2 := Lib.hid (X2.out.grown hg (fun e => by have := Option.some.inj e; omega))
      have Hg := Lib.hid (gtrans Hg.out hg)
      have Hr := Lib.hid hr
      have z4 := hg.size
      have hj9' : (j : Int) < 9 := by omega
      clear hr hg hS1 HN j2
      go_wp2_with fail
      refine (s_ParseBoard S _ (by omega)).mono ?_
      rintro e y4 ⟨s', A, n, c, cs, ok, rfl, hwhat, hb⟩
      have X2 := Lib.hid (X2.out.below hb X2.out.lt)
      have Hg := Lib.hid (gtrans Hg.out (gbelow (some g) hb (Nat.le_refl _)))
      have Hr := Lib.hid (Hr.out.below hb Hr.out.lt)
      have Hwhat := Lib.hid hwhat
      have z5 := hb.size
      clear hwhat hb hc
      go_upto_region 13 with (fail)
      obtain ⟨y5, hy5, hb5, z6, z7⟩ := new_box y4 (.cells #[.int .i64 s', .slice A n c] 25)
      have X6 : Hid (Bx 25 y5 y4.heap.size s' (.slice A n c)) := Lib.hid (by rw [hy5]; exact Bx.new _ _ _ _)
      rw [← hy5]
      clear hy5
      have X2 := Lib.hid (X2.out.below hb5 X2.out.lt)
      have Hr := Lib.hid (Hr.out.below hb5 Hr.out.lt)
      have Hg := Lib.hid (gtrans Hg.out (gbelow (some g) hb5 (Nat.le_refl _)))
      cases ok with
      | false =>
        clear hb5 Hwhat
        go_wp2_with fail
        refine (s_new 3 _).mono ?_
        rintro e y6 ⟨A6, n6, c6, rfl, ho, hb⟩
        have hs1 : newS 3 = 3 := rfl
        have hc1 : newCs 3 = List.replicate (3 * 3 : Int).toNat 0 := rfl
        rw [hc1] at ho
        rw [hs1]
        have X2 := Lib.hid (X2.out.below hb X2.out.lt)
        have Hg := Lib.hid (gtrans Hg.out (gbelow (some g) hb (Nat.le_refl _)))
        have Hr := Lib.hid (Hr.out.below hb Hr.out.lt)
        have Ho := Lib.hid ho
        clear ho hb hs1 hc1
        have K0 := Lib.hid ((X2.out.set0 3).cell0)
        have K1 := Lib.hid (((X2.out.set0 3).set1 (.slice A6 n6 c6)).cell1)
        have r0 := X2.out.cell0
        have r1 := X2.out.cell1
        have r2 := X2.out.frozen 0
        have r3 := X2.out.frozen 1
        have r4 := X2.out.lt
        have hBg := Hr.out.1
        have Hr3 := Lib.hid ((Hr.out.far ⟨w.heap.size, 0, none⟩ (by show g ≠ w.heap.size; omega) (by show B ≤ w.heap.size; omega) (.int .i64 3)).far ⟨w.heap.size, 1, none⟩ (by show g ≠ w.heap.size; omega) (by show B ≤ w.heap.size; omega) (.slice A6 n6 c6))
        have Hg3 := Lib.hid (gset (gset Hg.out ⟨w.heap.size, 0, none⟩ (Nat.le_refl _) (.int .i64 3)) ⟨w.heap.size, 1, none⟩ (Nat.le_refl _) (.slice A6 n6 c6))
        have Ho3 := Lib.hid ((Ho.out.far ⟨w.heap.size, 0, none⟩ (fun g' hA => by have := (Ho.out.ge hA).1; show g' ≠ w.heap.size; omega) (.int .i64 3)).far ⟨w.heap.size, 1, none⟩ (fun g' hA => by have := (Ho.out.ge hA).1; show g' ≠ w.heap.size; omega) (.slice A6 n6 c6))
        go_wp2_with fail
        have k0 := K0.out
        have k1 := K1.out
        refine bodyPost_ret (v := .agg #[.int .i64 3, .slice A6 n6 c6]) (by simp [results, Tryd.results50, go_sem, k0, k1]) rfl ?_
        exact ⟨_, _, _, _, _, _, rfl, Ho3.out.weaken (by omega), okB_new (by omega) (by omega), Hr3.out, by omega, Hg3.out⟩
      | true =>
        obtain ⟨ho, hv, _⟩ := Hwhat.out rfl
        have Ho := Lib.hid (ho.below hb5)
        have Hv := Lib.hid hv
        have Hra := Lib.hid (fun g' (hA : A = some ⟨g', 0, none⟩) => (ho.ge hA).2)
        clear Hwhat ho hv hb5
        go_wp2_with fail
        refine (r_pick B g (q + 2) _ _ Hr.out (by omega)).mono ?_
        rintro e y7 ⟨f, rfl, f1, f2, hr, hg⟩
        have X2 := Lib.hid (X2.out.grown hg (fun e => by have := Option.some.inj e; omega))
        have X6 := Lib.hid (X6.out.grown hg (fun e => by have := Option.some.inj e; omega))
        have Ho := Lib.hid (Ho.out.kept hg (fun g' hA e => by have := (Ho.out.ge hA).1; have := Option.some.inj e; omega))
        have Hg := Lib.hid (gtrans Hg.out hg)
        have Hr := Lib.hid hr
        have z8 := hg.size
        clear hr hg f2
        by_cases hf : f = 0
        · have hbf : (f == 0) = true := by simpa using hf
          clear hf
          have t0 := X6.out.cell0
          have t1 := X6.out.cell1
          have t2 := X6.out.lt
          go_wp2_with fail
          refine (s_invertBoard s' _ _ _ n c cs Ho.out.ints (Nat.le_refl _) (by have := Ho.out.1; obtain ⟨a1, a2, a3, _⟩ := (Bd.okB_iff s' cs).1 Hv.out; have := Pt.sq_bd s' a1 a2; omega) ((Bd.okB_iff s' cs).1 Hv.out).2.2.2).mono ?_
          rintro e y8 ⟨A8, n8, c8, rfl, ho8, hb⟩
          have X2 := Lib.hid (X2.out.below hb X2.out.lt)
          have X6 := Lib.hid (X6.out.below hb X6.out.lt)
          have Hg := Lib.hid (gtrans Hg.out (gbelow (some g) hb (Nat.le_refl _)))
          have Hr := Lib.hid (Hr.out.below hb Hr.out.lt)
          have Ho8 := Lib.hid ho8
          have Hv8 := Lib.hid (okB_oth Hv.out)
          have z9 := hb.size
          clear ho8 hb t0 t1 t2
          have t0 := X6.out.cell0
          have t1 := X6.out.cell1
          have t2 := X6.out.lt
          have t3 := X6.out.frozen 0
          have t4 := X6.out.frozen 1
          go_upto_region 17 with (fail)
          obtain ⟨y9, hy9⟩ : ∃ y9, y9 = (y8.setCell ⟨y4.heap.size, 0, none⟩ (.int .i64 s')).setCell ⟨y4.heap.size, 1, none⟩ (.slice A8 n8 c8) := ⟨_, rfl⟩
          have es : y9.heap.size = y8.heap.size := by rw [hy9]; simp [World.setCell]
          have hBg := Hr.out.1
          have hgl := Hr.out.lt
          have X2 : Hid (Bx 25 y9 w.heap.size 0 (.slice none 0 0)) := Lib.hid (by rw [hy9]; exact (X2.out.far (p := ⟨y4.heap.size, 0, none⟩) (by show w.heap.size ≠ y4.heap.size; omega) (.int .i64 s')).far (p := ⟨y4.heap.size, 1, none⟩) (by show w.heap.size ≠ y4.heap.size; omega) (.slice A8 n8 c8))
          have X6 : Hid (Bx 25 y9 y4.heap.size s' (.slice A8 n8 c8)) := Lib.hid (by rw [hy9]; exact (X6.out.set0 s').set1 (.slice A8 n8 c8))
          have Ho8 : Hid (Own y9 y7.heap.size A8 n8 c8 (othCs cs)) := Lib.hid (by rw [hy9]; exact (Ho8.out.far ⟨y4.heap.size, 0, none⟩ (fun g' hA => by have := (Ho8.out.ge hA).1; show g' ≠ y4.heap.size; omega) (.int .i64 s')).far ⟨y4.heap.size, 1, none⟩ (fun g' hA => by have := (Ho8.out.ge hA).1; show g' ≠ y4.heap.size; omega) (.slice A8 n8 c8))
          have Hr : Hid (Rdr y9 B g (q + 2 + 1)) := Lib.hid (by rw [hy9]; exact (Hr.out.far ⟨y4.heap.size, 0, none⟩ (by show g ≠ y4.heap.size; omega) (by show B ≤ y4.heap.size; omega) (.int .i64 s')).far ⟨y4.heap.size, 1, none⟩ (by show g ≠ y4.heap.size; omega) (by show B ≤ y4.heap.size; omega) (.slice A8 n8 c8))
          have Hg : Hid (w.grownBy y9 (some g)) := Lib.hid (by rw [hy9]; exact gset (gset Hg.out ⟨y4.heap.size, 0, none⟩ (by show w.heap.size ≤ y4.heap.size; omega) (.int .i64 s')) ⟨y4.heap.size, 1, none⟩ (by show w.heap.size ≤ y4.heap.size; omega) (.slice A8 n8 c8))
          rw [← hy9]
          clear hy9 t0 t1 t2 t3 t4
          obtain ⟨v1, v2, v3, v4⟩ := (Bd.okB_iff s' (othCs cs)).1 Hv8.out
          have hlcs := Ho8.out.1
          have Hns : Hid (((n8 : Nat) : Int) = s' * s') := Lib.hid (by rw [← v3, hlcs])
          clear v3 v4 hlcs
          have t0 := X6.out.cell0
          have t1 := X6.out.cell1
          have t2 := X6.out.lt
          go_upto_region 17 with (fail)
          go_region_with (first | (go_at_call 28; refine (r_pick B g (q + 2 + 1) _ _ (by exact Hr.out) (by omega)).mono ?_; rintro e yp ⟨kk, rfl, kk1, kk2, hr, hg⟩; have hgw : y9.grownBy yp (some g) := ⟨hg.os, hg.tape, hg.output, hg.size, hg.block⟩; have zp := hgw.size; have HX6 := Lib.hid (X6.out.grown hgw (fun e => by have := Option.some.inj e; omega)); have HX2 := Lib.hid (X2.out.grown hgw (fun e => by have := Option.some.inj e; omega)); have u0 := HX6.out.cell0; have u1 := HX6.out.cell1; have u2 := HX6.out.lt; have HO := Lib.hid (Ho8.out.kept hgw (fun g' hA e => by have := (Ho8.out.ge hA).1; have := Option.some.inj e; omega)); have HR := Lib.hid hr; have HG := Lib.hid (gtrans Hg.out hgw); have kk3 : kk < 8 := (by omega); clear hr hg hgw kk2) | (go_at_call 79; refine (s_transformBoard s' kk _ yp.heap.size _ _ _ (othCs cs) (by exact HO.out.ints) ?_ v1 v2 Hns.out kk1 kk3).mono ?_; (show yp.heap.size ≤ yp.heap.size; omega); rintro e yt ⟨A3, n3, c3, rfl, ho, hb⟩; have hbw : Below yp.heap.size yp yt := ⟨hb.os, hb.tape, hb.output, hb.size, hb.block⟩; have HX2t := Lib.hid (HX2.out.below hbw HX2.out.lt); have u3 := (HX6.out.below hbw HX6.out.lt).cell0; have u4 := (HX6.out.below hbw HX6.out.lt).cell1; have r0 := HX2t.out.cell0; have r1 := HX2t.out.cell1; have r2 := HX2t.out.frozen 0; have r3 := HX2t.out.frozen 1; have r4 := HX2t.out.lt; have HO3 : Hid (Own yt yp.heap.size A3 n3 c3 (Bd.mv s' kk (othCs cs))) := Lib.hid ho; have HRt := Lib.hid (HR.out.below hbw HR.out.lt); have HGt := Lib.hid (gtrans HG.out (gbelow (some g) hbw (Nat.le_refl _))); clear ho hb hbw))
          all_goals go_wp2_with fail
          all_goals
            have k0 := (HX2t.out.set0 s').cell0
            have k1 := ((HX2t.out.set0 s').set1 (.slice A3 n3 c3)).cell1
            refine bodyPost_ret (v := .agg #[.int .i64 s', .slice A3 n3 c3]) (by simp [results, Tryd.results50, go_sem, k0, k1]) rfl ?_
            have hBg := HRt.out.1
            have hr3 := (HRt.out.far ⟨w.heap.size, 0, none⟩ (by show g ≠ w.heap.size; omega) (by show B ≤ w.heap.size; omega) (.int .i64 s')).far ⟨w.heap.size, 1, none⟩ (by show g ≠ w.heap.size; omega) (by show B ≤ w.heap.size; omega) (.slice A3 n3 c3)
            have hg3 := gset (gset HGt.out ⟨w.heap.size, 0, none⟩ (Nat.le_refl _) (.int .i64 s')) ⟨w.heap.size, 1, none⟩ (Nat.le_refl _) (.slice A3 n3 c3)
            have ho3 := (HO3.out.far ⟨w.heap.size, 0, none⟩ (fun g' hA => by have := (HO3.out.ge hA).1; show g' ≠ w.heap.size; omega) (.int .i64 s')).far ⟨w.heap.size, 1, none⟩ (fun g' hA => by have := (HO3.out.ge hA).1; show g' ≠ w.heap.size; omega) (.slice A3 n3 c3)
            exact ⟨_, _, _, _, _, _, rfl, ho3.weaken (by omega), okB_mv Hv8.out, hr3, by omega, hg3⟩
        · have hbf : (f == 0) = false := by simpa using hf
          clear hf
          obtain ⟨v1, v2, v3, v4⟩ := (Bd.okB_iff s' cs).1 Hv.out
          have hlcs := Ho.out.1
          have Hns : Hid (((n : Nat) : Int) = s' * s') := Lib.hid (by rw [← v3, hlcs])
          clear v3 v4 hlcs
          have t0 := X6.out.cell0
          have t1 := X6.out.cell1
          have t2 := X6.out.lt
          go_upto_region 17 with (fail)
          go_region_with (first | (go_at_call 28; refine (r_pick B g (q + 2 + 1) _ _ (by exact Hr.out) (by omega)).mono ?_; rintro e yp ⟨kk, rfl, kk1, kk2, hr, hg⟩; have hgw : y7.grownBy yp (some g) := ⟨hg.os, hg.tape, hg.output, hg.size, hg.block⟩; have zp := hgw.size; have HX6 := Lib.hid (X6.out.grown hgw (fun e => by have := Option.some.inj e; omega)); have HX2 := Lib.hid (X2.out.grown hgw (fun e => by have := Option.some.inj e; omega)); have u0 := HX6.out.cell0; have u1 := HX6.out.cell1; have u2 := HX6.out.lt; have HO := Lib.hid (Ho.out.kept hgw (fun g' hA e => by have := (Ho.out.ge hA).1; have := Option.some.inj e; omega)); have HR := Lib.hid hr; have HG := Lib.hid (gtrans Hg.out hgw); have kk3 : kk < 8 := (by omega); clear hr hg hgw kk2) | (go_at_call 79; refine (s_transformBoard s' kk _ yp.heap.size _ _ _ cs (by exact HO.out.ints) ?_ v1 v2 Hns.out kk1 kk3).mono ?_; (show yp.heap.size ≤ yp.heap.size; omega); rintro e yt ⟨A3, n3, c3, rfl, ho, hb⟩; have hbw : Below yp.heap.size yp yt := ⟨hb.os, hb.tape, hb.output, hb.size, hb.block⟩; have HX2t := Lib.hid (HX2.out.below hbw HX2.out.lt); have u3 := (HX6.out.below hbw HX6.out.lt).cell0; have u4 := (HX6.out.below hbw HX6.out.lt).cell1; have r0 := HX2t.out.cell0; have r1 := HX2t.out.cell1; have r2 := HX2t.out.frozen 0; have r3 := HX2t.out.frozen 1; have r4 := HX2t.out.lt; have HO3 : Hid (Own yt yp.heap.size A3 n3 c3 (Bd.mv s' kk cs)) := Lib.hid ho; have HRt := Lib.hid (HR.out.below hbw HR.out.lt); have HGt := Lib.hid (gtrans HG.out (gbelow (some g) hbw (Nat.le_refl _))); clear ho hb hbw))
          all_goals go_wp2_with fail
          all_goals
            have k0 := (HX2t.out.set0 s').cell0
            have k1 := ((HX2t.out.set0 s').set1 (.slice A3 n3 c3)).cell1
            refine bodyPost_ret (v := .agg #[.int .i64 s', .slice A3 n3 c3]) (by simp [results, Tryd.results50, go_sem, k0, k1]) rfl ?_
            have hBg := HRt.out.1
            have hr3 := (HRt.out.far ⟨w.heap.size, 0, none⟩ (by show g ≠ w.heap.size; omega) (by show B ≤ w.heap.size; omega) (.int .i64 s')).far ⟨w.heap.size, 1, none⟩ (by show g ≠ w.heap.size; omega) (by show B ≤ w.heap.size; omega) (.slice A3 n3 c3)
            have hg3 := gset (gset HGt.out ⟨w.heap.size, 0, none⟩ (Nat.le_refl _) (.int .i64 s')) ⟨w.heap.size, 1, none⟩ (Nat.le_refl _) (.slice A3 n3 c3)
            have ho3 := (HO3.out.far ⟨w.heap.size, 0, none⟩ (fun g' hA => by have := (HO3.out.ge hA).1; show g' ≠ w.heap.size; omega) (.int .i64 s')).far ⟨w.heap.size, 1, none⟩ (fun g' hA => by have := (HO3.out.ge hA).1; show g' ≠ w.heap.size; omega) (.slice A3 n3 c3)
            exact ⟨_, _, _, _, _, _, rfl, ho3.weaken (by omega), okB_mv Hv.out, hr3, by omega, hg3⟩
    · have e1 : (x0 == 1) = false := by simpa using h1
      by_cases h2 : x0 = 2
      · subst h2
        clear k1 k2 h0 h1 e0 e1
        go_wp2_with fail
        refine (r_corners _).mono ?_
        rintro e y2 ⟨rfl, hN, hb⟩
        have X2 := Lib.hid (X2.out.below hb X2.out.lt)
        have Hg := Lib.hid (gtrans Hg.out (gbelow (some g) hb (Nat.le_refl _)))
        have Hrl := Hr.out.lt
        have Hr := Lib.hid (Hr.out.below hb Hr.out.lt)
        have HN := Lib.hid hN
        have z3 := hb.size
        clear hN hb
        have zy : y.heap.size < y2.heap.size := by
          obtain ⟨S, h1, _⟩ := HN.out 0 (by omega)
          exact World.block_lt_of_cell? _ _ h1
        go_wp2_with fail
        refine (r_pick B g (q + 1) _ _ Hr.out (by omega)).mono ?_
        rintro e y3 ⟨j, rfl, j1, j2, hr, hg⟩
        obtain ⟨j, rfl⟩ := Int.eq_ofNat_of_zero_le j1
        have hj9 : j < 9 := by omega
        obtain ⟨S, hS1, hS2⟩ := HN.out j hj9
        have hc := (World.cell?_of_block (w' := y3) (w := y2) (a := ⟨y.heap.size, j, none⟩) (hg.block y.heap.size zy (by intro e; have := Option.some.inj e; omega))).trans hS1
        have X2 := Lib.hid (X2.out.grown hg (fun e => by have := Option.some.inj e; omega))
        have Hg := Lib.hid (gtrans Hg.out hg)
        have Hr := Lib.hid hr
        have z4 := hg.size
        have hj9' : (j : Int) < 9 := by omega
        clear hr hg hS1 HN j2
        go_wp2_with fail
        refine (s_ParseBoard S _ (by omega)).mono ?_
        rintro e y4 ⟨s', A, n, c, cs, ok, rfl, hwhat, hb⟩
        have X2 := Lib.hid (X2.out.below hb X2.out.lt)
        have Hg := Lib.hid (gtrans Hg.out (gbelow (some g) hb (Nat.le_refl _)))
        have Hr := Lib.hid (Hr.out.below hb Hr.out.lt)
        have Hwhat := Lib.hid hwhat
        have z5 := hb.size
        clear hwhat hb hc
        go_upto_region 13 with (fail)
        obtain ⟨y5, hy5, hb5, z6, z7⟩ := new_box y4 (.cells #[.int .i64 s', .slice A n c] 25)
        have X6 : Hid (Bx 25 y5 y4.heap.size s' (.slice A n c)) := Lib.hid (by rw [hy5]; exact Bx.new _ _ _ _)
        rw [← hy5]
        clear hy5
        have X2 := Lib.hid (X2.out.below hb5 X2.out.lt)
        have Hr := Lib.hid (Hr.out.below hb5 Hr.out.lt)
        have Hg := Lib.hid (gtrans Hg.out (gbelow (some g) hb5 (Nat.le_refl _)))
        cases ok with
        | false =>
          clear hb5 Hwhat
          go_wp2_with fail
          refine (s_new 3 _).mono ?_
          rintro e y6 ⟨A6, n6, c6, rfl, ho, hb⟩
          have hs1 : newS 3 = 3 := rfl
          have hc1 : newCs 3 = List.replicate (3 * 3 : Int).toNat 0 := rfl
          rw [hc1] at ho
          rw [hs1]
          have X2 := Lib.hid (X2.out.below hb X2.out.lt)
          have Hg := Lib.hid (gtrans Hg.out (gbelow (some g) hb (Nat.le_refl _)))
          have Hr := Lib.hid (Hr.out.below hb Hr.out.lt)
          have Ho := Lib.hid ho
          clear ho hb hs1 hc1
          have K0 := Lib.hid ((X2.out.set0 3).cell0)
          have K1 := Lib.hid (((X2.out.set0 3).set1 (.slice A6 n6 c6)).cell1)
          have r0 := X2.out.cell0
          have r1 := X2.out.cell1
          have r2 := X2.out.frozen 0
          have r3 := X2.out.frozen 1
          have r4 := X2.out.lt
          have hBg := Hr.out.1
          have Hr3 := Lib.hid ((Hr.out.far ⟨w.heap.size, 0, none⟩ (by show g ≠ w.heap.size; omega) (by show B ≤ w.heap.size; omega) (.int .i64 3)).far ⟨w.heap.size, 1, none⟩ (by show g ≠ w.heap.size; omega) (by show B ≤ w.heap.size; omega) (.slice A6 n6 c6))
          have Hg3 := Lib.hid (gset (gset Hg.out ⟨w.heap.size, 0, none⟩ (Nat.le_refl _) (.int .i64 3)) ⟨w.heap.size, 1, none⟩ (Nat.le_refl _) (.slice A6 n6 c6))
          have Ho3 := Lib.hid ((Ho.out.far ⟨w.heap.size, 0, none⟩ (fun g' hA => by have := (Ho.out.ge hA).1; show g' ≠ w.heap.size; omega) (.int .i64 3)).far ⟨w.heap.size, 1, none⟩ (fun g' hA => by have := (Ho.out.ge hA).1; show g' ≠ w.heap.size; omega) (.slice A6 n6 c6))
          go_wp2_with fail
          have k0 := K0.out
          have k1 := K1.out
          refine bodyPost_ret (v := .agg #[.int .i64 3, .slice A6 n6 c6]) (by simp [results, Tryd.results50, go_sem, k0, k1]) rfl ?_
          exact ⟨_, _, _, _, _, _, rfl, Ho3.out.weaken (by omega), okB_new (by omega) (by omega), Hr3.out, by omega, Hg3.out⟩
        | true =>
          obtain ⟨ho, hv, _⟩ := Hwhat.out rfl
          have Ho := Lib.hid (ho.below hb5)
          have Hv := Lib.hid hv
          have Hra := Lib.hid (fun g' (hA : A = some ⟨g', 0, none⟩) => (ho.ge hA).2)
          clear Hwhat ho hv hb5
          go_wp2_with fail
          refine (r_pick B g (q + 2) _ _ Hr.out (by omega)).mono ?_
          rintro e y7 ⟨f, rfl, f1, f2, hr, hg⟩
          have X2 := Lib.hid (X2.out.grown hg (fun e => by have := Option.some.inj e; omega))
          have X6 := Lib.hid (X6.out.grown hg (fun e => by have := Option.some.inj e; omega))
          have Ho := Lib.hid (Ho.out.kept hg (fun g' hA e => by have := (Ho.out.ge hA).1; have := Option.some.inj e; omega))
          have Hg := Lib.hid (gtrans Hg.out hg)
          have Hr := Lib.hid hr
          have z8 := hg.size
          clear hr hg f2
          by_cases hf : f = 0
          · have hbf : (f == 0) = true := by simpa using hf
            clear hf
            have t0 := X6.out.cell0
            have t1 := X6.out.cell1
            have t2 := X6.out.lt
            go_wp2_with fail
            refine (s_invertBoard s' _ _ _ n c cs Ho.out.ints (Nat.le_refl _) (by have := Ho.out.1; obtain ⟨a1, a2, a3, _⟩ := (Bd.okB_iff s' cs).1 Hv.out; have := Pt.sq_bd s' a1 a2; omega) ((Bd.okB_iff s' cs).1 Hv.out).2.2.2).mono ?_
            rintro e y8 ⟨A8, n8, c8, rfl, ho8, hb⟩
            have X2 := Lib.hid (X2.out.below hb X2.out.lt)
            have X6 := Lib.hid (X6.out.below hb X6.out.lt)
            have Hg := Lib.hid (gtrans Hg.out (gbelow (some g) hb (Nat.le_refl _)))
            have Hr := Lib.hid (Hr.out.below hb Hr.out.lt)
            have Ho8 := Lib.hid ho8
            have Hv8 := Lib.hid (okB_oth Hv.out)
            have z9 := hb.size
            clear ho8 hb t0 t1 t2
            have t0 := X6.out.cell0
            have t1 := X6.out.cell1
            have t2 := X6.out.lt
            have t3 := X6.out.frozen 0
            have t4 := X6.out.frozen 1
            go_upto_region 17 with (fail)
            obtain ⟨y9, hy9⟩ : ∃ y9, y9 = (y8.setCell ⟨y4.heap.size, 0, none⟩ (.int .i64 s')).setCell ⟨y4.heap.size, 1, none⟩ (.slice A8 n8 c8) := ⟨_, rfl⟩
            have es : y9.heap.size = y8.heap.size := by rw [hy9]; simp [World.setCell]
            have hBg := Hr.out.1
            have hgl := Hr.out.lt
            have X2 : Hid (Bx 25 y9 w.heap.size 0 (.slice none 0 0)) := Lib.hid (by rw [hy9]; exact (X2.out.far (p := ⟨y4.heap.size, 0, none⟩) (by show w.heap.size ≠ y4.heap.size; omega) (.int .i64 s')).far (p := ⟨y4.heap.size, 1, none⟩) (by show w.heap.size ≠ y4.heap.size; omega) (.slice A8 n8 c8))
            have X6 : Hid (Bx 25 y9 y4.heap.size s' (.slice A8 n8 c8)) := Lib.hid (by rw [hy9]; exact (X6.out.set0 s').set1 (.slice A8 n8 c8))
            have Ho8 : Hid (Own y9 y7.heap.size A8 n8 c8 (othCs cs)) := Lib.hid (by rw [hy9]; exact (Ho8.out.far ⟨y4.heap.size, 0, none⟩ (fun g' hA => by have := (Ho8.out.ge hA).1; show g' ≠ y4.heap.size; omega) (.int .i64 s')).far ⟨y4.heap.size, 1, none⟩ (fun g' hA => by have := (Ho8.out.ge hA).1; show g' ≠ y4.heap.size; omega) (.slice A8 n8 c8))
            have Hr : Hid (Rdr y9 B g (q + 2 + 1)) := Lib.hid (by rw [hy9]; exact (Hr.out.far ⟨y4.heap.size, 0, none⟩ (by show g ≠ y4.heap.size; omega) (by show B ≤ y4.heap.size; omega) (.int .i64 s')).far ⟨y4.heap.size, 1, none⟩ (by show g ≠ y4.heap.size; omega) (by show B ≤ y4.heap.size; omega) (.slice A8 n8 c8))
            have Hg : Hid (w.grownBy y9 (some g)) := Lib.hid (by rw [hy9]; exact gset (gset Hg.out ⟨y4.heap.size, 0, none⟩ (by show w.heap.size ≤ y4.heap.size; omega) (.int .i64 s')) ⟨y4.heap.size, 1, none⟩ (by show w.heap.size ≤ y4.heap.size; omega) (.slice A8 n8 c8))
            rw [← hy9]
            clear hy9 t0 t1 t2 t3 t4
            obtain ⟨v1, v2, v3, v4⟩ := (Bd.okB_iff s' (othCs cs)).1 Hv8.out
            have hlcs := Ho8.out.1
            have Hns : Hid (((n8 : Nat) : Int) = s' * s') := Lib.hid (by rw [← v3, hlcs])
            clear v3 v4 hlcs
            have t0 := X6.out.cell0
            have t1 := X6.out.cell1
            have t2 := X6.out.lt
            go_upto_region 17 with (fail)
            go_region_with (first | (go_at_call 28; refine (r_pick B g (q + 2 + 1) _ _ (by exact Hr.out) (by omega)).mono ?_; rintro e yp ⟨kk, rfl, kk1, kk2, hr, hg⟩; have hgw : y9.grownBy yp (some g) := ⟨hg.os, hg.tape, hg.output, hg.size, hg.block⟩; have zp := hgw.size; have HX6 := Lib.hid (X6.out.grown hgw (fun e => by have := Option.some.inj e; omega)); have HX2 := Lib.hid (X2.out.grown hgw (fun e => by have := Option.some.inj e; omega)); have u0 := HX6.out.cell0; have u1 := HX6.out.cell1; have u2 := HX6.out.lt; have HO := Lib.hid (Ho8.out.kept hgw (fun g' hA e => by have := (Ho8.out.ge hA).1; have := Option.some.inj e; omega)); have HR := Lib.hid hr; have HG := Lib.hid (gtrans Hg.out hgw); have kk3 : kk < 8 := (by omega); clear hr hg hgw kk2) | (go_at_call 79; refine (s_transformBoard s' kk _ yp.heap.size _ _ _ (othCs cs) (by exact HO.out.ints) ?_ v1 v2 Hns.out kk1 kk3).mono ?_; (show yp.heap.size ≤ yp.heap.size; omega); rintro e yt ⟨A3, n3, c3, rfl, ho, hb⟩; have hbw : Below yp.heap.size yp yt := ⟨hb.os, hb.tape, hb.output, hb.size, hb.block⟩; have HX2t := Lib.hid (HX2.out.below hbw HX2.out.lt); have u3 := (HX6.out.below hbw HX6.out.lt).cell0; have u4 := (HX6.out.below hbw HX6.out.lt).cell1; have r0 := HX2t.out.cell0; have r1 := HX2t.out.cell1; have r2 := HX2t.out.frozen 0; have r3 := HX2t.out.frozen 1; have r4 := HX2t.out.lt; have HO3 : Hid (Own yt yp.heap.size A3 n3 c3 (Bd.mv s' kk (othCs cs))) := Lib.hid ho; have HRt := Lib.hid (HR.out.below hbw HR.out.lt); have HGt := Lib.hid (gtrans HG.out (gbelow (some g) hbw (Nat.le_refl _))); clear ho hb hbw))
            all_goals go_wp2_with fail
            all_goals
              have k0 := (HX2t.out.set0 s').cell0
              have k1 := ((HX2t.out.set0 s').set1 (.slice A3 n3 c3)).cell1
              refine bodyPost_ret (v := .agg #[.int .i64 s', .slice A3 n3 c3]) (by simp [results, Tryd.results50, go_sem, k0, k1]) rfl ?_
              have hBg := HRt.out.1
              have hr3 := (HRt.out.far ⟨w.heap.size, 0, none⟩ (by show g ≠ w.heap.size; omega) (by show B ≤ w.heap.size; omega) (.int .i64 s')).far ⟨w.heap.size, 1, none⟩ (by show g ≠ w.heap.size; omega) (by show B ≤ w.heap.size; omega) (.slice A3 n3 c3)
              have hg3 := gset (gset HGt.out ⟨w.heap.size, 0, none⟩ (Nat.le_refl _) (.int .i64 s')) ⟨w.heap.size, 1, none⟩ (Nat.le_refl _) (.slice A3 n3 c3)
              have ho3 := (HO3.out.far ⟨w.heap.size, 0, none⟩ (fun g' hA => by have := (HO3.out.ge hA).1; show g' ≠ w.heap.size; omega) (.int .i64 s')).far ⟨w.heap.size, 1, none⟩ (fun g' hA => by have := (HO3.out.ge hA).1; show g' ≠ w.heap.size; omega) (.slice A3 n3 c3)
              exact ⟨_, _, _, _, _, _, rfl, ho3.weaken (by omega), okB_mv Hv8.out, hr3, by omega, hg3⟩
          · have hbf : (f == 0) = false := by simpa using hf
            clear hf
            obtain ⟨v1, v2, v3, v4⟩ := (Bd.okB_iff s' cs).1 Hv.out
            have hlcs := Ho.out.1
            have Hns : Hid (((n : Nat) : Int) = s' * s') := Lib.hid (by rw [← v3, hlcs])
            clear v3 v4 hlcs
            have t0 := X6.out.cell0
            have t1 := X6.out.cell1
            have t2 := X6.out.lt
            go_upto_region 17 with (fail)
            go_region_with (first | (go_at_call 28; refine (r_pick B g (q + 2 + 1) _ _ (by exact Hr.out) (by omega)).mono ?_; rintro e yp ⟨kk, rfl, kk1, kk2, hr, hg⟩; have hgw : y7.grownBy yp (some g) := ⟨hg.os, hg.tape, hg.output, hg.size, hg.block⟩; have zp := hgw.size; have HX6 := Lib.hid (X6.out.grown hgw (fun e => by have := Option.some.inj e; omega)); have HX2 := Lib.hid (X2.out.grown hgw (fun e => by have := Option.some.inj e; omega)); have u0 := HX6.out.cell0; have u1 := HX6.out.cell1; have u2 := HX6.out.lt; have HO := Lib.hid (Ho.out.kept hgw (fun g' hA e => by have := (Ho.out.ge hA).1; have := Option.some.inj e; omega)); have HR := Lib.hid hr; have HG := Lib.hid (gtrans Hg.out hgw); have kk3 : kk < 8 := (by omega); clear hr hg hgw kk2) | (go_at_call 79; refine (s_transformBoard s' kk _ yp.heap.size _ _ _ cs (by exact HO.out.ints) ?_ v1 v2 Hns.out kk1 kk3).mono ?_; (show yp.heap.size ≤ yp.heap.size; omega); rintro e yt ⟨A3, n3, c3, rfl, ho, hb⟩; have hbw : Below yp.heap.size yp yt := ⟨hb.os, hb.tape, hb.output, hb.size, hb.block⟩; have HX2t := Lib.hid (HX2.out.below hbw HX2.out.lt); have u3 := (HX6.out.below hbw HX6.out.lt).cell0; have u4 := (HX6.out.below hbw HX6.out.lt).cell1; have r0 := HX2t.out.cell0; have r1 := HX2t.out.cell1; have r2 := HX2t.out.frozen 0; have r3 := HX2t.out.frozen 1; have r4 := HX2t.out.lt; have HO3 : Hid (Own yt yp.heap.size A3 n3 c3 (Bd.mv s' kk cs)) := Lib.hid ho; have HRt := Lib.hid (HR.out.below hbw HR.out.lt); have HGt := Lib.hid (gtrans HG.out (gbelow (some g) hbw (Nat.le_refl _))); clear ho hb hbw))
            all_goals go_wp2_with fail
            all_goals
              have k0 := (HX2t.out.set0 s').cell0
              have k1 := ((HX2t.out.set0 s').set1 (.slice A3 n3 c3)).cell1
              refine bodyPost_ret (v := .agg #[.int .i64 s', .slice A3 n3 c3]) (by simp [results, Tryd.results50, go_sem, k0, k1]) rfl ?_
              have hBg := HRt.out.1
              have hr3 := (HRt.out.far ⟨w.heap.size, 0, none⟩ (by show g ≠ w.heap.size; omega) (by show B ≤ w.heap.size; omega) (.int .i64 s')).far ⟨w.heap.size, 1, none⟩ (by show g ≠ w.heap.size; omega) (by show B ≤ w.heap.size; omega) (.slice A3 n3 c3)
              have hg3 := gset (gset HGt.out ⟨w.heap.size, 0, none⟩ (Nat.le_refl _) (.int .i64 s')) ⟨w.heap.size, 1, none⟩ (Nat.le_refl _) (.slice A3 n3 c3)
              have ho3 := (HO3.out.far ⟨w.heap.size, 0, none⟩ (fun g' hA => by have := (HO3.out.ge hA).1; show g' ≠ w.heap.size; omega) (.int .i64 s')).far ⟨w.heap.size, 1, none⟩ (fun g' hA => by have := (HO3.out.ge hA).1; show g' ≠ w.heap.size; omega) (.slice A3 n3 c3)
              exact ⟨_, _, _, _, _, _, rfl, ho3.weaken (by omega), okB_mv Hv.out, hr3, by omega, hg3⟩
      · have e2 : (x0 == 2) = false := by simpa using h2
        clear h0 h1 h2
        go_wp2_with fail
        refine (r_smallSize B g (q + 1) _ Hr.out (by omega)).mono ?_
        rintro e y2 ⟨s, rfl, ⟨s1, s2⟩, hr, hg⟩
        have X2 := Lib.hid (X2.out.grown hg (fun e => by have := Option.some.inj e; omega))
        have Hg := Lib.hid (gtrans Hg.out hg)
        have Hr := Lib.hid hr
        have z3 := X2.out.lt
        clear hr hg
        go_wp2_with fail
        refine (r_played s B g (q + 1 + 1) _ Hr.out (by omega) s1 s2).mono ?_
        rintro e y3 ⟨s', A, n, c, cs, q', rfl, ho, hv, hr, hq', hg⟩
        have X2 := Lib.hid (X2.out.grown hg (fun e => by have := Option.some.inj e; omega))
        have Hg := Lib.hid (gtrans Hg.out hg)
        have Hr := Lib.hid hr
        have Ho := Lib.hid ho
        have Hv := Lib.hid hv
        have z4 := X2.out.lt
        clear hr hg ho hv
        have K0 := Lib.hid ((X2.out.set0 s').cell0)
        have K1 := Lib.hid (((X2.out.set0 s').set1 (.slice A n c)).cell1)
        have r0 := X2.out.cell0
        have r1 := X2.out.cell1
        have r2 := X2.out.frozen 0
        have r3 := X2.out.frozen 1
        have r4 := X2.out.lt
        have hBg := Hr.out.1
        have Hr3 := Lib.hid ((Hr.out.far ⟨w.heap.size, 0, none⟩ (by show g ≠ w.heap.size; omega) (by show B ≤ w.heap.size; omega) (.int .i64 s')).far ⟨w.heap.size, 1, none⟩ (by show g ≠ w.heap.size; omega) (by show B ≤ w.heap.size; omega) (.slice A n c))
        have Hg3 := Lib.hid (gset (gset Hg.out ⟨w.heap.size, 0, none⟩ (Nat.le_refl _) (.int .i64 s')) ⟨w.heap.size, 1, none⟩ (Nat.le_refl _) (.slice A n c))
        have Ho3 := Lib.hid ((Ho.out.far ⟨w.heap.size, 0, none⟩ (fun g' hA => by have := (Ho.out.ge hA).1; show g' ≠ w.heap.size; omega) (.int .i64 s')).far ⟨w.heap.size, 1, none⟩ (fun g' hA => by have := (Ho.out.ge hA).1; show g' ≠ w.heap.size; omega) (.slice A n c))
        go_wp2_with fail
        have k0 := K0.out
        have k1 := K1.out
        refine bodyPost_ret (v := .agg #[.int .i64 s', .slice A n c]) (by simp [results, Tryd.results50, go_sem, k0, k1]) rfl ?_
        exact ⟨_, _, _, _, _, _, rfl, Ho3.out.weaken (by omega), Hv.out, Hr3.out, by omega, Hg3.out⟩
end Go.Proofs.YteldfjibmaigiaaDoor
