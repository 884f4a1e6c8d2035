/-
  The draw of the arguments of SimplestBetween.
-/
import Derived.Test.YtocjlhlohlkkmaaDyE
namespace Go.Proofs.Ytocjlhlohlkkmaa
set_option maxRecDepth 100000
open Go.RowKit

set_option maxRecDepth 100000 in
set_option maxHeartbeats 8000000 in
theorem d_si (w : World) (a : Option Addr) (len cap : Nat) (zs : List Int) (h : IsRow .u8 w a len cap zs) :
    Calls Try.prog 27 #[.slice a len cap] w fun e w' => TwoD w e w' := by
  go_enter Try.func27, Try.ntmps27
  go_wp2_with fail
  obtain ⟨y1, hy1, hb1, z1, z2⟩ := new_box w (.cells #[.int .i64 0, .int .i64 0] 26)
  have R1 : Bx 26 y1 w.heap.size 0 (.int .i64 0) := by rw [hy1]; exact Bx.new _ _ _ _
  rw [← hy1]
  clear hy1
  obtain ⟨y2, hy2, hb2, z3, z4⟩ := new_box y1 (.cells #[.int .i64 0, .int .i64 0] 26)
  have R2 : Bx 26 y2 (w.heap.size + 1) 0 (.int .i64 0) := by rw [show w.heap.size + 1 = y1.heap.size by omega, hy2]; exact Bx.new _ _ _ _
  have R1 := R1.below hb2 R1.lt
  rw [← hy2]
  clear hy2
  have hb02 := hb1.trans (hb2.mono (by omega))
  have h2 : IsRow .u8 y2 a len cap zs := (h.belowD hb02)
  clear h hb1 hb2
  refine (r_new y2 a len cap zs h2).mono ?_
  rintro e w1 ⟨g, rfl, hr, hb⟩
  have hgw := hr.1
  have hgl := hr.lt
  have R1 := R1.below hb (by omega)
  have R2 := R2.below hb (by omega)
  have hb01 := hb02.trans (hb.mono (by omega))
  have hzz := hb.size
  clear h2 hb hb02
  have HB := Lib.hid hb01
  have HR1 := Lib.hid R1
  have HR2 := Lib.hid R2
  clear R1 R2 hb01
  go_wp2_with fail
  refine (r_anyDy _ g 0 _ hr (by omega)).mono ?_
  rintro e w2 ⟨x, y, rfl, hr2, hw2⟩
  have HR1 := Lib.hid (HR1.out.grown hw2 (by intro e; have := Option.some.inj e; omega))
  have HR2 := Lib.hid (HR2.out.grown hw2 (by intro e; have := Option.some.inj e; omega))
  have HB := Lib.hid (bgD HB.out (by omega) hw2 (by omega))
  have hz2 := hw2.size
  have Hr := Lib.hid hr2
  clear hw2 hr hr2
  go_wp2_with fail
  obtain ⟨w3, hy3, hb3, z5, z6⟩ := new_box w2 (.cells #[.int .i64 x, .int .i64 y] 26)
  have RA : Bx 26 w3 w2.heap.size x (.int .i64 y) := by rw [hy3]; exact Bx.new _ _ _ _
  rw [← hy3]
  clear hy3
  have HA := Lib.hid RA
  have HR1 := Lib.hid (HR1.out.below hb3 HR1.out.lt)
  have HR2 := Lib.hid (HR2.out.below hb3 HR2.out.lt)
  have HB := Lib.hid (HB.out.trans (hb3.mono (by omega)))
  have Hr := Lib.hid (Hr.out.below hb3 Hr.out.lt)
  clear RA hb3
  refine (r_anyDy _ g (0 + 3) _ Hr.out (by omega)).mono ?_
  rintro e w4 ⟨u, v, rfl, hr9, hg9⟩
  have HA := Lib.hid (HA.out.grown hg9 (by intro e; have := Option.some.inj e; omega))
  have HR1 := Lib.hid (HR1.out.grown hg9 (by intro e; have := Option.some.inj e; omega))
  have HR2 := Lib.hid (HR2.out.grown hg9 (by intro e; have := Option.some.inj e; omega))
  have HB := Lib.hid (bgD HB.out (by omega) hg9 (by omega))
  have hsw4 := hg9.size
  have Hr := Lib.hid hr9
  clear hg9 hr9
  have a0 := HA.out.cell0
  have a1 := HA.out.cell1
  have al := HA.out.lt
  have hrl := Hr.out.lt
  go_wp2_with fail
  clear a0 a1 al
  obtain ⟨w5, hy5, hb5, z7, z8⟩ := new_box w4 (.cells #[.int .i64 u, .int .i64 v] 26)
  have RC : Bx 26 w5 w4.heap.size u (.int .i64 v) := by rw [hy5]; exact Bx.new _ _ _ _
  rw [← hy5]
  clear hy5
  have HC := Lib.hid RC
  have HA := Lib.hid (HA.out.below hb5 HA.out.lt)
  have HR1 := Lib.hid (HR1.out.below hb5 HR1.out.lt)
  have HR2 := Lib.hid (HR2.out.below hb5 HR2.out.lt)
  have HB := Lib.hid (HB.out.trans (hb5.mono (by omega)))
  have Hr := Lib.hid (Hr.out.below hb5 Hr.out.lt)
  clear RC hb5
  have a0 := HA.out.cell0
  have a1 := HA.out.cell1
  have al := HA.out.lt
  have c0 := HC.out.cell0
  have c1 := HC.out.cell1
  have cl := HC.out.lt
  obtain ⟨k, hk⟩ : ∃ k, Dy.cmp x y u v = k := ⟨_, rfl⟩
  have Hk := Lib.hid hk
  clear hk
  refine (s_cmp x y u v _).mono ?_
  rintro e w6 ⟨rfl, hb6⟩
  rw [Hk.out]
  have HA := Lib.hid (HA.out.below hb6 HA.out.lt)
  have HR1 := Lib.hid (HR1.out.below hb6 HR1.out.lt)
  have HR2 := Lib.hid (HR2.out.below hb6 HR2.out.lt)
  have HC := Lib.hid (HC.out.below hb6 HC.out.lt)
  have HB := Lib.hid (HB.out.trans (hb6.mono (by omega)))
  have Hr := Lib.hid (Hr.out.below hb6 Hr.out.lt)
  have hs6 := hb6.size
  clear hb6 a0 a1 al c0 c1 cl
  by_cases hk1 : k = 1
  · have hkb : (k == 1) = true := by simpa using hk1
    clear hk1
    go_wp2_with fail
    refine (r_pick _ g (0 + 3 + 3) 8 _ Hr.out (by omega)).mono ?_
    rintro e w7 ⟨z, rfl, z1', z2', hr9, hg9⟩
    have HA := Lib.hid (HA.out.grown hg9 (by intro e; have := Option.some.inj e; omega))
    have HR1 := Lib.hid (HR1.out.grown hg9 (by intro e; have := Option.some.inj e; omega))
    have HR2 := Lib.hid (HR2.out.grown hg9 (by intro e; have := Option.some.inj e; omega))
    have HC := Lib.hid (HC.out.grown hg9 (by intro e; have := Option.some.inj e; omega))
    have HB := Lib.hid (bgD HB.out (by omega) hg9 (by omega))
    have hsw7 := hg9.size
    have Hr := Lib.hid hr9
    clear hg9 hr9
    clear z2'
    by_cases h0 : 0 < z
    · clear z1'
      have a0 := HA.out.cell0
      have a1 := HA.out.cell1
      have al := HA.out.lt
      have c0 := HC.out.cell0
      have c1 := HC.out.cell1
      have cl := HC.out.lt
      have p0 := HR1.out.cell0
      have p1 := HR1.out.cell1
      have pl := HR1.out.lt
      have r0 := HR2.out.cell0
      have r1 := HR2.out.cell1
      have rl := HR2.out.lt
      have pf0 := HR1.out.frozen 0
      have pf1 := HR1.out.frozen 1
      have rf0 := HR2.out.frozen 0
      have rf1 := HR2.out.frozen 1
      have S1 := Lib.hid (((HR1.out.set0 (u)).set1 (.int .i64 (v))).far (p := ⟨w.heap.size + 1, 0, none⟩) (by simp) (.int .i64 (x)) |>.far (p := ⟨w.heap.size + 1, 1, none⟩) (by simp) (.int .i64 (y)))
      have S2 := Lib.hid ((((HR2.out.far (p := ⟨w.heap.size, 0, none⟩) (by simp) (.int .i64 (u))).far (p := ⟨w.heap.size, 1, none⟩) (by simp) (.int .i64 (v))).set0 (x)).set1 (.int .i64 (y)))
      have s10 := S1.out.cell0
      have s11 := S1.out.cell1
      have s20 := S2.out.cell0
      have s21 := S2.out.cell1
      have SB : Hid (Below w.heap.size w ((((w7.setCell ⟨w.heap.size, 0, none⟩ (.int .i64 (u))).setCell ⟨w.heap.size, 1, none⟩ (.int .i64 (v))).setCell ⟨w.heap.size + 1, 0, none⟩ (.int .i64 (x))).setCell ⟨w.heap.size + 1, 1, none⟩ (.int .i64 (y)))) := Lib.hid ((((HB.out.setCell (p := ⟨w.heap.size, 0, none⟩) (by simp) _).setCell (p := ⟨w.heap.size, 1, none⟩) (by simp) _).setCell (p := ⟨w.heap.size + 1, 0, none⟩) (by simp) _).setCell (p := ⟨w.heap.size + 1, 1, none⟩) (by simp) _)
      go_wp2_with fail
      go_region
      all_goals go_wp2_with fail
      all_goals (refine bodyPost_ret (v := .tuple #[.agg #[.int .i64 (u), .int .i64 (v)], .agg #[.int .i64 (x), .int .i64 (y)]]) (by simp [results, Try.results27, go_sem, s10, s11, s20, s21]) rfl ?_; exact ⟨_, _, _, _, rfl, (by first | exact SB.out | exact ⟨SB.out.os, SB.out.tape, SB.out.output, SB.out.size, SB.out.block⟩)⟩)
    · clear z1'
      have a0 := HA.out.cell0
      have a1 := HA.out.cell1
      have al := HA.out.lt
      have c0 := HC.out.cell0
      have c1 := HC.out.cell1
      have cl := HC.out.lt
      have p0 := HR1.out.cell0
      have p1 := HR1.out.cell1
      have pl := HR1.out.lt
      have r0 := HR2.out.cell0
      have r1 := HR2.out.cell1
      have rl := HR2.out.lt
      have pf0 := HR1.out.frozen 0
      have pf1 := HR1.out.frozen 1
      have rf0 := HR2.out.frozen 0
      have rf1 := HR2.out.frozen 1
      have S1 := Lib.hid (((HR1.out.set0 (x)).set1 (.int .i64 (y))).far (p := ⟨w.heap.size + 1, 0, none⟩) (by simp) (.int .i64 (u)) |>.far (p := ⟨w.heap.size + 1, 1, none⟩) (by simp) (.int .i64 (v)))
      have S2 := Lib.hid ((((HR2.out.far (p := ⟨w.heap.size, 0, none⟩) (by simp) (.int .i64 (x))).far (p := ⟨w.heap.size, 1, none⟩) (by simp) (.int .i64 (y))).set0 (u)).set1 (.int .i64 (v)))
      have s10 := S1.out.cell0
      have s11 := S1.out.cell1
      have s20 := S2.out.cell0
      have s21 := S2.out.cell1
      have SB : Hid (Below w.heap.size w ((((w7.setCell ⟨w.heap.size, 0, none⟩ (.int .i64 (x))).setCell ⟨w.heap.size, 1, none⟩ (.int .i64 (y))).setCell ⟨w.heap.size + 1, 0, none⟩ (.int .i64 (u))).setCell ⟨w.heap.size + 1, 1, none⟩ (.int .i64 (v)))) := Lib.hid ((((HB.out.setCell (p := ⟨w.heap.size, 0, none⟩) (by simp) _).setCell (p := ⟨w.heap.size, 1, none⟩) (by simp) _).setCell (p := ⟨w.heap.size + 1, 0, none⟩) (by simp) _).setCell (p := ⟨w.heap.size + 1, 1, none⟩) (by simp) _)
      go_wp2_with fail
      go_region
      all_goals go_wp2_with fail
      all_goals (refine bodyPost_ret (v := .tuple #[.agg #[.int .i64 (x), .int .i64 (y)], .agg #[.int .i64 (u), .int .i64 (v)]]) (by simp [results, Try.results27, go_sem, s10, s11, s20, s21]) rfl ?_; exact ⟨_, _, _, _, rfl, (by first | exact SB.out | exact ⟨SB.out.os, SB.out.tape, SB.out.output, SB.out.size, SB.out.block⟩)⟩)
  · have hkb : (k == 1) = false := by simpa using hk1
    clear hk1
    have a0 := HA.out.cell0
    have a1 := HA.out.cell1
    have al := HA.out.lt
    have c0 := HC.out.cell0
    have c1 := HC.out.cell1
    have cl := HC.out.lt
    have p0 := HR1.out.cell0
    have p1 := HR1.out.cell1
    have pl := HR1.out.lt
    have r0 := HR2.out.cell0
    have r1 := HR2.out.cell1
    have rl := HR2.out.lt
    have pf0 := HR1.out.frozen 0
    have pf1 := HR1.out.frozen 1
    have rf0 := HR2.out.frozen 0
    have rf1 := HR2.out.frozen 1
    have S1 := Lib.hid (((HR1.out.set0 (x)).set1 (.int .i64 (y))).far (p := ⟨w.heap.size + 1, 0, none⟩) (by simp) (.int .i64 (u)) |>.far (p := ⟨w.heap.size + 1, 1, none⟩) (by simp) (.int .i64 (v)))
    have S2 := Lib.hid ((((HR2.out.far (p := ⟨w.heap.size, 0, none⟩) (by simp) (.int .i64 (x))).far (p := ⟨w.heap.size, 1, none⟩) (by simp) (.int .i64 (y))).set0 (u)).set1 (.int .i64 (v)))
    have s10 := S1.out.cell0
    have s11 := S1.out.cell1
    have s20 := S2.out.cell0
    have s21 := S2.out.cell1
    have SB : Hid (Below w.heap.size w ((((w6.setCell ⟨w.heap.size, 0, none⟩ (.int .i64 (x))).setCell ⟨w.heap.size, 1, none⟩ (.int .i64 (y))).setCell ⟨w.heap.size + 1, 0, none⟩ (.int .i64 (u))).setCell ⟨w.heap.size + 1, 1, none⟩ (.int .i64 (v)))) := Lib.hid ((((HB.out.setCell (p := ⟨w.heap.size, 0, none⟩) (by simp) _).setCell (p := ⟨w.heap.size, 1, none⟩) (by simp) _).setCell (p := ⟨w.heap.size + 1, 0, none⟩) (by simp) _).setCell (p := ⟨w.heap.size + 1, 1, none⟩) (by simp) _)
    go_wp2_with fail
    go_region
    all_goals go_wp2_with fail
    all_goals (refine bodyPost_ret (v := .tuple #[.agg #[.int .i64 (x), .int .i64 (y)], .agg #[.int .i64 (u), .int .i64 (v)]]) (by simp [results, Try.results27, go_sem, s10, s11, s20, s21]) rfl ?_; exact ⟨_, _, _, _, rfl, (by first | exact SB.out | exact ⟨SB.out.os, SB.out.tape, SB.out.output, SB.out.size, SB.out.block⟩)⟩)
end Go.Proofs.Ytocjlhlohlkkmaa
