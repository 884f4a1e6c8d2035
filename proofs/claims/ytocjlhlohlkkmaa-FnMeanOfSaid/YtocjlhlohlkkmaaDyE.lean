/-
  The draws of the dyadic laws: two ints, or two numbers; nothing that was there before is written.
-/
import Derived.Test.YtocjlhlohlkkmaaDyD
namespace Go.Proofs.Ytocjlhlohlkkmaa
set_option maxRecDepth 100000
open Go.RowKit

theorem bgD {B g : Nat} {w w1 w2 : World} (hb : Below B w w1) (hB : B ≤ w1.heap.size) (hw : w1.grownBy w2 (some g)) (hg : B ≤ g) : Below B w w2 :=
  hb.grown hw hB (fun k e => by injection e; omega)
def TwoI (w : World) (e : Ending) (w' : World) : Prop := ∃ x y : Int, e = .returned (.tuple #[.int .i64 x, .int .i64 y]) ∧ Below w.heap.size w w'
def TwoD (w : World) (e : Ending) (w' : World) : Prop := ∃ x y u v : Int, e = .returned (.tuple #[.agg #[.int .i64 x, .int .i64 y], .agg #[.int .i64 u, .int .i64 v]]) ∧ Below w.heap.size w w'

set_option maxHeartbeats 2000000 in
theorem d_mk (w : World) (a : Option Addr) (len cap : Nat) (zs : List Int) (h : IsRow .u8 w a len cap zs) :
    Calls Try.prog 17 #[.slice a len cap] w fun e w' => TwoI w e w' := by
  go_enter Try.func17, Try.ntmps17
  go_wp2_with fail
  refine (r_new w a len cap zs h).mono ?_
  rintro e w1 ⟨g, rfl, hr, hb⟩
  have hgw := hr.1
  clear h
  go_wp2_with fail
  refine (r_pick _ g 0 _ _ hr (by omega)).mono ?_
  rintro e w2 ⟨x, rfl, x1, x2, hr2, hw2⟩
  have hb2 := bgD hb hb.size hw2 hr2.1
  clear hb hw2 hr
  go_wp2_with fail
  refine (r_pick _ g 1 _ _ hr2 (by omega)).mono ?_
  rintro e w3 ⟨y, rfl, y1, y2, hr3, hw3⟩
  have hb3 := bgD hb2 hb2.size hw3 hr3.1
  clear hb2 hw3 hr2
  by_cases h0 : y = 0
  · have hq : (y == 0) = true := by simpa using h0
    clear h0 x1 x2 y1 y2
    go_wp2_with fail
    have hl := Ints.lit w3 3 [9999, 10000, -10000, 4096, 0]
    have hlt := hr3.lt
    refine (r_one _ g 2 _ _ [9999, 10000, -10000, 4096, 0] (w3.heap.size + 1) _ (hr3.below ((Below.refl _ _).alloc (Nat.le_refl _) _) hlt) (by omega) hl (by simp) (by simp) (by simp) (by rintro b o e; injection e with e; injection e; omega)).mono ?_
    rintro e w4 ⟨z, rfl, _, hr4, hw4⟩
    have hb4 := bgD (hb3.alloc hb3.size _) (by simp; have := hb3.size; omega) hw4 hr4.1
    clear hb3 hw4 hr3 hl
    go_wp2_with fail
    have hl := Ints.lit w4 3 [0, 1, 2, 3, 8, 9, -1]
    have hlt := hr4.lt
    refine (r_one _ g 3 _ _ [0, 1, 2, 3, 8, 9, -1] (w4.heap.size + 1) _ (hr4.below ((Below.refl _ _).alloc (Nat.le_refl _) _) hlt) (by omega) hl (by simp) (by simp) (by simp) (by rintro b o e; injection e with e; injection e; omega)).mono ?_
    rintro e w5 ⟨u, rfl, _, hr5, hw5⟩
    have hb5 := bgD (hb4.alloc hb4.size _) (by simp; have := hb4.size; omega) hw5 hr5.1
    clear hb4 hw5 hr4 hl hr5
    go_wp2_with fail
    go_ret2
    exact ⟨_, _, rfl, hb5⟩
  · have hq : (y == 0) = false := by simpa using h0
    clear h0 x1 x2 y1 y2
    go_wp2_with fail
    have hl := Ints.lit w3 3 [0, 1, 2, 3, 8, 9, -1]
    have hlt := hr3.lt
    refine (r_one _ g 2 _ _ [0, 1, 2, 3, 8, 9, -1] (w3.heap.size + 1) _ (hr3.below ((Below.refl _ _).alloc (Nat.le_refl _) _) hlt) (by omega) hl (by simp) (by simp) (by simp) (by rintro b o e; injection e with e; injection e; omega)).mono ?_
    rintro e w4 ⟨z, rfl, _, hr4, hw4⟩
    have hb4 := bgD (hb3.alloc hb3.size _) (by simp; have := hb3.size; omega) hw4 hr4.1
    clear hb3 hw4 hr3 hl
    go_wp2_with fail
    go_ret2
    exact ⟨_, _, rfl, hb4⟩

theorem IsRow.belowD {k : IntKind} {w w' : World} {a : Option Addr} {len cap : Nat} {zs : List Int} (h : IsRow k w a len cap zs) (hb : Below w.heap.size w w') : IsRow k w' a len cap zs := by
  rcases h with h | ⟨x, hx, h1, h2, h3, h4, h5⟩
  · exact .inl h
  · refine .inr ⟨x, hx, h1, h2, h3, fun i hi => ?_, h5⟩
    have := h4 i hi
    exact (World.cell?_of_block (w := w) (a := x.add i) (hb.block _ (World.block_lt_of_cell? w _ this))).trans this
theorem undrewG {a b : World} {r : Option Nat} (h : a.drew.grownBy b r) : a.grownBy b r := ⟨h.os, h.tape, h.output, h.size, h.block⟩
theorem cell_dr {w : World} {a : Addr} {v : Value} (h : w.cell? a = some v) : w.drew.cell? a = some v := h
theorem Rdr.drR {w : World} {B g q : Nat} (h : Rdr w B g q) : Rdr w.drew B g q := h

set_option maxRecDepth 100000 in
set_option maxHeartbeats 8000000 in
theorem d_ad (w : World) (a : Option Addr) (len cap : Nat) (zs : List Int) (h : IsRow .u8 w a len cap zs) :
    Calls Try.prog 20 #[.slice a len cap] w fun e w' => TwoD w e w' := by
  go_enter Try.func20, Try.ntmps20
  go_wp2_with fail
  obtain ⟨y1, hy1, hb1, z1, z2⟩ := new_box w (.cells #[.int .i64 0, .int .i64 0] 26)
  have R1 : Bx 26 y1 w.heap.size 0 (.int .i64 0) := by rw [hy1]; exact Bx.new _ _ _ _
  rw [← hy1]
  clear hy1
  obtain ⟨y2, hy2, hb2, z3, z4⟩ := new_box y1 (.cells #[.int .i64 0, .int .i64 0] 26)
  have R2 : Bx 26 y2 (w.heap.size + 1) 0 (.int .i64 0) := by rw [show w.heap.size + 1 = y1.heap.size by omega, hy2]; exact Bx.new _ _ _ _
  have R1 := R1.below hb2 R1.lt
  rw [← hy2]
  clear hy2
  have hb02 := hb1.trans (hb2.mono (by omega))
  have h2 : IsRow .u8 y2 a len cap zs := (h.belowD hb02)
  clear h hb1 hb2
  refine (r_new y2 a len cap zs h2).mono ?_
  rintro e w1 ⟨g, rfl, hr, hb⟩
  have hgw := hr.1
  have hgl := hr.lt
  have R1 := R1.below hb (by omega)
  have R2 := R2.below hb (by omega)
  have hb01 := hb02.trans (hb.mono (by omega))
  have hzz := hb.size
  clear h2 hb hb02
  have HB := Lib.hid hb01
  have HR1 := Lib.hid R1
  have HR2 := Lib.hid R2
  clear R1 R2 hb01
  go_wp2_with fail
  refine (r_anyDy _ g 0 _ hr (by omega)).mono ?_
  rintro e w2 ⟨x, y, rfl, hr2, hw2⟩
  have HR1 := Lib.hid (HR1.out.grown hw2 (by intro e; have := Option.some.inj e; omega))
  have HR2 := Lib.hid (HR2.out.grown hw2 (by intro e; have := Option.some.inj e; omega))
  have HB := Lib.hid (bgD HB.out (by omega) hw2 (by omega))
  have hz2 := hw2.size
  have Hr := Lib.hid hr2
  clear hw2 hr hr2
  go_wp2_with fail
  obtain ⟨w3, hy3, hb3, z5, z6⟩ := new_box w2 (.cells #[.int .i64 x, .int .i64 y] 26)
  have RA : Bx 26 w3 w2.heap.size x (.int .i64 y) := by rw [hy3]; exact Bx.new _ _ _ _
  rw [← hy3]
  clear hy3
  have HA := Lib.hid RA
  have HR1 := Lib.hid (HR1.out.below hb3 HR1.out.lt)
  have HR2 := Lib.hid (HR2.out.below hb3 HR2.out.lt)
  have HB := Lib.hid (HB.out.trans (hb3.mono (by omega)))
  have Hr := Lib.hid (Hr.out.below hb3 Hr.out.lt)
  clear RA hb3
  have a0 := HA.out.cell0
  have a1 := HA.out.cell1
  have al := HA.out.lt
  have p0 := HR1.out.cell0
  have p1 := HR1.out.cell1
  have pl := HR1.out.lt
  have r0 := HR2.out.cell0
  have r1 := HR2.out.cell1
  have rl := HR2.out.lt
  have pf0 := HR1.out.frozen 0
  have pf1 := HR1.out.frozen 1
  have rf0 := HR2.out.frozen 0
  have rf1 := HR2.out.frozen 1
  go_region_held3 (fun w' => w'.cell? ⟨w2.heap.size, 0, none⟩ = some (.int .i64 x) ∧ w'.cell? ⟨w2.heap.size, 1, none⟩ = some (.int .i64 y)) (first | exact ⟨a0, a1⟩ | go_keep | exact ⟨cell_far (cell_far (cell_far (cell_far a0 (by simp; omega)) (by simp; omega)) (by simp; omega)) (by simp; omega), cell_far (cell_far (cell_far (cell_far a1 (by simp; omega)) (by simp; omega)) (by simp; omega)) (by simp; omega)⟩ | exact ⟨cell_far (cell_far a0 (by simp; omega)) (by simp; omega), cell_far (cell_far a1 (by simp; omega)) (by simp; omega)⟩) (first | (go_at_call 46; refine (r_anyDy _ g (0 + 3) _ (by first | (with_reducible exact Hr.out) | (with_reducible exact Hr.out.drR)) (by omega)).mono ?_; rintro e yc ⟨u, v, rfl, hr9, hg9⟩; (try replace hg9 := undrewG hg9); have HR1 := Lib.hid (Bx.grown HR1.out hg9 (by intro e; have := Option.some.inj e; omega)); have HR2 := Lib.hid (Bx.grown HR2.out hg9 (by intro e; have := Option.some.inj e; omega)); have HA := Lib.hid (Bx.grown HA.out hg9 (by intro e; have := Option.some.inj e; omega)); have HB := Lib.hid (bgD HB.out (by omega) hg9 (by omega)); clear a0 a1 al p0 p1 pl r0 r1 rl pf0 pf1 rf0 rf1; have a0 := HA.out.cell0; have a1 := HA.out.cell1; have al := HA.out.lt; have p0 := HR1.out.cell0; have p1 := HR1.out.cell1; have pl := HR1.out.lt; have r0 := HR2.out.cell0; have r1 := HR2.out.cell1; have rl := HR2.out.lt; have pf0 := HR1.out.frozen 0; have pf1 := HR1.out.frozen 1; have rf0 := HR2.out.frozen 0; have rf1 := HR2.out.frozen 1; have S1 := Lib.hid (((HR1.out.set0 (x)).set1 (.int .i64 (y))).far (p := ⟨w.heap.size + 1, 0, none⟩) (by simp) (.int .i64 (u)) |>.far (p := ⟨w.heap.size + 1, 1, none⟩) (by simp) (.int .i64 (v))); have S2 := Lib.hid ((((HR2.out.far (p := ⟨w.heap.size, 0, none⟩) (by simp) (.int .i64 (x))).far (p := ⟨w.heap.size, 1, none⟩) (by simp) (.int .i64 (y))).set0 (u)).set1 (.int .i64 (v))); have s10 := S1.out.cell0; have s11 := S1.out.cell1; have s20 := S2.out.cell0; have s21 := S2.out.cell1; have SB : Hid (Below w.heap.size w ((((yc.setCell ⟨w.heap.size, 0, none⟩ (.int .i64 (x))).setCell ⟨w.heap.size, 1, none⟩ (.int .i64 (y))).setCell ⟨w.heap.size + 1, 0, none⟩ (.int .i64 (u))).setCell ⟨w.heap.size + 1, 1, none⟩ (.int .i64 (v)))) := Lib.hid ((((HB.out.setCell (p := ⟨w.heap.size, 0, none⟩) (by simp) _).setCell (p := ⟨w.heap.size, 1, none⟩) (by simp) _).setCell (p := ⟨w.heap.size + 1, 0, none⟩) (by simp) _).setCell (p := ⟨w.heap.size + 1, 1, none⟩) (by simp) _); clear hr9 hg9))
  all_goals go_wp2_with fail
  all_goals (refine bodyPost_ret (v := .tuple #[.agg #[.int .i64 (x), .int .i64 (y)], .agg #[.int .i64 (u), .int .i64 (v)]]) (by simp [results, Try.results20, go_sem, s10, s11, s20, s21]) rfl ?_; exact ⟨_, _, _, _, rfl, (by first | exact SB.out | exact ⟨SB.out.os, SB.out.tape, SB.out.output, SB.out.size, SB.out.block⟩)⟩)

set_option maxRecDepth 100000 in
set_option maxHeartbeats 8000000 in
theorem d_cm (w : World) (a : Option Addr) (len cap : Nat) (zs : List Int) (h : IsRow .u8 w a len cap zs) :
    Calls Try.prog 24 #[.slice a len cap] w fun e w' => TwoD w e w' := by
  go_enter Try.func24, Try.ntmps24
  go_wp2_with fail
  obtain ⟨y1, hy1, hb1, z1, z2⟩ := new_box w (.cells #[.int .i64 0, .int .i64 0] 26)
  have R1 : Bx 26 y1 w.heap.size 0 (.int .i64 0) := by rw [hy1]; exact Bx.new _ _ _ _
  rw [← hy1]
  clear hy1
  obtain ⟨y2, hy2, hb2, z3, z4⟩ := new_box y1 (.cells #[.int .i64 0, .int .i64 0] 26)
  have R2 : Bx 26 y2 (w.heap.size + 1) 0 (.int .i64 0) := by rw [show w.heap.size + 1 = y1.heap.size by omega, hy2]; exact Bx.new _ _ _ _
  have R1 := R1.below hb2 R1.lt
  rw [← hy2]
  clear hy2
  have hb02 := hb1.trans (hb2.mono (by omega))
  have h2 : IsRow .u8 y2 a len cap zs := (h.belowD hb02)
  clear h hb1 hb2
  refine (r_new y2 a len cap zs h2).mono ?_
  rintro e w1 ⟨g, rfl, hr, hb⟩
  have hgw := hr.1
  have hgl := hr.lt
  have R1 := R1.below hb (by omega)
  have R2 := R2.below hb (by omega)
  have hb01 := hb02.trans (hb.mono (by omega))
  have hzz := hb.size
  clear h2 hb hb02
  have HB := Lib.hid hb01
  have HR1 := Lib.hid R1
  have HR2 := Lib.hid R2
  clear R1 R2 hb01
  go_wp2_with fail
  refine (r_anyDy _ g 0 _ hr (by omega)).mono ?_
  rintro e w2 ⟨x, y, rfl, hr2, hw2⟩
  have HR1 := Lib.hid (HR1.out.grown hw2 (by intro e; have := Option.some.inj e; omega))
  have HR2 := Lib.hid (HR2.out.grown hw2 (by intro e; have := Option.some.inj e; omega))
  have HB := Lib.hid (bgD HB.out (by omega) hw2 (by omega))
  have hz2 := hw2.size
  have Hr := Lib.hid hr2
  clear hw2 hr hr2
  go_wp2_with fail
  obtain ⟨w3, hy3, hb3, z5, z6⟩ := new_box w2 (.cells #[.int .i64 x, .int .i64 y] 26)
  have RA : Bx 26 w3 w2.heap.size x (.int .i64 y) := by rw [hy3]; exact Bx.new _ _ _ _
  rw [← hy3]
  clear hy3
  have HA := Lib.hid RA
  have HR1 := Lib.hid (HR1.out.below hb3 HR1.out.lt)
  have HR2 := Lib.hid (HR2.out.below hb3 HR2.out.lt)
  have HB := Lib.hid (HB.out.trans (hb3.mono (by omega)))
  have Hr := Lib.hid (Hr.out.below hb3 Hr.out.lt)
  clear RA hb3
  refine (r_pick _ g (0 + 3) _ _ Hr.out (by omega)).mono ?_
  rintro e w4 ⟨z, rfl, z1', z2', hr4, hg4⟩
  have HR1 := Lib.hid (HR1.out.grown hg4 (by intro e; have := Option.some.inj e; omega))
  have HR2 := Lib.hid (HR2.out.grown hg4 (by intro e; have := Option.some.inj e; omega))
  have HA := Lib.hid (HA.out.grown hg4 (by intro e; have := Option.some.inj e; omega))
  have HB := Lib.hid (bgD HB.out (by omega) hg4 (by omega))
  have Hr := Lib.hid hr4
  have hz4 := hg4.size
  clear hr4 hg4 z2'
  by_cases h0 : z = 0
  · have hq : (z == 0) = true := by simpa using h0
    clear h0 z1'
    have a0 := HA.out.cell0
    have a1 := HA.out.cell1
    have al := HA.out.lt
    have p0 := HR1.out.cell0
    have p1 := HR1.out.cell1
    have pl := HR1.out.lt
    have r0 := HR2.out.cell0
    have r1 := HR2.out.cell1
    have rl := HR2.out.lt
    have pf0 := HR1.out.frozen 0
    have pf1 := HR1.out.frozen 1
    have rf0 := HR2.out.frozen 0
    have rf1 := HR2.out.frozen 1
    have S1 := Lib.hid (((HR1.out.set0 (x)).set1 (.int .i64 (y))).far (p := ⟨w.heap.size + 1, 0, none⟩) (by simp) (.int .i64 (x)) |>.far (p := ⟨w.heap.size + 1, 1, none⟩) (by simp) (.int .i64 (y)))
    have S2 := Lib.hid ((((HR2.out.far (p := ⟨w.heap.size, 0, none⟩) (by simp) (.int .i64 (x))).far (p := ⟨w.heap.size, 1, none⟩) (by simp) (.int .i64 (y))).set0 (x)).set1 (.int .i64 (y)))
    have s10 := S1.out.cell0
    have s11 := S1.out.cell1
    have s20 := S2.out.cell0
    have s21 := S2.out.cell1
    have SB : Hid (Below w.heap.size w ((((w4.setCell ⟨w.heap.size, 0, none⟩ (.int .i64 (x))).setCell ⟨w.heap.size, 1, none⟩ (.int .i64 (y))).setCell ⟨w.heap.size + 1, 0, none⟩ (.int .i64 (x))).setCell ⟨w.heap.size + 1, 1, none⟩ (.int .i64 (y)))) := Lib.hid ((((HB.out.setCell (p := ⟨w.heap.size, 0, none⟩) (by simp) _).setCell (p := ⟨w.heap.size, 1, none⟩) (by simp) _).setCell (p := ⟨w.heap.size + 1, 0, none⟩) (by simp) _).setCell (p := ⟨w.heap.size + 1, 1, none⟩) (by simp) _)
    go_wp2_with fail
    go_region
    all_goals go_wp2_with fail
    all_goals (refine bodyPost_ret (v := .tuple #[.agg #[.int .i64 (x), .int .i64 (y)], .agg #[.int .i64 (x), .int .i64 (y)]]) (by simp [results, Try.results24, go_sem, s10, s11, s20, s21]) rfl ?_; exact ⟨_, _, _, _, rfl, (by first | exact SB.out | exact ⟨SB.out.os, SB.out.tape, SB.out.output, SB.out.size, SB.out.block⟩)⟩)
  · have hq : (z == 0) = false := by simpa using h0
    clear h0 z1'
    go_wp2_with fail
    have a0 := HA.out.cell0
    have a1 := HA.out.cell1
    have al := HA.out.lt
    have p0 := HR1.out.cell0
    have p1 := HR1.out.cell1
    have pl := HR1.out.lt
    have r0 := HR2.out.cell0
    have r1 := HR2.out.cell1
    have rl := HR2.out.lt
    have pf0 := HR1.out.frozen 0
    have pf1 := HR1.out.frozen 1
    have rf0 := HR2.out.frozen 0
    have rf1 := HR2.out.frozen 1
    go_region_held3 (fun w' => w'.cell? ⟨w2.heap.size, 0, none⟩ = some (.int .i64 x) ∧ w'.cell? ⟨w2.heap.size, 1, none⟩ = some (.int .i64 y)) (first | exact ⟨a0, a1⟩ | go_keep | exact ⟨cell_far (cell_far (cell_far (cell_far a0 (by simp; omega)) (by simp; omega)) (by simp; omega)) (by simp; omega), cell_far (cell_far (cell_far (cell_far a1 (by simp; omega)) (by simp; omega)) (by simp; omega)) (by simp; omega)⟩ | exact ⟨cell_far (cell_far a0 (by simp; omega)) (by simp; omega), cell_far (cell_far a1 (by simp; omega)) (by simp; omega)⟩) (first | (go_at_call 46; refine (r_anyDy _ g (0 + 3 + 1) _ (by first | (with_reducible exact Hr.out) | (with_reducible exact Hr.out.drR)) (by omega)).mono ?_; rintro e yc ⟨u, v, rfl, hr9, hg9⟩; (try replace hg9 := undrewG hg9); have HR1 := Lib.hid (Bx.grown HR1.out hg9 (by intro e; have := Option.some.inj e; omega)); have HR2 := Lib.hid (Bx.grown HR2.out hg9 (by intro e; have := Option.some.inj e; omega)); have HA := Lib.hid (Bx.grown HA.out hg9 (by intro e; have := Option.some.inj e; omega)); have HB := Lib.hid (bgD HB.out (by omega) hg9 (by omega)); clear a0 a1 al p0 p1 pl r0 r1 rl pf0 pf1 rf0 rf1; have a0 := HA.out.cell0; have a1 := HA.out.cell1; have al := HA.out.lt; have p0 := HR1.out.cell0; have p1 := HR1.out.cell1; have pl := HR1.out.lt; have r0 := HR2.out.cell0; have r1 := HR2.out.cell1; have rl := HR2.out.lt; have pf0 := HR1.out.frozen 0; have pf1 := HR1.out.frozen 1; have rf0 := HR2.out.frozen 0; have rf1 := HR2.out.frozen 1; have S1 := Lib.hid (((HR1.out.set0 (x)).set1 (.int .i64 (y))).far (p := ⟨w.heap.size + 1, 0, none⟩) (by simp) (.int .i64 (u)) |>.far (p := ⟨w.heap.size + 1, 1, none⟩) (by simp) (.int .i64 (v))); have S2 := Lib.hid ((((HR2.out.far (p := ⟨w.heap.size, 0, none⟩) (by simp) (.int .i64 (x))).far (p := ⟨w.heap.size, 1, none⟩) (by simp) (.int .i64 (y))).set0 (u)).set1 (.int .i64 (v))); have s10 := S1.out.cell0; have s11 := S1.out.cell1; have s20 := S2.out.cell0; have s21 := S2.out.cell1; have SB : Hid (Below w.heap.size w ((((yc.setCell ⟨w.heap.size, 0, none⟩ (.int .i64 (x))).setCell ⟨w.heap.size, 1, none⟩ (.int .i64 (y))).setCell ⟨w.heap.size + 1, 0, none⟩ (.int .i64 (u))).setCell ⟨w.heap.size + 1, 1, none⟩ (.int .i64 (v)))) := Lib.hid ((((HB.out.setCell (p := ⟨w.heap.size, 0, none⟩) (by simp) _).setCell (p := ⟨w.heap.size, 1, none⟩) (by simp) _).setCell (p := ⟨w.heap.size + 1, 0, none⟩) (by simp) _).setCell (p := ⟨w.heap.size + 1, 1, none⟩) (by simp) _); clear hr9 hg9))
    all_goals go_wp2_with fail
    all_goals (refine bodyPost_ret (v := .tuple #[.agg #[.int .i64 (x), .int .i64 (y)], .agg #[.int .i64 (u), .int .i64 (v)]]) (by simp [results, Try.results24, go_sem, s10, s11, s20, s21]) rfl ?_; exact ⟨_, _, _, _, rfl, (by first | exact SB.out | exact ⟨SB.out.os, SB.out.tape, SB.out.output, SB.out.size, SB.out.block⟩)⟩)
end Go.Proofs.Ytocjlhlohlkkmaa
