/-
  The program's 'recolored': points change from one color to another.
-/
import Derived.Test.YteldfjibmaigiaaDoorPos
namespace Go.Proofs.YteldfjibmaigiaaDoor
set_option maxRecDepth 100000
open Go.RowKit

section
variable (s E B W m : Nat) (w : World)
set_option maxHeartbeats 2000000 in
theorem i_rec01 (hi : E < 18446744073709551616) (hj : B < 18446744073709551616) (hm : m < 18446744073709551616) : Calls Tryd.prog 56 #[.agg #[.int .i64 (s : Nat), .int .u64 (E : Nat), .int .u64 (B : Nat), .int .u64 (W : Nat)], .int .u64 (m : Nat), .int .i64 0, .int .i64 1] w fun e w' => e = .returned (.agg #[.int .i64 (s : Nat), .int .u64 ((E &&& (18446744073709551615 - m) : Nat) : Nat), .int .u64 ((B ||| m : Nat) : Nat), .int .u64 ((W : Nat) : Nat)]) ∧ Below w.heap.size w w' := by
  obtain ⟨F, hF⟩ : ∃ F, F = E &&& (18446744073709551615 - m) := ⟨_, rfl⟩
  obtain ⟨T, hT⟩ : ∃ T, T = B ||| m := ⟨_, rfl⟩
  have r1 : bits .andNot .u64 (E : Int) (m : Int) = (F : Int) := by rw [hF]; exact u64_andNot_nat _ _ (by omega) (by omega)
  have r2 : bits .or .u64 (B : Int) (m : Int) = (T : Int) := by rw [hT]; exact u64_or_nat _ _ (by omega) (by omega)
  rw [← hF, ← hT]
  clear hF hT hi hj hm
  have e1 : (w.alloc (.cells #[.int .i64 (s : Nat), .int .u64 (E : Nat), .int .u64 (B : Nat), .int .u64 (W : Nat)] 58)).heap.size = w.heap.size + 1 := by simp
  have p0 := (Px.new w (s : Nat) E B W).step ((Below.refl (w.alloc (.cells #[.int .i64 (s : Nat), .int .u64 (E : Nat), .int .u64 (B : Nat), .int .u64 (W : Nat)] 58)).heap.size (w.alloc (.cells #[.int .i64 (s : Nat), .int .u64 (E : Nat), .int .u64 (B : Nat), .int .u64 (W : Nat)] 58))).alloc (Nat.le_refl _) (.cells #[.int .i64 0, .int .u64 0, .int .u64 0, .int .u64 0] 58))
  have p1 := Px.new (w.alloc (.cells #[.int .i64 (s : Nat), .int .u64 (E : Nat), .int .u64 (B : Nat), .int .u64 (W : Nat)] 58)) 0 0 0 0
  have hb2 : Below w.heap.size w ((w.alloc (.cells #[.int .i64 (s : Nat), .int .u64 (E : Nat), .int .u64 (B : Nat), .int .u64 (W : Nat)] 58)).alloc (.cells #[.int .i64 0, .int .u64 0, .int .u64 0, .int .u64 0] 58)) := ((Below.refl _ _).alloc (Nat.le_refl _) _).alloc (by simp) _
  rw [e1] at p1
  obtain ⟨y, hy⟩ : ∃ y, y = (w.alloc (.cells #[.int .i64 (s : Nat), .int .u64 (E : Nat), .int .u64 (B : Nat), .int .u64 (W : Nat)] 58)).alloc (.cells #[.int .i64 0, .int .u64 0, .int .u64 0, .int .u64 0] 58) := ⟨_, rfl⟩
  have P0 : Hid (Px y w.heap.size (s : Nat) E B W) := Lib.hid (by rw [hy]; exact p0)
  have P1 : Hid (Px y (w.heap.size + 1) 0 0 0 0) := Lib.hid (by rw [hy]; exact p1)
  have Hb : Hid (Below w.heap.size w y) := Lib.hid (by rw [hy]; exact hb2)
  clear e1 p0 p1 hb2
  go_enter Tryd.func56, Tryd.ntmps56
  go_upto_region 1 with (fail)
  rw [← hy]
  clear hy
  have c := P0.out.c1
  have f := P0.out.fz 1
  have hz := P0.out.lt
  have hz1 := P1.out.lt
  go_upto_region 2 with (fail)
  obtain ⟨y2, hy2⟩ : ∃ y2, y2 = y.setCell ⟨w.heap.size, 1, none⟩ (.int .u64 (F : Nat)) := ⟨_, rfl⟩
  have P02 : Hid (Px y2 w.heap.size (s : Nat) F B W) := Lib.hid (by rw [hy2]; exact P0.out.set1 F)
  have P12 : Hid (Px y2 (w.heap.size + 1) 0 0 0 0) := Lib.hid (by rw [hy2]; exact P1.out.far (p := ⟨w.heap.size, 1, none⟩) (by show w.heap.size + 1 ≠ w.heap.size; omega) _)
  have Hb2 : Hid (Below w.heap.size w y2) := Lib.hid (by rw [hy2]; exact Hb.out.setCell (p := ⟨w.heap.size, 1, none⟩) (Nat.le_refl _) _)
  first | rw [← hy2] | rw [show (World.setCell y { block := w.heap.size, off := 1, view := none } _) = y2 from hy2.symm]
  clear hy2 c f hz hz1 P0 P1 Hb
  have c := P02.out.c2
  have f := P02.out.fz 2
  have hz := P02.out.lt
  have hz1 := P12.out.lt
  go_upto_region 3 with (fail)
  obtain ⟨y3, hy3⟩ : ∃ y3, y3 = y2.setCell ⟨w.heap.size, 2, none⟩ (.int .u64 (T : Nat)) := ⟨_, rfl⟩
  have P03 : Hid (Px y3 w.heap.size (s : Nat) F T W) := Lib.hid (by rw [hy3]; exact P02.out.set2 T)
  have P13 : Hid (Px y3 (w.heap.size + 1) 0 0 0 0) := Lib.hid (by rw [hy3]; exact P12.out.far (p := ⟨w.heap.size, 2, none⟩) (by show w.heap.size + 1 ≠ w.heap.size; omega) _)
  have Hb3 : Hid (Below w.heap.size w y3) := Lib.hid (by rw [hy3]; exact Hb2.out.setCell (p := ⟨w.heap.size, 2, none⟩) (Nat.le_refl _) _)
  rw [← hy3]
  clear hy3 c f hz hz1 P02 P12 Hb2
  have c0 := P03.out.c0
  have c1 := P03.out.c1
  have c2 := P03.out.c2
  have c3 := P03.out.c3
  have d0 := P13.out.c0
  have d1 := P13.out.c1
  have d2 := P13.out.c2
  have d3 := P13.out.c3
  have f0 := P13.out.fz 0
  have f1 := P13.out.fz 1
  have f2 := P13.out.fz 2
  have f3 := P13.out.fz 3
  have hlt := P13.out.lt
  have T1 : Hid (Px ((((y3.setCell ⟨w.heap.size + 1, 0, none⟩ (.int .i64 (s : Nat))).setCell ⟨w.heap.size + 1, 1, none⟩ (.int .u64 (F : Nat))).setCell ⟨w.heap.size + 1, 2, none⟩ (.int .u64 (T : Nat))).setCell ⟨w.heap.size + 1, 3, none⟩ (.int .u64 (W : Nat))) (w.heap.size + 1) (s : Nat) F T W) := Lib.hid ((((P13.out.set0 (s : Nat)).set1 F).set2 T).set3 W)
  have Hb4 := Lib.hid ((((Hb3.out.setCell (p := ⟨w.heap.size + 1, 0, none⟩) (by show w.heap.size ≤ w.heap.size + 1; omega) (.int .i64 (s : Nat))).setCell (p := ⟨w.heap.size + 1, 1, none⟩) (by show w.heap.size ≤ w.heap.size + 1; omega) (.int .u64 (F : Nat))).setCell (p := ⟨w.heap.size + 1, 2, none⟩) (by show w.heap.size ≤ w.heap.size + 1; omega) (.int .u64 (T : Nat))).setCell (p := ⟨w.heap.size + 1, 3, none⟩) (by show w.heap.size ≤ w.heap.size + 1; omega) (.int .u64 (W : Nat)))
  go_wp2_with fail
  have k0 := T1.out.c0
  have k1 := T1.out.c1
  have k2 := T1.out.c2
  have k3 := T1.out.c3
  refine bodyPost_ret (v := .agg #[.int .i64 (s : Nat), .int .u64 (F : Nat), .int .u64 (T : Nat), .int .u64 (W : Nat)]) (by simp [results, Tryd.results56, go_sem, k0, k1, k2, k3]) rfl ?_
  exact ⟨rfl, Hb4.out⟩

set_option maxHeartbeats 2000000 in
theorem i_rec02 (hi : E < 18446744073709551616) (hj : W < 18446744073709551616) (hm : m < 18446744073709551616) : Calls Tryd.prog 56 #[.agg #[.int .i64 (s : Nat), .int .u64 (E : Nat), .int .u64 (B : Nat), .int .u64 (W : Nat)], .int .u64 (m : Nat), .int .i64 0, .int .i64 2] w fun e w' => e = .returned (.agg #[.int .i64 (s : Nat), .int .u64 ((E &&& (18446744073709551615 - m) : Nat) : Nat), .int .u64 ((B : Nat) : Nat), .int .u64 ((W ||| m : Nat) : Nat)]) ∧ Below w.heap.size w w' := by
  obtain ⟨F, hF⟩ : ∃ F, F = E &&& (18446744073709551615 - m) := ⟨_, rfl⟩
  obtain ⟨T, hT⟩ : ∃ T, T = W ||| m := ⟨_, rfl⟩
  have r1 : bits .andNot .u64 (E : Int) (m : Int) = (F : Int) := by rw [hF]; exact u64_andNot_nat _ _ (by omega) (by omega)
  have r2 : bits .or .u64 (W : Int) (m : Int) = (T : Int) := by rw [hT]; exact u64_or_nat _ _ (by omega) (by omega)
  rw [← hF, ← hT]
  clear hF hT hi hj hm
  have e1 : (w.alloc (.cells #[.int .i64 (s : Nat), .int .u64 (E : Nat), .int .u64 (B : Nat), .int .u64 (W : Nat)] 58)).heap.size = w.heap.size + 1 := by simp
  have p0 := (Px.new w (s : Nat) E B W).step ((Below.refl (w.alloc (.cells #[.int .i64 (s : Nat), .int .u64 (E : Nat), .int .u64 (B : Nat), .int .u64 (W : Nat)] 58)).heap.size (w.alloc (.cells #[.int .i64 (s : Nat), .int .u64 (E : Nat), .int .u64 (B : Nat), .int .u64 (W : Nat)] 58))).alloc (Nat.le_refl _) (.cells #[.int .i64 0, .int .u64 0, .int .u64 0, .int .u64 0] 58))
  have p1 := Px.new (w.alloc (.cells #[.int .i64 (s : Nat), .int .u64 (E : Nat), .int .u64 (B : Nat), .int .u64 (W : Nat)] 58)) 0 0 0 0
  have hb2 : Below w.heap.size w ((w.alloc (.cells #[.int .i64 (s : Nat), .int .u64 (E : Nat), .int .u64 (B : Nat), .int .u64 (W : Nat)] 58)).alloc (.cells #[.int .i64 0, .int .u64 0, .int .u64 0, .int .u64 0] 58)) := ((Below.refl _ _).alloc (Nat.le_refl _) _).alloc (by simp) _
  rw [e1] at p1
  obtain ⟨y, hy⟩ : ∃ y, y = (w.alloc (.cells #[.int .i64 (s : Nat), .int .u64 (E : Nat), .int .u64 (B : Nat), .int .u64 (W : Nat)] 58)).alloc (.cells #[.int .i64 0, .int .u64 0, .int .u64 0, .int .u64 0] 58) := ⟨_, rfl⟩
  have P0 : Hid (Px y w.heap.size (s : Nat) E B W) := Lib.hid (by rw [hy]; exact p0)
  have P1 : Hid (Px y (w.heap.size + 1) 0 0 0 0) := Lib.hid (by rw [hy]; exact p1)
  have Hb : Hid (Below w.heap.size w y) := Lib.hid (by rw [hy]; exact hb2)
  clear e1 p0 p1 hb2
  go_enter Tryd.func56, Tryd.ntmps56
  go_upto_region 1 with (fail)
  rw [← hy]
  clear hy
  have c := P0.out.c1
  have f := P0.out.fz 1
  have hz := P0.out.lt
  have hz1 := P1.out.lt
  go_upto_region 2 with (fail)
  obtain ⟨y2, hy2⟩ : ∃ y2, y2 = y.setCell ⟨w.heap.size, 1, none⟩ (.int .u64 (F : Nat)) := ⟨_, rfl⟩
  have P02 : Hid (Px y2 w.heap.size (s : Nat) F B W) := Lib.hid (by rw [hy2]; exact P0.out.set1 F)
  have P12 : Hid (Px y2 (w.heap.size + 1) 0 0 0 0) := Lib.hid (by rw [hy2]; exact P1.out.far (p := ⟨w.heap.size, 1, none⟩) (by show w.heap.size + 1 ≠ w.heap.size; omega) _)
  have Hb2 : Hid (Below w.heap.size w y2) := Lib.hid (by rw [hy2]; exact Hb.out.setCell (p := ⟨w.heap.size, 1, none⟩) (Nat.le_refl _) _)
  first | rw [← hy2] | rw [show (World.setCell y { block := w.heap.size, off := 1, view := none } _) = y2 from hy2.symm]
  clear hy2 c f hz hz1 P0 P1 Hb
  have c := P02.out.c3
  have f := P02.out.fz 3
  have hz := P02.out.lt
  have hz1 := P12.out.lt
  go_upto_region 3 with (fail)
  obtain ⟨y3, hy3⟩ : ∃ y3, y3 = y2.setCell ⟨w.heap.size, 3, none⟩ (.int .u64 (T : Nat)) := ⟨_, rfl⟩
  have P03 : Hid (Px y3 w.heap.size (s : Nat) F B T) := Lib.hid (by rw [hy3]; exact P02.out.set3 T)
  have P13 : Hid (Px y3 (w.heap.size + 1) 0 0 0 0) := Lib.hid (by rw [hy3]; exact P12.out.far (p := ⟨w.heap.size, 3, none⟩) (by show w.heap.size + 1 ≠ w.heap.size; omega) _)
  have Hb3 : Hid (Below w.heap.size w y3) := Lib.hid (by rw [hy3]; exact Hb2.out.setCell (p := ⟨w.heap.size, 3, none⟩) (Nat.le_refl _) _)
  rw [← hy3]
  clear hy3 c f hz hz1 P02 P12 Hb2
  have c0 := P03.out.c0
  have c1 := P03.out.c1
  have c2 := P03.out.c2
  have c3 := P03.out.c3
  have d0 := P13.out.c0
  have d1 := P13.out.c1
  have d2 := P13.out.c2
  have d3 := P13.out.c3
  have f0 := P13.out.fz 0
  have f1 := P13.out.fz 1
  have f2 := P13.out.fz 2
  have f3 := P13.out.fz 3
  have hlt := P13.out.lt
  have T1 : Hid (Px ((((y3.setCell ⟨w.heap.size + 1, 0, none⟩ (.int .i64 (s : Nat))).setCell ⟨w.heap.size + 1, 1, none⟩ (.int .u64 (F : Nat))).setCell ⟨w.heap.size + 1, 2, none⟩ (.int .u64 (B : Nat))).setCell ⟨w.heap.size + 1, 3, none⟩ (.int .u64 (T : Nat))) (w.heap.size + 1) (s : Nat) F B T) := Lib.hid ((((P13.out.set0 (s : Nat)).set1 F).set2 B).set3 T)
  have Hb4 := Lib.hid ((((Hb3.out.setCell (p := ⟨w.heap.size + 1, 0, none⟩) (by show w.heap.size ≤ w.heap.size + 1; omega) (.int .i64 (s : Nat))).setCell (p := ⟨w.heap.size + 1, 1, none⟩) (by show w.heap.size ≤ w.heap.size + 1; omega) (.int .u64 (F : Nat))).setCell (p := ⟨w.heap.size + 1, 2, none⟩) (by show w.heap.size ≤ w.heap.size + 1; omega) (.int .u64 (B : Nat))).setCell (p := ⟨w.heap.size + 1, 3, none⟩) (by show w.heap.size ≤ w.heap.size + 1; omega) (.int .u64 (T : Nat)))
  go_wp2_with fail
  have k0 := T1.out.c0
  have k1 := T1.out.c1
  have k2 := T1.out.c2
  have k3 := T1.out.c3
  refine bodyPost_ret (v := .agg #[.int .i64 (s : Nat), .int .u64 (F : Nat), .int .u64 (B : Nat), .int .u64 (T : Nat)]) (by simp [results, Tryd.results56, go_sem, k0, k1, k2, k3]) rfl ?_
  exact ⟨rfl, Hb4.out⟩

set_option maxHeartbeats 2000000 in
theorem i_rec10 (hi : B < 18446744073709551616) (hj : E < 18446744073709551616) (hm : m < 18446744073709551616) : Calls Tryd.prog 56 #[.agg #[.int .i64 (s : Nat), .int .u64 (E : Nat), .int .u64 (B : Nat), .int .u64 (W : Nat)], .int .u64 (m : Nat), .int .i64 1, .int .i64 0] w fun e w' => e = .returned (.agg #[.int .i64 (s : Nat), .int .u64 ((E ||| m : Nat) : Nat), .int .u64 ((B &&& (18446744073709551615 - m) : Nat) : Nat), .int .u64 ((W : Nat) : Nat)]) ∧ Below w.heap.size w w' := by
  obtain ⟨F, hF⟩ : ∃ F, F = B &&& (18446744073709551615 - m) := ⟨_, rfl⟩
  obtain ⟨T, hT⟩ : ∃ T, T = E ||| m := ⟨_, rfl⟩
  have r1 : bits .andNot .u64 (B : Int) (m : Int) = (F : Int) := by rw [hF]; exact u64_andNot_nat _ _ (by omega) (by omega)
  have r2 : bits .or .u64 (E : Int) (m : Int) = (T : Int) := by rw [hT]; exact u64_or_nat _ _ (by omega) (by omega)
  rw [← hF, ← hT]
  clear hF hT hi hj hm
  have e1 : (w.alloc (.cells #[.int .i64 (s : Nat), .int .u64 (E : Nat), .int .u64 (B : Nat), .int .u64 (W : Nat)] 58)).heap.size = w.heap.size + 1 := by simp
  have p0 := (Px.new w (s : Nat) E B W).step ((Below.refl (w.alloc (.cells #[.int .i64 (s : Nat), .int .u64 (E : Nat), .int .u64 (B : Nat), .int .u64 (W : Nat)] 58)).heap.size (w.alloc (.cells #[.int .i64 (s : Nat), .int .u64 (E : Nat), .int .u64 (B : Nat), .int .u64 (W : Nat)] 58))).alloc (Nat.le_refl _) (.cells #[.int .i64 0, .int .u64 0, .int .u64 0, .int .u64 0] 58))
  have p1 := Px.new (w.alloc (.cells #[.int .i64 (s : Nat), .int .u64 (E : Nat), .int .u64 (B : Nat), .int .u64 (W : Nat)] 58)) 0 0 0 0
  have hb2 : Below w.heap.size w ((w.alloc (.cells #[.int .i64 (s : Nat), .int .u64 (E : Nat), .int .u64 (B : Nat), .int .u64 (W : Nat)] 58)).alloc (.cells #[.int .i64 0, .int .u64 0, .int .u64 0, .int .u64 0] 58)) := ((Below.refl _ _).alloc (Nat.le_refl _) _).alloc (by simp) _
  rw [e1] at p1
  obtain ⟨y, hy⟩ : ∃ y, y = (w.alloc (.cells #[.int .i64 (s : Nat), .int .u64 (E : Nat), .int .u64 (B : Nat), .int .u64 (W : Nat)] 58)).alloc (.cells #[.int .i64 0, .int .u64 0, .int .u64 0, .int .u64 0] 58) := ⟨_, rfl⟩
  have P0 : Hid (Px y w.heap.size (s : Nat) E B W) := Lib.hid (by rw [hy]; exact p0)
  have P1 : Hid (Px y (w.heap.size + 1) 0 0 0 0) := Lib.hid (by rw [hy]; exact p1)
  have Hb : Hid (Below w.heap.size w y) := Lib.hid (by rw [hy]; exact hb2)
  clear e1 p0 p1 hb2
  go_enter Tryd.func56, Tryd.ntmps56
  go_upto_region 1 with (fail)
  rw [← hy]
  clear hy
  have c := P0.out.c2
  have f := P0.out.fz 2
  have hz := P0.out.lt
  have hz1 := P1.out.lt
  go_upto_region 2 with (fail)
  obtain ⟨y2, hy2⟩ : ∃ y2, y2 = y.setCell ⟨w.heap.size, 2, none⟩ (.int .u64 (F : Nat)) := ⟨_, rfl⟩
  have P02 : Hid (Px y2 w.heap.size (s : Nat) E F W) := Lib.hid (by rw [hy2]; exact P0.out.set2 F)
  have P12 : Hid (Px y2 (w.heap.size + 1) 0 0 0 0) := Lib.hid (by rw [hy2]; exact P1.out.far (p := ⟨w.heap.size, 2, none⟩) (by show w.heap.size + 1 ≠ w.heap.size; omega) _)
  have Hb2 : Hid (Below w.heap.size w y2) := Lib.hid (by rw [hy2]; exact Hb.out.setCell (p := ⟨w.heap.size, 2, none⟩) (Nat.le_refl _) _)
  first | rw [← hy2] | rw [show (World.setCell y { block := w.heap.size, off := 2, view := none } _) = y2 from hy2.symm]
  clear hy2 c f hz hz1 P0 P1 Hb
  have c := P02.out.c1
  have f := P02.out.fz 1
  have hz := P02.out.lt
  have hz1 := P12.out.lt
  go_upto_region 3 with (fail)
  obtain ⟨y3, hy3⟩ : ∃ y3, y3 = y2.setCell ⟨w.heap.size, 1, none⟩ (.int .u64 (T : Nat)) := ⟨_, rfl⟩
  have P03 : Hid (Px y3 w.heap.size (s : Nat) T F W) := Lib.hid (by rw [hy3]; exact P02.out.set1 T)
  have P13 : Hid (Px y3 (w.heap.size + 1) 0 0 0 0) := Lib.hid (by rw [hy3]; exact P12.out.far (p := ⟨w.heap.size, 1, none⟩) (by show w.heap.size + 1 ≠ w.heap.size; omega) _)
  have Hb3 : Hid (Below w.heap.size w y3) := Lib.hid (by rw [hy3]; exact Hb2.out.setCell (p := ⟨w.heap.size, 1, none⟩) (Nat.le_refl _) _)
  rw [← hy3]
  clear hy3 c f hz hz1 P02 P12 Hb2
  have c0 := P03.out.c0
  have c1 := P03.out.c1
  have c2 := P03.out.c2
  have c3 := P03.out.c3
  have d0 := P13.out.c0
  have d1 := P13.out.c1
  have d2 := P13.out.c2
  have d3 := P13.out.c3
  have f0 := P13.out.fz 0
  have f1 := P13.out.fz 1
  have f2 := P13.out.fz 2
  have f3 := P13.out.fz 3
  have hlt := P13.out.lt
  have T1 : Hid (Px ((((y3.setCell ⟨w.heap.size + 1, 0, none⟩ (.int .i64 (s : Nat))).setCell ⟨w.heap.size + 1, 1, none⟩ (.int .u64 (T : Nat))).setCell ⟨w.heap.size + 1, 2, none⟩ (.int .u64 (F : Nat))).setCell ⟨w.heap.size + 1, 3, none⟩ (.int .u64 (W : Nat))) (w.heap.size + 1) (s : Nat) T F W) := Lib.hid ((((P13.out.set0 (s : Nat)).set1 T).set2 F).set3 W)
  have Hb4 := Lib.hid ((((Hb3.out.setCell (p := ⟨w.heap.size + 1, 0, none⟩) (by show w.heap.size ≤ w.heap.size + 1; omega) (.int .i64 (s : Nat))).setCell (p := ⟨w.heap.size + 1, 1, none⟩) (by show w.heap.size ≤ w.heap.size + 1; omega) (.int .u64 (T : Nat))).setCell (p := ⟨w.heap.size + 1, 2, none⟩) (by show w.heap.size ≤ w.heap.size + 1; omega) (.int .u64 (F : Nat))).setCell (p := ⟨w.heap.size + 1, 3, none⟩) (by show w.heap.size ≤ w.heap.size + 1; omega) (.int .u64 (W : Nat)))
  go_wp2_with fail
  have k0 := T1.out.c0
  have k1 := T1.out.c1
  have k2 := T1.out.c2
  have k3 := T1.out.c3
  refine bodyPost_ret (v := .agg #[.int .i64 (s : Nat), .int .u64 (T : Nat), .int .u64 (F : Nat), .int .u64 (W : Nat)]) (by simp [results, Tryd.results56, go_sem, k0, k1, k2, k3]) rfl ?_
  exact ⟨rfl, Hb4.out⟩

set_option maxHeartbeats 2000000 in
theorem i_rec20 (hi : W < 18446744073709551616) (hj : E < 18446744073709551616) (hm : m < 18446744073709551616) : Calls Tryd.prog 56 #[.agg #[.int .i64 (s : Nat), .int .u64 (E : Nat), .int .u64 (B : Nat), .int .u64 (W : Nat)], .int .u64 (m : Nat), .int .i64 2, .int .i64 0] w fun e w' => e = .returned (.agg #[.int .i64 (s : Nat), .int .u64 ((E ||| m : Nat) : Nat), .int .u64 ((B : Nat) : Nat), .int .u64 ((W &&& (18446744073709551615 - m) : Nat) : Nat)]) ∧ Below w.heap.size w w' := by
  obtain ⟨F, hF⟩ : ∃ F, F = W &&& (18446744073709551615 - m) := ⟨_, rfl⟩
  obtain ⟨T, hT⟩ : ∃ T, T = E ||| m := ⟨_, rfl⟩
  have r1 : bits .andNot .u64 (W : Int) (m : Int) = (F : Int) := by rw [hF]; exact u64_andNot_nat _ _ (by omega) (by omega)
  have r2 : bits .or .u64 (E : Int) (m : Int) = (T : Int) := by rw [hT]; exact u64_or_nat _ _ (by omega) (by omega)
  rw [← hF, ← hT]
  clear hF hT hi hj hm
  have e1 : (w.alloc (.cells #[.int .i64 (s : Nat), .int .u64 (E : Nat), .int .u64 (B : Nat), .int .u64 (W : Nat)] 58)).heap.size = w.heap.size + 1 := by simp
  have p0 := (Px.new w (s : Nat) E B W).step ((Below.refl (w.alloc (.cells #[.int .i64 (s : Nat), .int .u64 (E : Nat), .int .u64 (B : Nat), .int .u64 (W : Nat)] 58)).heap.size (w.alloc (.cells #[.int .i64 (s : Nat), .int .u64 (E : Nat), .int .u64 (B : Nat), .int .u64 (W : Nat)] 58))).alloc (Nat.le_refl _) (.cells #[.int .i64 0, .int .u64 0, .int .u64 0, .int .u64 0] 58))
  have p1 := Px.new (w.alloc (.cells #[.int .i64 (s : Nat), .int .u64 (E : Nat), .int .u64 (B : Nat), .int .u64 (W : Nat)] 58)) 0 0 0 0
  have hb2 : Below w.heap.size w ((w.alloc (.cells #[.int .i64 (s : Nat), .int .u64 (E : Nat), .int .u64 (B : Nat), .int .u64 (W : Nat)] 58)).alloc (.cells #[.int .i64 0, .int .u64 0, .int .u64 0, .int .u64 0] 58)) := ((Below.refl _ _).alloc (Nat.le_refl _) _).alloc (by simp) _
  rw [e1] at p1
  obtain ⟨y, hy⟩ : ∃ y, y = (w.alloc (.cells #[.int .i64 (s : Nat), .int .u64 (E : Nat), .int .u64 (B : Nat), .int .u64 (W : Nat)] 58)).alloc (.cells #[.int .i64 0, .int .u64 0, .int .u64 0, .int .u64 0] 58) := ⟨_, rfl⟩
  have P0 : Hid (Px y w.heap.size (s : Nat) E B W) := Lib.hid (by rw [hy]; exact p0)
  have P1 : Hid (Px y (w.heap.size + 1) 0 0 0 0) := Lib.hid (by rw [hy]; exact p1)
  have Hb : Hid (Below w.heap.size w y) := Lib.hid (by rw [hy]; exact hb2)
  clear e1 p0 p1 hb2
  go_enter Tryd.func56, Tryd.ntmps56
  go_upto_region 1 with (fail)
  rw [← hy]
  clear hy
  have c := P0.out.c3
  have f := P0.out.fz 3
  have hz := P0.out.lt
  have hz1 := P1.out.lt
  go_upto_region 2 with (fail)
  obtain ⟨y2, hy2⟩ : ∃ y2, y2 = y.setCell ⟨w.heap.size, 3, none⟩ (.int .u64 (F : Nat)) := ⟨_, rfl⟩
  have P02 : Hid (Px y2 w.heap.size (s : Nat) E B F) := Lib.hid (by rw [hy2]; exact P0.out.set3 F)
  have P12 : Hid (Px y2 (w.heap.size + 1) 0 0 0 0) := Lib.hid (by rw [hy2]; exact P1.out.far (p := ⟨w.heap.size, 3, none⟩) (by show w.heap.size + 1 ≠ w.heap.size; omega) _)
  have Hb2 : Hid (Below w.heap.size w y2) := Lib.hid (by rw [hy2]; exact Hb.out.setCell (p := ⟨w.heap.size, 3, none⟩) (Nat.le_refl _) _)
  first | rw [← hy2] | rw [show (World.setCell y { block := w.heap.size, off := 3, view := none } _) = y2 from hy2.symm]
  clear hy2 c f hz hz1 P0 P1 Hb
  have c := P02.out.c1
  have f := P02.out.fz 1
  have hz := P02.out.lt
  have hz1 := P12.out.lt
  go_upto_region 3 with (fail)
  obtain ⟨y3, hy3⟩ : ∃ y3, y3 = y2.setCell ⟨w.heap.size, 1, none⟩ (.int .u64 (T : Nat)) := ⟨_, rfl⟩
  have P03 : Hid (Px y3 w.heap.size (s : Nat) T B F) := Lib.hid (by rw [hy3]; exact P02.out.set1 T)
  have P13 : Hid (Px y3 (w.heap.size + 1) 0 0 0 0) := Lib.hid (by rw [hy3]; exact P12.out.far (p := ⟨w.heap.size, 1, none⟩) (by show w.heap.size + 1 ≠ w.heap.size; omega) _)
  have Hb3 : Hid (Below w.heap.size w y3) := Lib.hid (by rw [hy3]; exact Hb2.out.setCell (p := ⟨w.heap.size, 1, none⟩) (Nat.le_refl _) _)
  rw [← hy3]
  clear hy3 c f hz hz1 P02 P12 Hb2
  have c0 := P03.out.c0
  have c1 := P03.out.c1
  have c2 := P03.out.c2
  have c3 := P03.out.c3
  have d0 := P13.out.c0
  have d1 := P13.out.c1
  have d2 := P13.out.c2
  have d3 := P13.out.c3
  have f0 := P13.out.fz 0
  have f1 := P13.out.fz 1
  have f2 := P13.out.fz 2
  have f3 := P13.out.fz 3
  have hlt := P13.out.lt
  have T1 : Hid (Px ((((y3.setCell ⟨w.heap.size + 1, 0, none⟩ (.int .i64 (s : Nat))).setCell ⟨w.heap.size + 1, 1, none⟩ (.int .u64 (T : Nat))).setCell ⟨w.heap.size + 1, 2, none⟩ (.int .u64 (B : Nat))).setCell ⟨w.heap.size + 1, 3, none⟩ (.int .u64 (F : Nat))) (w.heap.size + 1) (s : Nat) T B F) := Lib.hid ((((P13.out.set0 (s : Nat)).set1 T).set2 B).set3 F)
  have Hb4 := Lib.hid ((((Hb3.out.setCell (p := ⟨w.heap.size + 1, 0, none⟩) (by show w.heap.size ≤ w.heap.size + 1; omega) (.int .i64 (s : Nat))).setCell (p := ⟨w.heap.size + 1, 1, none⟩) (by show w.heap.size ≤ w.heap.size + 1; omega) (.int .u64 (T : Nat))).setCell (p := ⟨w.heap.size + 1, 2, none⟩) (by show w.heap.size ≤ w.heap.size + 1; omega) (.int .u64 (B : Nat))).setCell (p := ⟨w.heap.size + 1, 3, none⟩) (by show w.heap.size ≤ w.heap.size + 1; omega) (.int .u64 (F : Nat)))
  go_wp2_with fail
  have k0 := T1.out.c0
  have k1 := T1.out.c1
  have k2 := T1.out.c2
  have k3 := T1.out.c3
  refine bodyPost_ret (v := .agg #[.int .i64 (s : Nat), .int .u64 (T : Nat), .int .u64 (B : Nat), .int .u64 (F : Nat)]) (by simp [results, Tryd.results56, go_sem, k0, k1, k2, k3]) rfl ?_
  exact ⟨rfl, Hb4.out⟩

end
end Go.Proofs.YteldfjibmaigiaaDoor
