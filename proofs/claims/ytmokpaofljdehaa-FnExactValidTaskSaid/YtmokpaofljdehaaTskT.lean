/-
  A law's task is copied to the program's type.
-/
import Derived.Test.YtmokpaofljdehaaTsk
namespace Go.Proofs.Ytmokpaofljdehaa
set_option maxRecDepth 100000
open Go.RowKit

set_option maxRecDepth 100000 in
set_option maxHeartbeats 2000000 in
theorem x_toT (w : World) (s t : Int) (B B' : Nat) (A P : Option Addr) (n c m pc : Nat) (cs ps : List Int) (h : Ints w B A n cs) (h' : Ints w B' P m ps) (hB : B ≤ w.heap.size) (hB' : B' ≤ w.heap.size) (hn : n ≤ 1048576) (hm : m ≤ 1048576) :
    Calls Try.prog 13 #[.agg #[.int .i64 s, .slice A n c, .int .i64 t, .slice P m pc]] w fun e w' => ∃ A' c' P' pc', e = .returned (.agg #[.int .i64 s, .slice A' n c', .int .i64 t, .slice P' m pc']) ∧ Own w' w.heap.size A' n c' cs ∧ Own w' w.heap.size P' m pc' ps ∧ (∀ g, P' = some ⟨g, 0, none⟩ → A' ≠ some ⟨g, 0, none⟩) ∧ Below w.heap.size w w' := by
  obtain ⟨w1, hw1, hb1, z1, z1'⟩ := new_box w (.cells #[.int .i64 s, .slice A n c, .int .i64 t, .slice P m pc] 26)
  obtain ⟨w2, hw2, hb2, z2, z2'⟩ := new_box w1 (.cells #[.int .i64 0, .slice none 0 0, .int .i64 0, .slice none 0 0] 31)
  obtain ⟨w3, hw3, hb3, z3, z3'⟩ := new_box w2 (.cells #[.int .i64 0, .slice none 0 0, .int .i64 0, .slice none 0 0] 31)
  have s1 : w1.heap.size = w.heap.size + 1 := by omega
  have s2 : w2.heap.size = w.heap.size + 1 + 1 := by omega
  have v1 : Bt 26 w1 w.heap.size s (.slice A n c) t (.slice P m pc) := by rw [hw1]; exact Bt.new _ _ _ _ _ _
  have v2 : Bt 31 w2 (w.heap.size + 1) 0 (.slice none 0 0) 0 (.slice none 0 0) := by rw [hw2, ← s1]; exact Bt.new _ _ _ _ _ _
  have v3 : Bt 31 w3 (w.heap.size + 1 + 1) 0 (.slice none 0 0) 0 (.slice none 0 0) := by rw [hw3, ← s2]; exact Bt.new _ _ _ _ _ _
  have V := Lib.hid ((v1.below hb2 (by omega)).below hb3 (by omega))
  have R := Lib.hid (v2.below hb3 (by omega))
  have O := Lib.hid v3
  have bb := hb1.trans ((hb2.trans (hb3.mono (by omega))).mono (by omega))
  have H := Lib.hid (h.below bb hB)
  have H' := Lib.hid (h'.below bb hB')
  have Hb := Lib.hid bb
  have hw : w3 = ((w.alloc (.cells #[.int .i64 s, .slice A n c, .int .i64 t, .slice P m pc] 26)).alloc (.cells #[.int .i64 0, .slice none 0 0, .int .i64 0, .slice none 0 0] 31)).alloc (.cells #[.int .i64 0, .slice none 0 0, .int .i64 0, .slice none 0 0] 31) := by rw [hw3, hw2, hw1]
  clear h h' hb1 hb2 hb3 v1 v2 v3 bb hw1 hw2 hw3
  go_enter Try.func13, Try.ntmps13
  go_upto_region 2 with (fail)
  rw [← hw]
  clear hw
  have a0 := V.out.cell0
  have a1 := V.out.cell1
  go_wp2_with fail
  refine (x_toB _ s _ _ _ _ cs H.out (by omega) hn).mono ?_
  rintro e y ⟨A1, c1, rfl, ho, hb⟩
  have hz := hb.size
  have V := Lib.hid (V.out.below hb V.out.lt)
  have R := Lib.hid (R.out.below hb R.out.lt)
  have O := Lib.hid (O.out.below hb O.out.lt)
  have H' := Lib.hid (H'.out.below hb (by omega))
  have Ho := Lib.hid ho
  have Hb := Lib.hid (Hb.out.trans (hb.mono (by omega)))
  clear hb ho a0 a1 H
  have o0 := O.out.cell0
  have o1 := O.out.cell1
  have of := O.out.frozen 0
  have of1 := O.out.frozen 1
  have ol := O.out.lt
  go_upto_region 3 with (fail)
  obtain ⟨y3, hy3⟩ : ∃ y3, y3 = (y.setCell ⟨w.heap.size + 1 + 1, 0, none⟩ (.int .i64 s)).setCell ⟨w.heap.size + 1 + 1, 1, none⟩ (.slice A1 n c1) := ⟨_, rfl⟩
  have hbs : Below (w.heap.size + 1 + 1) y y3 := by rw [hy3]; exact ((Below.refl _ _).setCell (p := ⟨w.heap.size + 1 + 1, 0, none⟩) (Nat.le_refl _) _).setCell (p := ⟨w.heap.size + 1 + 1, 1, none⟩) (Nat.le_refl _) _
  have O3 : Hid (Bt 31 y3 (w.heap.size + 1 + 1) s (.slice A1 n c1) 0 (.slice none 0 0)) := Lib.hid (by rw [hy3]; exact (O.out.set0 s).set1 _)
  have fo : ∀ g, A1 = some ⟨g, 0, none⟩ → g ≠ w.heap.size + 1 + 1 := fun g hA => by have := (Ho.out.ge hA).1; omega
  have Ho3 : Hid (Own y3 w3.heap.size A1 n c1 cs) := Lib.hid (by rw [hy3]; exact (Ho.out.far ⟨w.heap.size + 1 + 1, 0, none⟩ fo _).far ⟨w.heap.size + 1 + 1, 1, none⟩ fo _)
  rw [← hy3]
  have V := Lib.hid (V.out.below hbs (by omega))
  have R := Lib.hid (R.out.below hbs (by omega))
  have H' := Lib.hid (H'.out.below hbs (by omega))
  have Hb := Lib.hid (Hb.out.trans (hbs.mono (by omega)))
  have hz3 := hbs.size
  clear hy3 hbs o0 o1 of of1 ol O Ho
  have v2 := V.out.cell2
  have o2 := O3.out.cell2
  have of := O3.out.frozen 2
  have ol := O3.out.lt
  go_upto_region 4 with (fail)
  obtain ⟨y4, hy4⟩ : ∃ y4, y4 = y3.setCell ⟨w.heap.size + 1 + 1, 2, none⟩ (.int .i64 t) := ⟨_, rfl⟩
  have hbs : Below (w.heap.size + 1 + 1) y3 y4 := by rw [hy4]; exact (Below.refl _ _).setCell (p := ⟨w.heap.size + 1 + 1, 2, none⟩) (Nat.le_refl _) _
  have O4 : Hid (Bt 31 y4 (w.heap.size + 1 + 1) s (.slice A1 n c1) t (.slice none 0 0)) := Lib.hid (by rw [hy4]; exact O3.out.set2 t)
  have Ho4 : Hid (Own y4 w3.heap.size A1 n c1 cs) := Lib.hid (by rw [hy4]; exact Ho3.out.far ⟨w.heap.size + 1 + 1, 2, none⟩ fo _)
  rw [← hy4]
  have V := Lib.hid (V.out.below hbs (by omega))
  have R := Lib.hid (R.out.below hbs (by omega))
  have H' := Lib.hid (H'.out.below hbs (by omega))
  have Hb := Lib.hid (Hb.out.trans (hbs.mono (by omega)))
  have hz4 := hbs.size
  clear hy4 hbs o2 of ol v2 O3 Ho3
  have v3 := V.out.cell3
  go_wp2_with fail
  refine (x_copy _ _ _ _ _ ps H'.out (by omega) hm).mono ?_
  rintro e y5 ⟨P1, pc1, rfl, ho, hb⟩
  have hz5 := hb.size
  have R := Lib.hid (R.out.below hb R.out.lt)
  have O := Lib.hid (O4.out.below hb O4.out.lt)
  have HoA := Lib.hid (Ho4.out.below hb)
  have HoP := Lib.hid ho
  have Hne : Hid (∀ g, P1 = some ⟨g, 0, none⟩ → A1 ≠ some ⟨g, 0, none⟩) := Lib.hid (fun g hP hA => by have := (ho.ge hP).1; have := (Ho4.out.ge hA).2; omega)
  have Hb := Lib.hid (Hb.out.trans (hb.mono (by omega)))
  have fp : ∀ g, P1 = some ⟨g, 0, none⟩ → g ≠ w.heap.size + 1 + 1 ∧ g ≠ w.heap.size + 1 := fun g hP => by have := (ho.ge hP).1; omega
  have fa : ∀ g, A1 = some ⟨g, 0, none⟩ → g ≠ w.heap.size + 1 + 1 ∧ g ≠ w.heap.size + 1 := fun g hA => by have := (HoA.out.ge hA).1; omega
  have Fp := Lib.hid fp
  have Fa := Lib.hid fa
  clear hb ho v3 O4 Ho4 H' V fo fp fa
  have o3 := O.out.cell3
  have of := O.out.frozen 3
  have ol := O.out.lt
  go_upto_region 5 with (fail)
  obtain ⟨y6, hy6⟩ : ∃ y6, y6 = y5.setCell ⟨w.heap.size + 1 + 1, 3, none⟩ (.slice P1 m pc1) := ⟨_, rfl⟩
  have hbs : Below (w.heap.size + 1 + 1) y5 y6 := by rw [hy6]; exact (Below.refl _ _).setCell (p := ⟨w.heap.size + 1 + 1, 3, none⟩) (Nat.le_refl _) _
  have O6 : Hid (Bt 31 y6 (w.heap.size + 1 + 1) s (.slice A1 n c1) t (.slice P1 m pc1)) := Lib.hid (by rw [hy6]; exact O.out.set3 _)
  have HoA6 : Hid (Own y6 w3.heap.size A1 n c1 cs) := Lib.hid (by rw [hy6]; exact HoA.out.far ⟨w.heap.size + 1 + 1, 3, none⟩ (fun g h => (Fa.out g h).1) _)
  have HoP6 : Hid (Own y6 y4.heap.size P1 m pc1 ps) := Lib.hid (by rw [hy6]; exact HoP.out.far ⟨w.heap.size + 1 + 1, 3, none⟩ (fun g h => (Fp.out g h).1) _)
  rw [← hy6]
  have R := Lib.hid (R.out.below hbs (by omega))
  have Hb := Lib.hid (Hb.out.trans (hbs.mono (by omega)))
  clear hy6 hbs o3 of ol O HoA HoP
  have p0 := O6.out.cell0
  have p1 := O6.out.cell1
  have p2 := O6.out.cell2
  have p3 := O6.out.cell3
  have pl := O6.out.lt
  have r0 := R.out.cell0
  have r1 := R.out.cell1
  have r2 := R.out.cell2
  have r3 := R.out.cell3
  have f0 := R.out.frozen 0
  have f1 := R.out.frozen 1
  have f2 := R.out.frozen 2
  have f3 := R.out.frozen 3
  have rl := R.out.lt
  have R' := (((R.out.set0 s).set1 (.slice A1 n c1)).set2 t).set3 (.slice P1 m pc1)
  have K0 := Lib.hid R'.cell0
  have K1 := Lib.hid R'.cell1
  have K2 := Lib.hid R'.cell2
  have K3 := Lib.hid R'.cell3
  have HbE := Lib.hid ((((Hb.out.setCell (p := ⟨w.heap.size + 1, 0, none⟩) (by show w.heap.size ≤ w.heap.size + 1; omega) (.int .i64 s)).setCell (p := ⟨w.heap.size + 1, 1, none⟩) (by show w.heap.size ≤ w.heap.size + 1; omega) (.slice A1 n c1)).setCell (p := ⟨w.heap.size + 1, 2, none⟩) (by show w.heap.size ≤ w.heap.size + 1; omega) (.int .i64 t)).setCell (p := ⟨w.heap.size + 1, 3, none⟩) (by show w.heap.size ≤ w.heap.size + 1; omega) (.slice P1 m pc1))
  have EA := Lib.hid ((((HoA6.out.far ⟨w.heap.size + 1, 0, none⟩ (fun g h => (Fa.out g h).2) (.int .i64 s)).far ⟨w.heap.size + 1, 1, none⟩ (fun g h => (Fa.out g h).2) (.slice A1 n c1)).far ⟨w.heap.size + 1, 2, none⟩ (fun g h => (Fa.out g h).2) (.int .i64 t)).far ⟨w.heap.size + 1, 3, none⟩ (fun g h => (Fa.out g h).2) (.slice P1 m pc1))
  have EP := Lib.hid ((((HoP6.out.far ⟨w.heap.size + 1, 0, none⟩ (fun g h => (Fp.out g h).2) (.int .i64 s)).far ⟨w.heap.size + 1, 1, none⟩ (fun g h => (Fp.out g h).2) (.slice A1 n c1)).far ⟨w.heap.size + 1, 2, none⟩ (fun g h => (Fp.out g h).2) (.int .i64 t)).far ⟨w.heap.size + 1, 3, none⟩ (fun g h => (Fp.out g h).2) (.slice P1 m pc1))
  clear R'
  go_wp2_with fail
  have k0 := K0.out
  have k1 := K1.out
  have k2 := K2.out
  have k3 := K3.out
  refine bodyPost_ret (v := .agg #[.int .i64 s, .slice A1 n c1, .int .i64 t, .slice P1 m pc1]) (by simp [results, Try.results13, go_sem, k0, k1, k2, k3]) rfl ?_
  exact ⟨_, _, _, _, rfl, EA.out.weaken (by omega), EP.out.weaken (by omega), Hne.out, HbE.out⟩
end Go.Proofs.Ytmokpaofljdehaa
