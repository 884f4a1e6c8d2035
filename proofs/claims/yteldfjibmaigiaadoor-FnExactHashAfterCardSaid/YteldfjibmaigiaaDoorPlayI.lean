/-
  The program's 'play' on sets of bits.
-/
import Derived.Test.YteldfjibmaigiaaDoorRec
import Derived.Test.YteldfjibmaigiaaDoorAro
namespace Go.Proofs.YteldfjibmaigiaaDoor
set_option maxRecDepth 100000
open Go.RowKit

/-- What the two errors' variables hold. -/
def Errs (w : World) (v0 v1 : Value) : Prop := w.cell? ⟨0, 0, none⟩ = some v0 ∧ w.cell? ⟨1, 0, none⟩ = some v1 ∧ 0 < w.heap.size ∧ 1 < w.heap.size
theorem Errs.below {w w' : World} {v0 v1 : Value} (h : Errs w v0 v1) (hb : Below w.heap.size w w') : Errs w' v0 v1 :=
  ⟨(hb.cell (p := ⟨_, 0, none⟩) h.2.2.1).trans h.1, (hb.cell (p := ⟨_, 0, none⟩) h.2.2.2).trans h.2.1, Nat.lt_of_lt_of_le h.2.2.1 hb.size, Nat.lt_of_lt_of_le h.2.2.2 hb.size⟩

section
variable (s p P E M O E1 M1 m1 E2 O2 m2 E3 M3 G : Nat) (su : Bool) (w : World) (v0 v1 : Value)
set_option maxRecDepth 100000 in
set_option maxHeartbeats 8000000 in
theorem i_playA1 (b1 b2 : Bool) (CO : Hid (∀ w, Calls Tryd.prog 54 #[.int .i64 (p : Nat)] w fun e w' => e = .returned (.int .u64 (P : Nat)) ∧ w = w'))
    (CR1 : Hid (b1 = false → ∀ w, Calls Tryd.prog 56 #[.agg #[.int .i64 (s : Nat), .int .u64 (E : Nat), .int .u64 (M : Nat), .int .u64 (O : Nat)], .int .u64 (P : Nat), .int .i64 0, .int .i64 1] w fun e w' => e = .returned (.agg #[.int .i64 (s : Nat), .int .u64 (E1 : Nat), .int .u64 (M1 : Nat), .int .u64 (O : Nat)]) ∧ Below w.heap.size w w'))
    (CW1 : Hid (b1 = false → ∀ w, Calls Tryd.prog 57 #[.agg #[.int .i64 (s : Nat), .int .u64 (E1 : Nat), .int .u64 (M1 : Nat), .int .u64 (O : Nat)], .int .i64 2] w fun e w' => e = .returned (.int .u64 (m1 : Nat)) ∧ Below w.heap.size w w'))
    (CR2 : Hid (b1 = false → ∀ w, Calls Tryd.prog 56 #[.agg #[.int .i64 (s : Nat), .int .u64 (E1 : Nat), .int .u64 (M1 : Nat), .int .u64 (O : Nat)], .int .u64 (m1 : Nat), .int .i64 2, .int .i64 0] w fun e w' => e = .returned (.agg #[.int .i64 (s : Nat), .int .u64 (E2 : Nat), .int .u64 (M1 : Nat), .int .u64 (O2 : Nat)]) ∧ Below w.heap.size w w'))
    (CW2 : Hid (b1 = false → ∀ w, Calls Tryd.prog 57 #[.agg #[.int .i64 (s : Nat), .int .u64 (E2 : Nat), .int .u64 (M1 : Nat), .int .u64 (O2 : Nat)], .int .i64 1] w fun e w' => e = .returned (.int .u64 (m2 : Nat)) ∧ Below w.heap.size w w'))
    (CR3 : Hid (b1 = false → ∀ w, Calls Tryd.prog 56 #[.agg #[.int .i64 (s : Nat), .int .u64 (E2 : Nat), .int .u64 (M1 : Nat), .int .u64 (O2 : Nat)], .int .u64 (m2 : Nat), .int .i64 1, .int .i64 0] w fun e w' => e = .returned (.agg #[.int .i64 (s : Nat), .int .u64 (E3 : Nat), .int .u64 (M3 : Nat), .int .u64 (O2 : Nat)]) ∧ Below w.heap.size w w'))
    (T1 : Hid ((bits .and .u64 (E : Int) (P : Int) == 0) = b1)) (T2 : Hid ((bits .and .u64 (m2 : Int) (P : Int) == 0) = b2)) (T3 : Hid (bits .or .u64 (m1 : Int) (m2 : Int) = (G : Int)))
    (hg : Errs w v0 v1) :
    Calls Tryd.prog 33 #[.agg #[.int .i64 (s : Nat), .int .u64 (E : Nat), .int .u64 (M : Nat), .int .u64 (O : Nat)], .int .i64 1, .int .i64 (p : Nat), .bool su] w fun e w' =>
      e = .returned (bif b1 then .tuple #[.agg #[.int .i64 0, .int .u64 0, .int .u64 0, .int .u64 0], .int .u64 0, v0] else bif b2 then .tuple #[.agg #[.int .i64 (s : Nat), .int .u64 (E2 : Nat), .int .u64 (M1 : Nat), .int .u64 (O2 : Nat)], .int .u64 (m1 : Nat), .nilIface] else bif su then .tuple #[.agg #[.int .i64 (s : Nat), .int .u64 (E3 : Nat), .int .u64 (M3 : Nat), .int .u64 (O2 : Nat)], .int .u64 (G : Nat), .nilIface] else .tuple #[.agg #[.int .i64 0, .int .u64 0, .int .u64 0, .int .u64 0], .int .u64 0, v1]) ∧ Below w.heap.size w w' := by
  have e1 : (w.alloc (.cells #[.int .i64 (s : Nat), .int .u64 (E : Nat), .int .u64 (M : Nat), .int .u64 (O : Nat)] 58)).heap.size = w.heap.size + 1 := by simp
  have p0 := (Px.new w (s : Nat) E M O).step ((Below.refl (w.alloc (.cells #[.int .i64 (s : Nat), .int .u64 (E : Nat), .int .u64 (M : Nat), .int .u64 (O : Nat)] 58)).heap.size (w.alloc (.cells #[.int .i64 (s : Nat), .int .u64 (E : Nat), .int .u64 (M : Nat), .int .u64 (O : Nat)] 58))).alloc (Nat.le_refl _) (.cells #[.int .i64 0, .int .u64 0, .int .u64 0, .int .u64 0] 58))
  have p1 := Px.new (w.alloc (.cells #[.int .i64 (s : Nat), .int .u64 (E : Nat), .int .u64 (M : Nat), .int .u64 (O : Nat)] 58)) 0 0 0 0
  have hb2 : Below w.heap.size w ((w.alloc (.cells #[.int .i64 (s : Nat), .int .u64 (E : Nat), .int .u64 (M : Nat), .int .u64 (O : Nat)] 58)).alloc (.cells #[.int .i64 0, .int .u64 0, .int .u64 0, .int .u64 0] 58)) := ((Below.refl _ _).alloc (Nat.le_refl _) _).alloc (by simp) _
  rw [e1] at p1
  obtain ⟨y, hy⟩ : ∃ y, y = (w.alloc (.cells #[.int .i64 (s : Nat), .int .u64 (E : Nat), .int .u64 (M : Nat), .int .u64 (O : Nat)] 58)).alloc (.cells #[.int .i64 0, .int .u64 0, .int .u64 0, .int .u64 0] 58) := ⟨_, rfl⟩
  have P0 : Hid (Px y w.heap.size (s : Nat) E M O) := Lib.hid (by rw [hy]; exact p0)
  have P1 : Hid (Px y (w.heap.size + 1) 0 0 0 0) := Lib.hid (by rw [hy]; exact p1)
  have Hb : Hid (Below w.heap.size w y) := Lib.hid (by rw [hy]; exact hb2)
  have HG := Lib.hid hg
  clear e1 p0 p1 hb2 hg
  go_enter Tryd.func33, Tryd.ntmps33
  go_upto_region 1 with (fail)
  rw [← hy]
  clear hy
  go_wp2_with fail
  refine (CO.out _).mono ?_
  rintro e w' ⟨rfl, rfl⟩
  have c0 := P0.out.c0
  have c1 := P0.out.c1
  have c2 := P0.out.c2
  have c3 := P0.out.c3
  have hz := P0.out.lt
  have hz1 := P1.out.lt
  cases b1
  · have t1 := T1.out
    go_wp2_with fail
    refine (i_oth1 _).mono ?_
    rintro e w' ⟨rfl, rfl⟩
    go_wp2_with fail
    refine (CR1.out (by trivial) _).mono ?_
    rintro e y2 ⟨rfl, hb⟩
    have P1 := Lib.hid (P1.out.step hb)
    have Hb := Lib.hid (Hb.out.trans (hb.mono Hb.out.size))
    have P1q := Lib.hid P1.out.lt
    clear hb c0 c1 c2 c3 hz hz1 t1 P0
    go_upto_region 6 with (fail)
    obtain ⟨y3, hy3⟩ : ∃ y3, y3 = y2.alloc (.cells #[.int .i64 (s : Nat), .int .u64 (E1 : Nat), .int .u64 (M1 : Nat), .int .u64 (O : Nat)] 58) := ⟨_, rfl⟩
    have P2 : Hid (Px y3 y2.heap.size (s : Nat) E1 M1 O) := Lib.hid (by rw [hy3]; exact Px.new _ _ _ _ _)
    have hb3 : Below y2.heap.size y2 y3 := by rw [hy3]; exact (Below.refl _ _).alloc (Nat.le_refl _) _
    have P1 := Lib.hid (P1.out.step hb3)
    have Hb := Lib.hid (Hb.out.trans (hb3.mono Hb.out.size))
    have hq : w.heap.size + 1 < y2.heap.size := by have := P1q.out; omega
    rw [← hy3]
    clear hy3 hb3
    have c0 := P2.out.c0
    have c1 := P2.out.c1
    have c2 := P2.out.c2
    have c3 := P2.out.c3
    have hz2 := P2.out.lt
    go_wp2_with fail
    refine (CW1.out (by trivial) _).mono ?_
    rintro e y4 ⟨rfl, hb⟩
    have P1 := Lib.hid (P1.out.step hb)
    have P2 := Lib.hid (P2.out.step hb)
    have Hb := Lib.hid (Hb.out.trans (hb.mono Hb.out.size))
    clear hb c0 c1 c2 c3 hz2
    have c0 := P2.out.c0
    have c1 := P2.out.c1
    have c2 := P2.out.c2
    have c3 := P2.out.c3
    have hz2 := P2.out.lt
    go_wp2_with fail
    refine (CR2.out (by trivial) _).mono ?_
    rintro e y5 ⟨rfl, hb⟩
    have P1 := Lib.hid (P1.out.step hb)
    have P2 := Lib.hid (P2.out.step hb)
    have Hb := Lib.hid (Hb.out.trans (hb.mono Hb.out.size))
    clear hb c0 c1 c2 c3 hz2
    have c0 := P2.out.c0
    have c1 := P2.out.c1
    have c2 := P2.out.c2
    have c3 := P2.out.c3
    have f0 := P2.out.fz 0
    have f1 := P2.out.fz 1
    have f2 := P2.out.fz 2
    have f3 := P2.out.fz 3
    have hz2 := P2.out.lt
    go_upto_region 8 with (fail)
    obtain ⟨y6, hy6⟩ : ∃ y6, y6 = ((((y5.setCell ⟨y2.heap.size, 0, none⟩ (.int .i64 (s : Nat))).setCell ⟨y2.heap.size, 1, none⟩ (.int .u64 (E2 : Nat))).setCell ⟨y2.heap.size, 2, none⟩ (.int .u64 (M1 : Nat))).setCell ⟨y2.heap.size, 3, none⟩ (.int .u64 (O2 : Nat))) := ⟨_, rfl⟩
    have P1 : Hid (Px y6 (w.heap.size + 1) 0 0 0 0) := Lib.hid (by rw [hy6]; exact ((((P1.out.far (p := ⟨y2.heap.size, 0, none⟩) (by show w.heap.size + 1 ≠ y2.heap.size; omega) (.int .i64 (s : Nat))).far (p := ⟨y2.heap.size, 1, none⟩) (by show w.heap.size + 1 ≠ y2.heap.size; omega) (.int .u64 (E2 : Nat))).far (p := ⟨y2.heap.size, 2, none⟩) (by show w.heap.size + 1 ≠ y2.heap.size; omega) (.int .u64 (M1 : Nat))).far (p := ⟨y2.heap.size, 3, none⟩) (by show w.heap.size + 1 ≠ y2.heap.size; omega) (.int .u64 (O2 : Nat))))
    have P2 : Hid (Px y6 y2.heap.size (s : Nat) E2 M1 O2) := Lib.hid (by rw [hy6]; exact (((P2.out.set0 (s : Nat)).set1 E2).set2 M1).set3 O2)
    have Hb : Hid (Below w.heap.size w y6) := Lib.hid (by rw [hy6]; exact ((((Hb.out.setCell (p := ⟨y2.heap.size, 0, none⟩) (by show w.heap.size ≤ y2.heap.size; omega) (.int .i64 (s : Nat))).setCell (p := ⟨y2.heap.size, 1, none⟩) (by show w.heap.size ≤ y2.heap.size; omega) (.int .u64 (E2 : Nat))).setCell (p := ⟨y2.heap.size, 2, none⟩) (by show w.heap.size ≤ y2.heap.size; omega) (.int .u64 (M1 : Nat))).setCell (p := ⟨y2.heap.size, 3, none⟩) (by show w.heap.size ≤ y2.heap.size; omega) (.int .u64 (O2 : Nat))))
    rw [← hy6]
    clear hy6 c0 c1 c2 c3 f0 f1 f2 f3 hz2
    have c0 := P2.out.c0
    have c1 := P2.out.c1
    have c2 := P2.out.c2
    have c3 := P2.out.c3
    have hz2 := P2.out.lt
    go_wp2_with fail
    refine (CW2.out (by trivial) _).mono ?_
    rintro e y7 ⟨rfl, hb⟩
    have P1 := Lib.hid (P1.out.step hb)
    have P2 := Lib.hid (P2.out.step hb)
    have Hb := Lib.hid (Hb.out.trans (hb.mono Hb.out.size))
    have HE := HG.out.below Hb.out
    clear hb c0 c1 c2 c3 hz2
    have c0 := P2.out.c0
    have c1 := P2.out.c1
    have c2 := P2.out.c2
    have c3 := P2.out.c3
    have hz2 := P2.out.lt
    have d0 := P1.out.c0
    have d1 := P1.out.c1
    have d2 := P1.out.c2
    have d3 := P1.out.c3
    have f0 := P1.out.fz 0
    have f1 := P1.out.fz 1
    have f2 := P1.out.fz 2
    have f3 := P1.out.fz 3
    have hz1 := P1.out.lt
    have t2 := T2.out
    cases b2
    · cases su
      · have g0 := HE.1
        have g1 := HE.2.1
        have hb4 := ((((Hb.out.setCell (p := ⟨w.heap.size + 1, 0, none⟩) (by show w.heap.size ≤ w.heap.size + 1; omega) (.int .i64 0)).setCell (p := ⟨w.heap.size + 1, 1, none⟩) (by show w.heap.size ≤ w.heap.size + 1; omega) (.int .u64 0)).setCell (p := ⟨w.heap.size + 1, 2, none⟩) (by show w.heap.size ≤ w.heap.size + 1; omega) (.int .u64 0)).setCell (p := ⟨w.heap.size + 1, 3, none⟩) (by show w.heap.size ≤ w.heap.size + 1; omega) (.int .u64 0))
        have Hb4 := Lib.hid hb4
        have K : Hid (Px ((((y7.setCell ⟨w.heap.size + 1, 0, none⟩ (.int .i64 0)).setCell ⟨w.heap.size + 1, 1, none⟩ (.int .u64 0)).setCell ⟨w.heap.size + 1, 2, none⟩ (.int .u64 0)).setCell ⟨w.heap.size + 1, 3, none⟩ (.int .u64 0)) (w.heap.size + 1) 0 0 0 0) := Lib.hid ((((P1.out.set0 0).set1 0).set2 0).set3 0)
        have hgl := HG.out.2.2.2
        have hne1 : ¬ (w.heap.size + 1 = 1) := by omega
        have g2 : (y7.setCell ⟨w.heap.size + 1, 0, none⟩ (.int .i64 0)).cell? ⟨1, 0, none⟩ = some v1 := by
          have hh := Below.heap_setCell y7 ⟨w.heap.size + 1, 0, none⟩ (.int .i64 0) 1 (by show _ ≠ w.heap.size + 1; omega)
          unfold World.cell? at g1 ⊢
          rw [hh]
          exact g1
        clear hb4 HE
        go_wp2_with fail
        go_region
        all_goals
          go_wp2_with fail
          have k0 := K.out.c0
          have k1 := K.out.c1
          have k2 := K.out.c2
          have k3 := K.out.c3
          refine bodyPost_ret (v := .tuple #[.agg #[.int .i64 0, .int .u64 0, .int .u64 0, .int .u64 0], .int .u64 0, v1]) (by simp [results, Tryd.results33, go_sem, k0, k1, k2, k3]) rfl ?_
          exact ⟨rfl, ⟨Hb4.out.os, Hb4.out.tape, Hb4.out.output, Hb4.out.size, Hb4.out.block⟩⟩
      · go_wp2_with fail
        refine (CR3.out (by trivial) _).mono ?_
        rintro e y8 ⟨rfl, hb⟩
        have P1 := Lib.hid (P1.out.step hb)
        have Hb := Lib.hid (Hb.out.trans (hb.mono Hb.out.size))
        clear hb c0 c1 c2 c3 hz2 d0 d1 d2 d3 f0 f1 f2 f3 hz1 HE t2
        have d0 := P1.out.c0
        have d1 := P1.out.c1
        have d2 := P1.out.c2
        have d3 := P1.out.c3
        have f0 := P1.out.fz 0
        have f1 := P1.out.fz 1
        have f2 := P1.out.fz 2
        have f3 := P1.out.fz 3
        have hz1 := P1.out.lt
        have t3 := T3.out
        have Hb4 := Lib.hid (((((Hb.out.setCell (p := ⟨w.heap.size + 1, 0, none⟩) (by show w.heap.size ≤ w.heap.size + 1; omega) (.int .i64 (s : Nat))).setCell (p := ⟨w.heap.size + 1, 1, none⟩) (by show w.heap.size ≤ w.heap.size + 1; omega) (.int .u64 (E3 : Nat))).setCell (p := ⟨w.heap.size + 1, 2, none⟩) (by show w.heap.size ≤ w.heap.size + 1; omega) (.int .u64 (M3 : Nat))).setCell (p := ⟨w.heap.size + 1, 3, none⟩) (by show w.heap.size ≤ w.heap.size + 1; omega) (.int .u64 (O2 : Nat))))
        have K : Hid (Px ((((y8.setCell ⟨w.heap.size + 1, 0, none⟩ (.int .i64 (s : Nat))).setCell ⟨w.heap.size + 1, 1, none⟩ (.int .u64 (E3 : Nat))).setCell ⟨w.heap.size + 1, 2, none⟩ (.int .u64 (M3 : Nat))).setCell ⟨w.heap.size + 1, 3, none⟩ (.int .u64 (O2 : Nat))) (w.heap.size + 1) (s : Nat) E3 M3 O2) := Lib.hid ((((P1.out.set0 (s : Nat)).set1 E3).set2 M3).set3 O2)
        go_wp2_with fail
        have k0 := K.out.c0
        have k1 := K.out.c1
        have k2 := K.out.c2
        have k3 := K.out.c3
        refine bodyPost_ret (v := .tuple #[.agg #[.int .i64 (s : Nat), .int .u64 (E3 : Nat), .int .u64 (M3 : Nat), .int .u64 (O2 : Nat)], .int .u64 (G : Nat), .nilIface]) (by simp [results, Tryd.results33, go_sem, k0, k1, k2, k3]) rfl ?_
        exact ⟨rfl, Hb4.out⟩
    · have Hb4 := Lib.hid (((((Hb.out.setCell (p := ⟨w.heap.size + 1, 0, none⟩) (by show w.heap.size ≤ w.heap.size + 1; omega) (.int .i64 (s : Nat))).setCell (p := ⟨w.heap.size + 1, 1, none⟩) (by show w.heap.size ≤ w.heap.size + 1; omega) (.int .u64 (E2 : Nat))).setCell (p := ⟨w.heap.size + 1, 2, none⟩) (by show w.heap.size ≤ w.heap.size + 1; omega) (.int .u64 (M1 : Nat))).setCell (p := ⟨w.heap.size + 1, 3, none⟩) (by show w.heap.size ≤ w.heap.size + 1; omega) (.int .u64 (O2 : Nat))))
      have K : Hid (Px ((((y7.setCell ⟨w.heap.size + 1, 0, none⟩ (.int .i64 (s : Nat))).setCell ⟨w.heap.size + 1, 1, none⟩ (.int .u64 (E2 : Nat))).setCell ⟨w.heap.size + 1, 2, none⟩ (.int .u64 (M1 : Nat))).setCell ⟨w.heap.size + 1, 3, none⟩ (.int .u64 (O2 : Nat))) (w.heap.size + 1) (s : Nat) E2 M1 O2) := Lib.hid ((((P1.out.set0 (s : Nat)).set1 E2).set2 M1).set3 O2)
      clear HE
      go_wp2_with fail
      have k0 := K.out.c0
      have k1 := K.out.c1
      have k2 := K.out.c2
      have k3 := K.out.c3
      refine bodyPost_ret (v := .tuple #[.agg #[.int .i64 (s : Nat), .int .u64 (E2 : Nat), .int .u64 (M1 : Nat), .int .u64 (O2 : Nat)], .int .u64 (m1 : Nat), .nilIface]) (by simp [results, Tryd.results33, go_sem, k0, k1, k2, k3]) rfl ?_
      exact ⟨rfl, Hb4.out⟩
  · have t1 := T1.out
    have HE := HG.out.below Hb.out
    have g0 := HE.1
    have g1 := HE.2.1
    have d0 := P1.out.c0
    have d1 := P1.out.c1
    have d2 := P1.out.c2
    have d3 := P1.out.c3
    have f0 := P1.out.fz 0
    have f1 := P1.out.fz 1
    have f2 := P1.out.fz 2
    have f3 := P1.out.fz 3
    have hb4 := ((((Hb.out.setCell (p := ⟨w.heap.size + 1, 0, none⟩) (by show w.heap.size ≤ w.heap.size + 1; omega) (.int .i64 0)).setCell (p := ⟨w.heap.size + 1, 1, none⟩) (by show w.heap.size ≤ w.heap.size + 1; omega) (.int .u64 0)).setCell (p := ⟨w.heap.size + 1, 2, none⟩) (by show w.heap.size ≤ w.heap.size + 1; omega) (.int .u64 0)).setCell (p := ⟨w.heap.size + 1, 3, none⟩) (by show w.heap.size ≤ w.heap.size + 1; omega) (.int .u64 0))
    have Hb4 := Lib.hid hb4
    have K : Hid (Px ((((y.setCell ⟨w.heap.size + 1, 0, none⟩ (.int .i64 0)).setCell ⟨w.heap.size + 1, 1, none⟩ (.int .u64 0)).setCell ⟨w.heap.size + 1, 2, none⟩ (.int .u64 0)).setCell ⟨w.heap.size + 1, 3, none⟩ (.int .u64 0)) (w.heap.size + 1) 0 0 0 0) := Lib.hid ((((P1.out.set0 0).set1 0).set2 0).set3 0)
    clear hb4 HE
    go_wp2_with fail
    go_region
    all_goals
      go_wp2_with fail
      have k0 := K.out.c0
      have k1 := K.out.c1
      have k2 := K.out.c2
      have k3 := K.out.c3
      refine bodyPost_ret (v := .tuple #[.agg #[.int .i64 0, .int .u64 0, .int .u64 0, .int .u64 0], .int .u64 0, v0]) (by simp [results, Tryd.results33, go_sem, k0, k1, k2, k3]) rfl ?_
      exact ⟨rfl, ⟨Hb4.out.os, Hb4.out.tape, Hb4.out.output, Hb4.out.size, Hb4.out.block⟩⟩
set_option maxRecDepth 100000 in
set_option maxHeartbeats 8000000 in
theorem i_playA2 (b1 b2 : Bool) (CO : Hid (∀ w, Calls Tryd.prog 54 #[.int .i64 (p : Nat)] w fun e w' => e = .returned (.int .u64 (P : Nat)) ∧ w = w'))
    (CR1 : Hid (b1 = false → ∀ w, Calls Tryd.prog 56 #[.agg #[.int .i64 (s : Nat), .int .u64 (E : Nat), .int .u64 (O : Nat), .int .u64 (M : Nat)], .int .u64 (P : Nat), .int .i64 0, .int .i64 2] w fun e w' => e = .returned (.agg #[.int .i64 (s : Nat), .int .u64 (E1 : Nat), .int .u64 (O : Nat), .int .u64 (M1 : Nat)]) ∧ Below w.heap.size w w'))
    (CW1 : Hid (b1 = false → ∀ w, Calls Tryd.prog 57 #[.agg #[.int .i64 (s : Nat), .int .u64 (E1 : Nat), .int .u64 (O : Nat), .int .u64 (M1 : Nat)], .int .i64 1] w fun e w' => e = .returned (.int .u64 (m1 : Nat)) ∧ Below w.heap.size w w'))
    (CR2 : Hid (b1 = false → ∀ w, Calls Tryd.prog 56 #[.agg #[.int .i64 (s : Nat), .int .u64 (E1 : Nat), .int .u64 (O : Nat), .int .u64 (M1 : Nat)], .int .u64 (m1 : Nat), .int .i64 1, .int .i64 0] w fun e w' => e = .returned (.agg #[.int .i64 (s : Nat), .int .u64 (E2 : Nat), .int .u64 (O2 : Nat), .int .u64 (M1 : Nat)]) ∧ Below w.heap.size w w'))
    (CW2 : Hid (b1 = false → ∀ w, Calls Tryd.prog 57 #[.agg #[.int .i64 (s : Nat), .int .u64 (E2 : Nat), .int .u64 (O2 : Nat), .int .u64 (M1 : Nat)], .int .i64 2] w fun e w' => e = .returned (.int .u64 (m2 : Nat)) ∧ Below w.heap.size w w'))
    (CR3 : Hid (b1 = false → ∀ w, Calls Tryd.prog 56 #[.agg #[.int .i64 (s : Nat), .int .u64 (E2 : Nat), .int .u64 (O2 : Nat), .int .u64 (M1 : Nat)], .int .u64 (m2 : Nat), .int .i64 2, .int .i64 0] w fun e w' => e = .returned (.agg #[.int .i64 (s : Nat), .int .u64 (E3 : Nat), .int .u64 (O2 : Nat), .int .u64 (M3 : Nat)]) ∧ Below w.heap.size w w'))
    (T1 : Hid ((bits .and .u64 (E : Int) (P : Int) == 0) = b1)) (T2 : Hid ((bits .and .u64 (m2 : Int) (P : Int) == 0) = b2)) (T3 : Hid (bits .or .u64 (m1 : Int) (m2 : Int) = (G : Int)))
    (hg : Errs w v0 v1) :
    Calls Tryd.prog 33 #[.agg #[.int .i64 (s : Nat), .int .u64 (E : Nat), .int .u64 (O : Nat), .int .u64 (M : Nat)], .int .i64 2, .int .i64 (p : Nat), .bool su] w fun e w' =>
      e = .returned (bif b1 then .tuple #[.agg #[.int .i64 0, .int .u64 0, .int .u64 0, .int .u64 0], .int .u64 0, v0] else bif b2 then .tuple #[.agg #[.int .i64 (s : Nat), .int .u64 (E2 : Nat), .int .u64 (O2 : Nat), .int .u64 (M1 : Nat)], .int .u64 (m1 : Nat), .nilIface] else bif su then .tuple #[.agg #[.int .i64 (s : Nat), .int .u64 (E3 : Nat), .int .u64 (O2 : Nat), .int .u64 (M3 : Nat)], .int .u64 (G : Nat), .nilIface] else .tuple #[.agg #[.int .i64 0, .int .u64 0, .int .u64 0, .int .u64 0], .int .u64 0, v1]) ∧ Below w.heap.size w w' := by
  have e1 : (w.alloc (.cells #[.int .i64 (s : Nat), .int .u64 (E : Nat), .int .u64 (O : Nat), .int .u64 (M : Nat)] 58)).heap.size = w.heap.size + 1 := by simp
  have p0 := (Px.new w (s : Nat) E O M).step ((Below.refl (w.alloc (.cells #[.int .i64 (s : Nat), .int .u64 (E : Nat), .int .u64 (O : Nat), .int .u64 (M : Nat)] 58)).heap.size (w.alloc (.cells #[.int .i64 (s : Nat), .int .u64 (E : Nat), .int .u64 (O : Nat), .int .u64 (M : Nat)] 58))).alloc (Nat.le_refl _) (.cells #[.int .i64 0, .int .u64 0, .int .u64 0, .int .u64 0] 58))
  have p1 := Px.new (w.alloc (.cells #[.int .i64 (s : Nat), .int .u64 (E : Nat), .int .u64 (O : Nat), .int .u64 (M : Nat)] 58)) 0 0 0 0
  have hb2 : Below w.heap.size w ((w.alloc (.cells #[.int .i64 (s : Nat), .int .u64 (E : Nat), .int .u64 (O : Nat), .int .u64 (M : Nat)] 58)).alloc (.cells #[.int .i64 0, .int .u64 0, .int .u64 0, .int .u64 0] 58)) := ((Below.refl _ _).alloc (Nat.le_refl _) _).alloc (by simp) _
  rw [e1] at p1
  obtain ⟨y, hy⟩ : ∃ y, y = (w.alloc (.cells #[.int .i64 (s : Nat), .int .u64 (E : Nat), .int .u64 (O : Nat), .int .u64 (M : Nat)] 58)).alloc (.cells #[.int .i64 0, .int .u64 0, .int .u64 0, .int .u64 0] 58) := ⟨_, rfl⟩
  have P0 : Hid (Px y w.heap.size (s : Nat) E O M) := Lib.hid (by rw [hy]; exact p0)
  have P1 : Hid (Px y (w.heap.size + 1) 0 0 0 0) := Lib.hid (by rw [hy]; exact p1)
  have Hb : Hid (Below w.heap.size w y) := Lib.hid (by rw [hy]; exact hb2)
  have HG := Lib.hid hg
  clear e1 p0 p1 hb2 hg
  go_enter Tryd.func33, Tryd.ntmps33
  go_upto_region 1 with (fail)
  rw [← hy]
  clear hy
  go_wp2_with fail
  refine (CO.out _).mono ?_
  rintro e w' ⟨rfl, rfl⟩
  have c0 := P0.out.c0
  have c1 := P0.out.c1
  have c2 := P0.out.c2
  have c3 := P0.out.c3
  have hz := P0.out.lt
  have hz1 := P1.out.lt
  cases b1
  · have t1 := T1.out
    go_wp2_with fail
    refine (i_oth2 _).mono ?_
    rintro e w' ⟨rfl, rfl⟩
    go_wp2_with fail
    refine (CR1.out (by trivial) _).mono ?_
    rintro e y2 ⟨rfl, hb⟩
    have P1 := Lib.hid (P1.out.step hb)
    have Hb := Lib.hid (Hb.out.trans (hb.mono Hb.out.size))
    have P1q := Lib.hid P1.out.lt
    clear hb c0 c1 c2 c3 hz hz1 t1 P0
    go_upto_region 6 with (fail)
    obtain ⟨y3, hy3⟩ : ∃ y3, y3 = y2.alloc (.cells #[.int .i64 (s : Nat), .int .u64 (E1 : Nat), .int .u64 (O : Nat), .int .u64 (M1 : Nat)] 58) := ⟨_, rfl⟩
    have P2 : Hid (Px y3 y2.heap.size (s : Nat) E1 O M1) := Lib.hid (by rw [hy3]; exact Px.new _ _ _ _ _)
    have hb3 : Below y2.heap.size y2 y3 := by rw [hy3]; exact (Below.refl _ _).alloc (Nat.le_refl _) _
    have P1 := Lib.hid (P1.out.step hb3)
    have Hb := Lib.hid (Hb.out.trans (hb3.mono Hb.out.size))
    have hq : w.heap.size + 1 < y2.heap.size := by have := P1q.out; omega
    rw [← hy3]
    clear hy3 hb3
    have c0 := P2.out.c0
    have c1 := P2.out.c1
    have c2 := P2.out.c2
    have c3 := P2.out.c3
    have hz2 := P2.out.lt
    go_wp2_with fail
    refine (CW1.out (by trivial) _).mono ?_
    rintro e y4 ⟨rfl, hb⟩
    have P1 := Lib.hid (P1.out.step hb)
    have P2 := Lib.hid (P2.out.step hb)
    have Hb := Lib.hid (Hb.out.trans (hb.mono Hb.out.size))
    clear hb c0 c1 c2 c3 hz2
    have c0 := P2.out.c0
    have c1 := P2.out.c1
    have c2 := P2.out.c2
    have c3 := P2.out.c3
    have hz2 := P2.out.lt
    go_wp2_with fail
    refine (CR2.out (by trivial) _).mono ?_
    rintro e y5 ⟨rfl, hb⟩
    have P1 := Lib.hid (P1.out.step hb)
    have P2 := Lib.hid (P2.out.step hb)
    have Hb := Lib.hid (Hb.out.trans (hb.mono Hb.out.size))
    clear hb c0 c1 c2 c3 hz2
    have c0 := P2.out.c0
    have c1 := P2.out.c1
    have c2 := P2.out.c2
    have c3 := P2.out.c3
    have f0 := P2.out.fz 0
    have f1 := P2.out.fz 1
    have f2 := P2.out.fz 2
    have f3 := P2.out.fz 3
    have hz2 := P2.out.lt
    go_upto_region 8 with (fail)
    obtain ⟨y6, hy6⟩ : ∃ y6, y6 = ((((y5.setCell ⟨y2.heap.size, 0, none⟩ (.int .i64 (s : Nat))).setCell ⟨y2.heap.size, 1, none⟩ (.int .u64 (E2 : Nat))).setCell ⟨y2.heap.size, 2, none⟩ (.int .u64 (O2 : Nat))).setCell ⟨y2.heap.size, 3, none⟩ (.int .u64 (M1 : Nat))) := ⟨_, rfl⟩
    have P1 : Hid (Px y6 (w.heap.size + 1) 0 0 0 0) := Lib.hid (by rw [hy6]; exact ((((P1.out.far (p := ⟨y2.heap.size, 0, none⟩) (by show w.heap.size + 1 ≠ y2.heap.size; omega) (.int .i64 (s : Nat))).far (p := ⟨y2.heap.size, 1, none⟩) (by show w.heap.size + 1 ≠ y2.heap.size; omega) (.int .u64 (E2 : Nat))).far (p := ⟨y2.heap.size, 2, none⟩) (by show w.heap.size + 1 ≠ y2.heap.size; omega) (.int .u64 (O2 : Nat))).far (p := ⟨y2.heap.size, 3, none⟩) (by show w.heap.size + 1 ≠ y2.heap.size; omega) (.int .u64 (M1 : Nat))))
    have P2 : Hid (Px y6 y2.heap.size (s : Nat) E2 O2 M1) := Lib.hid (by rw [hy6]; exact (((P2.out.set0 (s : Nat)).set1 E2).set2 O2).set3 M1)
    have Hb : Hid (Below w.heap.size w y6) := Lib.hid (by rw [hy6]; exact ((((Hb.out.setCell (p := ⟨y2.heap.size, 0, none⟩) (by show w.heap.size ≤ y2.heap.size; omega) (.int .i64 (s : Nat))).setCell (p := ⟨y2.heap.size, 1, none⟩) (by show w.heap.size ≤ y2.heap.size; omega) (.int .u64 (E2 : Nat))).setCell (p := ⟨y2.heap.size, 2, none⟩) (by show w.heap.size ≤ y2.heap.size; omega) (.int .u64 (O2 : Nat))).setCell (p := ⟨y2.heap.size, 3, none⟩) (by show w.heap.size ≤ y2.heap.size; omega) (.int .u64 (M1 : Nat))))
    rw [← hy6]
    clear hy6 c0 c1 c2 c3 f0 f1 f2 f3 hz2
    have c0 := P2.out.c0
    have c1 := P2.out.c1
    have c2 := P2.out.c2
    have c3 := P2.out.c3
    have hz2 := P2.out.lt
    go_wp2_with fail
    refine (CW2.out (by trivial) _).mono ?_
    rintro e y7 ⟨rfl, hb⟩
    have P1 := Lib.hid (P1.out.step hb)
    have P2 := Lib.hid (P2.out.step hb)
    have Hb := Lib.hid (Hb.out.trans (hb.mono Hb.out.size))
    have HE := HG.out.below Hb.out
    clear hb c0 c1 c2 c3 hz2
    have c0 := P2.out.c0
    have c1 := P2.out.c1
    have c2 := P2.out.c2
    have c3 := P2.out.c3
    have hz2 := P2.out.lt
    have d0 := P1.out.c0
    have d1 := P1.out.c1
    have d2 := P1.out.c2
    have d3 := P1.out.c3
    have f0 := P1.out.fz 0
    have f1 := P1.out.fz 1
    have f2 := P1.out.fz 2
    have f3 := P1.out.fz 3
    have hz1 := P1.out.lt
    have t2 := T2.out
    cases b2
    · cases su
      · have g0 := HE.1
        have g1 := HE.2.1
        have hb4 := ((((Hb.out.setCell (p := ⟨w.heap.size + 1, 0, none⟩) (by show w.heap.size ≤ w.heap.size + 1; omega) (.int .i64 0)).setCell (p := ⟨w.heap.size + 1, 1, none⟩) (by show w.heap.size ≤ w.heap.size + 1; omega) (.int .u64 0)).setCell (p := ⟨w.heap.size + 1, 2, none⟩) (by show w.heap.size ≤ w.heap.size + 1; omega) (.int .u64 0)).setCell (p := ⟨w.heap.size + 1, 3, none⟩) (by show w.heap.size ≤ w.heap.size + 1; omega) (.int .u64 0))
        have Hb4 := Lib.hid hb4
        have K : Hid (Px ((((y7.setCell ⟨w.heap.size + 1, 0, none⟩ (.int .i64 0)).setCell ⟨w.heap.size + 1, 1, none⟩ (.int .u64 0)).setCell ⟨w.heap.size + 1, 2, none⟩ (.int .u64 0)).setCell ⟨w.heap.size + 1, 3, none⟩ (.int .u64 0)) (w.heap.size + 1) 0 0 0 0) := Lib.hid ((((P1.out.set0 0).set1 0).set2 0).set3 0)
        have hgl := HG.out.2.2.2
        have hne1 : ¬ (w.heap.size + 1 = 1) := by omega
        have g2 : (y7.setCell ⟨w.heap.size + 1, 0, none⟩ (.int .i64 0)).cell? ⟨1, 0, none⟩ = some v1 := by
          have hh := Below.heap_setCell y7 ⟨w.heap.size + 1, 0, none⟩ (.int .i64 0) 1 (by show _ ≠ w.heap.size + 1; omega)
          unfold World.cell? at g1 ⊢
          rw [hh]
          exact g1
        clear hb4 HE
        go_wp2_with fail
        go_region
        all_goals
          go_wp2_with fail
          have k0 := K.out.c0
          have k1 := K.out.c1
          have k2 := K.out.c2
          have k3 := K.out.c3
          refine bodyPost_ret (v := .tuple #[.agg #[.int .i64 0, .int .u64 0, .int .u64 0, .int .u64 0], .int .u64 0, v1]) (by simp [results, Tryd.results33, go_sem, k0, k1, k2, k3]) rfl ?_
          exact ⟨rfl, ⟨Hb4.out.os, Hb4.out.tape, Hb4.out.output, Hb4.out.size, Hb4.out.block⟩⟩
      · go_wp2_with fail
        refine (CR3.out (by trivial) _).mono ?_
        rintro e y8 ⟨rfl, hb⟩
        have P1 := Lib.hid (P1.out.step hb)
        have Hb := Lib.hid (Hb.out.trans (hb.mono Hb.out.size))
        clear hb c0 c1 c2 c3 hz2 d0 d1 d2 d3 f0 f1 f2 f3 hz1 HE t2
        have d0 := P1.out.c0
        have d1 := P1.out.c1
        have d2 := P1.out.c2
        have d3 := P1.out.c3
        have f0 := P1.out.fz 0
        have f1 := P1.out.fz 1
        have f2 := P1.out.fz 2
        have f3 := P1.out.fz 3
        have hz1 := P1.out.lt
        have t3 := T3.out
        have Hb4 := Lib.hid (((((Hb.out.setCell (p := ⟨w.heap.size + 1, 0, none⟩) (by show w.heap.size ≤ w.heap.size + 1; omega) (.int .i64 (s : Nat))).setCell (p := ⟨w.heap.size + 1, 1, none⟩) (by show w.heap.size ≤ w.heap.size + 1; omega) (.int .u64 (E3 : Nat))).setCell (p := ⟨w.heap.size + 1, 2, none⟩) (by show w.heap.size ≤ w.heap.size + 1; omega) (.int .u64 (O2 : Nat))).setCell (p := ⟨w.heap.size + 1, 3, none⟩) (by show w.heap.size ≤ w.heap.size + 1; omega) (.int .u64 (M3 : Nat))))
        have K : Hid (Px ((((y8.setCell ⟨w.heap.size + 1, 0, none⟩ (.int .i64 (s : Nat))).setCell ⟨w.heap.size + 1, 1, none⟩ (.int .u64 (E3 : Nat))).setCell ⟨w.heap.size + 1, 2, none⟩ (.int .u64 (O2 : Nat))).setCell ⟨w.heap.size + 1, 3, none⟩ (.int .u64 (M3 : Nat))) (w.heap.size + 1) (s : Nat) E3 O2 M3) := Lib.hid ((((P1.out.set0 (s : Nat)).set1 E3).set2 O2).set3 M3)
        go_wp2_with fail
        have k0 := K.out.c0
        have k1 := K.out.c1
        have k2 := K.out.c2
        have k3 := K.out.c3
        refine bodyPost_ret (v := .tuple #[.agg #[.int .i64 (s : Nat), .int .u64 (E3 : Nat), .int .u64 (O2 : Nat), .int .u64 (M3 : Nat)], .int .u64 (G : Nat), .nilIface]) (by simp [results, Tryd.results33, go_sem, k0, k1, k2, k3]) rfl ?_
        exact ⟨rfl, Hb4.out⟩
    · have Hb4 := Lib.hid (((((Hb.out.setCell (p := ⟨w.heap.size + 1, 0, none⟩) (by show w.heap.size ≤ w.heap.size + 1; omega) (.int .i64 (s : Nat))).setCell (p := ⟨w.heap.size + 1, 1, none⟩) (by show w.heap.size ≤ w.heap.size + 1; omega) (.int .u64 (E2 : Nat))).setCell (p := ⟨w.heap.size + 1, 2, none⟩) (by show w.heap.size ≤ w.heap.size + 1; omega) (.int .u64 (O2 : Nat))).setCell (p := ⟨w.heap.size + 1, 3, none⟩) (by show w.heap.size ≤ w.heap.size + 1; omega) (.int .u64 (M1 : Nat))))
      have K : Hid (Px ((((y7.setCell ⟨w.heap.size + 1, 0, none⟩ (.int .i64 (s : Nat))).setCell ⟨w.heap.size + 1, 1, none⟩ (.int .u64 (E2 : Nat))).setCell ⟨w.heap.size + 1, 2, none⟩ (.int .u64 (O2 : Nat))).setCell ⟨w.heap.size + 1, 3, none⟩ (.int .u64 (M1 : Nat))) (w.heap.size + 1) (s : Nat) E2 O2 M1) := Lib.hid ((((P1.out.set0 (s : Nat)).set1 E2).set2 O2).set3 M1)
      clear HE
      go_wp2_with fail
      have k0 := K.out.c0
      have k1 := K.out.c1
      have k2 := K.out.c2
      have k3 := K.out.c3
      refine bodyPost_ret (v := .tuple #[.agg #[.int .i64 (s : Nat), .int .u64 (E2 : Nat), .int .u64 (O2 : Nat), .int .u64 (M1 : Nat)], .int .u64 (m1 : Nat), .nilIface]) (by simp [results, Tryd.results33, go_sem, k0, k1, k2, k3]) rfl ?_
      exact ⟨rfl, Hb4.out⟩
  · have t1 := T1.out
    have HE := HG.out.below Hb.out
    have g0 := HE.1
    have g1 := HE.2.1
    have d0 := P1.out.c0
    have d1 := P1.out.c1
    have d2 := P1.out.c2
    have d3 := P1.out.c3
    have f0 := P1.out.fz 0
    have f1 := P1.out.fz 1
    have f2 := P1.out.fz 2
    have f3 := P1.out.fz 3
    have hb4 := ((((Hb.out.setCell (p := ⟨w.heap.size + 1, 0, none⟩) (by show w.heap.size ≤ w.heap.size + 1; omega) (.int .i64 0)).setCell (p := ⟨w.heap.size + 1, 1, none⟩) (by show w.heap.size ≤ w.heap.size + 1; omega) (.int .u64 0)).setCell (p := ⟨w.heap.size + 1, 2, none⟩) (by show w.heap.size ≤ w.heap.size + 1; omega) (.int .u64 0)).setCell (p := ⟨w.heap.size + 1, 3, none⟩) (by show w.heap.size ≤ w.heap.size + 1; omega) (.int .u64 0))
    have Hb4 := Lib.hid hb4
    have K : Hid (Px ((((y.setCell ⟨w.heap.size + 1, 0, none⟩ (.int .i64 0)).setCell ⟨w.heap.size + 1, 1, none⟩ (.int .u64 0)).setCell ⟨w.heap.size + 1, 2, none⟩ (.int .u64 0)).setCell ⟨w.heap.size + 1, 3, none⟩ (.int .u64 0)) (w.heap.size + 1) 0 0 0 0) := Lib.hid ((((P1.out.set0 0).set1 0).set2 0).set3 0)
    clear hb4 HE
    go_wp2_with fail
    go_region
    all_goals
      go_wp2_with fail
      have k0 := K.out.c0
      have k1 := K.out.c1
      have k2 := K.out.c2
      have k3 := K.out.c3
      refine bodyPost_ret (v := .tuple #[.agg #[.int .i64 0, .int .u64 0, .int .u64 0, .int .u64 0], .int .u64 0, v0]) (by simp [results, Tryd.results33, go_sem, k0, k1, k2, k3]) rfl ?_
      exact ⟨rfl, ⟨Hb4.out.os, Hb4.out.tape, Hb4.out.output, Hb4.out.size, Hb4.out.block⟩⟩

end
end Go.Proofs.YteldfjibmaigiaaDoor
