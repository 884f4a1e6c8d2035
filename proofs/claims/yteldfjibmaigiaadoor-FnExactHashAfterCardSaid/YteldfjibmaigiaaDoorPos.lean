/-
  The program's position on a board: the sets of the points of each color.
-/
import Derived.Test.YteldfjibmaigiaaDoorOnes
import Derived.Test.YteldfjibmaigiaaDoorPureMk
import Derived.Test.YteldfjibmaigiaaDoorBoardX
import Derived.Deep.RegionWith
import Derived.Deep.DeepCutAuto
namespace Go.Proofs.YteldfjibmaigiaaDoor
set_option maxRecDepth 100000
open Go.RowKit

/-- Block g holds a position: a size and three sets. -/
def Px (w : World) (g : Nat) (s : Int) (a b d : Nat) : Prop := w.heap[g]? = some (.cells #[.int .i64 s, .int .u64 (a : Nat), .int .u64 (b : Nat), .int .u64 (d : Nat)] 58 (0, 0))
section
variable {w w' : World} {g a b d : Nat} {s : Int}
theorem Px.lt (h : Px w g s a b d) : g < w.heap.size := by
  rcases Nat.lt_or_ge g w.heap.size with hlt | hge
  · exact hlt
  · unfold Px at h; rw [Array.getElem?_eq_none hge] at h; cases h
theorem Px.c0 (h : Px w g s a b d) : w.cell? ⟨g, 0, none⟩ = some (.int .i64 s) := by unfold Px at h; simp [World.cell?, h]
theorem Px.c1 (h : Px w g s a b d) : w.cell? ⟨g, 1, none⟩ = some (.int .u64 (a : Nat)) := by unfold Px at h; simp [World.cell?, h]
theorem Px.c2 (h : Px w g s a b d) : w.cell? ⟨g, 2, none⟩ = some (.int .u64 (b : Nat)) := by unfold Px at h; simp [World.cell?, h]
theorem Px.c3 (h : Px w g s a b d) : w.cell? ⟨g, 3, none⟩ = some (.int .u64 (d : Nat)) := by unfold Px at h; simp [World.cell?, h]
theorem Px.fz (h : Px w g s a b d) (i : Nat) : w.frozen? ⟨g, i, none⟩ = false := by unfold Px at h; simp [World.frozen?, h]
theorem Px.new (w : World) (s : Int) (a b d : Nat) : Px (w.alloc (.cells #[.int .i64 s, .int .u64 (a : Nat), .int .u64 (b : Nat), .int .u64 (d : Nat)] 58)) w.heap.size s a b d := heap_alloc_new w _
theorem Px.below {B : Nat} (h : Px w g s a b d) (hb : Below B w w') (hg : g < B) : Px w' g s a b d := (hb.block g hg).trans h
theorem Px.step (h : Px w g s a b d) (hb : Below w.heap.size w w') : Px w' g s a b d := h.below hb h.lt
theorem Px.far (h : Px w g s a b d) {p : Addr} (hp : g ≠ p.block) (u : Value) : Px (w.setCell p u) g s a b d := (Below.heap_setCell w p u g hp).trans h
theorem Px.set0 (h : Px w g s a b d) (x : Int) : Px (w.setCell ⟨g, 0, none⟩ (.int .i64 x)) g x a b d := by unfold Px at h ⊢; simp [World.setCell, Array.getElem?_modify, h]
theorem Px.set1 (h : Px w g s a b d) (x : Nat) : Px (w.setCell ⟨g, 1, none⟩ (.int .u64 (x : Nat))) g s x b d := by unfold Px at h ⊢; simp [World.setCell, Array.getElem?_modify, h]
theorem Px.set2 (h : Px w g s a b d) (x : Nat) : Px (w.setCell ⟨g, 2, none⟩ (.int .u64 (x : Nat))) g s a x d := by unfold Px at h ⊢; simp [World.setCell, Array.getElem?_modify, h]
theorem Px.set3 (h : Px w g s a b d) (x : Nat) : Px (w.setCell ⟨g, 3, none⟩ (.int .u64 (x : Nat))) g s a b x := by unfold Px at h ⊢; simp [World.setCell, Array.getElem?_modify, h]
end

set_option maxHeartbeats 2000000 in
theorem i_positionOf (k : Nat) (w : World) (B : Nat) (A : Option Addr) (n c : Nat) (cs : List Int) (h : Ints w B A n cs) (hB : B ≤ w.heap.size) (hv : Bd.okB (k : Int) cs = true) :
    Calls Tryd.prog 32 #[.agg #[.int .i64 (k : Nat), .slice A n c]] w fun e w' => e = .returned (.agg #[.int .i64 (k : Nat), .int .u64 (Bt.msk cs 0 n : Nat), .int .u64 (Bt.msk cs 1 n : Nat), .int .u64 (Bt.msk cs 2 n : Nat)]) ∧ Below w.heap.size w w' := by
  obtain ⟨q1, q2, q3, q4⟩ := (Bd.okB_iff (k : Int) cs).1 hv
  have hl := h.1
  have hsq := Pt.sq_bd (k : Int) q1 q2
  have hn49 : n ≤ 49 := by omega
  have hn1 : 1 ≤ n := by omega
  obtain ⟨b0, o0, rfl, hbB, hcc⟩ : ∃ b o, A = some ⟨b, o, none⟩ ∧ b < B ∧ ∀ j, j < n → w.cell? ⟨b, o + j, none⟩ = some (.int .i64 (cs.getD j 0)) := by
    rcases h.2 with h0 | ⟨b, o, hA, hbB, hc⟩
    · omega
    · exact ⟨b, o, hA, hbB, hc⟩
  have hok : ∀ j, j < n → 0 ≤ cs.getD j 0 ∧ cs.getD j 0 ≤ 2 := fun j hj => by
    have hj' : j < cs.length := by omega
    rw [List.getD_eq_getElem?_getD, List.getElem?_eq_getElem hj']
    exact q4 _ (List.getElem_mem hj')
  have e1 : (w.alloc (.cells #[.int .i64 (k : Nat), .slice (some ⟨b0, o0, none⟩) n c] 25)).heap.size = w.heap.size + 1 := by simp
  have x0 := ((Bx.new 25 w (k : Nat) (.slice (some ⟨b0, o0, none⟩) n c)).alloc (.cells #[.int .i64 0, .int .u64 0, .int .u64 0, .int .u64 0] 58)).alloc (.cells #[.int .i64 (k : Nat), .int .u64 0, .int .u64 0, .int .u64 0] 58)
  have p0 := Px.new (w.alloc (.cells #[.int .i64 (k : Nat), .slice (some ⟨b0, o0, none⟩) n c] 25)) 0 0 0 0
  have p1 := Px.new ((w.alloc (.cells #[.int .i64 (k : Nat), .slice (some ⟨b0, o0, none⟩) n c] 25)).alloc (.cells #[.int .i64 0, .int .u64 0, .int .u64 0, .int .u64 0] 58)) (k : Nat) 0 0 0
  have hb3 : Below w.heap.size w (((w.alloc (.cells #[.int .i64 (k : Nat), .slice (some ⟨b0, o0, none⟩) n c] 25)).alloc (.cells #[.int .i64 0, .int .u64 0, .int .u64 0, .int .u64 0] 58)).alloc (.cells #[.int .i64 (k : Nat), .int .u64 0, .int .u64 0, .int .u64 0] 58)) := (((Below.refl _ _).alloc (Nat.le_refl _) _).alloc (by simp) _).alloc (by simp; omega) _
  have X0 := Lib.hid (Bx.new 25 w (k : Nat) (.slice (some ⟨b0, o0, none⟩) n c))
  have u0 := X0.out.cell0
  have u1 := X0.out.cell1
  have Hcc := Lib.hid hcc
  have Hok := Lib.hid hok
  have HL := Lib.hid hl
  have X3 := Lib.hid x0
  have P0 := Lib.hid p0
  have P1 := Lib.hid p1
  have Hb3 := Lib.hid hb3
  have E1' := Lib.hid e1
  clear h hcc hok hl q3 q4 hv x0 p0 p1 hb3 e1
  go_enter Tryd.func32, Tryd.ntmps32
  go_wp2_with fail
  obtain ⟨y, hy⟩ : ∃ y, y = (((w.alloc (.cells #[.int .i64 (k : Nat), .slice (some ⟨b0, o0, none⟩) n c] 25)).alloc (.cells #[.int .i64 0, .int .u64 0, .int .u64 0, .int .u64 0] 58)).alloc (.cells #[.int .i64 (k : Nat), .int .u64 0, .int .u64 0, .int .u64 0] 58)) := ⟨_, rfl⟩
  rw [← hy]
  have X3 : Hid (Bx 25 y w.heap.size (k : Nat) (.slice (some ⟨b0, o0, none⟩) n c)) := Lib.hid (by rw [hy]; exact X3.out)
  have P0 : Hid (Px y (w.heap.size + 1) 0 0 0 0) := Lib.hid (by rw [hy]; exact (show Px _ _ 0 0 0 0 by have := P0.out.step ((Below.refl _ _).alloc (Nat.le_refl _) (.cells #[.int .i64 (k : Nat), .int .u64 0, .int .u64 0, .int .u64 0] 58)); simpa using this))
  have P1 : Hid (Px y (w.heap.size + 1 + 1) (k : Nat) 0 0 0) := Lib.hid (by rw [hy]; simpa using P1.out)
  have Hb3 : Hid (Below w.heap.size w y) := Lib.hid (by rw [hy]; exact Hb3.out)
  have hyz : w.heap.size + 3 = y.heap.size := by rw [hy]; simp
  have Hyz := Lib.hid hyz
  clear hy hyz u0 u1 X0
  go_loopw [12] (fun i wr => ∃ j : Nat, j ≤ n ∧ i = .int .i64 j ∧ Px wr (w.heap.size + 1 + 1) (k : Nat) (Bt.msk cs 0 j) (Bt.msk cs 1 j) (Bt.msk cs 2 j) ∧ Px wr (w.heap.size + 1) 0 0 0 0 ∧ Below w.heap.size w wr) (fun i _ => n - (intOf i).toNat)
  case atStart => exact ⟨0, by omega, rfl, P1.out, P0.out, Hb3.out⟩
  case round =>
    clear P0 P1 Hb3 X3 Hyz
    obtain ⟨j, hj, rfl, hp1, hp0, hb⟩ := hrel
    have P1 := Lib.hid hp1
    have P0 := Lib.hid hp0
    have Hb := Lib.hid hb
    clear hp1 hp0 hb
    by_cases hjn : j < n
    · have hjI : (j : Int) < n := by omega
      have ck := (Hb.out.cell (p := ⟨b0, o0 + j, none⟩) (by show b0 < _; omega)).trans (Hcc.out j hjn)
      have hx := Hok.out j hjn
      obtain ⟨x, hxe⟩ : ∃ x, cs.getD j 0 = x := ⟨_, rfl⟩
      rw [hxe] at ck hx
      have Hx := Lib.hid hxe
      obtain ⟨P, hP⟩ : ∃ P, P = 2 ^ j := ⟨_, rfl⟩
      have HP := Lib.hid hP
      have hP64 : P < 18446744073709551616 := by
        have : 2 ^ j < 2 ^ 64 := Nat.pow_lt_pow_right (by decide) (by omega)
        omega
      have hm : ∀ z : Int, Bt.msk cs z j < 18446744073709551616 := fun z => by
        have h1 := Bt.msk_lt cs z j
        have h2 : 2 ^ j < 2 ^ 64 := Nat.pow_lt_pow_right (by decide) (by omega)
        omega
      obtain ⟨m0, hm0⟩ : ∃ m, Bt.msk cs 0 j = m := ⟨_, rfl⟩
      obtain ⟨m1, hm1⟩ : ∃ m, Bt.msk cs 1 j = m := ⟨_, rfl⟩
      obtain ⟨m2, hm2⟩ : ∃ m, Bt.msk cs 2 j = m := ⟨_, rfl⟩
      have r0 : bits .or .u64 (m0 : Int) (P : Int) = ((m0 ||| P : Nat) : Int) := u64_or_nat _ _ (by rw [← hm0]; exact hm 0) hP64
      have r1 : bits .or .u64 (m1 : Int) (P : Int) = ((m1 ||| P : Nat) : Int) := u64_or_nat _ _ (by rw [← hm1]; exact hm 1) hP64
      have r2 : bits .or .u64 (m2 : Int) (P : Int) = ((m2 ||| P : Nat) : Int) := u64_or_nat _ _ (by rw [← hm2]; exact hm 2) hP64
      have R0 := Lib.hid r0
      have R1 := Lib.hid r1
      have R2 := Lib.hid r2
      rw [hm0, hm1, hm2] at P1
      have Hm0 := Lib.hid hm0
      have Hm1 := Lib.hid hm1
      have Hm2 := Lib.hid hm2
      clear hm0 hm1 hm2 r0 r1 r2 hm hP hxe hP64
      have hx3 : x = 0 ∨ x = 1 ∨ x = 2 := by omega
      clear hx
      rcases hx3 with rfl | rfl | rfl
      · have p1 := P1.out.c1
        have f1 := P1.out.fz 1
        have hfin : Px wr (w.heap.size + 1 + 1) (k : Nat) m0 m1 m2 → Px (wr.setCell ⟨w.heap.size + 1 + 1, 1, none⟩ (.int .u64 (bits .or .u64 (m0 : Int) (P : Int)))) (w.heap.size + 1 + 1) (k : Nat) (Bt.msk cs 0 (j + 1)) (Bt.msk cs 1 (j + 1)) (Bt.msk cs 2 (j + 1)) := fun h => by
          have e0 : Bt.msk cs 0 (j + 1) = m0 ||| P := by rw [Bt.msk_yes Hx.out, Hm0.out, HP.out]
          have e1 : Bt.msk cs 1 (j + 1) = m1 := by rw [Bt.msk_no (by rw [Hx.out]; decide), Hm1.out]
          have e2 : Bt.msk cs 2 (j + 1) = m2 := by rw [Bt.msk_no (by rw [Hx.out]; decide), Hm2.out]
          rw [e0, e1, e2, R0.out]
          exact h.set1 _
        have Hfin := Lib.hid (hfin P1.out)
        have P0' := Lib.hid (P0.out.far (p := ⟨w.heap.size + 1 + 1, 1, none⟩) (by show w.heap.size + 1 ≠ w.heap.size + 1 + 1; omega) (.int .u64 (bits .or .u64 (m0 : Int) (P : Int))))
        have Hb' := Lib.hid (Hb.out.setCell (p := ⟨w.heap.size + 1 + 1, 1, none⟩) (by show w.heap.size ≤ w.heap.size + 1 + 1; omega) (.int .u64 (bits .or .u64 (m0 : Int) (P : Int))))
        clear hfin
        go_wp2_with fail
        go_region_with (go_at_call 54; refine (i_onlyN _ j P _ rfl HP.out (by omega)).mono ?_; rintro e w' ⟨rfl, rfl⟩)
        all_goals
          go_wp2_with fail
          go_roundw
          case rel => exact ⟨j + 1, by omega, by go_num, Hfin.out, P0'.out, ⟨Hb'.out.os, Hb'.out.tape, Hb'.out.output, Hb'.out.size, Hb'.out.block⟩⟩
          case measure => simp [intOf]; omega
      · have p1 := P1.out.c2
        have f1 := P1.out.fz 2
        have hfin : Px wr (w.heap.size + 1 + 1) (k : Nat) m0 m1 m2 → Px (wr.setCell ⟨w.heap.size + 1 + 1, 2, none⟩ (.int .u64 (bits .or .u64 (m1 : Int) (P : Int)))) (w.heap.size + 1 + 1) (k : Nat) (Bt.msk cs 0 (j + 1)) (Bt.msk cs 1 (j + 1)) (Bt.msk cs 2 (j + 1)) := fun h => by
          have e1 : Bt.msk cs 1 (j + 1) = m1 ||| P := by rw [Bt.msk_yes Hx.out, Hm1.out, HP.out]
          have e0 : Bt.msk cs 0 (j + 1) = m0 := by rw [Bt.msk_no (by rw [Hx.out]; decide), Hm0.out]
          have e2 : Bt.msk cs 2 (j + 1) = m2 := by rw [Bt.msk_no (by rw [Hx.out]; decide), Hm2.out]
          rw [e0, e1, e2, R1.out]
          exact h.set2 _
        have Hfin := Lib.hid (hfin P1.out)
        have P0' := Lib.hid (P0.out.far (p := ⟨w.heap.size + 1 + 1, 2, none⟩) (by show w.heap.size + 1 ≠ w.heap.size + 1 + 1; omega) (.int .u64 (bits .or .u64 (m1 : Int) (P : Int))))
        have Hb' := Lib.hid (Hb.out.setCell (p := ⟨w.heap.size + 1 + 1, 2, none⟩) (by show w.heap.size ≤ w.heap.size + 1 + 1; omega) (.int .u64 (bits .or .u64 (m1 : Int) (P : Int))))
        clear hfin
        go_wp2_with fail
        go_region_with (go_at_call 54; refine (i_onlyN _ j P _ rfl HP.out (by omega)).mono ?_; rintro e w' ⟨rfl, rfl⟩)
        all_goals
          go_wp2_with fail
          go_roundw
          case rel => exact ⟨j + 1, by omega, by go_num, Hfin.out, P0'.out, ⟨Hb'.out.os, Hb'.out.tape, Hb'.out.output, Hb'.out.size, Hb'.out.block⟩⟩
          case measure => simp [intOf]; omega
      · have p1 := P1.out.c3
        have f1 := P1.out.fz 3
        have hfin : Px wr (w.heap.size + 1 + 1) (k : Nat) m0 m1 m2 → Px (wr.setCell ⟨w.heap.size + 1 + 1, 3, none⟩ (.int .u64 (bits .or .u64 (m2 : Int) (P : Int)))) (w.heap.size + 1 + 1) (k : Nat) (Bt.msk cs 0 (j + 1)) (Bt.msk cs 1 (j + 1)) (Bt.msk cs 2 (j + 1)) := fun h => by
          have e2 : Bt.msk cs 2 (j + 1) = m2 ||| P := by rw [Bt.msk_yes Hx.out, Hm2.out, HP.out]
          have e0 : Bt.msk cs 0 (j + 1) = m0 := by rw [Bt.msk_no (by rw [Hx.out]; decide), Hm0.out]
          have e1 : Bt.msk cs 1 (j + 1) = m1 := by rw [Bt.msk_no (by rw [Hx.out]; decide), Hm1.out]
          rw [e0, e1, e2, R2.out]
          exact h.set3 _
        have Hfin := Lib.hid (hfin P1.out)
        have P0' := Lib.hid (P0.out.far (p := ⟨w.heap.size + 1 + 1, 3, none⟩) (by show w.heap.size + 1 ≠ w.heap.size + 1 + 1; omega) (.int .u64 (bits .or .u64 (m2 : Int) (P : Int))))
        have Hb' := Lib.hid (Hb.out.setCell (p := ⟨w.heap.size + 1 + 1, 3, none⟩) (by show w.heap.size ≤ w.heap.size + 1 + 1; omega) (.int .u64 (bits .or .u64 (m2 : Int) (P : Int))))
        clear hfin
        go_wp2_with fail
        go_region_with (go_at_call 54; refine (i_onlyN _ j P _ rfl HP.out (by omega)).mono ?_; rintro e w' ⟨rfl, rfl⟩)
        all_goals
          go_wp2_with fail
          go_roundw
          case rel => exact ⟨j + 1, by omega, by go_num, Hfin.out, P0'.out, ⟨Hb'.out.os, Hb'.out.tape, Hb'.out.output, Hb'.out.size, Hb'.out.block⟩⟩
          case measure => simp [intOf]; omega
    · have c0 := P1.out.c0
      have c1 := P1.out.c1
      have c2 := P1.out.c2
      have c3 := P1.out.c3
      have d0 := P0.out.c0
      have d1 := P0.out.c1
      have d2 := P0.out.c2
      have d3 := P0.out.c3
      have f0 := P0.out.fz 0
      have f1 := P0.out.fz 1
      have f2 := P0.out.fz 2
      have f3 := P0.out.fz 3
      have hlt := P0.out.lt
      have hjn' : n = j := by omega
      have HJ := Lib.hid hjn'
      have hge : ¬ (j : Int) < n := by omega
      obtain ⟨m0, hm0⟩ : ∃ m, Bt.msk cs 0 j = m := ⟨_, rfl⟩
      obtain ⟨m1, hm1⟩ : ∃ m, Bt.msk cs 1 j = m := ⟨_, rfl⟩
      obtain ⟨m2, hm2⟩ : ∃ m, Bt.msk cs 2 j = m := ⟨_, rfl⟩
      rw [hm0] at c1
      rw [hm1] at c2
      rw [hm2] at c3
      have Hm0 := Lib.hid hm0
      have Hm1 := Lib.hid hm1
      have Hm2 := Lib.hid hm2
      have Hb' := Lib.hid ((((Hb.out.setCell (p := ⟨w.heap.size + 1, 0, none⟩) (by show w.heap.size ≤ w.heap.size + 1; omega) (.int .i64 (k : Nat))).setCell (p := ⟨w.heap.size + 1, 1, none⟩) (by show w.heap.size ≤ w.heap.size + 1; omega) (.int .u64 (m0 : Nat))).setCell (p := ⟨w.heap.size + 1, 2, none⟩) (by show w.heap.size ≤ w.heap.size + 1; omega) (.int .u64 (m1 : Nat))).setCell (p := ⟨w.heap.size + 1, 3, none⟩) (by show w.heap.size ≤ w.heap.size + 1; omega) (.int .u64 (m2 : Nat)))
      have t0 : Px wr (w.heap.size + 1) 0 0 0 0 := P0.out
      have t1 : Px ((((wr.setCell ⟨w.heap.size + 1, 0, none⟩ (.int .i64 (k : Nat))).setCell ⟨w.heap.size + 1, 1, none⟩ (.int .u64 (m0 : Nat))).setCell ⟨w.heap.size + 1, 2, none⟩ (.int .u64 (m1 : Nat))).setCell ⟨w.heap.size + 1, 3, none⟩ (.int .u64 (m2 : Nat))) (w.heap.size + 1) (k : Nat) m0 m1 m2 := (((t0.set0 (k : Nat)).set1 m0).set2 m1).set3 m2
      have T1 := Lib.hid t1
      clear hm0 hm1 hm2 t0 t1 hjn' hjn
      go_wp2_with fail
      have k0 := T1.out.c0
      have k1 := T1.out.c1
      have k2 := T1.out.c2
      have k3 := T1.out.c3
      refine bodyPost_ret (v := .agg #[.int .i64 (k : Nat), .int .u64 (m0 : Nat), .int .u64 (m1 : Nat), .int .u64 (m2 : Nat)]) (by simp [results, Tryd.results32, go_sem, k0, k1, k2, k3]) rfl ?_
      exact ⟨by rw [HJ.out, Hm0.out, Hm1.out, Hm2.out], Hb'.out⟩
end Go.Proofs.YteldfjibmaigiaaDoor
