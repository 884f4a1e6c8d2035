/-
  Images of boards under symmetries: the model's.
-/
import Derived.Test.YteldfjibmaigiaaDoorTrI
import Derived.Test.YteldfjibmaigiaaDoorSpecC
namespace Go.Proofs.YteldfjibmaigiaaDoor
set_option maxRecDepth 100000
open Go.RowKit

theorem s_rangeK7 (k : Int) (w : World) : Calls Tryd.prog 62 #[.int .i64 k, .int .i64 0, .int .i64 7] w fun e w' => e = .returned (.bool (Pt.okK k)) ∧ w = w' :=
  (s_range k 0 7 w).mono fun e w' h => ⟨by rw [h.1]; exact ret_bool (by unfold Pt.okK; congr 1; exact decide_eq_decide.2 (by omega)), h.2⟩

set_option maxHeartbeats 1600000 in
theorem s_transformBoard (s k : Int) (w : World) (B : Nat) (A : Option Addr) (n c : Nat) (cs : List Int) (h : Ints w B A n cs) (hB : B ≤ w.heap.size) (h1 : 1 ≤ s) (h2 : s ≤ 7) (hns : (n : Int) = s * s) (k1 : 0 ≤ k) (k2 : k < 8) :
    Calls Tryd.prog 79 #[.agg #[.int .i64 s, .slice A n c], .int .i64 k] w fun e w' => Made s (Bd.mv s k cs) w e w' := by
  have e1 : (w.alloc (.cells #[.int .i64 s, .slice A n c] 25)).heap.size = w.heap.size + 1 := by simp
  have x0 := (Bx.new 25 w s (.slice A n c)).alloc (.cells #[.int .i64 0, .slice none 0 0] 25)
  have x1 := Bx.new 25 (w.alloc (.cells #[.int .i64 s, .slice A n c] 25)) 0 (.slice none 0 0)
  rw [e1] at x1
  have hb2 : Below w.heap.size w ((w.alloc (.cells #[.int .i64 s, .slice A n c] 25)).alloc (.cells #[.int .i64 0, .slice none 0 0] 25)) := ((Below.refl _ _).alloc (Nat.le_refl _) _).alloc (by simp) _
  have hl := h.1
  have H := Lib.hid (h.below hb2 hB)
  have X0 := Lib.hid x0
  have X1 := Lib.hid x1
  have Hb := Lib.hid hb2
  clear e1 x0 x1 hb2 h
  have hsq := Pt.sq_bd s h1 h2
  have hn49 : n ≤ 49 := by omega
  have hn1 : 0 < n := by omega
  have hle : (n : Int) ≤ s * s := by omega
  have Hns := Lib.hid hns
  have Hl := Lib.hid hl
  clear hns hl
  go_enter Tryd.func79, Tryd.ntmps79
  go_wp2_with fail
  refine (s_copyBoard _ _ _ _ _ _ _ H.out (by simp; omega) (by omega)).mono ?_
  rintro e y ⟨A1, c1, rfl, ho, hb⟩
  have X0 := Lib.hid (X0.out.below hb X0.out.lt)
  have X1 := Lib.hid (X1.out.below hb X1.out.lt)
  have H := Lib.hid (H.out.below hb (by simp; omega))
  have Hb := Lib.hid (Hb.out.trans (hb.mono (by simp; omega)))
  have Ho := Lib.hid (ho.weaken (B' := w.heap.size + 1 + 1) (by simp))
  have hA1 : ∃ g, A1 = some ⟨g, 0, none⟩ := by
    obtain ⟨g, cap, hv, _⟩ := World.ownsRow.form ho.2 (by omega)
    exact ⟨g, by injection hv⟩
  obtain ⟨g, hA1⟩ := hA1
  have hg1 := (Ho.out.ge hA1).1
  have hg2 := (ho.ge hA1).2
  rw [hA1] at Ho ⊢
  clear hb ho hA1
  have z1 := X1.out.lt
  have u00 := X0.out.cell0
  have u01 := X0.out.cell1
  have u02 := X0.out.lt
  go_wp2_with fail
  obtain ⟨y3, hy3, hb3, z3, z4⟩ := new_box y (.cells #[.int .i64 s, .slice (some ⟨g, 0, none⟩) n c1] 25)
  have X3 : Hid (Bx 25 y3 y.heap.size s (.slice (some ⟨g, 0, none⟩) n c1)) := Lib.hid (by rw [hy3]; exact Bx.new _ _ _ _)
  rw [← hy3]
  clear hy3 u00 u01
  have X0 := Lib.hid (X0.out.below hb3 X0.out.lt)
  have X1 := Lib.hid (X1.out.below hb3 X1.out.lt)
  have H := Lib.hid (H.out.below hb3 (by omega))
  have Ho := Lib.hid (Ho.out.below hb3)
  have Hb := Lib.hid (Hb.out.trans (hb3.mono (by omega)))
  clear hb3
  go_loopw [6] (fun i wr => ∃ j : Nat, j ≤ n ∧ i = .int .i64 j ∧ Own wr (w.heap.size + 1 + 1) (some ⟨g, 0, none⟩) n c1 (Bd.steps (Bd.imgN s k) cs j cs) ∧ Bx 25 wr y.heap.size s (.slice (some ⟨g, 0, none⟩) n c1) ∧ Below (w.heap.size + 1 + 1) y3 wr) (fun i _ => n - (intOf i).toNat)
  case atStart => exact ⟨0, by omega, rfl, Ho.out, X3.out, Below.refl _ _⟩
  case round =>
    clear X3 Ho
    obtain ⟨j, hj, rfl, ho, hx3, hbr⟩ := hrel
    have X0r := Lib.hid (X0.out.below hbr (by omega))
    have X1r := Lib.hid (X1.out.below hbr (by omega))
    have Hir := Lib.hid (H.out.below hbr (by omega))
    have Hbw := Lib.hid (Hb.out.trans (hbr.mono (by omega)))
    have Ho := Lib.hid ho
    have X3 := Lib.hid hx3
    have Hbr := Lib.hid hbr
    clear ho hx3 hbr
    have v00 := X0r.out.cell0
    have v01 := X0r.out.cell1
    have v02 := X0r.out.lt
    have v30 := X3.out.cell0
    have v31 := X3.out.cell1
    have v32 := X3.out.lt
    by_cases hjn : j < n
    · have hA : ∃ b o, A = some ⟨b, o, none⟩ ∧ b < B ∧ wr.cell? ⟨b, o + j, none⟩ = some (.int .i64 (cs.getD j 0)) := by
        rcases Hir.out.2 with h0 | ⟨b, o, hA, hbB, hc⟩
        · omega
        · exact ⟨b, o, hA, hbB, hc j hjn⟩
      obtain ⟨b, o, hA, hbB, hck⟩ := hA
      have HA := Lib.hid hA
      rw [hA] at v01
      clear hA
      obtain ⟨m1, m2⟩ := Bd.imgN_lt s k n j h1 h2 Hns.out hjn
      have hjs : (j : Int) < s * s := by omega
      have hcell : ∃ u, wr.cell? ⟨g, Bd.imgN s k j, none⟩ = some u := by
        have := World.ownsRow.cellAt Ho.out.2 (Bd.imgN s k j) (by omega)
        rw [this]
        exact ⟨_, List.getElem?_eq_getElem (by rw [List.length_map, Ho.out.1]; exact m1)⟩
      obtain ⟨u, hu⟩ := hcell
      have hf := World.ownsRow.frozenAt Ho.out.2 (Bd.imgN s k j)
      have hst : Own (wr.setCell ⟨g, Bd.imgN s k j, none⟩ (.int .i64 (cs.getD j 0))) (w.heap.size + 1 + 1) (some ⟨g, 0, none⟩) n c1 (Bd.steps (Bd.imgN s k) cs (j + 1) cs) := (Ho.out.stored (Bd.imgN s k j) (cs.getD j 0)).1
      obtain ⟨x, hx⟩ : ∃ x, cs.getD j 0 = x := ⟨_, rfl⟩
      obtain ⟨q, hq⟩ : ∃ q, Bd.imgN s k j = q := ⟨_, rfl⟩
      rw [hx] at hst hck
      rw [hq] at hst hu hf m1 m2
      have hqn : (q : Int) < n := by omega
      have hjn' : (j : Int) < n := by omega
      have Hst := Lib.hid hst
      have M2 := Lib.hid m2
      clear hx hq m2 hst
      go_wp2_with fail
      go_region_with (go_at_call 88; refine (s_transform s k j _ h1 h2 (by omega) hjs k1 k2).mono ?_; rintro e w9 ⟨rfl, rfl⟩; rw [← M2.out])
      all_goals go_wp2_with fail
      all_goals go_roundw
      all_goals try (simp [intOf]; omega)
      all_goals exact ⟨j + 1, by omega, by go_num, Own.drew Hst.out, X3.out.far (p := ⟨g, q, none⟩) (by show y.heap.size ≠ g; omega) (.int .i64 x), Below.drew (Hbr.out.setCell hg1 _)⟩
    · have hjn2 : j = n := by omega
      have hfin : Own wr (w.heap.size + 1 + 1) (some ⟨g, 0, none⟩) n c1 (Bd.mv s k cs) := by
        have := Ho.out
        rw [hjn2, ← Hl.out] at this
        rw [← Hl.out]
        exact this
      clear hjn2
      have ho2 := (hfin.far ⟨w.heap.size + 1, 0, none⟩ (fun g hA => by have := (hfin.ge hA).1; show g ≠ w.heap.size + 1; omega) (.int .i64 s)).far ⟨w.heap.size + 1, 1, none⟩ (fun g hA => by have := (hfin.ge hA).1; show g ≠ w.heap.size + 1; omega) (.slice (some ⟨g, 0, none⟩) n c1)
      have hb3 := (Hbw.out.setCell (p := ⟨w.heap.size + 1, 0, none⟩) (by show w.heap.size ≤ w.heap.size + 1; omega) (.int .i64 s)).setCell (p := ⟨w.heap.size + 1, 1, none⟩) (by show w.heap.size ≤ w.heap.size + 1; omega) (.slice (some ⟨g, 0, none⟩) n c1)
      have Ho2 := Lib.hid ho2
      have Hb3 := Lib.hid hb3
      have K0 := Lib.hid ((X1r.out.set0 s).cell0)
      have K1 := Lib.hid (((X1r.out.set0 s).set1 (.slice (some ⟨g, 0, none⟩) n c1)).cell1)
      have v10 := X1r.out.cell0
      have v11 := X1r.out.cell1
      have v12 := X1r.out.frozen 0
      have v13 := X1r.out.frozen 1
      have v14 := X1r.out.lt
      clear hfin ho2 hb3
      go_wp2_with fail
      have k0 := K0.out
      have k1 := K1.out
      refine bodyPost_ret (v := .agg #[.int .i64 s, .slice (some ⟨g, 0, none⟩) n c1]) (by simp [results, Tryd.results79, go_sem, k0, k1]) rfl ?_
      exact ⟨_, _, _, rfl, Ho2.out.weaken (by omega), Hb3.out⟩

end Go.Proofs.YteldfjibmaigiaaDoor
