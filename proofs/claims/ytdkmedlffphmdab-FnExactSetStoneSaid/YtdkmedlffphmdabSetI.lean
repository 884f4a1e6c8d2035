/-
  Setting a stone: the program's board is the model's.
-/
import Derived.Test.YtdkmedlffphmdabSetS
import Derived.Test.YtdkmedlffphmdabCopyB
namespace Go.Proofs.Ytdkmedlffphmdab
open Go.RowKit

set_option maxHeartbeats 1000000 in
theorem i_set (s p x : Int) (w : World) (B : Nat) (A : Option Addr) (n c : Nat) (cs : List Int) (h : Ints w B A n cs) (hB : B ≤ w.heap.size) (hn : n ≤ 1000000000) :
    Calls Try.prog 17 #[.agg #[.int .i64 s, .slice A n c], .int .i64 p, .int .i64 x] w fun e w' => MadeB (setS s cs p x) (setCs s cs p x) (setB s cs p x) w e w' := by
  have e1 : (w.alloc (.cells #[.int .i64 s, .slice A n c] 25)).heap.size = w.heap.size + 1 := by simp
  have x0 := (Bx.new 25 w s (.slice A n c)).alloc (.cells #[.int .i64 0, .slice none 0 0] 25)
  have x1 := Bx.new 25 (w.alloc (.cells #[.int .i64 s, .slice A n c] 25)) 0 (.slice none 0 0)
  rw [e1] at x1
  have hb2 : Below w.heap.size w ((w.alloc (.cells #[.int .i64 s, .slice A n c] 25)).alloc (.cells #[.int .i64 0, .slice none 0 0] 25)) := ((Below.refl _ _).alloc (Nat.le_refl _) _).alloc (by simp) _
  have hl := h.1
  have H := Lib.hid (h.below hb2 hB)
  have X0 := Lib.hid x0
  have X1 := Lib.hid x1
  have Hb := Lib.hid hb2
  clear e1 x0 x1 hb2 h
  by_cases hv : Bd.okB s cs = true
  · obtain ⟨q1, q2, q3, _⟩ := (Bd.okB_iff s cs).1 hv
    have q4 := Pt.sq_bd s q1 q2
    have hn49 : n ≤ 49 := by omega
    by_cases hp : Pt.okP s p = true
    · by_cases hx : Bd.okC x = true
      · have hall : setB s cs p x = true := by rw [setB, hv, hp, hx]; rfl
        have Hs := Lib.hid (show setS s cs p x = s by rw [setS, hall]; rfl)
        have Hc := Lib.hid (show setCs s cs p x = cs.set p.toNat x by rw [setCs, hall]; rfl)
        have Hb9 := Lib.hid hall
        clear hall
        obtain ⟨_, _, p1, p2⟩ := (Pt.okP_iff s p).1 hp
        have hpp : (decide (0 ≤ p) && decide (p < s * s)) = true := by simp [p1, p2]
        have hxx : (decide (0 ≤ x) && decide (x ≤ 2)) = true := hx
        go_enter Try.func17, Try.ntmps17
        go_wp2_with fail
        refine (i_validBoard _ _ _ _ _ _ _ H.out (by simp; omega) (by omega)).mono ?_
        rintro e y2 ⟨rfl, hb⟩
        rw [hv]
        have X0 := Lib.hid (X0.out.below hb X0.out.lt)
        have X1 := Lib.hid (X1.out.below hb X1.out.lt)
        have H := Lib.hid (H.out.below hb (by simp; omega))
        have Hb := Lib.hid (Hb.out.trans (hb.mono (by simp; omega)))
        clear hb hv
        have z2 := X1.out.lt
        have u00 := X0.out.cell0
        have u01 := X0.out.cell1
        have u02 := X0.out.lt
        go_wp2_with fail
        refine (i_point _ _ _).mono ?_
        rintro e w' ⟨rfl, rfl⟩
        rw [hp]
        go_wp2_with fail
        refine (i_validColor _ _).mono ?_
        rintro e w' ⟨rfl, rfl⟩
        rw [hx]
        clear hp hx hpp hxx
        go_wp2_with fail
        refine (i_new _ _).mono ?_
        rintro e y ⟨A1, n1, c1, rfl, ho, hb⟩
        have hs0 : Pt.okS s = true := (Pt.okS_iff s).2 ⟨q1, q2⟩
        have hn1 : n1 = n := by
          have := ho.1
          rw [newCs, if_pos hs0, List.length_replicate] at this
          omega
        rw [show newS s = s by rw [newS, if_pos hs0]]
        rw [hn1] at ho ⊢
        clear hn1 hs0
        have X0 := Lib.hid (X0.out.below hb X0.out.lt)
        have X1 := Lib.hid (X1.out.below hb X1.out.lt)
        have H := Lib.hid (H.out.below hb (by omega))
        have Hb := Lib.hid (Hb.out.trans (hb.mono (by omega)))
        have Ho := Lib.hid (ho.weaken (B' := w.heap.size + 1 + 1) (by omega))
        have hA1 : ∃ g, A1 = some ⟨g, 0, none⟩ := by
          obtain ⟨g, cap, hv, _⟩ := World.ownsRow.form ho.2 (by omega)
          exact ⟨g, by injection hv⟩
        have hy := hb.size
        clear hb u00 u01
        obtain ⟨g, hA1⟩ := hA1
        have hg1 := (ho.ge hA1).1
        have hg2 := (ho.ge hA1).2
        rw [hA1] at Ho ⊢
        clear ho hA1
        obtain ⟨q, rfl⟩ := Int.eq_ofNat_of_zero_le p1
        have hqn : q < n := by omega
        go_upto_region 4 with (fail)
        obtain ⟨y4, hy4, hb4, z4, z4'⟩ := new_box y (.cells #[.int .i64 s, .slice (some ⟨g, 0, none⟩) n c1] 25)
        have X3 : Hid (Bx 25 y4 y.heap.size s (.slice (some ⟨g, 0, none⟩) n c1)) := Lib.hid (by rw [hy4]; exact Bx.new _ _ _ _)
        rw [← hy4]
        clear hy4
        have X0 := Lib.hid (X0.out.below hb4 X0.out.lt)
        have X1 := Lib.hid (X1.out.below hb4 X1.out.lt)
        have H := Lib.hid (H.out.below hb4 (by omega))
        have Hb := Lib.hid (Hb.out.trans (hb4.mono (by omega)))
        have Ho := Lib.hid (Ho.out.below hb4)
        clear hb4
        have v00 := X0.out.cell0
        have v01 := X0.out.cell1
        have v30 := X3.out.cell0
        have v31 := X3.out.cell1
        go_upto_region 6 with ((with_reducible show wpList _ _ _ _ _ _); refine copyFull rfl (.tmp 29) (.tmp 31) rfl y4 (w.heap.size + 1 + 1) g n c1 _ B A c cs rfl rfl Ho.out H.out (by omega) ?_; intro y6 ho6 hg6; have X3b := Lib.hid (X3.out.grown hg6 (by simp; omega)); have X1b := Lib.hid (X1.out.grown hg6 (by simp; omega)); have Hb6 := Lib.hid (Hb.out.grown hg6 (by omega) (fun k e => by injection e; omega)); have w30 := X3b.out.cell0; have w31 := X3b.out.cell1; have w32 := X3b.out.lt; obtain ⟨u, hu⟩ : ∃ u, y6.cell? ⟨g, q, none⟩ = some u := ⟨_, (World.ownsRow.cellAt ho6.2 q (by omega)).trans (List.getElem?_eq_getElem (by rw [List.length_map, ho6.1]; exact hqn))⟩; have hf := World.ownsRow.frozenAt ho6.2 q; have Ho6 := Lib.hid (ho6.stored q x).1; clear ho6 hg6 v00 v01 v30 v31)
        obtain ⟨y5, hy5⟩ : ∃ y5, y5 = y6.setCell ⟨g, q, none⟩ (.int .i64 x) := ⟨_, rfl⟩
        have X3 : Hid (Bx 25 y5 y.heap.size s (.slice (some ⟨g, 0, none⟩) n c1)) := Lib.hid (by rw [hy5]; exact X3b.out.far (p := ⟨g, q, none⟩) (by show y.heap.size ≠ g; omega) (.int .i64 x))
        have Ho3 : Hid (Own y5 (w.heap.size + 1 + 1) (some ⟨g, 0, none⟩) n c1 (cs.set q x)) := Lib.hid (by rw [hy5]; exact Ho6.out)
        have X1 : Hid (Bx 25 y5 (w.heap.size + 1) 0 (.slice none 0 0)) := Lib.hid (by rw [hy5]; exact X1b.out.far (p := ⟨g, q, none⟩) (by show w.heap.size + 1 ≠ g; omega) (.int .i64 x))
        have Hb : Hid (Below w.heap.size w y5) := Lib.hid (by rw [hy5]; exact Hb6.out.setCell (p := ⟨g, q, none⟩) (by show w.heap.size ≤ g; omega) (.int .i64 x))
        rw [← hy5]
        clear hy5 hu hf w30 w31
        have v30 := X3.out.cell0
        have v31 := X3.out.cell1
        have v32 := X3.out.lt
        have v10 := X1.out.cell0
        have v11 := X1.out.cell1
        have v12 := X1.out.frozen 0
        have v13 := X1.out.frozen 1
        have v14 := X1.out.lt
        have K0 := Lib.hid ((X1.out.set0 s).cell0)
        have K1 := Lib.hid (((X1.out.set0 s).set1 (.slice (some ⟨g, 0, none⟩) n c1)).cell1)
        have Hb3 := Lib.hid ((Hb.out.setCell (p := ⟨w.heap.size + 1, 0, none⟩) (by show w.heap.size ≤ w.heap.size + 1; omega) (.int .i64 s)).setCell (p := ⟨w.heap.size + 1, 1, none⟩) (by show w.heap.size ≤ w.heap.size + 1; omega) (.slice (some ⟨g, 0, none⟩) n c1))
        have Ho2 := Lib.hid ((Ho3.out.far ⟨w.heap.size + 1, 0, none⟩ (fun g hA => by have := (Ho3.out.ge hA).1; show g ≠ w.heap.size + 1; omega) (.int .i64 s)).far ⟨w.heap.size + 1, 1, none⟩ (fun g hA => by have := (Ho3.out.ge hA).1; show g ≠ w.heap.size + 1; omega) (.slice (some ⟨g, 0, none⟩) n c1))
        go_wp2_with fail
        have k0 := K0.out
        have k1 := K1.out
        refine bodyPost_ret (v := .tuple #[.agg #[.int .i64 s, .slice (some ⟨g, 0, none⟩) n c1], .bool true]) (by simp [results, Try.results17, go_sem, k0, k1]) rfl ?_
        exact ⟨_, _, _, by rw [Hs.out, Hb9.out], by rw [Hc.out]; exact Ho2.out.weaken (by omega), Hb3.out⟩
      · have hx0 : Bd.okC x = false := by simpa using hx
        have hall : setB s cs p x = false := by rw [setB, hv, hp, hx0]; rfl
        have Hs := Lib.hid (show setS s cs p x = 0 by rw [setS, hall]; rfl)
        have Hc := Lib.hid (show setCs s cs p x = [] by rw [setCs, hall]; rfl)
        have Hb9 := Lib.hid hall
        clear hall
        obtain ⟨_, _, p1, p2⟩ := (Pt.okP_iff s p).1 hp
        have hpp : (decide (0 ≤ p) && decide (p < s * s)) = true := by simp [p1, p2]
        have hxx : (decide (0 ≤ x) && decide (x ≤ 2)) = false := hx0
        clear hx
        go_enter Try.func17, Try.ntmps17
        go_wp2_with fail
        refine (i_validBoard _ _ _ _ _ _ _ H.out (by simp; omega) (by omega)).mono ?_
        rintro e y2 ⟨rfl, hb⟩
        rw [hv]
        have X0 := Lib.hid (X0.out.below hb X0.out.lt)
        have X1 := Lib.hid (X1.out.below hb X1.out.lt)
        have H := Lib.hid (H.out.below hb (by simp; omega))
        have Hb := Lib.hid (Hb.out.trans (hb.mono (by simp; omega)))
        clear hb hv
        have z2 := X1.out.lt
        have u00 := X0.out.cell0
        have u01 := X0.out.cell1
        have u02 := X0.out.lt
        go_wp2_with fail
        refine (i_point _ _ _).mono ?_
        rintro e w' ⟨rfl, rfl⟩
        rw [hp]
        go_wp2_with fail
        refine (i_validColor _ _).mono ?_
        rintro e w' ⟨rfl, rfl⟩
        rw [hx0]
        clear hp hx0 hpp hxx
        have v10 := X1.out.cell0
        have v11 := X1.out.cell1
        have v12 := X1.out.frozen 0
        have v13 := X1.out.frozen 1
        have v14 := X1.out.lt
        have K0 := Lib.hid ((X1.out.set0 0).cell0)
        have K1 := Lib.hid (((X1.out.set0 0).set1 (.slice none 0 0)).cell1)
        have Hb3 := Lib.hid ((Hb.out.setCell (p := ⟨w.heap.size + 1, 0, none⟩) (by show w.heap.size ≤ w.heap.size + 1; omega) (.int .i64 0)).setCell (p := ⟨w.heap.size + 1, 1, none⟩) (by show w.heap.size ≤ w.heap.size + 1; omega) (.slice none 0 0))
        clear u00 u01
        go_wp2_with fail
        have k0 := K0.out
        have k1 := K1.out
        refine bodyPost_ret (v := .tuple #[.agg #[.int .i64 0, .slice none 0 0], .bool false]) (by simp [results, Try.results17, go_sem, k0, k1]) rfl ?_
        exact ⟨_, _, _, by rw [Hs.out, Hb9.out], by rw [Hc.out]; exact Own.nil _ _, Hb3.out⟩
    · have hp0 : Pt.okP s p = false := by simpa using hp
      have hall : setB s cs p x = false := by rw [setB, hv, hp0]; rfl
      have Hs := Lib.hid (show setS s cs p x = 0 by rw [setS, hall]; rfl)
      have Hc := Lib.hid (show setCs s cs p x = [] by rw [setCs, hall]; rfl)
      have Hb9 := Lib.hid hall
      clear hall
      have hs0 : Pt.okS s = true := (Pt.okS_iff s).2 ⟨q1, q2⟩
      have hpp : (decide (0 ≤ p) && decide (p < s * s)) = false := by rw [Pt.okP, hs0] at hp0; exact hp0
      clear hp hs0
      go_enter Try.func17, Try.ntmps17
      go_wp2_with fail
      refine (i_validBoard _ _ _ _ _ _ _ H.out (by simp; omega) (by omega)).mono ?_
      rintro e y2 ⟨rfl, hb⟩
      rw [hv]
      have X0 := Lib.hid (X0.out.below hb X0.out.lt)
      have X1 := Lib.hid (X1.out.below hb X1.out.lt)
      have H := Lib.hid (H.out.below hb (by simp; omega))
      have Hb := Lib.hid (Hb.out.trans (hb.mono (by simp; omega)))
      clear hb hv
      have z2 := X1.out.lt
      have u00 := X0.out.cell0
      have u01 := X0.out.cell1
      have u02 := X0.out.lt
      go_wp2_with fail
      refine (i_point _ _ _).mono ?_
      rintro e w' ⟨rfl, rfl⟩
      rw [hp0]
      clear hp0 hpp
      have v10 := X1.out.cell0
      have v11 := X1.out.cell1
      have v12 := X1.out.frozen 0
      have v13 := X1.out.frozen 1
      have v14 := X1.out.lt
      have K0 := Lib.hid ((X1.out.set0 0).cell0)
      have K1 := Lib.hid (((X1.out.set0 0).set1 (.slice none 0 0)).cell1)
      have Hb3 := Lib.hid ((Hb.out.setCell (p := ⟨w.heap.size + 1, 0, none⟩) (by show w.heap.size ≤ w.heap.size + 1; omega) (.int .i64 0)).setCell (p := ⟨w.heap.size + 1, 1, none⟩) (by show w.heap.size ≤ w.heap.size + 1; omega) (.slice none 0 0))
      clear u00 u01
      go_wp2_with fail
      have k0 := K0.out
      have k1 := K1.out
      refine bodyPost_ret (v := .tuple #[.agg #[.int .i64 0, .slice none 0 0], .bool false]) (by simp [results, Try.results17, go_sem, k0, k1]) rfl ?_
      exact ⟨_, _, _, by rw [Hs.out, Hb9.out], by rw [Hc.out]; exact Own.nil _ _, Hb3.out⟩
  · have hv0 : Bd.okB s cs = false := by simpa using hv
    have hall : setB s cs p x = false := by rw [setB, hv0]; rfl
    have Hs := Lib.hid (show setS s cs p x = 0 by rw [setS, hall]; rfl)
    have Hc := Lib.hid (show setCs s cs p x = [] by rw [setCs, hall]; rfl)
    have Hb9 := Lib.hid hall
    clear hall
    clear hv
    go_enter Try.func17, Try.ntmps17
    go_wp2_with fail
    refine (i_validBoard _ _ _ _ _ _ _ H.out (by simp; omega) (by omega)).mono ?_
    rintro e y2 ⟨rfl, hb⟩
    rw [hv0]
    have X0 := Lib.hid (X0.out.below hb X0.out.lt)
    have X1 := Lib.hid (X1.out.below hb X1.out.lt)
    have H := Lib.hid (H.out.below hb (by simp; omega))
    have Hb := Lib.hid (Hb.out.trans (hb.mono (by simp; omega)))
    clear hb hv0
    have z2 := X1.out.lt
    have u00 := X0.out.cell0
    have u01 := X0.out.cell1
    have u02 := X0.out.lt
    have v10 := X1.out.cell0
    have v11 := X1.out.cell1
    have v12 := X1.out.frozen 0
    have v13 := X1.out.frozen 1
    have v14 := X1.out.lt
    have K0 := Lib.hid ((X1.out.set0 0).cell0)
    have K1 := Lib.hid (((X1.out.set0 0).set1 (.slice none 0 0)).cell1)
    have Hb3 := Lib.hid ((Hb.out.setCell (p := ⟨w.heap.size + 1, 0, none⟩) (by show w.heap.size ≤ w.heap.size + 1; omega) (.int .i64 0)).setCell (p := ⟨w.heap.size + 1, 1, none⟩) (by show w.heap.size ≤ w.heap.size + 1; omega) (.slice none 0 0))
    clear u00 u01
    go_wp2_with fail
    have k0 := K0.out
    have k1 := K1.out
    refine bodyPost_ret (v := .tuple #[.agg #[.int .i64 0, .slice none 0 0], .bool false]) (by simp [results, Try.results17, go_sem, k0, k1]) rfl ?_
    exact ⟨_, _, _, by rw [Hs.out, Hb9.out], by rw [Hc.out]; exact Own.nil _ _, Hb3.out⟩
end Go.Proofs.Ytdkmedlffphmdab
