/-
  Setting a stone: both packages make the same board.
-/
import Derived.Test.YtdkmedlffphmdabInvS
import Derived.Laws.CopyOwn
namespace Go.Proofs.Ytdkmedlffphmdab
open Go.RowKit

def setB (s : Int) (cs : List Int) (p x : Int) : Bool := Bd.okB s cs && Pt.okP s p && Bd.okC x
def setS (s : Int) (cs : List Int) (p x : Int) : Int := if setB s cs p x then s else 0
def setCs (s : Int) (cs : List Int) (p x : Int) : List Int := if setB s cs p x then cs.set p.toNat x else []
/-- A board that the call made, and a bool. -/
def MadeB (s' : Int) (cs' : List Int) (b : Bool) (w : World) (e : Ending) (w' : World) : Prop :=
  ∃ A n c, e = .returned (.tuple #[.agg #[.int .i64 s', .slice A n c], .bool b]) ∧ Own w' w.heap.size A n c cs' ∧ Below w.heap.size w w'

set_option maxHeartbeats 1000000 in
theorem s_set (s p x : Int) (w : World) (B : Nat) (A : Option Addr) (n c : Nat) (cs : List Int) (h : Ints w B A n cs) (hB : B ≤ w.heap.size) (hn : n ≤ 1000000000) :
    Calls Try.prog 18 #[.agg #[.int .i64 s, .slice A n c], .int .i64 p, .int .i64 x] w fun e w' => MadeB (setS s cs p x) (setCs s cs p x) (setB s cs p x) w e w' := by
  have e1 : (w.alloc (.cells #[.int .i64 s, .slice A n c] 25)).heap.size = w.heap.size + 1 := by simp
  have x0 := (Bx.new 25 w s (.slice A n c)).alloc (.cells #[.int .i64 0, .slice none 0 0] 25)
  have x1 := Bx.new 25 (w.alloc (.cells #[.int .i64 s, .slice A n c] 25)) 0 (.slice none 0 0)
  rw [e1] at x1
  have hb2 : Below w.heap.size w ((w.alloc (.cells #[.int .i64 s, .slice A n c] 25)).alloc (.cells #[.int .i64 0, .slice none 0 0] 25)) := ((Below.refl _ _).alloc (Nat.le_refl _) _).alloc (by simp) _
  have hl := h.1
  have H := Lib.hid (h.below hb2 hB)
  have X0 := Lib.hid x0
  have X1 := Lib.hid x1
  have Hb := Lib.hid hb2
  clear e1 x0 x1 hb2 h
  by_cases hv : Bd.okB s cs = true
  · obtain ⟨q1, q2, q3, _⟩ := (Bd.okB_iff s cs).1 hv
    have q4 := Pt.sq_bd s q1 q2
    have hn49 : n ≤ 49 := by omega
    by_cases hp : Pt.okP s p = true
    · by_cases hx : Bd.okC x = true
      · have hall : setB s cs p x = true := by rw [setB, hv, hp, hx]; rfl
        have Hs := Lib.hid (show setS s cs p x = s by rw [setS, hall]; rfl)
        have Hc := Lib.hid (show setCs s cs p x = cs.set p.toNat x by rw [setCs, hall]; rfl)
        have Hb9 := Lib.hid hall
        clear hall
        obtain ⟨_, _, p1, p2⟩ := (Pt.okP_iff s p).1 hp
        have hpp : (decide (0 ≤ p) && decide (p < s * s)) = true := by simp [p1, p2]
        have hxx : (decide (0 ≤ x) && decide (x ≤ 2)) = true := hx
        go_enter Try.func18, Try.ntmps18
        go_wp2_with fail
        refine (s_validBoard _ _ _ _ _ _ _ H.out (by simp; omega) (by omega)).mono ?_
        rintro e y2 ⟨rfl, hb⟩
        rw [hv]
        have X0 := Lib.hid (X0.out.below hb X0.out.lt)
        have X1 := Lib.hid (X1.out.below hb X1.out.lt)
        have H := Lib.hid (H.out.below hb (by simp; omega))
        have Hb := Lib.hid (Hb.out.trans (hb.mono (by simp; omega)))
        clear hb hv
        have z2 := X1.out.lt
        have u00 := X0.out.cell0
        have u01 := X0.out.cell1
        have u02 := X0.out.lt
        go_wp2_with fail
        refine (s_vpoint _ _ _ q1 q2).mono ?_
        rintro e w' ⟨rfl, rfl⟩
        rw [hpp]
        go_wp2_with fail
        refine (s_range _ _ _ _).mono ?_
        rintro e w' ⟨rfl, rfl⟩
        rw [hxx]
        clear hp hx hpp hxx
        go_wp2_with fail
        refine (s_copyBoard _ _ _ _ _ _ _ H.out (by omega) (by omega)).mono ?_
        rintro e y ⟨A1, c1, rfl, ho, hb⟩
        have X1 := Lib.hid (X1.out.below hb X1.out.lt)
        have Hb := Lib.hid (Hb.out.trans (hb.mono (by omega)))
        have Ho := Lib.hid (ho.weaken (B' := w.heap.size + 1 + 1) (by omega))
        have hA1 : ∃ g, A1 = some ⟨g, 0, none⟩ := by
          obtain ⟨g, cap, hv, _⟩ := World.ownsRow.form ho.2 (by omega)
          exact ⟨g, by injection hv⟩
        have hy := hb.size
        clear hb u00 u01
        obtain ⟨g, hA1⟩ := hA1
        have hg1 := (ho.ge hA1).1
        have hg2 := (ho.ge hA1).2
        rw [hA1] at Ho ⊢
        clear ho hA1
        obtain ⟨q, rfl⟩ := Int.eq_ofNat_of_zero_le p1
        have hqn : q < n := by omega
        have hcell : ∃ u, y.cell? ⟨g, q, none⟩ = some u := by
          have := World.ownsRow.cellAt Ho.out.2 q (by omega)
          rw [this]
          exact ⟨_, List.getElem?_eq_getElem (by rw [List.length_map, Ho.out.1]; exact hqn)⟩
        obtain ⟨u, hu⟩ := hcell
        have hf := World.ownsRow.frozenAt Ho.out.2 q
        have hlt1 := X1.out.lt
        go_upto_region 5 with (fail)
        obtain ⟨y5, hy5⟩ : ∃ y5, y5 = (y.setCell ⟨g, q, none⟩ (.int .i64 x)).alloc (.cells #[.int .i64 s, .slice (some ⟨g, 0, none⟩) n c1] 25) := ⟨_, rfl⟩
        have es : (y.setCell ⟨g, q, none⟩ (.int .i64 x)).heap.size = y.heap.size := by simp [World.setCell]
        have X3 : Hid (Bx 25 y5 y.heap.size s (.slice (some ⟨g, 0, none⟩) n c1)) := Lib.hid (by rw [hy5, ← es]; exact Bx.new _ _ _ _)
        have Ho3 : Hid (Own y5 (w.heap.size + 1 + 1) (some ⟨g, 0, none⟩) n c1 (cs.set q x)) := Lib.hid (by rw [hy5]; exact (Ho.out.stored q x).1.alloc _)
        have X1 : Hid (Bx 25 y5 (w.heap.size + 1) 0 (.slice none 0 0)) := Lib.hid (by rw [hy5]; exact (X1.out.far (p := ⟨g, q, none⟩) (by show w.heap.size + 1 ≠ g; omega) (.int .i64 x)).alloc _)
        have Hb : Hid (Below w.heap.size w y5) := Lib.hid (by rw [hy5]; exact (Hb.out.setCell (p := ⟨g, q, none⟩) (by show w.heap.size ≤ g; omega) (.int .i64 x)).alloc (by rw [es]; omega) _)
        rw [← hy5]
        clear hy5 es hu hf
        have v30 := X3.out.cell0
        have v31 := X3.out.cell1
        have v32 := X3.out.lt
        have v10 := X1.out.cell0
        have v11 := X1.out.cell1
        have v12 := X1.out.frozen 0
        have v13 := X1.out.frozen 1
        have v14 := X1.out.lt
        have K0 := Lib.hid ((X1.out.set0 s).cell0)
        have K1 := Lib.hid (((X1.out.set0 s).set1 (.slice (some ⟨g, 0, none⟩) n c1)).cell1)
        have Hb3 := Lib.hid ((Hb.out.setCell (p := ⟨w.heap.size + 1, 0, none⟩) (by show w.heap.size ≤ w.heap.size + 1; omega) (.int .i64 s)).setCell (p := ⟨w.heap.size + 1, 1, none⟩) (by show w.heap.size ≤ w.heap.size + 1; omega) (.slice (some ⟨g, 0, none⟩) n c1))
        have Ho2 := Lib.hid ((Ho3.out.far ⟨w.heap.size + 1, 0, none⟩ (fun g hA => by have := (Ho3.out.ge hA).1; show g ≠ w.heap.size + 1; omega) (.int .i64 s)).far ⟨w.heap.size + 1, 1, none⟩ (fun g hA => by have := (Ho3.out.ge hA).1; show g ≠ w.heap.size + 1; omega) (.slice (some ⟨g, 0, none⟩) n c1))
        go_wp2_with fail
        have k0 := K0.out
        have k1 := K1.out
        refine bodyPost_ret (v := .tuple #[.agg #[.int .i64 s, .slice (some ⟨g, 0, none⟩) n c1], .bool true]) (by simp [results, Try.results18, go_sem, k0, k1]) rfl ?_
        exact ⟨_, _, _, by rw [Hs.out, Hb9.out], by rw [Hc.out]; exact Ho2.out.weaken (by omega), Hb3.out⟩
      · have hx0 : Bd.okC x = false := by simpa using hx
        have hall : setB s cs p x = false := by rw [setB, hv, hp, hx0]; rfl
        have Hs := Lib.hid (show setS s cs p x = 0 by rw [setS, hall]; rfl)
        have Hc := Lib.hid (show setCs s cs p x = [] by rw [setCs, hall]; rfl)
        have Hb9 := Lib.hid hall
        clear hall
        obtain ⟨_, _, p1, p2⟩ := (Pt.okP_iff s p).1 hp
        have hpp : (decide (0 ≤ p) && decide (p < s * s)) = true := by simp [p1, p2]
        have hxx : (decide (0 ≤ x) && decide (x ≤ 2)) = false := hx0
        clear hx
        go_enter Try.func18, Try.ntmps18
        go_wp2_with fail
        refine (s_validBoard _ _ _ _ _ _ _ H.out (by simp; omega) (by omega)).mono ?_
        rintro e y2 ⟨rfl, hb⟩
        rw [hv]
        have X0 := Lib.hid (X0.out.below hb X0.out.lt)
        have X1 := Lib.hid (X1.out.below hb X1.out.lt)
        have H := Lib.hid (H.out.below hb (by simp; omega))
        have Hb := Lib.hid (Hb.out.trans (hb.mono (by simp; omega)))
        clear hb hv
        have z2 := X1.out.lt
        have u00 := X0.out.cell0
        have u01 := X0.out.cell1
        have u02 := X0.out.lt
        go_wp2_with fail
        refine (s_vpoint _ _ _ q1 q2).mono ?_
        rintro e w' ⟨rfl, rfl⟩
        rw [hpp]
        go_wp2_with fail
        refine (s_range _ _ _ _).mono ?_
        rintro e w' ⟨rfl, rfl⟩
        rw [hxx]
        clear hp hx0 hpp hxx
        have v10 := X1.out.cell0
        have v11 := X1.out.cell1
        have v12 := X1.out.frozen 0
        have v13 := X1.out.frozen 1
        have v14 := X1.out.lt
        have K0 := Lib.hid ((X1.out.set0 0).cell0)
        have K1 := Lib.hid (((X1.out.set0 0).set1 (.slice none 0 0)).cell1)
        have Hb3 := Lib.hid ((Hb.out.setCell (p := ⟨w.heap.size + 1, 0, none⟩) (by show w.heap.size ≤ w.heap.size + 1; omega) (.int .i64 0)).setCell (p := ⟨w.heap.size + 1, 1, none⟩) (by show w.heap.size ≤ w.heap.size + 1; omega) (.slice none 0 0))
        clear u00 u01
        go_wp2_with fail
        have k0 := K0.out
        have k1 := K1.out
        refine bodyPost_ret (v := .tuple #[.agg #[.int .i64 0, .slice none 0 0], .bool false]) (by simp [results, Try.results18, go_sem, k0, k1]) rfl ?_
        exact ⟨_, _, _, by rw [Hs.out, Hb9.out], by rw [Hc.out]; exact Own.nil _ _, Hb3.out⟩
    · have hp0 : Pt.okP s p = false := by simpa using hp
      have hall : setB s cs p x = false := by rw [setB, hv, hp0]; rfl
      have Hs := Lib.hid (show setS s cs p x = 0 by rw [setS, hall]; rfl)
      have Hc := Lib.hid (show setCs s cs p x = [] by rw [setCs, hall]; rfl)
      have Hb9 := Lib.hid hall
      clear hall
      have hs0 : Pt.okS s = true := (Pt.okS_iff s).2 ⟨q1, q2⟩
      have hpp : (decide (0 ≤ p) && decide (p < s * s)) = false := by rw [Pt.okP, hs0] at hp0; exact hp0
      clear hp hs0
      go_enter Try.func18, Try.ntmps18
      go_wp2_with fail
      refine (s_validBoard _ _ _ _ _ _ _ H.out (by simp; omega) (by omega)).mono ?_
      rintro e y2 ⟨rfl, hb⟩
      rw [hv]
      have X0 := Lib.hid (X0.out.below hb X0.out.lt)
      have X1 := Lib.hid (X1.out.below hb X1.out.lt)
      have H := Lib.hid (H.out.below hb (by simp; omega))
      have Hb := Lib.hid (Hb.out.trans (hb.mono (by simp; omega)))
      clear hb hv
      have z2 := X1.out.lt
      have u00 := X0.out.cell0
      have u01 := X0.out.cell1
      have u02 := X0.out.lt
      go_wp2_with fail
      refine (s_vpoint _ _ _ q1 q2).mono ?_
      rintro e w' ⟨rfl, rfl⟩
      rw [hpp]
      clear hp0 hpp
      have v10 := X1.out.cell0
      have v11 := X1.out.cell1
      have v12 := X1.out.frozen 0
      have v13 := X1.out.frozen 1
      have v14 := X1.out.lt
      have K0 := Lib.hid ((X1.out.set0 0).cell0)
      have K1 := Lib.hid (((X1.out.set0 0).set1 (.slice none 0 0)).cell1)
      have Hb3 := Lib.hid ((Hb.out.setCell (p := ⟨w.heap.size + 1, 0, none⟩) (by show w.heap.size ≤ w.heap.size + 1; omega) (.int .i64 0)).setCell (p := ⟨w.heap.size + 1, 1, none⟩) (by show w.heap.size ≤ w.heap.size + 1; omega) (.slice none 0 0))
      clear u00 u01
      go_wp2_with fail
      have k0 := K0.out
      have k1 := K1.out
      refine bodyPost_ret (v := .tuple #[.agg #[.int .i64 0, .slice none 0 0], .bool false]) (by simp [results, Try.results18, go_sem, k0, k1]) rfl ?_
      exact ⟨_, _, _, by rw [Hs.out, Hb9.out], by rw [Hc.out]; exact Own.nil _ _, Hb3.out⟩
  · have hv0 : Bd.okB s cs = false := by simpa using hv
    have hall : setB s cs p x = false := by rw [setB, hv0]; rfl
    have Hs := Lib.hid (show setS s cs p x = 0 by rw [setS, hall]; rfl)
    have Hc := Lib.hid (show setCs s cs p x = [] by rw [setCs, hall]; rfl)
    have Hb9 := Lib.hid hall
    clear hall
    clear hv
    go_enter Try.func18, Try.ntmps18
    go_wp2_with fail
    refine (s_validBoard _ _ _ _ _ _ _ H.out (by simp; omega) (by omega)).mono ?_
    rintro e y2 ⟨rfl, hb⟩
    rw [hv0]
    have X0 := Lib.hid (X0.out.below hb X0.out.lt)
    have X1 := Lib.hid (X1.out.below hb X1.out.lt)
    have H := Lib.hid (H.out.below hb (by simp; omega))
    have Hb := Lib.hid (Hb.out.trans (hb.mono (by simp; omega)))
    clear hb hv0
    have z2 := X1.out.lt
    have u00 := X0.out.cell0
    have u01 := X0.out.cell1
    have u02 := X0.out.lt
    have v10 := X1.out.cell0
    have v11 := X1.out.cell1
    have v12 := X1.out.frozen 0
    have v13 := X1.out.frozen 1
    have v14 := X1.out.lt
    have K0 := Lib.hid ((X1.out.set0 0).cell0)
    have K1 := Lib.hid (((X1.out.set0 0).set1 (.slice none 0 0)).cell1)
    have Hb3 := Lib.hid ((Hb.out.setCell (p := ⟨w.heap.size + 1, 0, none⟩) (by show w.heap.size ≤ w.heap.size + 1; omega) (.int .i64 0)).setCell (p := ⟨w.heap.size + 1, 1, none⟩) (by show w.heap.size ≤ w.heap.size + 1; omega) (.slice none 0 0))
    clear u00 u01
    go_wp2_with fail
    have k0 := K0.out
    have k1 := K1.out
    refine bodyPost_ret (v := .tuple #[.agg #[.int .i64 0, .slice none 0 0], .bool false]) (by simp [results, Try.results18, go_sem, k0, k1]) rfl ?_
    exact ⟨_, _, _, by rw [Hs.out, Hb9.out], by rw [Hc.out]; exact Own.nil _ _, Hb3.out⟩
end Go.Proofs.Ytdkmedlffphmdab
