/-
  The model's 'PlayStone'.
-/
import Derived.Test.YteldfjibmaigiaaDoorPlay
namespace Go.Proofs.YteldfjibmaigiaaDoor
set_option maxRecDepth 100000
open Go.RowKit

theorem s_vcolor (x : Int) (w : World) : Calls Tryd.prog 37 #[.int .i64 x] w fun e w' => e = .returned (.bool (decide (1 ≤ x) && decide (x ≤ 2))) ∧ w = w' := by
  go_enter Tryd.func37, Tryd.ntmps37
  go_wp2_with fail
  refine (s_range _ _ _ _).mono ?_
  rintro e w' ⟨rfl, rfl⟩
  go_wp2_with fail
  go_ret
  exact ⟨rfl, rfl⟩

set_option maxRecDepth 100000 in
set_option maxHeartbeats 4000000 in
theorem s_PlayStone (s x : Int) (p : Nat) (su : Bool) (w : World) (B : Nat) (A : Option Addr) (n c : Nat) (cs : List Int) (h : Ints w B A n cs) (hB : B ≤ w.heap.size) (hv : Bd.okB s cs = true) (hp : p < n) (x1 : 1 ≤ x) (x2 : x ≤ 2) :
    Calls Tryd.prog 8 #[.agg #[.int .i64 s, .slice A n c], .int .i64 x, .int .i64 p, .bool su] w fun e w' => PlayedP s n (Plays s n cs x p su) w e w' := by
  obtain ⟨q1, q2, q3, _⟩ := (Bd.okB_iff s cs).1 hv
  have q4 := Pt.sq_bd s q1 q2
  have hl := h.1
  have hn : (n : Int) = s * s := by omega
  have hn49 : n ≤ 49 := by omega
  have e1 : (w.alloc (.cells #[.int .i64 s, .slice A n c] 25)).heap.size = w.heap.size + 1 := by simp
  have x0 := (Bx.new 25 w s (.slice A n c)).alloc (.cells #[.int .i64 0, .slice none 0 0] 25)
  have xx := Bx.new 25 (w.alloc (.cells #[.int .i64 s, .slice A n c] 25)) 0 (.slice none 0 0)
  rw [e1] at xx
  have hb2 : Below w.heap.size w ((w.alloc (.cells #[.int .i64 s, .slice A n c] 25)).alloc (.cells #[.int .i64 0, .slice none 0 0] 25)) := ((Below.refl _ _).alloc (Nat.le_refl _) _).alloc (by simp) _
  have H := Lib.hid (h.below hb2 hB)
  have X0 := Lib.hid x0
  have X1 := Lib.hid xx
  have Hb := Lib.hid hb2
  have Hn := Lib.hid hn
  have hpp : (decide (0 ≤ (p : Int)) && decide ((p : Int) < s * s)) = true := by simp; omega
  have hxx : (decide (1 ≤ x) && decide (x ≤ 2)) = true := by simp; omega
  clear e1 x0 xx hb2 h hn hl q3
  go_enter Tryd.func8, Tryd.ntmps8
  go_wp2_with fail
  refine (s_validBoard _ _ _ _ _ _ _ H.out (by simp; omega) (by omega)).mono ?_
  rintro e y2 ⟨rfl, hb⟩
  rw [hv]
  have X0 := Lib.hid (X0.out.below hb X0.out.lt)
  have X1 := Lib.hid (X1.out.below hb X1.out.lt)
  have H := Lib.hid (H.out.below hb (by simp; omega))
  have Hb := Lib.hid (Hb.out.trans (hb.mono (by simp; omega)))
  clear hb hv
  have z2 := X1.out.lt
  have u00 := X0.out.cell0
  have u01 := X0.out.cell1
  have u02 := X0.out.lt
  go_wp2_with fail
  refine (s_vcolor _ _).mono ?_
  rintro e w' ⟨rfl, rfl⟩
  rw [hxx]
  go_wp2_with fail
  refine (s_vpoint _ _ _ q1 q2).mono ?_
  rintro e w' ⟨rfl, rfl⟩
  rw [hpp]
  clear hpp hxx
  go_wp2_with fail
  refine (s_play s x p su _ B _ n _ cs H.out (by omega) q1 q2 Hn.out hp x1 x2).mono ?_
  rintro e y (⟨h0, rfl, hb⟩ | ⟨os, gs, A1, c1, A2, n2, c2, hR, rfl, ho, hg, hb⟩)
  · have X1 := X1.out.below hb X1.out.lt
    have Hb := Lib.hid (Hb.out.trans (hb.mono (by omega)))
    have H0 := Lib.hid h0
    clear hb u00 u01 h0
    have c0 := X1.cell0
    have c1 := X1.cell1
    have f0 := X1.frozen 0
    have f1 := X1.frozen 1
    have l1 := X1.lt
    have K0 := Lib.hid ((X1.set0 0).cell0)
    have K1 := Lib.hid (((X1.set0 0).set1 (.slice none 0 0)).cell1)
    have Hb3 := Lib.hid ((Hb.out.setCell (p := ⟨w.heap.size + 1, 0, none⟩) (by show w.heap.size ≤ w.heap.size + 1; omega) (.int .i64 0)).setCell (p := ⟨w.heap.size + 1, 1, none⟩) (by show w.heap.size ≤ w.heap.size + 1; omega) (.slice none 0 0))
    clear X1
    go_wp2_with fail
    have k0 := K0.out
    have k1 := K1.out
    refine bodyPost_ret (v := .tuple #[.agg #[.int .i64 0, .slice none 0 0], .slice none 0 0, .bool false]) (by simp [results, Tryd.results8, go_sem, k0, k1]) rfl ?_
    exact .inl ⟨H0.out, rfl, Hb3.out⟩
  · have X1 := X1.out.below hb X1.out.lt
    have Hb := Lib.hid (Hb.out.trans (hb.mono (by omega)))
    have Hr := Lib.hid hR
    have Ho2 := Lib.hid ((ho.far ⟨w.heap.size + 1, 0, none⟩ (fun g hA => by have := (ho.ge hA).1; show g ≠ w.heap.size + 1; omega) (.int .i64 s)).far ⟨w.heap.size + 1, 1, none⟩ (fun g hA => by have := (ho.ge hA).1; show g ≠ w.heap.size + 1; omega) (.slice A1 n c1))
    have Hg2 := Lib.hid ((hg.far ⟨w.heap.size + 1, 0, none⟩ (fun g hA => by have := (hg.ge hA).1; show g ≠ w.heap.size + 1; omega) (.int .i64 s)).far ⟨w.heap.size + 1, 1, none⟩ (fun g hA => by have := (hg.ge hA).1; show g ≠ w.heap.size + 1; omega) (.slice A1 n c1))
    clear hb u00 u01 hR ho hg
    have c0 := X1.cell0
    have c1' := X1.cell1
    have f0 := X1.frozen 0
    have f1 := X1.frozen 1
    have l1 := X1.lt
    have K0 := Lib.hid ((X1.set0 s).cell0)
    have K1 := Lib.hid (((X1.set0 s).set1 (.slice A1 n c1)).cell1)
    have Hb3 := Lib.hid ((Hb.out.setCell (p := ⟨w.heap.size + 1, 0, none⟩) (by show w.heap.size ≤ w.heap.size + 1; omega) (.int .i64 s)).setCell (p := ⟨w.heap.size + 1, 1, none⟩) (by show w.heap.size ≤ w.heap.size + 1; omega) (.slice A1 n c1))
    clear X1
    go_wp2_with fail
    have k0 := K0.out
    have k1 := K1.out
    refine bodyPost_ret (v := .tuple #[.agg #[.int .i64 s, .slice A1 n c1], .slice A2 n2 c2, .bool true]) (by simp [results, Tryd.results8, go_sem, k0, k1]) rfl ?_
    exact .inr ⟨_, _, _, _, _, _, _, Hr.out, rfl, Ho2.out.weaken (by omega), Hg2.out.weaken (by omega), Hb3.out⟩

/-- The same in one form: what a drawn board wants of it. -/
theorem s_PlayStone1 (s x : Int) (p : Nat) (su : Bool) (w : World) (B : Nat) (A : Option Addr) (n c : Nat) (cs : List Int) (h : Ints w B A n cs) (hB : B ≤ w.heap.size) (hv : Bd.okB s cs = true) (hp : p < n) (x1 : 1 ≤ x) (x2 : x ≤ 2) :
    Calls Tryd.prog 8 #[.agg #[.int .i64 s, .slice A n c], .int .i64 x, .int .i64 p, .bool su] w fun e w' => ∃ (s' : Int) (A' : Option Addr) (n' c' : Nat) (A2 : Option Addr) (n2 c2 : Nat) (cs' : List Int) (ok : Bool), e = .returned (.tuple #[.agg #[.int .i64 s', .slice A' n' c'], .slice A2 n2 c2, .bool ok]) ∧
      (ok = true → s' = s ∧ n' = n ∧ Own w' w.heap.size A' n' c' cs' ∧ OkL cs') ∧ Below w.heap.size w w' := by
  have hl := h.1
  have hok : OkL cs := okL_mem.2 ((Bd.okB_iff s cs).1 hv).2.2.2
  refine (s_PlayStone s x p su w B A n c cs h hB hv hp x1 x2).mono ?_
  rintro e y (⟨h0, rfl, hb⟩ | ⟨os, gs, A1, c1, A2, n2, c2, hR, rfl, ho, hg, hb⟩)
  · exact ⟨_, _, _, _, _, _, _, [], _, rfl, fun h => (by cases h), hb⟩
  · exact ⟨_, _, _, _, _, _, _, os, _, rfl, fun _ => ⟨rfl, rfl, ho, (hR.ok hl hok x1 x2).2.1⟩, hb⟩
end Go.Proofs.YteldfjibmaigiaaDoor
