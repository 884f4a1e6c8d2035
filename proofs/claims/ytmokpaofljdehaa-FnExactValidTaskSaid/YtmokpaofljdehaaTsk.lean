/-
  Tasks in memory: a board, an int and a list; their size, their copy, their comparison in a law.
-/
import Derived.Test.YtmokpaofljdehaaBoardX
import Derived.Test.YtmokpaofljdehaaBoardE
import Derived.Test.YtmokpaofljdehaaRows2
import Derived.Test.YtmokpaofljdehaaOpenL
import Derived.Deep.QuietTactic
import Derived.Deep.DeepCutAuto
namespace Go.Proofs.Ytmokpaofljdehaa
set_option maxRecDepth 100000
open Go.RowKit

/-- Block g holds a task: its board's two cells, its target, its list. -/
def Bt (T : TypeId) (w : World) (g : Nat) (s : Int) (v : Value) (t : Int) (u : Value) : Prop := w.heap[g]? = some (.cells #[.int .i64 s, v, .int .i64 t, u] T (0, 0))
section
variable {T : TypeId} {w w' : World} {g : Nat} {s t : Int} {v u : Value}
theorem Bt.lt (h : Bt T w g s v t u) : g < w.heap.size := by
  rcases Nat.lt_or_ge g w.heap.size with hlt | hge
  · exact hlt
  · unfold Bt at h; rw [Array.getElem?_eq_none hge] at h; cases h
theorem Bt.cell0 (h : Bt T w g s v t u) : w.cell? ⟨g, 0, none⟩ = some (.int .i64 s) := by unfold Bt at h; simp [World.cell?, h]
theorem Bt.cell1 (h : Bt T w g s v t u) : w.cell? ⟨g, 1, none⟩ = some v := by unfold Bt at h; simp [World.cell?, h]
theorem Bt.cell2 (h : Bt T w g s v t u) : w.cell? ⟨g, 2, none⟩ = some (.int .i64 t) := by unfold Bt at h; simp [World.cell?, h]
theorem Bt.cell3 (h : Bt T w g s v t u) : w.cell? ⟨g, 3, none⟩ = some u := by unfold Bt at h; simp [World.cell?, h]
theorem Bt.frozen (h : Bt T w g s v t u) (i : Nat) : w.frozen? ⟨g, i, none⟩ = false := by unfold Bt at h; simp [World.frozen?, h]
theorem Bt.new (T : TypeId) (w : World) (s t : Int) (v u : Value) : Bt T (w.alloc (.cells #[.int .i64 s, v, .int .i64 t, u] T)) w.heap.size s v t u := heap_alloc_new w _
theorem Bt.alloc (h : Bt T w g s v t u) (o : Obj) : Bt T (w.alloc o) g s v t u := (Below.heap_alloc w o g h.lt).trans h
theorem Bt.drewN (h : Bt T w g s v t u) (n : Nat) : Bt T (w.drewN n) g s v t u := h
theorem Bt.below {B : Nat} (h : Bt T w g s v t u) (hb : Below B w w') (hg : g < B) : Bt T w' g s v t u := (hb.block g hg).trans h
theorem Bt.far (h : Bt T w g s v t u) {p : Addr} (hp : g ≠ p.block) (x : Value) : Bt T (w.setCell p x) g s v t u := (Below.heap_setCell w p x g hp).trans h
theorem Bt.set0 (h : Bt T w g s v t u) (s' : Int) : Bt T (w.setCell ⟨g, 0, none⟩ (.int .i64 s')) g s' v t u := by unfold Bt at h ⊢; simp [World.setCell, Array.getElem?_modify, h]
theorem Bt.set1 (h : Bt T w g s v t u) (v' : Value) : Bt T (w.setCell ⟨g, 1, none⟩ v') g s v' t u := by unfold Bt at h ⊢; simp [World.setCell, Array.getElem?_modify, h]
theorem Bt.set2 (h : Bt T w g s v t u) (t' : Int) : Bt T (w.setCell ⟨g, 2, none⟩ (.int .i64 t')) g s v t' u := by unfold Bt at h ⊢; simp [World.setCell, Array.getElem?_modify, h]
theorem Bt.set3 (h : Bt T w g s v t u) (u' : Value) : Bt T (w.setCell ⟨g, 3, none⟩ u') g s v t u' := by unfold Bt at h ⊢; simp [World.setCell, Array.getElem?_modify, h]
end

set_option maxHeartbeats 2000000 in
theorem x_szL (L m : Nat) (w : World) (P : Option Addr) (pc : Nat) (hm : m ≤ L) (hL : L ≤ 1048576) :
    Calls Try.prog 41 #[.slice P m pc, .int .i64 (L : Nat)] w fun e w' => e = .returned (.int .i64 ((L - m : Nat) : Int)) ∧ w' = w := by
  have e1 : IntKind.i64.wrap ((L : Int) - (m : Nat)) = ((L - m : Nat) : Int) := by simp [IntKind.wrap, IntKind.bits, IntKind.signed]; omega
  have e2 : ((L : Nat) : Int) - (m : Nat) = ((L - m : Nat) : Int) := by omega
  obtain ⟨d, hd⟩ : ∃ d, L - m = d := ⟨_, rfl⟩
  rw [hd] at e1 e2 ⊢
  clear hd
  go_enter Try.func41, Try.ntmps41
  go_wp2_with fail
  go_ret
  exact ⟨rfl, rfl⟩
set_option maxHeartbeats 2000000 in
theorem x_szL_no (L m : Nat) (w : World) (P : Option Addr) (pc : Nat) (hm : L < m) (hL : L ≤ 1048576) (hm2 : m ≤ 9223372036854775807) :
    Calls Try.prog 41 #[.slice P m pc, .int .i64 (L : Nat)] w fun e w' => e = .returned (.int .i64 (-1)) ∧ w' = w := by
  have e1 : IntKind.i64.wrap ((L : Int) - (m : Nat)) = (L : Int) - (m : Nat) := by simp [IntKind.wrap, IntKind.bits, IntKind.signed]; omega
  have e2 : (L : Int) - (m : Nat) < 0 := by omega
  go_enter Try.func41, Try.ntmps41
  go_wp2_with fail
  go_ret
  exact ⟨rfl, rfl⟩

section
variable (s t : Int) (w : World) (A P : Option Addr) (n c m pc : Nat)
set_option maxHeartbeats 2000000 in
theorem x_szT (hn : n + m ≤ 1048576) :
    Calls Try.prog 11 #[.agg #[.int .i64 s, .slice A n c, .int .i64 t, .slice P m pc], .int .i64 1048576] w fun e w' => ∃ k : Nat, e = .returned (.int .i64 (k : Nat)) ∧ Below w.heap.size w w' := by
  have hb1 : Below w.heap.size w (w.alloc (.cells #[.int .i64 s, .slice A n c, .int .i64 t, .slice P m pc] 26)) := (Below.refl _ _).alloc (Nat.le_refl _) _
  have V0 := Lib.hid (Bt.new 26 w s t (.slice A n c) (.slice P m pc))
  have Hb := Lib.hid hb1
  clear hb1
  go_enter Try.func11, Try.ntmps11
  go_wp2_with fail
  refine (x_szB _ _ _ _ _ (by omega)).mono ?_
  rintro e y ⟨rfl, hb⟩
  have V0 := Lib.hid (V0.out.below hb V0.out.lt)
  have Hb := Lib.hid (Hb.out.trans (hb.mono (by simp)))
  have v0 := V0.out.cell2
  have v1 := V0.out.cell3
  have e1 : (1048576 : Int) - (n : Nat) = ((1048576 - n : Nat) : Int) := by omega
  rw [e1]
  obtain ⟨d, hd⟩ : ∃ d, 1048576 - n = d := ⟨_, rfl⟩
  have hd2 : m ≤ d ∧ d ≤ 1048576 := by omega
  rw [hd]
  clear hb e1 hd
  go_wp2_with fail
  refine (x_szL d m _ _ _ hd2.1 hd2.2).mono ?_
  rintro e y2 ⟨rfl, rfl⟩
  go_wp2_with fail
  go_ret
  exact ⟨_, rfl, Hb.out⟩
set_option maxHeartbeats 2000000 in
theorem x_szT_no (hn : 1048576 < n + m) (hn2 : n ≤ 9223372036854775807) (hm2 : m ≤ 9223372036854775807) :
    Calls Try.prog 11 #[.agg #[.int .i64 s, .slice A n c, .int .i64 t, .slice P m pc], .int .i64 1048576] w fun e w' => e = .returned (.int .i64 (-1)) ∧ Below w.heap.size w w' := by
  have hb1 : Below w.heap.size w (w.alloc (.cells #[.int .i64 s, .slice A n c, .int .i64 t, .slice P m pc] 26)) := (Below.refl _ _).alloc (Nat.le_refl _) _
  have V0 := Lib.hid (Bt.new 26 w s t (.slice A n c) (.slice P m pc))
  have Hb := Lib.hid hb1
  clear hb1
  by_cases hbig : 1048576 < n
  · go_enter Try.func11, Try.ntmps11
    go_wp2_with fail
    refine (x_szB_no _ _ _ _ _ hbig hn2).mono ?_
    rintro e y ⟨rfl, hb⟩
    have Hb := Lib.hid (Hb.out.trans (hb.mono (by simp)))
    clear hb
    go_wp2_with fail
    go_ret
    exact ⟨rfl, Hb.out⟩
  · go_enter Try.func11, Try.ntmps11
    go_wp2_with fail
    refine (x_szB _ _ _ _ _ (by omega)).mono ?_
    rintro e y ⟨rfl, hb⟩
    have V0 := Lib.hid (V0.out.below hb V0.out.lt)
    have Hb := Lib.hid (Hb.out.trans (hb.mono (by simp)))
    have v0 := V0.out.cell2
    have v1 := V0.out.cell3
    have e1 : (1048576 : Int) - (n : Nat) = ((1048576 - n : Nat) : Int) := by omega
    rw [e1]
    obtain ⟨d, hd⟩ : ∃ d, 1048576 - n = d := ⟨_, rfl⟩
    have hd2 : d < m ∧ d ≤ 1048576 := by omega
    rw [hd]
    clear hb e1 hd
    go_wp2_with fail
    refine (x_szL_no d m _ _ _ hd2.1 hd2.2 hm2).mono ?_
    rintro e y2 ⟨rfl, rfl⟩
    go_wp2_with fail
    go_ret
    exact ⟨rfl, Hb.out⟩
end

set_option maxHeartbeats 2000000 in
theorem x_eqT (w : World) (s t : Int) (B1 B2 B3 B4 : Nat) (A A' P P' : Option Addr) (n c c' m pc pc' : Nat) (cs ps : List Int) (h : Ints w B1 A n cs) (h2 : Ints w B2 A' n cs) (h3 : Ints w B3 P m ps) (h4 : Ints w B4 P' m ps)
    (hB1 : B1 ≤ w.heap.size) (hB2 : B2 ≤ w.heap.size) (hB3 : B3 ≤ w.heap.size) (hB4 : B4 ≤ w.heap.size) (hn : n ≤ 1000000000) (hm : m ≤ 1000000000) :
    Calls Try.prog 15 #[.agg #[.int .i64 s, .slice A n c, .int .i64 t, .slice P m pc], .agg #[.int .i64 s, .slice A' n c', .int .i64 t, .slice P' m pc']] w fun e w' => e = .returned (.bool true) ∧ Below w.heap.size w w' := by
  have e1 : (w.alloc (.cells #[.int .i64 s, .slice A n c, .int .i64 t, .slice P m pc] 31)).heap.size = w.heap.size + 1 := by simp
  have hb2 : Below w.heap.size w ((w.alloc (.cells #[.int .i64 s, .slice A n c, .int .i64 t, .slice P m pc] 31)).alloc (.cells #[.int .i64 s, .slice A' n c', .int .i64 t, .slice P' m pc'] 31)) := ((Below.refl _ _).alloc (Nat.le_refl _) _).alloc (by simp) _
  have v0 := (Bt.new 31 w s t (.slice A n c) (.slice P m pc)).alloc (.cells #[.int .i64 s, .slice A' n c', .int .i64 t, .slice P' m pc'] 31)
  have v1 := Bt.new 31 (w.alloc (.cells #[.int .i64 s, .slice A n c, .int .i64 t, .slice P m pc] 31)) s t (.slice A' n c') (.slice P' m pc')
  rw [e1] at v1
  have V0 := Lib.hid v0
  have V1 := Lib.hid v1
  have H1 := Lib.hid (h.below hb2 hB1)
  have H2 := Lib.hid (h2.below hb2 hB2)
  have H3 := Lib.hid (h3.below hb2 hB3)
  have H4 := Lib.hid (h4.below hb2 hB4)
  have Hb := Lib.hid hb2
  clear h h2 h3 h4 hb2 v0 v1 e1
  go_enter Try.func15, Try.ntmps15
  go_upto_region 1 with (fail)
  obtain ⟨y, hy⟩ : ∃ y, y = ((w.alloc (.cells #[.int .i64 s, .slice A n c, .int .i64 t, .slice P m pc] 31)).alloc (.cells #[.int .i64 s, .slice A' n c', .int .i64 t, .slice P' m pc'] 31)) := ⟨_, rfl⟩
  rw [← hy] at V0 V1 H1 H2 H3 H4 Hb ⊢
  clear hy
  have zy := V1.out.lt
  have a0 := V0.out.cell0
  have a1 := V0.out.cell1
  have b0 := V1.out.cell0
  have b1 := V1.out.cell1
  go_wp2_with fail
  refine (b_eq _ s _ _ _ _ n _ _ cs H1.out H2.out (by omega) (by omega) hn).mono ?_
  rintro e y2 ⟨rfl, hb⟩
  have V0 := Lib.hid (V0.out.below hb (by omega))
  have V1 := Lib.hid (V1.out.below hb (by omega))
  have H3 := Lib.hid (H3.out.below hb (by omega))
  have H4 := Lib.hid (H4.out.below hb (by omega))
  have Hb := Lib.hid (Hb.out.trans (hb.mono (by omega)))
  clear hb a0 a1 b0 b1 H1 H2
  have a2 := V0.out.cell2
  have a3 := V0.out.cell3
  have b2 := V1.out.cell2
  have b3 := V1.out.cell3
  go_wp2_with fail
  refine (eqs_t _ _ _ _ _ _ _ _ _ H3.out H4.out hm).mono ?_
  rintro e w' ⟨k, rfl, rfl⟩
  go_wp2_with fail
  go_ret
  exact ⟨rfl, drew_below Hb.out k⟩
end Go.Proofs.Ytmokpaofljdehaa
