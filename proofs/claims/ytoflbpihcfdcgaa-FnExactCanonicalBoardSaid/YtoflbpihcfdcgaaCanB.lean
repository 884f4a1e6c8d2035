/-
  CanonicalBoard in both packages, for every board.
-/
import Derived.Test.YtoflbpihcfdcgaaCanS
namespace Go.Proofs.Ytoflbpihcfdcgaa
open Go.RowKit

/-- What CanonicalBoard answers. -/
def CanIs (s : Int) (n : Nat) (cs : List Int) (s' : Int) (ds : List Int) (a : Int) : Prop :=
  (Bd.okB s cs = true → s' = s ∧ Cn s n cs 7 ds a) ∧ (Bd.okB s cs = false → s' = 0 ∧ ds = [] ∧ a = -1)
theorem CanIs.make (s : Int) (n : Nat) (cs : List Int) : ∃ s' ds a, CanIs s n cs s' ds a := by
  rcases Bool.eq_false_or_eq_true (Bd.okB s cs) with e | e
  · obtain ⟨ds, a, h⟩ := Cn.make s n cs 7
    exact ⟨s, ds, a, ⟨fun _ => ⟨rfl, h⟩, fun h => absurd (e.symm.trans h) (by decide)⟩⟩
  · exact ⟨0, [], -1, ⟨fun h => absurd (e.symm.trans h) (by decide), fun _ => ⟨rfl, rfl, rfl⟩⟩⟩
theorem CanIs.few {s : Int} {n : Nat} {cs : List Int} {s' : Int} {ds : List Int} {a : Int} (h : CanIs s n cs s' ds a) (hl : cs.length = n) : ds.length ≤ n := by
  rcases Bool.eq_false_or_eq_true (Bd.okB s cs) with e | e
  · rw [(h.1 e).2.len hl]; exact Nat.le_refl _
  · rw [(h.2 e).2.1]; exact Nat.zero_le _

section
variable (s : Int) (w : World) (B : Nat) (A : Option Addr) (n c : Nat) (cs : List Int) (h : Ints w B A n cs) (hB : B ≤ w.heap.size) (hn : n ≤ 1000000000) (s' : Int) (ds : List Int) (a : Int) (Hd : Hid (CanIs s n cs s' ds a))
include h hB hn Hd

set_option maxRecDepth 100000 in
set_option maxHeartbeats 4000000 in
theorem i_Can : Calls Try.prog 28 #[.agg #[.int .i64 s, .slice A n c]] w fun e w' => MadeI s' ds a w e w' := by
  rcases Bool.eq_false_or_eq_true (Bd.okB s cs) with hv | hv
  · obtain ⟨rfl, h1⟩ := Hd.out.1 hv
    exact i_canV s' w B A n c cs h hB hv ds a (Lib.hid h1)
  · obtain ⟨rfl, rfl, rfl⟩ := Hd.out.2 hv
    have e1 : (w.alloc (.cells #[.int .i64 s, .slice A n c] 25)).heap.size = w.heap.size + 1 := by simp
    have x0 := (Bx.new 25 w s (.slice A n c)).alloc (.cells #[.int .i64 0, .slice none 0 0] 25)
    have x1 := Bx.new 25 (w.alloc (.cells #[.int .i64 s, .slice A n c] 25)) 0 (.slice none 0 0)
    rw [e1] at x1
    have hb2 : Below w.heap.size w ((w.alloc (.cells #[.int .i64 s, .slice A n c] 25)).alloc (.cells #[.int .i64 0, .slice none 0 0] 25)) := ((Below.refl _ _).alloc (Nat.le_refl _) _).alloc (by simp) _
    have H := Lib.hid (h.below hb2 hB)
    have X0 := Lib.hid x0
    have X1 := Lib.hid x1
    have Hb := Lib.hid hb2
    clear e1 x0 x1 hb2 h
    go_enter Try.func28, Try.ntmps28
    go_wp2_with fail
    refine (i_validBoard _ _ _ _ _ _ _ H.out (by simp; omega) hn).mono ?_
    rintro e y2 ⟨rfl, hb⟩
    rw [hv]
    have X1 := Lib.hid (X1.out.below hb X1.out.lt)
    have Hb := Lib.hid (Hb.out.trans (hb.mono (by simp; omega)))
    clear hb hv
    have v10 := X1.out.cell0
    have v11 := X1.out.cell1
    have v12 := X1.out.frozen 0
    have v13 := X1.out.frozen 1
    have v14 := X1.out.lt
    have K0 := Lib.hid ((X1.out.set0 0).cell0)
    have K1 := Lib.hid (((X1.out.set0 0).set1 (.slice none 0 0)).cell1)
    have Hb3 := Lib.hid ((Hb.out.setCell (p := ⟨w.heap.size + 1, 0, none⟩) (by show w.heap.size ≤ w.heap.size + 1; omega) (.int .i64 0)).setCell (p := ⟨w.heap.size + 1, 1, none⟩) (by show w.heap.size ≤ w.heap.size + 1; omega) (.slice none 0 0))
    go_wp2_with fail
    have k0 := K0.out
    have k1 := K1.out
    refine bodyPost_ret (v := .tuple #[.agg #[.int .i64 0, .slice none 0 0], .int .i64 (-1)]) (by simp [results, Try.results28, go_sem, k0, k1]) rfl ?_
    exact ⟨_, _, _, rfl, Own.nil _ _, Hb3.out⟩

set_option maxRecDepth 100000 in
set_option maxHeartbeats 4000000 in
theorem s_Can : Calls Try.prog 26 #[.agg #[.int .i64 s, .slice A n c]] w fun e w' => MadeI s' ds a w e w' := by
  have hl := h.1
  have e1 : (w.alloc (.cells #[.int .i64 s, .slice A n c] 25)).heap.size = w.heap.size + 1 := by simp
  have x0 := (Bx.new 25 w s (.slice A n c)).alloc (.cells #[.int .i64 0, .slice none 0 0] 25)
  have x1 := Bx.new 25 (w.alloc (.cells #[.int .i64 s, .slice A n c] 25)) 0 (.slice none 0 0)
  rw [e1] at x1
  have hb2 : Below w.heap.size w ((w.alloc (.cells #[.int .i64 s, .slice A n c] 25)).alloc (.cells #[.int .i64 0, .slice none 0 0] 25)) := ((Below.refl _ _).alloc (Nat.le_refl _) _).alloc (by simp) _
  have H := Lib.hid (h.below hb2 hB)
  have X0 := Lib.hid x0
  have X1 := Lib.hid x1
  have Hb := Lib.hid hb2
  clear e1 x0 x1 hb2 h
  go_enter Try.func26, Try.ntmps26
  go_wp2_with fail
  refine (s_validBoard _ _ _ _ _ _ _ H.out (by simp; omega) hn).mono ?_
  rintro e y2 ⟨rfl, hb⟩
  have X0 := Lib.hid (X0.out.below hb X0.out.lt)
  have X1 := Lib.hid (X1.out.below hb X1.out.lt)
  have H := Lib.hid (H.out.below hb (by simp; omega))
  have Hb := Lib.hid (Hb.out.trans (hb.mono (by simp; omega)))
  have z2 := X1.out.lt
  clear hb
  rcases Bool.eq_false_or_eq_true (Bd.okB s cs) with hv | hv
  · obtain ⟨hs', h1⟩ := Hd.out.1 hv
    have Hs' := Lib.hid hs'
    have H1 := Lib.hid h1
    have Hv := Lib.hid hv
    rw [hv]
    have u00 := X0.out.cell0
    have u01 := X0.out.cell1
    have u02 := X0.out.lt
    clear hv h1 hs'
    go_wp2_with fail
    refine (s_canonical _ _ B _ n _ cs H.out (by omega) Hv.out ds a H1).mono ?_
    rintro e y3 ⟨A3, n3, c3, rfl, ho, hb⟩
    have X1 := Lib.hid (X1.out.below hb X1.out.lt)
    have Hb := Lib.hid (Hb.out.trans (hb.mono (by omega)))
    have Ho := Lib.hid (ho.weaken (B' := w.heap.size + 2) (by omega))
    clear hb ho u00 u01
    have v10 := X1.out.cell0
    have v11 := X1.out.cell1
    have v12 := X1.out.frozen 0
    have v13 := X1.out.frozen 1
    have v14 := X1.out.lt
    have K0 := Lib.hid ((X1.out.set0 s).cell0)
    have K1 := Lib.hid (((X1.out.set0 s).set1 (.slice A3 n3 c3)).cell1)
    have Ho2 := Lib.hid ((Ho.out.far ⟨w.heap.size + 1, 0, none⟩ (fun g hA => by have := (Ho.out.ge hA).1; show g ≠ w.heap.size + 1; omega) (.int .i64 s)).far ⟨w.heap.size + 1, 1, none⟩ (fun g hA => by have := (Ho.out.ge hA).1; show g ≠ w.heap.size + 1; omega) (.slice A3 n3 c3))
    have Hb3 := Lib.hid ((Hb.out.setCell (p := ⟨w.heap.size + 1, 0, none⟩) (by show w.heap.size ≤ w.heap.size + 1; omega) (.int .i64 s)).setCell (p := ⟨w.heap.size + 1, 1, none⟩) (by show w.heap.size ≤ w.heap.size + 1; omega) (.slice A3 n3 c3))
    go_wp2_with fail
    have k0 := K0.out
    have k1 := K1.out
    refine bodyPost_ret (v := .tuple #[.agg #[.int .i64 s, .slice A3 n3 c3], .int .i64 a]) (by simp [results, Try.results26, go_sem, k0, k1]) rfl ?_
    exact ⟨_, _, _, by rw [Hs'.out], Ho2.out.weaken (by omega), Hb3.out⟩
  · obtain ⟨hs', hds, ha⟩ := Hd.out.2 hv
    have Hs' := Lib.hid hs'
    have Hds := Lib.hid hds
    have Ha := Lib.hid ha
    clear hs' hds ha
    rw [hv]
    clear hv
    have v10 := X1.out.cell0
    have v11 := X1.out.cell1
    have v12 := X1.out.frozen 0
    have v13 := X1.out.frozen 1
    have v14 := X1.out.lt
    have K0 := Lib.hid ((X1.out.set0 0).cell0)
    have K1 := Lib.hid (((X1.out.set0 0).set1 (.slice none 0 0)).cell1)
    have Hb3 := Lib.hid ((Hb.out.setCell (p := ⟨w.heap.size + 1, 0, none⟩) (by show w.heap.size ≤ w.heap.size + 1; omega) (.int .i64 0)).setCell (p := ⟨w.heap.size + 1, 1, none⟩) (by show w.heap.size ≤ w.heap.size + 1; omega) (.slice none 0 0))
    go_wp2_with fail
    have k0 := K0.out
    have k1 := K1.out
    refine bodyPost_ret (v := .tuple #[.agg #[.int .i64 0, .slice none 0 0], .int .i64 (-1)]) (by simp [results, Try.results26, go_sem, k0, k1]) rfl ?_
    exact ⟨_, _, _, by rw [Hs'.out, Ha.out], by rw [Hds.out]; exact Own.nil _ _, Hb3.out⟩
end
end Go.Proofs.Ytoflbpihcfdcgaa
