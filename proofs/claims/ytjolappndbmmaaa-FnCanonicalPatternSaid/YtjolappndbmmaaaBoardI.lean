/-
  The program's tests of boards; new boards of both packages.
-/
import Derived.Test.YtjolappndbmmaaaBoard
namespace Go.Proofs.Ytjolappndbmmaaa
set_option maxRecDepth 100000
open Go.RowKit

theorem i_isStone (c : Int) (w : World) : Calls Try.prog 42 #[.int .i64 c] w fun e w' => e = .returned (.bool (c == 1 || c == 2)) ∧ w = w' := by
  rcases Bool.eq_false_or_eq_true (c == 1) with h | h
  all_goals
    go_enter Try.func42, Try.ntmps42
    go_wp2_with fail
    go_ret
    exact ⟨ret_bool (by rw [h]; rfl), rfl⟩

theorem okC_or (c : Int) : Bd.okC c = (c == 0 || (c == 1 || c == 2)) := by
  rw [Bool.eq_iff_iff, Bd.okC_iff]
  simp only [Bool.or_eq_true, beq_iff_eq]
  omega

/-- A board that the call made: size s', cells cs'. -/
def Made (s' : Int) (cs' : List Int) (w : World) (e : Ending) (w' : World) : Prop :=
  ∃ A n c, e = .returned (.agg #[.int .i64 s', .slice A n c]) ∧ Own w' w.heap.size A n c cs' ∧ Below w.heap.size w w'

def newS (s : Int) : Int := if Pt.okS s then s else 0
def newCs (s : Int) : List Int := if Pt.okS s then List.replicate (s * s).toNat 0 else []

theorem s_new (s : Int) (w : World) : Calls Try.prog 79 #[.int .i64 s] w fun e w' => Made (newS s) (newCs s) w e w' := by
  by_cases h : Pt.okS s = true
  · obtain ⟨s1, s2⟩ := (Pt.okS_iff s).1 h
    have hsq := Pt.sq_bd s s1 s2
    have Hs := Lib.hid (show newS s = s by rw [newS, if_pos h])
    have Hc := Lib.hid (show newCs s = List.replicate (s * s).toNat 0 by rw [newCs, if_pos h])
    go_enter Try.func79, Try.ntmps79
    go_wp2_with fail
    refine (s_size _ _).mono ?_
    rintro e w' ⟨rfl, rfl⟩
    have Hbw := Lib.hid ((Below.refl w.heap.size w).alloc (Nat.le_refl _) (.cells #[.int .i64 0, .slice none 0 0] 76))
    have Hx := Lib.hid (Bx.new 76 w 0 (.slice none 0 0))
    go_wp2_with (at_make; refine make0 rfl _ rfl _ (w.heap.size + 1) _ (s * s).toNat rfl (by omega) (by omega) (by simp) ?_; intro w1 hown hb hlt; have hbx := Hx.out.below hb (by simp); have c0 := hbx.cell0; have c1 := hbx.cell1; have f0 := hbx.frozen 0; have f1 := hbx.frozen 1; have hl0 := hbx.lt)
    have k0 := (hbx.set0 s).cell0
    have k1 := ((hbx.set0 s).set1 (.slice (some ⟨w.heap.size + 1, 0, none⟩) (s * s).toNat (s * s).toNat)).cell1
    refine bodyPost_ret (v := .agg #[.int .i64 s, .slice (some ⟨w.heap.size + 1, 0, none⟩) (s * s).toNat (s * s).toNat]) (by simp [results, Try.results79, go_sem, k0, k1]) rfl ?_
    have e0 : (w.alloc (.cells #[.int .i64 0, .slice none 0 0] 76)).heap.size = w.heap.size + 1 := by simp
    rw [e0] at hown
    have ho2 := ((hown.far ⟨w.heap.size, 0, none⟩ (fun g hA => by have := (hown.ge hA).1; show g ≠ w.heap.size; omega) (.int .i64 s)).far ⟨w.heap.size, 1, none⟩ (fun g hA => by have := (hown.ge hA).1; show g ≠ w.heap.size; omega) (.slice (some ⟨w.heap.size + 1, 0, none⟩) (s * s).toNat (s * s).toNat)).weaken (B' := w.heap.size) (by omega)
    exact ⟨_, _, _, by rw [Hs.out], by rw [Hc.out]; exact ho2, ((Hbw.out.trans (hb.mono (by omega))).setCell (Nat.le_refl _) _).setCell (Nat.le_refl _) _⟩
  · have h' : Pt.okS s = false := by simpa using h
    have Hs := Lib.hid (show newS s = 0 by rw [newS, if_neg h])
    have Hc := Lib.hid (show newCs s = [] by rw [newCs, if_neg h])
    clear h
    go_enter Try.func79, Try.ntmps79
    go_wp2_with fail
    refine (s_size _ _).mono ?_
    rintro e w' ⟨rfl, rfl⟩
    go_wp2_with fail
    go_returns
    exact ⟨_, _, _, by rw [Hs.out], by rw [Hc.out]; exact Own.nil _ _, (Below.refl w.heap.size w).alloc (Nat.le_refl _) _⟩

end Go.Proofs.Ytjolappndbmmaaa
