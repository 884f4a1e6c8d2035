/-
  FormatBoard in both packages, for every board.
-/
import Derived.Test.YtfpibldknjcehaaFmtI
import Derived.Test.YtfpibldknjcehaaRows2
namespace Go.Proofs.Ytfpibldknjcehaa
set_option maxRecDepth 100000
open Go.RowKit

theorem own_cap {w : World} {B n c : Nat} {A : Option Addr} {xs : List Int} (h : Own w B A n c xs) : n ≤ c ∧ c ≤ 9223372036854775807 := by
  rcases h.2.2 with ⟨e, _⟩ | ⟨g, cap, cur, e, _, _, h1, h2, _⟩
  · injection e with _ e1 e2; omega
  · injection e with _ _ e2
    unfold maxLen at h2
    omega

section
variable (s : Int) (w : World) (B : Nat) (A : Option Addr) (n c : Nat) (cs : List Int) (h : Ints w B A n cs) (hB : B ≤ w.heap.size) (hn : n ≤ 1000000000)
include h hB hn

set_option maxHeartbeats 2000000 in
theorem i_FormatB (hc : n ≤ c) (hc2 : c ≤ 9223372036854775807) : Calls Try.prog 21 #[.agg #[.int .i64 s, .slice A n c]] w fun e w' => e = .returned (.string (fmtB s cs)) ∧ Below w.heap.size w w' := by
  rcases Bool.eq_false_or_eq_true (Bd.okB s cs) with hv | hv
  · obtain ⟨q1, q2, _, _⟩ := (Bd.okB_iff s cs).1 hv
    obtain ⟨k, rfl⟩ := Int.eq_ofNat_of_zero_le (show 0 ≤ s by omega)
    have hf : fmtB (k : Int) cs = strOfNums (Fm.fmt k cs) := by rw [fmtB, if_pos hv]; rfl
    rw [hf]
    exact i_FormatV k w B A n c cs h hB hc hc2 hv
  · have hf : fmtB s cs = ⟨#[]⟩ := by rw [fmtB, hv]; rfl
    have HF := Lib.hid hf
    have hb1 : Below w.heap.size w (w.alloc (.cells #[.int .i64 s, .slice A n c] 25)) := (Below.refl _ _).alloc (Nat.le_refl _) _
    have X0 := Lib.hid (Bx.new 25 w s (.slice A n c))
    have H := Lib.hid (h.below hb1 hB)
    have Hb := Lib.hid hb1
    have Hv := Lib.hid hv
    clear h hb1 hv hf
    go_enter Try.func21, Try.ntmps21
    go_wp2_with fail
    refine (i_validBoard _ _ _ _ _ _ _ H.out (by simp; omega) (by omega)).mono ?_
    rintro e y ⟨rfl, hb⟩
    rw [Hv.out]
    have Hb := Lib.hid (Hb.out.trans (hb.mono (by simp)))
    clear hb
    go_wp2_with fail
    go_ret
    exact ⟨by rw [HF.out]; rfl, Hb.out⟩

set_option maxHeartbeats 2000000 in
theorem s_FormatB : Calls Try.prog 19 #[.agg #[.int .i64 s, .slice A n c]] w fun e w' => e = .returned (.string (fmtB s cs)) ∧ Below w.heap.size w w' := by
  have hl := h.1
  have hb1 : Below w.heap.size w (w.alloc (.cells #[.int .i64 s, .slice A n c] 25)) := (Below.refl _ _).alloc (Nat.le_refl _) _
  have X0 := Lib.hid (Bx.new 25 w s (.slice A n c))
  have H := Lib.hid (h.below hb1 hB)
  have Hb := Lib.hid hb1
  rcases Bool.eq_false_or_eq_true (Bd.okB s cs) with hv | hv
  · obtain ⟨q1, q2, q3, q4⟩ := (Bd.okB_iff s cs).1 hv
    obtain ⟨k, rfl⟩ := Int.eq_ofNat_of_zero_le (show 0 ≤ s by omega)
    have hf : fmtB (k : Int) cs = strOfNums (Fm.fmt k cs) := by rw [fmtB, if_pos hv]; rfl
    have hnk : n = k * k := by
      have : (n : Int) = ((k * k : Nat) : Int) := by rw [← hl]; push_cast; exact q3
      exact_mod_cast this
    have HF := Lib.hid hf
    have Hnk := Lib.hid hnk
    have Hok := Lib.hid (okL_mem.2 q4)
    have Hv := Lib.hid hv
    clear h hb1 hv hf q3 q4 hnk hl
    go_enter Try.func19, Try.ntmps19
    go_wp2_with fail
    refine (s_validBoard _ _ _ _ _ _ _ H.out (by simp; omega) (by omega)).mono ?_
    rintro e y ⟨rfl, hb⟩
    rw [Hv.out]
    have X0 := Lib.hid (X0.out.below hb X0.out.lt)
    have H := Lib.hid (H.out.below hb (by simp; omega))
    have Hb := Lib.hid (Hb.out.trans (hb.mono (by simp)))
    have hzy := X0.out.lt
    clear hb
    have u0 := X0.out.cell0
    have u1 := X0.out.cell1
    go_wp2_with fail
    refine (s_formatBoard k _ _ _ n _ cs H.out (by omega) (by omega) (by omega) Hnk.out Hok.out).mono ?_
    rintro e y2 ⟨rfl, hb⟩
    have Hb := Lib.hid (Hb.out.trans (hb.mono (by omega)))
    clear hb
    go_wp2_with fail
    go_ret
    exact ⟨by rw [HF.out]; rfl, Hb.out⟩
  · have hf : fmtB s cs = ⟨#[]⟩ := by rw [fmtB, hv]; rfl
    have HF := Lib.hid hf
    have Hv := Lib.hid hv
    clear h hb1 hv hf hl
    go_enter Try.func19, Try.ntmps19
    go_wp2_with fail
    refine (s_validBoard _ _ _ _ _ _ _ H.out (by simp; omega) (by omega)).mono ?_
    rintro e y ⟨rfl, hb⟩
    rw [Hv.out]
    have Hb := Lib.hid (Hb.out.trans (hb.mono (by simp)))
    clear hb
    go_wp2_with fail
    go_ret
    exact ⟨by rw [HF.out]; rfl, Hb.out⟩
end
end Go.Proofs.Ytfpibldknjcehaa
