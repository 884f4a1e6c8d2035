/-
  The model's PatternAt.
-/
import Derived.Test.YtpopbcmfbcmojaaPaJ
import Derived.Test.YtpopbcmfbcmojaaPaT
namespace Go.Proofs.Ytpopbcmfbcmojaa
set_option maxRecDepth 100000
open Go.RowKit

theorem s_patAt (s p : Int) (w : World) (B : Nat) (A : Option Addr) (n c : Nat) (cs : List Int) (h : Ints w B A n cs) (hB : B ≤ w.heap.size) (hn : n ≤ 1000000000) :
    Calls Try.prog 12 #[.agg #[.int .i64 s, .slice A n c], .int .i64 p] w fun e w' => e = .returned (.int .i64 (Pa.ans s cs p)) ∧ Below w.heap.size w w' := by
  obtain ⟨y1, hy1, hb1, z1, z2⟩ := new_box w (.cells #[.int .i64 s, .slice A n c] 25)
  have X1 := Lib.hid (show Bx 25 y1 w.heap.size s (.slice A n c) by rw [hy1]; exact Bx.new _ _ _ _)
  have I1 := Lib.hid (h.below hb1 hB)
  have HB := Lib.hid hb1
  clear h hb1
  go_enter Try.func12, Try.ntmps12
  go_upto_region 1 with (fail)
  rw [← hy1]
  clear hy1
  have u0 := X1.out.cell0
  have u1 := X1.out.cell1
  have ul := X1.out.lt
  go_wp2_with fail
  refine (s_validBoard s _ B A n c cs I1.out (by omega) hn).mono ?_
  rintro e y2 ⟨rfl, hb2⟩
  have X1 := Lib.hid (X1.out.below hb2 ul)
  have I1 := Lib.hid (I1.out.below hb2 (by omega))
  have HB := Lib.hid (HB.out.trans (hb2.mono HB.out.size))
  have z3 := hb2.size
  clear hb2 u0 u1 ul
  have u0 := X1.out.cell0
  have u1 := X1.out.cell1
  have ul := X1.out.lt
  by_cases hv : Bd.okB s cs = true
  · rw [hv]
    obtain ⟨v1, v2, _, _⟩ := (Bd.okB_iff s cs).1 hv
    have hpp : Pt.okP s p = (decide (0 ≤ p) && decide (p < s * s)) := by
      unfold Pt.okP
      rw [(Pt.okS_iff s).2 ⟨v1, v2⟩, Bool.true_and]
    by_cases hp : Pt.okP s p = true
    · have hf : Pa.ans s cs p = Pa.pat s cs p := by unfold Pa.ans; rw [hv, hp, if_pos (by decide)]
      have HF := Lib.hid hf
      obtain ⟨_, _, p3, p4⟩ := (Pt.okP_iff s p).1 hp
      rw [hpp] at hp
      have Hp := Lib.hid hp
      clear hf hp hpp
      go_wp2_with fail
      refine (s_vpoint s p _ v1 v2).mono ?_
      rintro e y3 ⟨rfl, rfl⟩
      rw [Hp.out]
      go_wp2_with fail
      refine (s_pat0 s p _ B A n c cs I1.out (by omega) hv p3 p4).mono ?_
      rintro e y4 ⟨rfl, hb4⟩
      have HB := Lib.hid (HB.out.trans (hb4.mono HB.out.size))
      clear hb4
      go_wp2_with fail
      go_ret
      exact ⟨ret_int HF.out.symm, HB.out⟩
    · have hp' : Pt.okP s p = false := by simpa using hp
      have hf : Pa.ans s cs p = -1 := by unfold Pa.ans; rw [hv, hp', if_neg (by decide)]
      have HF := Lib.hid hf
      rw [hpp] at hp'
      have Hp := Lib.hid hp'
      clear hf hp hp' hpp
      go_wp2_with fail
      refine (s_vpoint s p _ v1 v2).mono ?_
      rintro e y3 ⟨rfl, rfl⟩
      rw [Hp.out]
      go_wp2_with fail
      go_ret
      exact ⟨ret_int HF.out.symm, HB.out⟩
  · have hv' : Bd.okB s cs = false := by simpa using hv
    have hf : Pa.ans s cs p = -1 := by unfold Pa.ans; rw [hv', Bool.false_and, if_neg (by decide)]
    have HF := Lib.hid hf
    rw [hv']
    clear hv hv' hf
    go_wp2_with fail
    go_ret
    exact ⟨ret_int HF.out.symm, HB.out⟩
end Go.Proofs.Ytpopbcmfbcmojaa
