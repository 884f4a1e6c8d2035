/-
  Whether a point is an eye, in both packages.
-/
import Derived.Test.YtpogjegihhljpaaDoorEyeT
import Derived.Test.YtpogjegihhljpaaDoorBoardI
namespace Go.Proofs.YtpogjegihhljpaaDoor
set_option maxRecDepth 100000
open Go.RowKit

def eyB (s : Int) (cs : List Int) (p x : Int) : Bool := Bd.okB s cs && (Pt.okP s p && ((decide (1 ≤ x) && decide (x ≤ 2)) && eyeS s cs p x))

theorem s_vpt (s p : Int) (w : World) : Calls Tryd.prog 54 #[.int .i64 s, .int .i64 p] w fun e w' => e = .returned (.bool (decide (0 ≤ p) && decide (p ≤ wrap64 (wrap64 (s * s) - 1)))) ∧ w = w' := by
  go_enter Tryd.func54, Tryd.ntmps54
  go_wp2_with fail
  refine (s_range _ _ _ _).mono ?_
  rintro e w' ⟨rfl, rfl⟩
  go_wp2_with fail
  go_ret
  exact ⟨rfl, rfl⟩
theorem s_vptB (s p : Int) (w : World) (h1 : 1 ≤ s) (h2 : s ≤ 7) : Calls Tryd.prog 54 #[.int .i64 s, .int .i64 p] w fun e w' => e = .returned (.bool (Pt.okP s p)) ∧ w = w' := by
  have hsq := Pt.sq_bd s h1 h2
  have e1 : wrap64 (s * s) = s * s := by unfold wrap64; omega
  have e2 : wrap64 (s * s - 1) = s * s - 1 := by unfold wrap64; omega
  have e : (decide (0 ≤ p) && decide (p ≤ wrap64 (wrap64 (s * s) - 1))) = Pt.okP s p := by
    rw [e1, e2, Bool.eq_iff_iff, Pt.okP_iff, Bool.and_eq_true, decide_eq_true_eq, decide_eq_true_eq]
    omega
  rw [← e]
  exact s_vpt s p w
theorem i_eyeStone (x : Int) (w : World) : Calls Tryd.prog 46 #[.int .i64 x] w fun e w' => e = .returned (.bool (decide (1 ≤ x) && decide (x ≤ 2))) ∧ w = w' := by
  refine (i_isStone x w).mono ?_
  rintro e w' ⟨rfl, rfl⟩
  refine ⟨ret_bool ?_, rfl⟩
  rw [Bool.eq_iff_iff]
  simp
  omega

theorem bit_ne (m p : Nat) (hm : m < 18446744073709551616) (hp : p < 64) : (bits .and .u64 (m : Int) ((2 ^ p : Nat) : Int) != 0) = m.testBit p := by
  have hpp : 2 ^ p < 18446744073709551616 := Nat.pow_lt_pow_right (n := 64) (by decide) hp
  rw [u64_and_nat _ _ hm hpp]
  have hb : (m &&& 2 ^ p).testBit p = m.testBit p := by rw [Nat.testBit_and, Nat.testBit_two_pow_self, Bool.and_true]
  cases e : m.testBit p
  · have : m &&& 2 ^ p = 0 := Nat.eq_of_testBit_eq fun j => by
      rw [Nat.testBit_and, Nat.testBit_two_pow, Nat.zero_testBit]
      by_cases hj : p = j
      · subst hj; rw [e]; rfl
      · rw [decide_eq_false hj, Bool.and_false]
    rw [this]; rfl
  · have : m &&& 2 ^ p ≠ 0 := fun h0 => by rw [h0, Nat.zero_testBit, e] at hb; cases hb
    rw [bne_iff_ne]
    omega

section
variable (s p x : Int) (w : World) (B : Nat) (A : Option Addr) (n c : Nat) (cs : List Int) (h : Ints w B A n cs) (hB : B ≤ w.heap.size) (hn : n ≤ 1000000000)
include h hB hn

end
end Go.Proofs.YtpogjegihhljpaaDoor
