/-
  The set of the points of a color, as the bits of a number. No program is imported.
-/
import Derived.Test.YteldfjibmaigiaaDoorPureBt
namespace Go.Proofs.YteldfjibmaigiaaDoor.Bt
set_option maxRecDepth 100000

/-- The points below j with color x. -/
def msk (cs : List Int) (x : Int) : Nat → Nat
  | 0 => 0
  | j + 1 => if cs.getD j 0 = x then msk cs x j ||| 2 ^ j else msk cs x j
theorem msk_lt (cs : List Int) (x : Int) : ∀ j, msk cs x j < 2 ^ j
  | 0 => by simp [msk]
  | j + 1 => by
    have := msk_lt cs x j
    have h2 : 2 ^ j < 2 ^ (j + 1) := two_lt j
    unfold msk
    split
    · exact or_lt (by omega) h2
    · omega
theorem msk_bit (cs : List Int) (x : Int) : ∀ j p, (msk cs x j).testBit p = (decide (p < j) && decide (cs.getD p 0 = x))
  | 0, p => by simp [msk]
  | j + 1, p => by
    have ih := msk_bit cs x j p
    unfold msk
    by_cases hp : p = j
    · subst hp
      have hl : (msk cs x p).testBit p = false := high (msk_lt cs x p) (Nat.le_refl _)
      split
      · rename_i h
        rw [Nat.testBit_or, Nat.testBit_two_pow, hl, decide_eq_true h]
        simp
      · rename_i h
        rw [hl, decide_eq_false h]
        simp
    · have e : decide (p < j + 1) = decide (p < j) := decide_eq_decide.2 (by omega)
      rw [e]
      split
      · rw [Nat.testBit_or, Nat.testBit_two_pow, ih]
        have : decide (j = p) = false := by simp; omega
        rw [this, Bool.or_false]
      · exact ih
theorem msk_yes {cs : List Int} {x : Int} {j : Nat} (h : cs.getD j 0 = x) : msk cs x (j + 1) = msk cs x j ||| 2 ^ j := by rw [msk, if_pos h]
theorem msk_no {cs : List Int} {x : Int} {j : Nat} (h : cs.getD j 0 ≠ x) : msk cs x (j + 1) = msk cs x j := by rw [msk, if_neg h]
end Go.Proofs.YteldfjibmaigiaaDoor.Bt
