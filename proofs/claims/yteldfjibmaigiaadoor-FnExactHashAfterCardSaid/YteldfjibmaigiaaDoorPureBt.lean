/-
  Sets of points as the bits of a number. No program is imported.
-/
import Derived.Lib.TrailingZeros
namespace Go.Proofs.YteldfjibmaigiaaDoor.Bt
set_option maxRecDepth 100000

/-- The points of a set below n, in ascending order. -/
def pts (m n : Nat) : List Int := ((List.range n).filter fun q => m.testBit q).map fun (q : Nat) => (q : Int)
theorem pts_yes {m j : Nat} (h : m.testBit j = true) : pts m (j + 1) = pts m j ++ [(j : Int)] := by
  unfold pts
  rw [List.range_succ, List.filter_append, List.filter_cons, h]
  simp
theorem pts_no {m j : Nat} (h : m.testBit j = false) : pts m (j + 1) = pts m j := by
  unfold pts
  rw [List.range_succ, List.filter_append, List.filter_cons, h]
  simp
theorem pts_gap {m j k : Nat} (hjk : j ≤ k) (h : ∀ i, j ≤ i → i < k → m.testBit i = false) : pts m k = pts m j := by
  induction k with
  | zero => have : j = 0 := by omega
            rw [this]
  | succ k ih =>
    by_cases e : j = k + 1
    · rw [e]
    · rw [pts_no (h k (by omega) (by omega))]
      exact ih (by omega) fun i h1 h2 => h i h1 (by omega)
theorem pts_len (m n : Nat) : (pts m n).length ≤ n := by
  unfold pts
  rw [List.length_map]
  have := List.length_filter_le (fun q => m.testBit q) (List.range n)
  simpa using this
theorem pts_ext {m m' n : Nat} (h : ∀ q, q < n → m.testBit q = m'.testBit q) : pts m n = pts m' n := by
  unfold pts
  congr 1
  exact List.filter_congr fun q hq => h q (List.mem_range.1 hq)
theorem pts_mem {m n : Nat} {x : Int} : x ∈ pts m n ↔ ∃ q : Nat, x = q ∧ q < n ∧ m.testBit q = true := by
  unfold pts
  simp only [List.mem_map, List.mem_filter, List.mem_range]
  constructor
  · rintro ⟨q, ⟨a, b⟩, rfl⟩
    exact ⟨q, rfl, a, b⟩
  · rintro ⟨q, rfl, a, b⟩
    exact ⟨q, ⟨a, b⟩, rfl⟩
theorem high {m n j : Nat} (h : m < 2 ^ n) (hj : n ≤ j) : m.testBit j = false :=
  Nat.testBit_lt_two_pow (Nat.lt_of_lt_of_le h (Nat.pow_le_pow_right (by decide) hj))
theorem pts_more {m n k : Nat} (h : m < 2 ^ n) (hk : n ≤ k) : pts m k = pts m n := pts_gap hk fun _ hi _ => high h hi

/-- The lowest bit of x. -/
theorem low {x n : Nat} (h0 : x ≠ 0) (h : x < 2 ^ n) : ∃ a, x = 2 ^ (Lib.ctz n x + 1) * a + 2 ^ Lib.ctz n x ∧ Lib.ctz n x < n := by
  obtain ⟨a, ha, hk⟩ := Lib.ctzFrom_spec n x (by omega) h
  have e : Lib.ctz n x = Lib.ctzFrom n x := by simp [Lib.ctz, h0]
  rw [e]
  refine ⟨a, ?_, hk⟩
  have : 2 ^ (Lib.ctzFrom n x + 1) * a + 2 ^ Lib.ctzFrom n x = 2 ^ Lib.ctzFrom n x * (2 * a + 1) := by
    rw [Nat.pow_succ, Nat.mul_add, Nat.mul_one, Nat.mul_assoc]
  rw [this]
  exact ha
theorem two_lt (c : Nat) : 2 ^ c < 2 ^ (c + 1) := Nat.pow_lt_pow_right (by decide) (by omega)
theorem low_bit {x n : Nat} (h0 : x ≠ 0) (h : x < 2 ^ n) : x.testBit (Lib.ctz n x) = true ∧ (∀ i, i < Lib.ctz n x → x.testBit i = false) ∧ ∀ j, (x &&& (x - 1)).testBit j = (x.testBit j && decide (Lib.ctz n x < j)) := by
  obtain ⟨a, ha, _⟩ := low h0 h
  generalize Lib.ctz n x = c at ha
  have hp := Nat.two_pow_pos c
  have e1 : ∀ j, x.testBit j = if j < c + 1 then (2 ^ c).testBit j else a.testBit (j - (c + 1)) := fun j => by
    rw [ha, Nat.testBit_two_pow_mul_add _ (two_lt c)]
  have e2 : ∀ j, (x - 1).testBit j = if j < c + 1 then (2 ^ c - 1).testBit j else a.testBit (j - (c + 1)) := fun j => by
    have : x - 1 = 2 ^ (c + 1) * a + (2 ^ c - 1) := by omega
    rw [this, Nat.testBit_two_pow_mul_add _ (by have := two_lt c; omega)]
  refine ⟨?_, fun i hi => ?_, fun j => ?_⟩
  · rw [e1, if_pos (by omega), Nat.testBit_two_pow]; simp
  · rw [e1, if_pos (by omega), Nat.testBit_two_pow]; simp; omega
  · rw [Nat.testBit_and, e1, e2]
    by_cases hj : j < c + 1
    · rw [if_pos hj, if_pos hj, Nat.testBit_two_pow, Nat.testBit_two_pow_sub_one]
      have : decide (c < j) = false := by simp; omega
      rw [this]
      by_cases hc : c = j
      · subst hc; simp
      · simp [hc]
    · rw [if_neg hj, if_neg hj]
      have : decide (c < j) = true := by simp; omega
      rw [this]; simp
theorem and_pred_lt {x : Nat} (h0 : x ≠ 0) : x &&& (x - 1) < x := Nat.lt_of_le_of_lt Nat.and_le_right (by omega)

/-- What the walk over the bits has at its k-th point: the points below k, and the bits from k on. -/
def From (m k r : Nat) : Prop := ∀ j, r.testBit j = (m.testBit j && decide (k ≤ j))
theorem From.zero (m : Nat) : From m 0 m := fun j => by simp
theorem From.done {m k r n : Nat} (h : From m k r) (h0 : r = 0) (hk : k ≤ n) : pts m k = pts m n := by
  subst h0
  refine (pts_gap hk fun i h1 _ => ?_).symm
  have := h i
  rw [Nat.zero_testBit] at this
  simp at this
  cases e : m.testBit i
  · rfl
  · exact absurd (this e) (by omega)
theorem From.step {m k r n : Nat} (h : From m k r) (h0 : r ≠ 0) (hr : r < 2 ^ n) : pts m (Lib.ctz n r + 1) = pts m k ++ [((Lib.ctz n r : Nat) : Int)] ∧ From m (Lib.ctz n r + 1) (r &&& (r - 1)) ∧ Lib.ctz n r < n ∧ k ≤ Lib.ctz n r := by
  obtain ⟨b1, b2, b3⟩ := low_bit h0 hr
  obtain ⟨_, _, hc⟩ := low h0 hr
  generalize Lib.ctz n r = c at b1 b2 b3 hc
  have hck : k ≤ c := by
    have := h c
    rw [b1] at this
    simp at this
    exact this.2
  have hmc : m.testBit c = true := by
    have := h c
    rw [b1] at this
    simp at this
    exact this.1
  refine ⟨?_, fun j => ?_, hc, hck⟩
  · rw [pts_yes hmc, pts_gap hck fun i h1 h2 => ?_]
    have := h i
    rw [b2 i h2] at this
    simp [h1] at this
    exact this
  · rw [b3, h j]
    by_cases hj : c < j
    · have e1 : decide (k ≤ j) = true := by simp; omega
      have e2 : decide (c + 1 ≤ j) = true := by simp; omega
      have e3 : decide (c < j) = true := by simp; omega
      rw [e1, e2, e3]; simp
    · have e2 : decide (c + 1 ≤ j) = false := by simp; omega
      have e3 : decide (c < j) = false := by simp; omega
      rw [e2, e3]; simp

/-- 2^64 − 1 − a. -/
theorem not_bit {a j : Nat} (ha : a < 18446744073709551616) : (18446744073709551615 - a).testBit j = (decide (j < 64) && !a.testBit j) := by
  have : 18446744073709551615 - a = 2 ^ 64 - (a + 1) := by omega
  rw [this, Nat.testBit_two_pow_sub_succ (by omega)]
theorem andNot_bit {a b j : Nat} (ha : a < 18446744073709551616) (hb : b < 18446744073709551616) : (a &&& (18446744073709551615 - b)).testBit j = (a.testBit j && !b.testBit j) := by
  rw [Nat.testBit_and, not_bit hb]
  by_cases h : j < 64
  · simp [h]
  · rw [high (n := 64) ha (by omega)]; simp
theorem or_lt {a b n : Nat} (ha : a < 2 ^ n) (hb : b < 2 ^ n) : a ||| b < 2 ^ n := Nat.or_lt_two_pow ha hb
theorem and_lt {a b n : Nat} (ha : a < 2 ^ n) : a &&& b < 2 ^ n := Nat.lt_of_le_of_lt Nat.and_le_left ha
end Go.Proofs.YteldfjibmaigiaaDoor.Bt
