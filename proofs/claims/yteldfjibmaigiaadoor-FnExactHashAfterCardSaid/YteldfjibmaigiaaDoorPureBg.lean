/-
  Sets of points as the bits of a number: the points beside, above, below and around; the diagonals. No program is imported.
-/
import Derived.Test.YteldfjibmaigiaaDoorPureBt
import Derived.Test.YteldfjibmaigiaaDoorPurePt
namespace Go.Proofs.YteldfjibmaigiaaDoor.Bt
set_option maxRecDepth 100000
open Pt

def full (s : Nat) : Nat := 2 ^ (s * s) - 1
def fst_ (s : Nat) : Nat := full s / (2 ^ s - 1)
def lst_ (s : Nat) : Nat := fst_ s * 2 ^ (s - 1)
def bes (s m : Nat) : Nat := (m &&& (18446744073709551615 - fst_ s)) / 2 ||| (m &&& (18446744073709551615 - lst_ s)) * 2 % 18446744073709551616
def abv (s m : Nat) : Nat := (m * 2 ^ s % 18446744073709551616 ||| m / 2 ^ s) &&& full s
def aro (s m : Nat) : Nat := bes s m ||| abv s m

theorem seven {P : Nat → Prop} (h : ∀ k : Fin 7, P ((k : Nat) + 1)) (s : Nat) (h1 : 1 ≤ s) (h2 : s ≤ 7) : P s := by
  obtain ⟨k, rfl⟩ : ∃ k, s = k + 1 := ⟨s - 1, by omega⟩
  exact h ⟨k, by omega⟩
theorem masks (s : Nat) (h1 : 1 ≤ s) (h2 : s ≤ 7) : fst_ s < 2 ^ 49 ∧ lst_ s < 2 ^ 49 ∧ full s < 2 ^ 49 ∧ 1 ≤ 2 ^ s - 1 ∧ 2 ^ s ≤ 128 ∧ 2 ^ (s - 1) ≤ 64 ∧ 2 ^ (s * s) ≤ 2 ^ 49 :=
  seven (P := fun s => fst_ s < 2 ^ 49 ∧ lst_ s < 2 ^ 49 ∧ full s < 2 ^ 49 ∧ 1 ≤ 2 ^ s - 1 ∧ 2 ^ s ≤ 128 ∧ 2 ^ (s - 1) ≤ 64 ∧ 2 ^ (s * s) ≤ 2 ^ 49) (by decide +kernel) s h1 h2
theorem fst_bit (s j : Nat) (h1 : 1 ≤ s) (h2 : s ≤ 7) (hj : j < 50) : (fst_ s).testBit j = (decide (j < s * s) && decide (j % s = 0)) :=
  seven (P := fun s => ∀ j : Fin 50, (fst_ s).testBit j = (decide ((j : Nat) < s * s) && decide ((j : Nat) % s = 0))) (by decide +kernel) s h1 h2 ⟨j, hj⟩
theorem lst_bit (s j : Nat) (h1 : 1 ≤ s) (h2 : s ≤ 7) (hj : j < 50) : (lst_ s).testBit j = (decide (j < s * s) && decide (j % s = s - 1)) :=
  seven (P := fun s => ∀ j : Fin 50, (lst_ s).testBit j = (decide ((j : Nat) < s * s) && decide ((j : Nat) % s = s - 1))) (by decide +kernel) s h1 h2 ⟨j, hj⟩
theorem sq_nat (s : Nat) (h1 : 1 ≤ s) (h2 : s ≤ 7) : 1 ≤ s * s ∧ s * s ≤ 49 ∧ s ≤ s * s :=
  seven (P := fun s => 1 ≤ s * s ∧ s * s ≤ 49 ∧ s ≤ s * s) (by decide) s h1 h2
theorem full_bit (s j : Nat) : (full s).testBit j = decide (j < s * s) := Nat.testBit_two_pow_sub_one _ _

theorem bes_bit (s m q : Nat) (h1 : 1 ≤ s) (h2 : s ≤ 7) (hm : m < 2 ^ (s * s)) :
    (bes s m).testBit q = (decide (q < s * s) && ((decide (q % s < s - 1) && m.testBit (q + 1)) || (decide (0 < q % s) && m.testBit (q - 1)))) := by
  obtain ⟨a1, a2, a3, a4, a5, a6, a7⟩ := masks s h1 h2
  obtain ⟨b1, b2, b3⟩ := sq_nat s h1 h2
  have hm64 : m < 18446744073709551616 := by omega
  have e1 : ((m &&& (18446744073709551615 - fst_ s)) / 2).testBit q = (m.testBit (q + 1) && !(fst_ s).testBit (q + 1)) := by
    rw [← Nat.testBit_succ, andNot_bit hm64 (by omega)]
  have e2 : ((m &&& (18446744073709551615 - lst_ s)) * 2 % 18446744073709551616).testBit q = (decide (q < 64) && (decide (1 ≤ q) && (m.testBit (q - 1) && !(lst_ s).testBit (q - 1)))) := by
    have := Nat.testBit_mod_two_pow ((m &&& (18446744073709551615 - lst_ s)) * 2) 64 q
    rw [show (2 : Nat) ^ 64 = 18446744073709551616 by decide] at this
    rw [this]
    have := Nat.testBit_mul_two_pow (m &&& (18446744073709551615 - lst_ s)) q 1
    rw [show (2 : Nat) ^ 1 = 2 by decide] at this
    rw [this, andNot_bit hm64 (by omega)]
  unfold bes
  rw [Nat.testBit_or, e1, e2]
  by_cases hq : q < s * s
  · have c1 : m.testBit (q + 1) = true → q + 1 < s * s := fun h => by
      rcases Nat.lt_or_ge (q + 1) (s * s) with h' | h'
      · exact h'
      · rw [high hm h'] at h; cases h
    rw [fst_bit s (q + 1) h1 h2 (by omega), lst_bit s (q - 1) h1 h2 (by omega)]
    have f1 : decide (q < s * s) = true := by simpa using hq
    have f2 : decide (q < 64) = true := by simp; omega
    have f3 : (m.testBit (q + 1) && !(decide (q + 1 < s * s) && decide ((q + 1) % s = 0))) = (decide (q % s < s - 1) && m.testBit (q + 1)) := by
      cases e : m.testBit (q + 1)
      · simp
      · have g1 := c1 e
        have g2 : ((q + 1) % s = 0) ↔ ¬ q % s < s - 1 := by
          have : s = 1 ∨ s = 2 ∨ s = 3 ∨ s = 4 ∨ s = 5 ∨ s = 6 ∨ s = 7 := by omega
          rcases this with rfl | rfl | rfl | rfl | rfl | rfl | rfl <;> omega
        have g3 : decide (q + 1 < s * s) = true := by simpa using g1
        rw [g3]
        by_cases g : q % s < s - 1
        · have : decide ((q + 1) % s = 0) = false := by rw [decide_eq_false_iff_not, g2]; exact fun hn => hn g
          rw [this]; simp [g]
        · have : decide ((q + 1) % s = 0) = true := by rw [decide_eq_true_eq, g2]; exact g
          rw [this]; simp [g]
    have f4 : (decide (1 ≤ q) && (m.testBit (q - 1) && !(decide (q - 1 < s * s) && decide ((q - 1) % s = s - 1)))) = (decide (0 < q % s) && m.testBit (q - 1)) := by
      by_cases g : 1 ≤ q
      · have g2 : ((q - 1) % s = s - 1) ↔ ¬ 0 < q % s := by
          have : s = 1 ∨ s = 2 ∨ s = 3 ∨ s = 4 ∨ s = 5 ∨ s = 6 ∨ s = 7 := by omega
          rcases this with rfl | rfl | rfl | rfl | rfl | rfl | rfl <;> omega
        have g3 : decide (q - 1 < s * s) = true := by simp; omega
        rw [g3]
        by_cases g' : 0 < q % s
        · have : decide ((q - 1) % s = s - 1) = false := by rw [decide_eq_false_iff_not, g2]; exact fun hn => hn g'
          rw [this]; simp [g, g']
        · have : decide ((q - 1) % s = s - 1) = true := by rw [decide_eq_true_eq, g2]; exact g'
          rw [this]; simp [g']
      · have : q = 0 := by omega
        subst this
        simp
    rw [f1, f2, f3, Bool.true_and, Bool.true_and, f4]
  · have f1 : decide (q < s * s) = false := by simpa using hq
    rw [f1, Bool.false_and, high hm (show s * s ≤ q + 1 by omega)]
    by_cases g : q - 1 < s * s
    · have hq1 : q = s * s := by omega
      rw [lst_bit s (q - 1) h1 h2 (by omega)]
      have g2 : (q - 1) % s = s - 1 := by
        subst hq1
        have : s = 1 ∨ s = 2 ∨ s = 3 ∨ s = 4 ∨ s = 5 ∨ s = 6 ∨ s = 7 := by omega
        rcases this with rfl | rfl | rfl | rfl | rfl | rfl | rfl <;> decide
      simp [g, g2]
    · rw [high hm (show s * s ≤ q - 1 by omega)]; simp

theorem abv_bit (s m q : Nat) (h1 : 1 ≤ s) (h2 : s ≤ 7) :
    (abv s m).testBit q = (decide (q < s * s) && ((decide (s ≤ q) && m.testBit (q - s)) || m.testBit (q + s))) := by
  obtain ⟨b1, b2, b3⟩ := sq_nat s h1 h2
  unfold abv
  rw [Nat.testBit_and, Nat.testBit_or, full_bit]
  have e1 : (m * 2 ^ s % 18446744073709551616).testBit q = (decide (q < 64) && (decide (s ≤ q) && m.testBit (q - s))) := by
    have := Nat.testBit_mod_two_pow (m * 2 ^ s) 64 q
    rw [show (2 : Nat) ^ 64 = 18446744073709551616 by decide] at this
    rw [this, Nat.testBit_mul_two_pow]
  have e2 : (m / 2 ^ s).testBit q = m.testBit (q + s) := by rw [Nat.testBit_div_two_pow]
  rw [e1, e2]
  by_cases hq : q < s * s
  · have f2 : decide (q < 64) = true := by simp; omega
    rw [f2]; simp [hq]
  · simp [hq]

/-- The points around a set: those with a neighbour in it. -/
theorem aro_bit (s m q : Nat) (h1 : 1 ≤ s) (h2 : s ≤ 7) (hm : m < 2 ^ (s * s)) :
    (aro s m).testBit q = (decide (q < s * s) && (nbs s q).any fun x => m.testBit x.toNat) := by
  unfold aro
  rw [Nat.testBit_or, bes_bit s m q h1 h2 hm, abv_bit s m q h1 h2]
  by_cases hq : q < s * s
  · have f1 : decide (q < s * s) = true := by simpa using hq
    rw [f1, Bool.true_and, Bool.true_and, Bool.true_and]
    unfold nbs nbL nbA nbB nbU
    rw [List.any_append, List.any_append, List.any_append]
    have g1 : ((if (s : Int) ≤ q then [(q : Int) - s] else []).any fun x => m.testBit x.toNat) = (decide (s ≤ q) && m.testBit (q - s)) := by
      by_cases h : s ≤ q
      · rw [if_pos (by omega)]
        have : ((q : Int) - s).toNat = q - s := by omega
        simp [this, h]
      · rw [if_neg (by omega)]; simp [h]
    have g2 : ((if 0 < (q : Int) % s then [(q : Int) - 1] else []).any fun x => m.testBit x.toNat) = (decide (0 < q % s) && m.testBit (q - 1)) := by
      by_cases h : 0 < q % s
      · rw [if_pos (by omega)]
        have : ((q : Int) - 1).toNat = q - 1 := by omega
        simp [this, h]
      · rw [if_neg (by omega)]; simp [h]
    have g3 : ((if (q : Int) % s < s - 1 then [(q : Int) + 1] else []).any fun x => m.testBit x.toNat) = (decide (q % s < s - 1) && m.testBit (q + 1)) := by
      by_cases h : q % s < s - 1
      · rw [if_pos (by omega)]
        have : ((q : Int) + 1).toNat = q + 1 := by omega
        simp [this, h]
      · rw [if_neg (by omega)]; simp [h]
    have g4 : ((if (q : Int) + s < s * s then [(q : Int) + s] else []).any fun x => m.testBit x.toNat) = m.testBit (q + s) := by
      by_cases h : q + s < s * s
      · rw [if_pos (by have : ((q + s : Nat) : Int) < ((s * s : Nat) : Int) := by exact_mod_cast h
                       simpa using this)]
        have : ((q : Int) + s).toNat = q + s := by omega
        simp [this]
      · rw [if_neg (fun h' => h (by have : ((q + s : Nat) : Int) < ((s * s : Nat) : Int) := by simpa using h'
                                    exact_mod_cast this)), high hm (by omega)]; simp
    rw [g1, g2, g3, g4]
    cases (decide (q % s < s - 1) && m.testBit (q + 1)) <;> cases (decide (0 < q % s) && m.testBit (q - 1)) <;> cases (decide (s ≤ q) && m.testBit (q - s)) <;> cases m.testBit (q + s) <;> rfl
  · simp [hq]

theorem bes_lt (s m : Nat) (h1 : 1 ≤ s) (h2 : s ≤ 7) (hm : m < 2 ^ (s * s)) : bes s m < 2 ^ (s * s) := by
  refine Nat.lt_pow_two_of_testBit _ fun i hi => ?_
  rw [bes_bit s m i h1 h2 hm]
  have : decide (i < s * s) = false := by simpa using hi
  rw [this, Bool.false_and]
theorem abv_lt (s m : Nat) : abv s m < 2 ^ (s * s) := by
  unfold abv
  rw [Nat.and_comm]
  refine and_lt ?_
  have := Nat.two_pow_pos (s * s)
  unfold full; omega
theorem aro_lt (s m : Nat) (h1 : 1 ≤ s) (h2 : s ≤ 7) (hm : m < 2 ^ (s * s)) : aro s m < 2 ^ (s * s) := or_lt (bes_lt s m h1 h2 hm) (abv_lt s m)

/-! ### Diagonals -/
def diY (s p : Int) (i : Nat) : Int := p / s - 1 + (i / 2 * 2 : Nat)
def diX (s p : Int) (i : Nat) : Int := p % s - 1 + (i % 2 * 2 : Nat)
def di1 (s p : Int) (i : Nat) : List Int := if (0 ≤ diY s p i ∧ diY s p i ≤ s - 1) ∧ (0 ≤ diX s p i ∧ diX s p i ≤ s - 1) then [diY s p i * s + diX s p i] else []
def dis (s p : Int) : Nat → List Int
  | 0 => []
  | i + 1 => dis s p i ++ di1 s p i
def dia (s p : Int) : List Int := dis s p 4
def diag (s p : Int) : List Int := if okP s p then dia s p else []
theorem di1_len (s p : Int) (i : Nat) : (di1 s p i).length ≤ 1 := by unfold di1; split <;> simp
theorem dis_len (s p : Int) (i : Nat) : (dis s p i).length ≤ i := by
  induction i with
  | zero => simp [dis]
  | succ i ih => have := di1_len s p i; simp only [dis, List.length_append]; omega
theorem dia_bits (s p : Nat) (h1 : 1 ≤ s) (h2 : s ≤ 7) (h4 : p < s * s) : pts (abv s (bes s (2 ^ p))) 64 = dia s p ∧ 2 ^ p < 2 ^ (s * s) := by
  have h := all_sp (P := fun s p => pts (abv s.toNat (bes s.toNat (2 ^ p.toNat))) 64 = dia s p ∧ 2 ^ p.toNat < 2 ^ (s.toNat * s.toNat)) (by decide +kernel) (s : Int) (p : Int) (by omega) (by omega) (by omega) (by exact_mod_cast h4)
  simpa using h
end Go.Proofs.YteldfjibmaigiaaDoor.Bt
