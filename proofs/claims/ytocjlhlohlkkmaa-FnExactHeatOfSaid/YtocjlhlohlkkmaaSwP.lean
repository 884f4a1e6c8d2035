/-
  Switches as plain integers: validity, heat and mean.
-/
import Derived.Test.YtocjlhlohlkkmaaDyW
namespace Go.Proofs.Ytocjlhlohlkkmaa.Sw
set_option maxRecDepth 100000
open Go.Proofs.Ytocjlhlohlkkmaa

def ok (l r : Int) : Bool := decide (-99 ≤ r) && decide (r ≤ l) && decide (l ≤ 99)
theorem ok_iff {l r : Int} : ok l r = true ↔ -99 ≤ r ∧ r ≤ l ∧ l ≤ 99 := by simp [ok, and_assoc]
theorem ok_false {l r : Int} (h : ¬(-99 ≤ r ∧ r ≤ l ∧ l ≤ 99)) : ok l r = false := by rw [← Bool.not_eq_true, ok_iff]; exact h
def heat (l r : Int) : Int := if ok l r = true then l - r else -1
def mean (l r : Int) : (Int × Int) × Bool := if ok l r = true then (Dy.low 1 (l + r), true) else ((0, 0), false)
theorem mean_mk {l r : Int} (h : ok l r = true) : Dy.mk (l + r) 1 = (Dy.low 1 (l + r), true) := by
  obtain ⟨a, b, c⟩ := ok_iff.1 h
  rw [Dy.mk, if_pos (Dy.okR_iff.2 ⟨by omega, by omega, by omega, by omega⟩)]
  rfl
theorem mean_true {l r p q : Int} (h : mean l r = ((p, q), true)) : ok l r = true ∧ Dy.low 1 (l + r) = (p, q) := by
  unfold mean at h
  by_cases hr : ok l r = true
  · rw [if_pos hr] at h
    exact ⟨hr, (Prod.mk.inj h).1⟩
  · rw [if_neg hr] at h
    exact absurd (Prod.mk.inj h).2 (by decide)
/-- What is known of the mean. -/
theorem mean_val {l r p q : Int} (h : mean l r = ((p, q), true)) : (-99 ≤ r ∧ r ≤ l ∧ l ≤ 99) ∧ Dy.ok p q = true ∧ Dy.sc p q = (l + r) * 128 := by
  obtain ⟨h1, h2⟩ := mean_true h
  obtain ⟨a, b, c⟩ := ok_iff.1 h1
  have hs := Dy.low_spec 1 (l + r) (by omega)
  rw [h2] at hs
  obtain ⟨s1, s2, s3, s4, s5, s6⟩ := hs
  simp only at s1 s2 s3 s4 s5 s6
  refine ⟨⟨a, b, c⟩, Dy.ok_iff.2 ⟨⟨?_, ?_, s1, by omega⟩, s3⟩, s4.trans (Dy.sc1 _)⟩
  · rcases Int.le_total 0 (l + r) with h0 | h0
    · have := s5 h0; omega
    · have := s6 h0; omega
  · rcases Int.le_total 0 (l + r) with h0 | h0
    · have := s5 h0; omega
    · have := s6 h0; omega
theorem ok_int {l : Int} (h1 : -9999 ≤ l) (h2 : l ≤ 9999) : Dy.ok l 0 = true := Dy.ok_iff.2 ⟨⟨h1, h2, by omega, by omega⟩, .inl rfl⟩
theorem mean_le {l r p q : Int} (h : mean l r = ((p, q), true)) : Dy.cmp p q l 0 ≤ 0 ∧ 0 ≤ Dy.cmp p q r 0 := by
  obtain ⟨⟨a, b, c⟩, ho, hs⟩ := mean_val h
  rw [Dy.cmp_ok ho (ok_int (by omega) (by omega)), Dy.cmp_ok ho (ok_int (by omega) (by omega)), hs, Dy.sc0, Dy.sc0]
  constructor
  · split
    · omega
    · rw [if_neg (by omega)]; exact Int.le_refl _
  · rw [if_neg (by omega)]
    split <;> omega
theorem mean_twice {l r p q : Int} (h : mean l r = ((p, q), true)) : Dy.ad p q p q = ((l + r, 0), true) := by
  obtain ⟨⟨a, b, c⟩, ho, hs⟩ := mean_val h
  have := Dy.add_of ho ho (ok_int (l := l + r) (by omega) (by omega)) (by rw [hs, Dy.sc0]; omega)
  rw [Dy.ad, if_pos this.2, this.1]
theorem mean_neg {l r p q : Int} (h : mean l r = ((p, q), true)) : mean (-r) (-l) = ((-p, q), true) := by
  obtain ⟨⟨a, b, c⟩, ho, hs⟩ := mean_val h
  have h1 : ok (-r) (-l) = true := ok_iff.2 ⟨by omega, by omega, by omega⟩
  rw [mean, if_pos h1]
  congr 1
  have hl := Dy.low_spec 1 (-r + -l) (by omega)
  obtain ⟨⟨_, _, q1, q2⟩, hr⟩ := Dy.ok_iff.1 (Dy.ok_neg ho)
  have := Dy.uniq hl.1 (by omega) q1 q2 hl.2.2.1 hr (by rw [hl.2.2.2.1, Dy.sc_neg, hs]; have := Dy.sc1 (-r + -l); have e : ((1 : Nat) : Int) = 1 := rfl; rw [e, this]; omega)
  exact Prod.ext this.1 this.2
end Go.Proofs.Ytocjlhlohlkkmaa.Sw
