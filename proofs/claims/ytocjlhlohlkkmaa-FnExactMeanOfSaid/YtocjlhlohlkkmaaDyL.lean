/-
  What the laws of dyadic numbers turn on, at named answers; the number times -1.
-/
import Derived.Test.YtocjlhlohlkkmaaDyW
namespace Go.Proofs.Ytocjlhlohlkkmaa
set_option maxRecDepth 100000
open Go.RowKit

theorem l_minus (u v : Int) (w : World) (h1 : -9999 ≤ u) (h2 : u ≤ 9999) : Calls Try.prog 23 #[.agg #[.int .i64 u, .int .i64 v]] w fun r w' => r = .returned (.agg #[.int .i64 (-u), .int .i64 v]) ∧ Below w.heap.size w w' := by
  go_enter Try.func23, Try.ntmps23
  go_wp2
  go_returns
  exact ⟨rfl, (((Below.refl _ _).alloc (Nat.le_refl _) _).alloc (by simp) _)⟩

theorem Dy.mk_true {n e p q : Int} (h : Dy.mk n e = ((p, q), true)) : Dy.okR n e = true ∧ Dy.low e.toNat n = (p, q) := by
  unfold Dy.mk at h
  by_cases hr : Dy.okR n e = true
  · rw [if_pos hr] at h
    exact ⟨hr, (Prod.mk.inj h).1⟩
  · rw [if_neg hr] at h
    exact absurd (Prod.mk.inj h).2 (by decide)
theorem Dy.ad_true {n e m k p q : Int} (h : Dy.ad n e m k = ((p, q), true)) : Dy.addB n e m k = true ∧ Dy.add n e m k = (p, q) := by
  unfold Dy.ad at h
  by_cases hr : Dy.addB n e m k = true
  · rw [if_pos hr] at h
    exact ⟨hr, (Prod.mk.inj h).1⟩
  · rw [if_neg hr] at h
    exact absurd (Prod.mk.inj h).2 (by decide)
theorem Dy.ad_of {n e m k p q : Int} (h : Dy.add n e m k = (p, q) ∧ Dy.addB n e m k = true) : Dy.ad n e m k = ((p, q), true) := by
  rw [Dy.ad, if_pos h.2, h.1]
theorem Dy.addB_ok {n e m k : Int} (h : Dy.addB n e m k = true) : Dy.ok n e = true ∧ Dy.ok m k = true := by
  simp only [Dy.addB, Bool.and_eq_true] at h
  exact h.1
theorem Dy.ad_comm (n e m k : Int) : Dy.ad n e m k = Dy.ad m k n e := by
  unfold Dy.ad; rw [Dy.addB_comm, Dy.add_comm']
theorem Dy.ad_back {n e m k p q : Int} (h : Dy.ad n e m k = ((p, q), true)) : Dy.ad p q (-m) k = ((n, e), true) := by
  obtain ⟨h1, h2⟩ := Dy.ad_true h
  have := Dy.add_back h1
  rw [h2] at this
  exact Dy.ad_of this
/-- Quotients of both halves. -/
theorem Dy.mk_twice {n e p q : Int} (h : Dy.mk n e = ((p, q), true)) (he : e < 8) (h1 : n * 2 ≤ 9999) (h2 : -9999 ≤ n * 2) : Dy.mk (2 * n) (e + 1) = ((p, q), true) := by
  obtain ⟨hr, hl⟩ := Dy.mk_true h
  obtain ⟨a, b, c, d⟩ := Dy.okR_iff.1 hr
  have hr2 : Dy.okR (2 * n) (e + 1) = true := Dy.okR_iff.2 ⟨by omega, by omega, by omega, by omega⟩
  rw [Dy.mk, if_pos hr2]
  congr 1
  rw [← hl]
  obtain ⟨k, rfl⟩ := Int.eq_ofNat_of_zero_le c
  rw [show ((k : Int) + 1).toNat = k + 1 by omega, Int.toNat_natCast, Dy.low, if_pos (by omega), show 2 * n / 2 = n by omega]
/-- Cross multiplication. -/
theorem Dy.mk_cross {n e p q : Int} (h : Dy.mk n e = ((p, q), true)) : (0 ≤ e ∧ e ≤ 8 ∧ 0 ≤ q ∧ q ≤ 8 ∧ -9999 ≤ p ∧ p ≤ 9999 ∧ -9999 ≤ n ∧ n ≤ 9999) ∧ (q = 0 ∨ p % 2 = 1) ∧ p * 2 ^ e.toNat = n * 2 ^ q.toNat := by
  obtain ⟨hr, hl⟩ := Dy.mk_true h
  obtain ⟨a, b, c, d⟩ := Dy.okR_iff.1 hr
  have hs := Dy.low_spec e.toNat n (by omega)
  rw [hl] at hs
  obtain ⟨s1, s2, s3, s4, s5, s6⟩ := hs
  simp only at s1 s2 s3 s4 s5 s6
  have s2' : q ≤ e := by omega
  refine ⟨⟨c, d, s1, by omega, ?_, ?_, a, b⟩, s3, ?_⟩
  · rcases Int.le_total 0 n with h0 | h0
    · have := s5 h0; omega
    · have := s6 h0; omega
  · rcases Int.le_total 0 n with h0 | h0
    · have := s5 h0; omega
    · have := s6 h0; omega
  · have h1 := Dy.mul_cases c d p
    have h2 := Dy.mul_cases (d := q) s1 (by omega) n
    have h3 := Dy.sc_cases (n := p) (e := q) s1 (by omega)
    have h4 := Dy.sc_cases (n := n) (e := e) c d
    rw [show ((e.toNat : Nat) : Int) = e by omega] at s4
    rcases h1 with h1 | h1 | h1 | h1 | h1 | h1 | h1 | h1 | h1 <;> rcases h2 with h2 | h2 | h2 | h2 | h2 | h2 | h2 | h2 | h2 <;> omega
theorem Dy.cmp_cases {n e m k c : Int} (h : Dy.cmp n e m k = c) (h2 : c ≠ 2) : Dy.ok n e = true ∧ Dy.ok m k = true ∧ (c = -1 ∨ c = 0 ∨ c = 1) := by
  have ho : Dy.ok n e = true ∧ Dy.ok m k = true := Classical.not_not.1 fun hn => h2 (by rw [← h]; exact Dy.cmp_two.2 hn)
  refine ⟨ho.1, ho.2, ?_⟩
  rw [← h, Dy.cmp_ok ho.1 ho.2]
  split
  · exact .inl rfl
  · split
    · exact .inr (.inr rfl)
    · exact .inr (.inl rfl)
end Go.Proofs.Ytocjlhlohlkkmaa
