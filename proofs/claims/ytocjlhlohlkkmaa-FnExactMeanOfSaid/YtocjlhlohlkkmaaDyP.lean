/-
  Dyadic numbers as plain integers: lowest terms, sums, comparisons over the common denominator 256, and the simplest number between two others.
-/
namespace Go.Proofs.Ytocjlhlohlkkmaa.Dy
set_option maxRecDepth 100000

def okR (n e : Int) : Bool := decide (-9999 ≤ n) && decide (n ≤ 9999) && decide (0 ≤ e) && decide (e ≤ 8)
def low : Nat → Int → Int × Int
  | 0, n => (n, 0)
  | e + 1, n => if n % 2 = 0 then low e (n / 2) else (n, ((e + 1 : Nat) : Int))
/-- Lowest terms. -/
def Red (n e : Int) : Prop := e = 0 ∨ n % 2 = 1
def ok (n e : Int) : Bool := okR n e && (decide (e = 0) || decide (n % 2 = 1))
/-- The number times 256. -/
def sc (n e : Int) : Int := n * 2 ^ (8 - e).toNat

theorem okR_iff {n e : Int} : okR n e = true ↔ -9999 ≤ n ∧ n ≤ 9999 ∧ 0 ≤ e ∧ e ≤ 8 := by
  simp [okR, and_assoc]
theorem okR_false {n e : Int} (h : ¬(-9999 ≤ n ∧ n ≤ 9999 ∧ 0 ≤ e ∧ e ≤ 8)) : okR n e = false := by
  rw [← Bool.not_eq_true, okR_iff]; exact h
theorem okR_last {n e : Int} (h1 : -9999 ≤ n) (h2 : n ≤ 9999) (h3 : 0 ≤ e) : okR n e = decide (e ≤ 8) := by
  simp [okR, h1, h2, h3]
theorem ok_iff {n e : Int} : ok n e = true ↔ (-9999 ≤ n ∧ n ≤ 9999 ∧ 0 ≤ e ∧ e ≤ 8) ∧ Red n e := by
  simp [ok, Red, okR_iff]
theorem cases8 {e : Int} (h1 : 0 ≤ e) (h2 : e ≤ 8) : e = 0 ∨ e = 1 ∨ e = 2 ∨ e = 3 ∨ e = 4 ∨ e = 5 ∨ e = 6 ∨ e = 7 ∨ e = 8 := by omega
theorem sc0 (n : Int) : sc n 0 = n * 256 := by simp [sc]
theorem sc1 (n : Int) : sc n 1 = n * 128 := by simp [sc]
theorem sc2 (n : Int) : sc n 2 = n * 64 := by simp [sc]
theorem sc3 (n : Int) : sc n 3 = n * 32 := by simp [sc]
theorem sc4 (n : Int) : sc n 4 = n * 16 := by simp [sc]
theorem sc5 (n : Int) : sc n 5 = n * 8 := by simp [sc]
theorem sc6 (n : Int) : sc n 6 = n * 4 := by simp [sc]
theorem sc7 (n : Int) : sc n 7 = n * 2 := by simp [sc]
theorem sc8 (n : Int) : sc n 8 = n := by simp [sc]

/-- Every number is one of nine multiples. -/
theorem sc_cases {n e : Int} (h1 : 0 ≤ e) (h2 : e ≤ 8) : (e = 0 ∧ sc n e = n * 256) ∨ (e = 1 ∧ sc n e = n * 128) ∨ (e = 2 ∧ sc n e = n * 64) ∨ (e = 3 ∧ sc n e = n * 32) ∨ (e = 4 ∧ sc n e = n * 16) ∨ (e = 5 ∧ sc n e = n * 8) ∨ (e = 6 ∧ sc n e = n * 4) ∨ (e = 7 ∧ sc n e = n * 2) ∨ (e = 8 ∧ sc n e = n) := by
  rcases cases8 h1 h2 with rfl | rfl | rfl | rfl | rfl | rfl | rfl | rfl | rfl
  · exact .inl ⟨rfl, sc0 n⟩
  · exact .inr (.inl ⟨rfl, sc1 n⟩)
  · exact .inr (.inr (.inl ⟨rfl, sc2 n⟩))
  · exact .inr (.inr (.inr (.inl ⟨rfl, sc3 n⟩)))
  · exact .inr (.inr (.inr (.inr (.inl ⟨rfl, sc4 n⟩))))
  · exact .inr (.inr (.inr (.inr (.inr (.inl ⟨rfl, sc5 n⟩)))))
  · exact .inr (.inr (.inr (.inr (.inr (.inr (.inl ⟨rfl, sc6 n⟩))))))
  · exact .inr (.inr (.inr (.inr (.inr (.inr (.inr (.inl ⟨rfl, sc7 n⟩)))))))
  · exact .inr (.inr (.inr (.inr (.inr (.inr (.inr (.inr ⟨rfl, sc8 n⟩)))))))

theorem sc_half {n : Int} {e : Nat} (he : e + 1 ≤ 8) (hn : n % 2 = 0) : sc n ((e + 1 : Nat) : Int) = sc (n / 2) (e : Int) := by
  have h1 := sc_cases (n := n) (e := ((e + 1 : Nat) : Int)) (by omega) (by omega)
  have h2 := sc_cases (n := n / 2) (e := (e : Int)) (by omega) (by omega)
  omega

theorem low_spec : ∀ (e : Nat) (n : Int), e ≤ 8 → 0 ≤ (low e n).2 ∧ (low e n).2 ≤ e ∧ Red (low e n).1 (low e n).2 ∧ sc (low e n).1 (low e n).2 = sc n e ∧ ((0 ≤ n → 0 ≤ (low e n).1 ∧ (low e n).1 ≤ n) ∧ (n ≤ 0 → (low e n).1 ≤ 0 ∧ n ≤ (low e n).1))
  | 0, n, _ => by simp [low, Red]
  | e + 1, n, he => by
    by_cases h : n % 2 = 0
    · have ih := low_spec e (n / 2) (by omega)
      have hs := sc_half (n := n) he h
      rw [low, if_pos h]
      refine ⟨ih.1, by omega, ih.2.2.1, ih.2.2.2.1.trans hs.symm, fun hn => ?_, fun hn => ?_⟩
      · have := ih.2.2.2.2.1 (by omega)
        omega
      · have := ih.2.2.2.2.2 (by omega)
        omega
    · rw [low, if_neg h]
      exact ⟨by simp; omega, by simp, .inr (by omega), rfl, fun hn => ⟨hn, Int.le_refl _⟩, fun hn => ⟨hn, Int.le_refl _⟩⟩

theorem uniq {n e m k : Int} (e1 : 0 ≤ e) (e2 : e ≤ 8) (k1 : 0 ≤ k) (k2 : k ≤ 8) (hn : Red n e) (hm : Red m k) (h : sc n e = sc m k) : n = m ∧ e = k := by
  have h1 := sc_cases (n := n) e1 e2
  have h2 := sc_cases (n := m) k1 k2
  unfold Red at hn hm
  rcases h1 with h1 | h1 | h1 | h1 | h1 | h1 | h1 | h1 | h1 <;> omega

theorem low_red {e : Nat} {n : Int} (he : e ≤ 8) (h : Red n e) : low e n = (n, (e : Int)) := by
  have hs := low_spec e n he
  have := uniq hs.1 (by omega) (by omega) (by omega) hs.2.2.1 h hs.2.2.2.1
  exact Prod.ext this.1 this.2

/-- Two quotients of one value have the same lowest terms. -/
theorem low_eq {e k : Nat} {n m : Int} (he : e ≤ 8) (hk : k ≤ 8) (h : sc n e = sc m k) : low e n = low k m := by
  have h1 := low_spec e n he
  have h2 := low_spec k m hk
  have := uniq h1.1 (by omega) h2.1 (by omega) h1.2.2.1 h2.2.2.1 (by rw [h1.2.2.2.1, h2.2.2.2.1, h])
  exact Prod.ext this.1 this.2

theorem ok_low {e : Nat} {n : Int} (he : e ≤ 8) : ok (low e n).1 (low e n).2 = okR (low e n).1 (low e n).2 := by
  have hs := low_spec e n he
  have hr := hs.2.2.1
  unfold Red at hr
  unfold ok
  rcases hr with h | h <;> simp [h]

/-- The program's own test. -/
theorem ok_prog {n e : Int} (hr : okR n e = true) : ok n e = decide (low e.toNat n = (n, e)) := by
  obtain ⟨_, _, e1, e2⟩ := okR_iff.1 hr
  obtain ⟨k, rfl⟩ := Int.eq_ofNat_of_zero_le e1
  have hk : k ≤ 8 := by omega
  rw [Int.toNat_natCast]
  by_cases h : Red n k
  · rw [low_red hk h]
    simp [ok_iff, okR_iff.1 hr, h]
  · have h1 : ok n k = false := by
      rw [← Bool.not_eq_true, ok_iff]; exact fun h' => h h'.2
    have h2 : low k n ≠ (n, (k : Int)) := fun h' => h (by have := (low_spec k n hk).2.2.1; rw [h'] at this; exact this)
    simp [h1, h2]

theorem sc_neg (n e : Int) : sc (-n) e = - sc n e := by simp [sc, Int.neg_mul]
theorem ok_neg {n e : Int} (h : ok n e = true) : ok (-n) e = true := by
  rw [ok_iff] at h ⊢
  unfold Red at *
  omega
theorem sc_bd {n e : Int} (h : ok n e = true) : -2559744 ≤ sc n e ∧ sc n e ≤ 2559744 := by
  obtain ⟨⟨a, b, c, d⟩, _⟩ := ok_iff.1 h
  have := sc_cases (n := n) c d
  omega
theorem sc_inj {n e m k : Int} (h : ok n e = true) (h' : ok m k = true) (hs : sc n e = sc m k) : n = m ∧ e = k := by
  obtain ⟨⟨a, b, c, d⟩, r⟩ := ok_iff.1 h
  obtain ⟨⟨a', b', c', d'⟩, r'⟩ := ok_iff.1 h'
  exact uniq c d c' d' r r' hs

/-- The sum: lowest terms, if it is in range. -/
def add (n e m k : Int) : Int × Int := low 8 (sc n e + sc m k)
def addB (n e m k : Int) : Bool := ok n e && ok m k && okR (add n e m k).1 (add n e m k).2

theorem add_comm' (n e m k : Int) : add n e m k = add m k n e := by unfold add; rw [Int.add_comm]
theorem addB_comm (n e m k : Int) : addB n e m k = addB m k n e := by unfold addB; rw [add_comm', Bool.and_comm (ok n e)]
theorem add_sc (n e m k : Int) : sc (add n e m k).1 (add n e m k).2 = sc n e + sc m k := by
  have := (low_spec 8 (sc n e + sc m k) (by omega)).2.2.2.1
  unfold add
  rw [this]
  exact sc8 _
theorem add_ok {n e m k : Int} (h : addB n e m k = true) : ok (add n e m k).1 (add n e m k).2 = true := by
  simp only [addB, Bool.and_eq_true] at h
  unfold add at *
  rw [ok_low (by omega)]
  exact h.2
theorem add_of {n e m k x y : Int} (h1 : ok n e = true) (h2 : ok m k = true) (h3 : ok x y = true) (h : sc x y = sc n e + sc m k) : add n e m k = (x, y) ∧ addB n e m k = true := by
  obtain ⟨⟨a, b, c, d⟩, r⟩ := ok_iff.1 h3
  have hs := low_spec 8 (sc n e + sc m k) (by omega)
  have := uniq hs.1 (by omega) c d hs.2.2.1 r (by rw [hs.2.2.2.1, h]; exact sc8 _)
  have he : add n e m k = (x, y) := Prod.ext this.1 this.2
  refine ⟨he, ?_⟩
  unfold addB
  rw [h1, h2, he]
  exact okR_iff.2 ⟨a, b, c, d⟩
/-- Adding can be undone. -/
theorem add_back {n e m k : Int} (h : addB n e m k = true) : add (add n e m k).1 (add n e m k).2 (-m) k = (n, e) ∧ addB (add n e m k).1 (add n e m k).2 (-m) k = true := by
  have hc := add_ok h
  simp only [addB, Bool.and_eq_true] at h
  refine add_of hc (ok_neg h.1.2) h.1.1 ?_
  rw [add_sc, sc_neg]
  omega

/-- How two numbers compare. -/
def cmp (n e m k : Int) : Int := if ok n e = true ∧ ok m k = true then (if sc n e < sc m k then -1 else if sc m k < sc n e then 1 else 0) else 2

theorem cmp_ok {n e m k : Int} (h1 : ok n e = true) (h2 : ok m k = true) : cmp n e m k = if sc n e < sc m k then -1 else if sc m k < sc n e then 1 else 0 := by
  unfold cmp; rw [if_pos ⟨h1, h2⟩]
theorem cmp_two {n e m k : Int} : cmp n e m k = 2 ↔ ¬(ok n e = true ∧ ok m k = true) := by
  unfold cmp
  by_cases h : ok n e = true ∧ ok m k = true
  · rw [if_pos h]
    constructor
    · intro h'; by_cases c1 : sc n e < sc m k <;> by_cases c2 : sc m k < sc n e <;> simp [c1, c2] at h'
    · intro h'; exact absurd h h'
  · rw [if_neg h]; simp [h]
theorem cmp_swap {n e m k : Int} (h1 : ok n e = true) (h2 : ok m k = true) : cmp m k n e = - cmp n e m k := by
  rw [cmp_ok h1 h2, cmp_ok h2 h1]
  split <;> split <;> (try split) <;> omega
theorem cmp_zero {n e m k : Int} (h1 : ok n e = true) (h2 : ok m k = true) : cmp n e m k = 0 ↔ (n = m ∧ e = k) := by
  rw [cmp_ok h1 h2]
  constructor
  · intro h
    refine sc_inj h1 h2 ?_
    by_cases c1 : sc n e < sc m k <;> by_cases c2 : sc m k < sc n e <;> simp [c1, c2] at h
    omega
  · rintro ⟨rfl, rfl⟩
    simp
theorem ok_zero : ok 0 0 = true := by decide
theorem ok_one : ok 1 0 = true := by decide
theorem cmp_diff {n e m k : Int} (h1 : ok n e = true) (h2 : ok m k = true) (h : addB n e (-m) k = true) : cmp (add n e (-m) k).1 (add n e (-m) k).2 0 0 = cmp n e m k := by
  rw [cmp_ok (add_ok h) ok_zero, cmp_ok h1 h2, add_sc, sc_neg, sc0]
  split <;> split <;> (try split) <;> (try split) <;> omega
theorem cmp_add {n e m k : Int} (h1 : ok n e = true) (h2 : ok m k = true) (h : addB n e 1 0 = true) (h' : addB m k 1 0 = true) : cmp (add n e 1 0).1 (add n e 1 0).2 (add m k 1 0).1 (add m k 1 0).2 = cmp n e m k := by
  rw [cmp_ok (add_ok h) (add_ok h'), cmp_ok h1 h2, add_sc, add_sc, sc0]
  split <;> split <;> (try split) <;> (try split) <;> omega
end Go.Proofs.Ytocjlhlohlkkmaa.Dy
