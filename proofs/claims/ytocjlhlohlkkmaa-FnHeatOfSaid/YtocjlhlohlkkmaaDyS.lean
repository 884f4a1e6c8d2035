/-
  The simplest number between two others, as plain integers.
-/
import Derived.Test.YtocjlhlohlkkmaaDyP
namespace Go.Proofs.Ytocjlhlohlkkmaa.Dy
set_option maxRecDepth 100000

/-- The least numerator above A / 256, for the denominator 2 ^ e. -/
def loN (A : Int) (e : Nat) : Int := A / 2 ^ (8 - e) + 1
/-- The greatest numerator below B / 256. -/
def hiN (B : Int) (e : Nat) : Int := -((-B) / 2 ^ (8 - e) + 1)
def okAt (A B : Int) (e : Nat) : Prop := max (loN A e) (-9999) ≤ min (hiN B e) 9999
instance (A B : Int) (e : Nat) : Decidable (okAt A B e) := by unfold okAt; infer_instance
def numAt (A B : Int) (e : Nat) : Int := max (max (loN A e) (-9999)) (min (min (hiN B e) 9999) 0)
def find (A B : Int) : Nat → Nat → Option (Int × Int)
  | 0, _ => none
  | k + 1, e => if okAt A B e then some (numAt A B e, (e : Int)) else find A B k (e + 1)
def sim (A B : Int) : Option (Int × Int) := find A B 9 0

theorem fdiv_cases {X : Int} {e : Nat} (he : e ≤ 8) : (e = 0 ∧ X / 2 ^ (8 - e) = X / 256) ∨ (e = 1 ∧ X / 2 ^ (8 - e) = X / 128) ∨ (e = 2 ∧ X / 2 ^ (8 - e) = X / 64) ∨ (e = 3 ∧ X / 2 ^ (8 - e) = X / 32) ∨ (e = 4 ∧ X / 2 ^ (8 - e) = X / 16) ∨ (e = 5 ∧ X / 2 ^ (8 - e) = X / 8) ∨ (e = 6 ∧ X / 2 ^ (8 - e) = X / 4) ∨ (e = 7 ∧ X / 2 ^ (8 - e) = X / 2) ∨ (e = 8 ∧ X / 2 ^ (8 - e) = X) := by
  have : e = 0 ∨ e = 1 ∨ e = 2 ∨ e = 3 ∨ e = 4 ∨ e = 5 ∨ e = 6 ∨ e = 7 ∨ e = 8 := by omega
  rcases this with rfl | rfl | rfl | rfl | rfl | rfl | rfl | rfl | rfl <;> simp

theorem mul_bd {n d : Int} (h1 : -9999 ≤ n) (h2 : n ≤ 9999) (d1 : 0 ≤ d) (d2 : d ≤ 8) : -2559744 ≤ n * 2 ^ d.toNat ∧ n * 2 ^ d.toNat ≤ 2559744 := by
  rcases cases8 d1 d2 with rfl | rfl | rfl | rfl | rfl | rfl | rfl | rfl | rfl <;> simp <;> omega
theorem pow_cases {d : Int} (d1 : 0 ≤ d) (d2 : d ≤ 8) (X : Int) : (d = 0 ∧ X / 2 ^ d.toNat = X) ∨ (d = 1 ∧ X / 2 ^ d.toNat = X / 2) ∨ (d = 2 ∧ X / 2 ^ d.toNat = X / 4) ∨ (d = 3 ∧ X / 2 ^ d.toNat = X / 8) ∨ (d = 4 ∧ X / 2 ^ d.toNat = X / 16) ∨ (d = 5 ∧ X / 2 ^ d.toNat = X / 32) ∨ (d = 6 ∧ X / 2 ^ d.toNat = X / 64) ∨ (d = 7 ∧ X / 2 ^ d.toNat = X / 128) ∨ (d = 8 ∧ X / 2 ^ d.toNat = X / 256) := by
  rcases cases8 d1 d2 with rfl | rfl | rfl | rfl | rfl | rfl | rfl | rfl | rfl <;> simp
theorem mul_cases {d : Int} (d1 : 0 ≤ d) (d2 : d ≤ 8) (n : Int) : (d = 0 ∧ n * 2 ^ d.toNat = n) ∨ (d = 1 ∧ n * 2 ^ d.toNat = n * 2) ∨ (d = 2 ∧ n * 2 ^ d.toNat = n * 4) ∨ (d = 3 ∧ n * 2 ^ d.toNat = n * 8) ∨ (d = 4 ∧ n * 2 ^ d.toNat = n * 16) ∨ (d = 5 ∧ n * 2 ^ d.toNat = n * 32) ∨ (d = 6 ∧ n * 2 ^ d.toNat = n * 64) ∨ (d = 7 ∧ n * 2 ^ d.toNat = n * 128) ∨ (d = 8 ∧ n * 2 ^ d.toNat = n * 256) := by
  rcases cases8 d1 d2 with rfl | rfl | rfl | rfl | rfl | rfl | rfl | rfl | rfl <;> simp
/-- The program's own numerator above a number. -/
theorem above_lo {n e x : Int} (e1 : 0 ≤ e) (e2 : e ≤ 8) (x1 : 0 ≤ x) (x2 : x ≤ 8) : n * 2 ^ x.toNat / 2 ^ e.toNat + 1 = loN (sc n e) x.toNat := by
  have h1 := mul_cases x1 x2 n
  have h2 := pow_cases e1 e2 (n * 2 ^ x.toNat)
  have h3 := sc_cases (n := n) e1 e2
  have h4 := fdiv_cases (X := sc n e) (e := x.toNat) (by omega)
  unfold loN
  rcases h2 with h2 | h2 | h2 | h2 | h2 | h2 | h2 | h2 | h2 <;> rcases h4 with h4 | h4 | h4 | h4 | h4 | h4 | h4 | h4 | h4 <;> omega
theorem sc_bd' {n e : Int} (h1 : -9999 ≤ n) (h2 : n ≤ 9999) (e1 : 0 ≤ e) (e2 : e ≤ 8) : -2559744 ≤ sc n e ∧ sc n e ≤ 2559744 := by
  have := sc_cases (n := n) e1 e2
  omega
theorem lo_bd {A : Int} {e : Nat} (he : e ≤ 8) (h1 : -2559744 ≤ A) (h2 : A ≤ 2559744) : -2559745 ≤ loN A e ∧ loN A e ≤ 2559745 := by
  have h := fdiv_cases (X := A) he
  unfold loN
  omega

/-- The program's own sum over the greater exponent. -/
theorem mul_sc {n e x : Int} (e1 : 0 ≤ e) (hx : e ≤ x) (x3 : x ≤ 8) : sc (n * 2 ^ (x - e).toNat) x = sc n e := by
  have h1 := mul_cases (d := x - e) (by omega) (by omega) n
  have h2 := sc_cases (n := n * 2 ^ (x - e).toNat) (e := x) (by omega) x3
  have h3 := sc_cases (n := n) (e := e) e1 (by omega)
  rcases h1 with h1 | h1 | h1 | h1 | h1 | h1 | h1 | h1 | h1 <;> rcases h2 with h2 | h2 | h2 | h2 | h2 | h2 | h2 | h2 | h2 <;> omega
theorem sc_add (a b x : Int) : sc (a + b) x = sc a x + sc b x := by simp [sc, Int.add_mul]
theorem add_over {n e m k : Int} {x : Nat} (e1 : 0 ≤ e) (_e2 : e ≤ 8) (k1 : 0 ≤ k) (_k2 : k ≤ 8) (x1 : e ≤ x) (x2 : k ≤ x) (x3 : (x : Int) ≤ 8) : add n e m k = low x (n * 2 ^ ((x : Int) - e).toNat + m * 2 ^ ((x : Int) - k).toNat) := by
  unfold add
  refine low_eq (by omega) (by omega) ((sc8 _).trans ?_)
  rw [sc_add, mul_sc e1 x1 x3, mul_sc k1 x2 x3]

/-- Between: in terms of the common denominator. -/
theorem lo_le {A n : Int} {e : Nat} (he : e ≤ 8) : loN A e ≤ n ↔ A < sc n e := by
  have h1 := fdiv_cases (X := A) he
  have h2 := sc_cases (n := n) (e := (e : Int)) (by omega) (by omega)
  unfold loN
  omega
theorem le_hi {B n : Int} {e : Nat} (he : e ≤ 8) : n ≤ hiN B e ↔ sc n e < B := by
  have h1 := fdiv_cases (X := -B) he
  have h2 := sc_cases (n := n) (e := (e : Int)) (by omega) (by omega)
  unfold hiN
  omega
theorem hi_neg (B : Int) (e : Nat) : hiN B e = - loN (-B) e := rfl

theorem hi_neg' {B x : Int} {e : Nat} (h : loN (-B) e = x) : -((-B) / 2 ^ (8 - e) + 1) = -x := by rw [← h]; rfl

theorem okAt_neg {A B : Int} {e : Nat} : okAt (-B) (-A) e ↔ okAt A B e := by
  unfold okAt hiN loN
  rw [Int.neg_neg]
  omega
theorem numAt_neg {A B : Int} {e : Nat} (h : okAt A B e) : numAt (-B) (-A) e = - numAt A B e := by
  unfold okAt hiN loN at h
  unfold numAt hiN loN
  rw [Int.neg_neg]
  omega
theorem find_neg (A B : Int) : ∀ k e, find (-B) (-A) k e = (find A B k e).map fun x => (-x.1, x.2)
  | 0, _ => rfl
  | k + 1, e => by
    rw [find, find]
    by_cases h : okAt A B e
    · rw [if_pos h, if_pos (okAt_neg.2 h), numAt_neg h]; rfl
    · rw [if_neg h, if_neg (fun h' => h (okAt_neg.1 h')), find_neg A B k (e + 1)]
theorem sim_neg (A B : Int) : sim (-B) (-A) = (sim A B).map fun x => (-x.1, x.2) := find_neg A B 9 0

theorem numAt_spec {A B : Int} {e : Nat} (he : e ≤ 8) (h : okAt A B e) : A < sc (numAt A B e) e ∧ sc (numAt A B e) e < B ∧ -9999 ≤ numAt A B e ∧ numAt A B e ≤ 9999 := by
  rw [← lo_le he, ← le_hi he]
  unfold okAt at h
  unfold numAt
  omega
theorem okAt_of {A B n : Int} {e : Nat} (he : e ≤ 8) (h1 : A < sc n e) (h2 : sc n e < B) (h3 : -9999 ≤ n) (h4 : n ≤ 9999) : okAt A B e := by
  rw [← lo_le he] at h1
  rw [← le_hi he] at h2
  unfold okAt
  omega

/-- What is found: the first place, with the number there. -/
theorem find_some {A B : Int} : ∀ {k e : Nat} {x : Int × Int}, find A B k e = some x → ∃ f : Nat, e ≤ f ∧ f < e + k ∧ okAt A B f ∧ x = (numAt A B f, (f : Int)) ∧ ∀ g, e ≤ g → g < f → ¬ okAt A B g
  | 0, _, _, h => by simp [find] at h
  | k + 1, e, x, h => by
    rw [find] at h
    by_cases ho : okAt A B e
    · rw [if_pos ho] at h
      exact ⟨e, by omega, by omega, ho, (Option.some.inj h).symm, fun g h1 h2 => by omega⟩
    · rw [if_neg ho] at h
      obtain ⟨f, h1, h2, h3, h4, h5⟩ := find_some h
      refine ⟨f, by omega, by omega, h3, h4, fun g g1 g2 => ?_⟩
      by_cases hg : g = e
      · rw [hg]; exact ho
      · exact h5 g (by omega) g2
theorem sim_some {A B n e : Int} (h : sim A B = some (n, e)) : ∃ f : Nat, e = f ∧ f ≤ 8 ∧ okAt A B f ∧ n = numAt A B f ∧ ∀ g, g < f → ¬ okAt A B g := by
  obtain ⟨f, _, h2, h3, h4, h5⟩ := find_some h
  injection h4 with h6 h7
  exact ⟨f, h7, by omega, h3, h6, fun g hg => h5 g (by omega) hg⟩

/-- The number that is found is in lowest terms: an even numerator would have been found before. -/
theorem red_at {A B : Int} {f : Nat} (hf : f ≤ 8) (ho : okAt A B f) (hb : ∀ g, g < f → ¬ okAt A B g) : Red (numAt A B f) f := by
  rcases f with _ | f
  · exact .inl rfl
  · refine .inr ?_
    rcases Int.emod_two_eq (numAt A B (f + 1)) with h | h
    · exfalso
      have hs := numAt_spec hf ho
      rw [sc_half hf h] at hs
      exact hb f (by omega) (okAt_of (by omega) hs.1 hs.2.1 (by omega) (by omega))
    · exact h
theorem sim_ok {A B n e : Int} (h : sim A B = some (n, e)) : ok n e = true ∧ A < sc n e ∧ sc n e < B := by
  obtain ⟨f, rfl, hf, ho, rfl, hb⟩ := sim_some h
  have hs := numAt_spec hf ho
  exact ⟨ok_iff.2 ⟨⟨hs.2.2.1, hs.2.2.2, by omega, by omega⟩, red_at hf ho hb⟩, hs.1, hs.2.1⟩
/-- Its neighbours are not between. -/
theorem sim_lo {A B n e : Int} (h : sim A B = some (n, e)) (he : 0 < e) (h1 : -9999 ≤ n - 1) : sc (n - 1) e ≤ A := by
  have hk := sim_ok h
  obtain ⟨f, rfl, hf, ho, hn, hb⟩ := sim_some h
  obtain ⟨g, rfl⟩ : ∃ g, f = g + 1 := ⟨f - 1, by omega⟩
  obtain ⟨⟨a, b, _, _⟩, hr⟩ := ok_iff.1 hk.1
  have hodd : n % 2 = 1 := by unfold Red at hr; omega
  rcases Int.lt_or_le A (sc (n - 1) ((g + 1 : Nat) : Int)) with hlt | hle
  · exfalso
    have hm : sc (n - 1) ((g + 1 : Nat) : Int) < sc n ((g + 1 : Nat) : Int) := by
      have h1 := sc_cases (n := n - 1) (e := ((g + 1 : Nat) : Int)) (by omega) (by omega)
      have h2 := sc_cases (n := n) (e := ((g + 1 : Nat) : Int)) (by omega) (by omega)
      omega
    have h3 : sc (n - 1) ((g + 1 : Nat) : Int) < B := by omega
    rw [sc_half hf (by omega)] at hlt h3
    exact hb g (by omega) (okAt_of (by omega) hlt h3 (by omega) (by omega))
  · exact hle
theorem sim_hi {A B n e : Int} (h : sim A B = some (n, e)) (he : 0 < e) (h1 : n + 1 ≤ 9999) : B ≤ sc (n + 1) e := by
  have h' : sim (-B) (-A) = some (-n, e) := by rw [sim_neg, h]; rfl
  have := sim_lo h' he (by omega)
  have h2 : -n - 1 = -(n + 1) := by omega
  rw [h2, sc_neg] at this
  omega

/-- None for numbers that are not in order. -/
theorem not_okAt {A B : Int} {e : Nat} (he : e ≤ 8) (h : B ≤ A) : ¬ okAt A B e := fun ho => by
  have := numAt_spec he ho
  omega
theorem find_none {A B : Int} : ∀ k e, (∀ g, e ≤ g → g < e + k → ¬ okAt A B g) → find A B k e = none
  | 0, _, _ => rfl
  | k + 1, e, h => by
    rw [find, if_neg (h e (by omega) (by omega))]
    exact find_none k (e + 1) fun g h1 h2 => h g (by omega) (by omega)
theorem sim_none {A B : Int} (h : B ≤ A) : sim A B = none := find_none 9 0 fun g _ hg => not_okAt (by omega) h

/-- The model's number at a place: nearest to 0 of those that are between, whatever its size. -/
def nearAt (A B : Int) (e : Nat) : Int := if A < 0 ∧ 0 < B then 0 else if 0 ≤ A then loN A e else hiN B e
def betAt (A B : Int) (e : Nat) : Prop := A < sc (nearAt A B e) e ∧ sc (nearAt A B e) e < B
instance (A B : Int) (e : Nat) : Decidable (betAt A B e) := by unfold betAt; infer_instance

theorem lo_pos {A : Int} {e : Nat} (he : e ≤ 8) (h : 0 ≤ A) : 1 ≤ loN A e := by
  have h1 := fdiv_cases (X := A) he
  unfold loN
  omega
theorem hi_negv {B : Int} {e : Nat} (he : e ≤ 8) (h : B ≤ 0) : hiN B e ≤ -1 := by
  have := lo_pos (A := -B) he (by omega)
  rw [hi_neg]; omega
theorem near_lo {A B : Int} {e : Nat} (he : e ≤ 8) : betAt A B e ↔ loN A e ≤ hiN B e := by
  unfold betAt
  rw [← lo_le he, ← le_hi he]
  unfold nearAt
  have h0 : A < 0 → loN A e ≤ 0 := fun h => (lo_le he).2 (by simpa [sc] using h)
  have h1 : 0 < B → 0 ≤ hiN B e := fun h => (le_hi he).2 (by simpa [sc] using h)
  split
  · rename_i h; have := h0 h.1; have := h1 h.2; omega
  · split <;> omega
theorem num_near {A B : Int} {e : Nat} (he : e ≤ 8) (hAB : A < B) (ho : okAt A B e) : betAt A B e ∧ numAt A B e = nearAt A B e := by
  have hl : loN A e ≤ hiN B e := by unfold okAt at ho; omega
  refine ⟨(near_lo he).2 hl, ?_⟩
  have h0 : A < 0 → loN A e ≤ 0 := fun h => (lo_le he).2 (by simpa [sc] using h)
  have h1 : 0 < B → 0 ≤ hiN B e := fun h => (le_hi he).2 (by simpa [sc] using h)
  unfold okAt at ho
  unfold numAt nearAt
  split
  · rename_i h; have := h0 h.1; have := h1 h.2; omega
  · split
    · rename_i h h2; have := lo_pos he h2; omega
    · rename_i h h2; have := hi_negv (B := B) he (by omega); omega
theorem okAt_near {A B : Int} {e : Nat} (he : e ≤ 8) (hb : betAt A B e) (h3 : -9999 ≤ nearAt A B e) (h4 : nearAt A B e ≤ 9999) : okAt A B e := okAt_of he hb.1 hb.2 h3 h4
theorem red_near {A B : Int} {f : Nat} (hf : f + 1 ≤ 8) (ho : betAt A B (f + 1)) (hb : ¬ betAt A B f) : Red (nearAt A B (f + 1)) ((f + 1 : Nat) : Int) := by
  refine .inr ?_
  rcases Int.emod_two_eq (nearAt A B (f + 1)) with h | h
  · exfalso
    unfold betAt at ho
    rw [sc_half hf h] at ho
    have h1 := (lo_le (e := f) (by omega)).2 ho.1
    have h2 := (le_hi (e := f) (by omega)).2 ho.2
    exact hb ((near_lo (by omega)).2 (by omega))
  · exact h
/-- Numbers that are too great stay too great. -/
theorem near_grow {A B : Int} {e : Nat} (he : e + 1 ≤ 8) (h : nearAt A B e < -9999 ∨ 9999 < nearAt A B e) : nearAt A B (e + 1) < -9999 ∨ 9999 < nearAt A B (e + 1) := by
  have h1 := fdiv_cases (X := A) (e := e) (by omega)
  have h2 := fdiv_cases (X := A) (e := e + 1) (by omega)
  have h3 := fdiv_cases (X := -B) (e := e) (by omega)
  have h4 := fdiv_cases (X := -B) (e := e + 1) (by omega)
  unfold nearAt hiN loN at *
  by_cases c : A < 0 ∧ 0 < B
  · rw [if_pos c] at *; omega
  · rw [if_neg c] at *
    by_cases c2 : 0 ≤ A
    · rw [if_pos c2] at *
      clear h3 h4
      rcases h1 with h1 | h1 | h1 | h1 | h1 | h1 | h1 | h1 | h1 <;> omega
    · rw [if_neg c2] at *
      clear h1 h2
      rcases h3 with h3 | h3 | h3 | h3 | h3 | h3 | h3 | h3 | h3 <;> omega
theorem near_great {A B : Int} {e : Nat} : ∀ d, e + d ≤ 8 → (nearAt A B e < -9999 ∨ 9999 < nearAt A B e) → nearAt A B (e + d) < -9999 ∨ 9999 < nearAt A B (e + d)
  | 0, _, h => h
  | d + 1, he, h => near_grow (e := e + d) (by omega) (near_great d (by omega) h)
theorem find_great {A B : Int} {e k : Nat} (hAB : A < B) (he : e + k ≤ 9) (h : nearAt A B e < -9999 ∨ 9999 < nearAt A B e) : find A B k e = none := by
  refine find_none k e fun g h1 h2 ho => ?_
  have hn := num_near (by omega) hAB ho
  have hs := numAt_spec (by omega) ho
  have := near_great (A := A) (B := B) (e := e) (g - e) (by omega) h
  rw [show e + (g - e) = g by omega] at this
  omega
/-- The model's last step. -/
theorem find_hit {A B : Int} {e k : Nat} (hAB : A < B) (he : e ≤ 8) (hk : e + (k + 1) ≤ 9) (hb : betAt A B e) : find A B (k + 1) e = if okR (nearAt A B e) e = true then some (nearAt A B e, (e : Int)) else none := by
  by_cases h : -9999 ≤ nearAt A B e ∧ nearAt A B e ≤ 9999
  · have ho := okAt_near he hb h.1 h.2
    rw [find, if_pos ho, if_pos (okR_iff.2 ⟨h.1, h.2, by omega, by omega⟩), (num_near he hAB ho).2]
  · rw [if_neg (fun h' => h ⟨(okR_iff.1 h').1, (okR_iff.1 h').2.1⟩)]
    exact find_great hAB hk (by omega)
theorem find_miss {A B : Int} {e k : Nat} (hAB : A < B) (he : e ≤ 8) (hb : ¬ betAt A B e) : find A B (k + 1) e = find A B k (e + 1) := by
  rw [find, if_neg fun ho => hb (num_near he hAB ho).1]
end Go.Proofs.Ytocjlhlohlkkmaa.Dy
