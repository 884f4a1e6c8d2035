/-
  More of the simplest number between two others.
-/
import Derived.Test.YtocjlhlohlkkmaaDyS
namespace Go.Proofs.Ytocjlhlohlkkmaa.Dy
set_option maxRecDepth 100000
theorem unit_bd {e : Nat} {U : Int} (he : e ≤ 8) (h : (2 : Int) ^ (8 - e) = U) : 1 ≤ U ∧ U ≤ 256 := by
  have : e = 0 ∨ e = 1 ∨ e = 2 ∨ e = 3 ∨ e = 4 ∨ e = 5 ∨ e = 6 ∨ e = 7 ∨ e = 8 := by omega
  rcases this with rfl | rfl | rfl | rfl | rfl | rfl | rfl | rfl | rfl <;> simp at h <;> omega
theorem near_mul {A B : Int} {e : Nat} (he : e ≤ 8) (a1 : -2559744 ≤ A) (a2 : A ≤ 2559744) (b1 : -2559744 ≤ B) (b2 : B ≤ 2559744) : -2560000 ≤ sc (nearAt A B e) e ∧ sc (nearAt A B e) e ≤ 2560000 := by
  have h1 := fdiv_cases (X := A) he
  have h2 := fdiv_cases (X := -B) he
  have h3 := sc_cases (n := nearAt A B e) (e := (e : Int)) (by omega) (by omega)
  unfold nearAt hiN loN at *
  by_cases c : A < 0 ∧ 0 < B
  · rw [if_pos c] at *; omega
  · rw [if_neg c] at *
    by_cases c2 : 0 ≤ A
    · rw [if_pos c2] at *; clear h2; omega
    · rw [if_neg c2] at *; clear h1; omega
theorem ok_red {p q : Int} (h : Red p q) : ok p q = okR p q := by
  unfold Red at h
  unfold ok
  rcases h with h | h <;> simp [h]
end Go.Proofs.Ytocjlhlohlkkmaa.Dy
