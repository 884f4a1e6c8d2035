/-
  The model's patterns.
-/
import Derived.Test.YtpopbcmfbcmojaaPkL
import Derived.Test.YtpopbcmfbcmojaaSpecC
namespace Go.Proofs.Ytpopbcmfbcmojaa
set_option maxRecDepth 100000
open Go.RowKit

theorem s_pplace (p : Int) (w : World) (h0 : 0 ≤ p) (h1 : p ≤ 8) : Calls Try.prog 105 #[.int .i64 p] w fun e w' => e = .returned (.int .i64 (if 4 < p then p - 1 else p)) ∧ w = w' := by
  by_cases h : 4 < p
  · rw [if_pos h]
    go_enter Try.func105, Try.ntmps105
    go_wp2_with fail
    go_ret
    exact ⟨rfl, rfl⟩
  · rw [if_neg h]
    go_enter Try.func105, Try.ntmps105
    go_wp2_with fail
    go_ret
    exact ⟨rfl, rfl⟩
/-- The digit at i. -/
def Pk.dg (n : Int) (i : Nat) : Int := n / 4 ^ i % 4
theorem Pk.dg_bd (n : Int) (i : Nat) : 0 ≤ Pk.dg n i ∧ Pk.dg n i ≤ 3 := by unfold Pk.dg; omega
/-- Horner's sum of the digits f 7, f 6, .. f k. -/
def Pk.hor (f : Nat → Int) : Nat → Int
  | 0 => 0
  | j + 1 => 4 * Pk.hor f j + f (7 - j)
theorem Pk.hor_bd {f : Nat → Int} (hf : ∀ i, 0 ≤ f i ∧ f i ≤ 3) : ∀ j, j ≤ 8 → 0 ≤ Pk.hor f j ∧ Pk.hor f j ≤ 65535
  | 0, _ => by simp [Pk.hor]
  | j + 1, hj => by
    have key : ∀ j, j ≤ 8 → 0 ≤ Pk.hor f j ∧ Pk.hor f j < (4 ^ j : Nat) := by
      intro j
      induction j with
      | zero => intro _; simp [Pk.hor]
      | succ j ih =>
        intro h
        have i1 := ih (by omega)
        have i2 := hf (7 - j)
        rw [show Pk.hor f (j + 1) = 4 * Pk.hor f j + f (7 - j) from rfl, Nat.pow_succ]
        omega
    have h := key (j + 1) hj
    have hp : (4 : Nat) ^ (j + 1) ≤ 4 ^ 8 := Nat.pow_le_pow_right (by omega) hj
    omega
theorem Pk.hor_all (f : Nat → Int) : Pk.hor f 8 = Pk.enc (f 0) (f 1) (f 2) (f 3) (f 4) (f 5) (f 6) (f 7) := by
  simp [Pk.hor, Pk.enc]
  omega
theorem Pk.shr4 (n : Int) {i : Nat} (hi : i ≤ 7) : n / 2 ^ (2 * i) = n / 4 ^ i := by
  have : i = 0 ∨ i = 1 ∨ i = 2 ∨ i = 3 ∨ i = 4 ∨ i = 5 ∨ i = 6 ∨ i = 7 := by omega
  rcases this with rfl | rfl | rfl | rfl | rfl | rfl | rfl | rfl <;> rfl
theorem Pk.inv_hor (n : Int) : Pk.hor (fun i => oth (Pk.dg n i)) 8 = Pk.inv oth n := by
  rw [Pk.hor_all]
  have h00 : n / 4 ^ 0 = n := by simp
  simp only [Pk.inv, Pk.cells, List.map, Pk.pat, Pk.dg]
  rw [h00]
  rfl
theorem oth_dg (n : Int) (i : Nat) : 0 ≤ oth (Pk.dg n i) ∧ oth (Pk.dg n i) ≤ 3 := oth_ex.dig _ (Pk.dg_bd n i)
end Go.Proofs.Ytpopbcmfbcmojaa
