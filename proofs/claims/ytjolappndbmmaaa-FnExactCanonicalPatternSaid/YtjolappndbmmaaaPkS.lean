/-
  The model's patterns.
-/
import Derived.Test.YtjolappndbmmaaaPkL
import Derived.Test.YtjolappndbmmaaaSpecC
namespace Go.Proofs.Ytjolappndbmmaaa
set_option maxRecDepth 100000
open Go.RowKit

theorem s_pplace (p : Int) (w : World) (h0 : 0 ≤ p) (h1 : p ≤ 8) : Calls Try.prog 89 #[.int .i64 p] w fun e w' => e = .returned (.int .i64 (if 4 < p then p - 1 else p)) ∧ w = w' := by
  by_cases h : 4 < p
  · rw [if_pos h]
    go_enter Try.func89, Try.ntmps89
    go_wp2_with fail
    go_ret
    exact ⟨rfl, rfl⟩
  · rw [if_neg h]
    go_enter Try.func89, Try.ntmps89
    go_wp2_with fail
    go_ret
    exact ⟨rfl, rfl⟩
/-- The digit at i. -/
def Pk.dg (n : Int) (i : Nat) : Int := n / 4 ^ i % 4
theorem Pk.dg_bd (n : Int) (i : Nat) : 0 ≤ Pk.dg n i ∧ Pk.dg n i ≤ 3 := by unfold Pk.dg; omega
/-- Horner's sum of the digits f 7, f 6, .. f k. -/
def Pk.hor (f : Nat → Int) : Nat → Int
  | 0 => 0
  | j + 1 => 4 * Pk.hor f j + f (7 - j)
theorem Pk.hor_bd {f : Nat → Int} (hf : ∀ i, 0 ≤ f i ∧ f i ≤ 3) : ∀ j, j ≤ 8 → 0 ≤ Pk.hor f j ∧ Pk.hor f j ≤ 65535
  | 0, _ => by simp [Pk.hor]
  | j + 1, hj => by
    have key : ∀ j, j ≤ 8 → 0 ≤ Pk.hor f j ∧ Pk.hor f j < (4 ^ j : Nat) := by
      intro j
      induction j with
      | zero => intro _; simp [Pk.hor]
      | succ j ih =>
        intro h
        have i1 := ih (by omega)
        have i2 := hf (7 - j)
        rw [show Pk.hor f (j + 1) = 4 * Pk.hor f j + f (7 - j) from rfl, Nat.pow_succ]
        omega
    have h := key (j + 1) hj
    have hp : (4 : Nat) ^ (j + 1) ≤ 4 ^ 8 := Nat.pow_le_pow_right (by omega) hj
    omega
theorem Pk.hor_all (f : Nat → Int) : Pk.hor f 8 = Pk.enc (f 0) (f 1) (f 2) (f 3) (f 4) (f 5) (f 6) (f 7) := by
  simp [Pk.hor, Pk.enc]
  omega
theorem Pk.shr4 (n : Int) {i : Nat} (hi : i ≤ 7) : n / 2 ^ (2 * i) = n / 4 ^ i := by
  have : i = 0 ∨ i = 1 ∨ i = 2 ∨ i = 3 ∨ i = 4 ∨ i = 5 ∨ i = 6 ∨ i = 7 := by omega
  rcases this with rfl | rfl | rfl | rfl | rfl | rfl | rfl | rfl <;> rfl
theorem Pk.inv_hor (n : Int) : Pk.hor (fun i => oth (Pk.dg n i)) 8 = Pk.inv oth n := by
  rw [Pk.hor_all]
  have h00 : n / 4 ^ 0 = n := by simp
  simp only [Pk.inv, Pk.cells, List.map, Pk.pat, Pk.dg]
  rw [h00]
  rfl
theorem oth_dg (n : Int) (i : Nat) : 0 ≤ oth (Pk.dg n i) ∧ oth (Pk.dg n i) ≤ 3 := oth_ex.dig _ (Pk.dg_bd n i)
set_option maxHeartbeats 2000000 in
theorem s_invPat (n : Int) (w : World) : Calls Try.prog 18 #[.int .i64 n] w fun e w' => e = .returned (.int .i64 (Pk.invA n)) ∧ w' = w := by
  by_cases hv : Pk.ok n = true
  · obtain ⟨h0, h1⟩ := Pk.ok_iff.1 hv
    have hA : Pk.invA n = Pk.hor (fun i => oth (Pk.dg n i)) 8 := by unfold Pk.invA; rw [if_pos hv, Pk.inv_hor n]
    have HA := Lib.hid hA
    have Hv := Lib.hid hv
    clear hA hv
    go_enter Try.func18, Try.ntmps18
    go_wp2_with fail
    refine (s_range n 0 65535 _).mono ?_
    rintro e y ⟨rfl, rfl⟩
    rw [show (decide (0 ≤ n) && decide (n ≤ 65535)) = true from Hv.out]
    go_wp2_with fail
    go_loopg [3, 4] 9 (fun q v3 v4 wr => ∃ k : Nat, k + q = 9 ∧ k ≤ 8 ∧ v3 = .int .i64 (Pk.hor (fun i => oth (Pk.dg n i)) k) ∧ v4 = .int .i64 (7 - (k : Nat)) ∧ wr = w)
    case atStart => exact ⟨0, by omega, by omega, rfl, rfl, rfl⟩
    case round =>
      obtain ⟨k, hk, hk8, rfl, rfl, rfl⟩ := hrel
      obtain ⟨b0, b1⟩ := Pk.hor_bd (fun i => oth_dg n i) k hk8
      by_cases hkk : k = 8
      · subst hkk
        have hlt : ¬ (0 : Int) ≤ 7 - (((8 : Nat) : Int)) := by omega
        go_wp2_with fail
        go_ret
        exact ⟨ret_int HA.out.symm, rfl⟩
      · obtain ⟨i, hi⟩ : ∃ i, i = 7 - k := ⟨_, rfl⟩
        have hki : 7 - ((k : Nat) : Int) = (i : Nat) := by omega
        have hi7 : i ≤ 7 := by omega
        have hi7' : ((i : Nat) : Int) ≤ 7 := by omega
        have hi0 : (0 : Int) ≤ (i : Nat) := by omega
        obtain ⟨H, hH⟩ : ∃ H, Pk.hor (fun i => oth (Pk.dg n i)) k = H := ⟨_, rfl⟩
        obtain ⟨d, hd⟩ : ∃ d, Pk.dg n i = d := ⟨_, rfl⟩
        obtain ⟨d0, d1⟩ := Pk.dg_bd n i
        have hs : Pk.hor (fun i => oth (Pk.dg n i)) (k + 1) = 4 * H + oth d := by rw [← hH, ← hd, hi]; rfl
        have hsh := Pk.shr4 n hi7
        obtain ⟨Q, hQ⟩ : ∃ Q, n / 2 ^ (2 * i) = Q := ⟨_, rfl⟩
        have hQ0 : 0 ≤ Q := by rw [← hQ]; exact Int.ediv_nonneg h0 (Int.pow_nonneg (by decide))
        have hQd : Q.tmod 4 = d := by rw [Int.tmod_eq_emod_of_nonneg hQ0, ← hQ, hsh, ← hd]; rfl
        rw [hH] at b0 b1 ⊢
        rw [hd] at d0 d1
        rw [hki]
        have Hs := Lib.hid hs
        clear hH hd hs hsh hi
        by_cases e1 : d = 1
        · have q1 : (d == 1) = true := by simpa using e1
          have o1 := oth_ex.dig d ⟨d0, d1⟩
          obtain ⟨f, hf⟩ : ∃ f, oth d = f := ⟨_, rfl⟩
          rw [hf] at Hs o1
          obtain ⟨o1, o2⟩ := o1
          have Hf := Lib.hid hf
          have d12 : 1 ≤ d ∧ d ≤ 2 := by omega
          have D := Lib.hid d12
          clear e1 hf d12
          go_wp2_with fail
          refine (s_opp d _ D.out.1 D.out.2).mono ?_
          rintro e y ⟨rfl, rfl⟩
          rw [Hf.out]
          go_wp2_with fail
          go_roundg (8 - k)
          case measure => omega
          case rel => exact ⟨k + 1, by omega, by omega, by rw [Hs.out], by go_num, rfl⟩
        · have q1 : (d == 1) = false := by simpa using e1
          by_cases e2 : d = 2
          · have q2 : (d == 2) = true := by simpa using e2
            have o1 := oth_ex.dig d ⟨d0, d1⟩
            obtain ⟨f, hf⟩ : ∃ f, oth d = f := ⟨_, rfl⟩
            rw [hf] at Hs o1
            obtain ⟨o1, o2⟩ := o1
            have Hf := Lib.hid hf
            have d12 : 1 ≤ d ∧ d ≤ 2 := by omega
            have D := Lib.hid d12
            clear e1 e2 hf d12
            go_wp2_with fail
            refine (s_opp d _ D.out.1 D.out.2).mono ?_
            rintro e y ⟨rfl, rfl⟩
            rw [Hf.out]
            go_wp2_with fail
            go_roundg (8 - k)
            case measure => omega
            case rel => exact ⟨k + 1, by omega, by omega, by rw [Hs.out], by go_num, rfl⟩
          · have q2 : (d == 2) = false := by simpa using e2
            have hf : oth d = d := by unfold oth; rw [if_neg e1, if_neg e2]
            rw [hf] at Hs
            clear e1 e2 hf
            go_wp2_with fail
            go_roundg (8 - k)
            case measure => omega
            case rel => exact ⟨k + 1, by omega, by omega, by rw [Hs.out], by go_num, rfl⟩
  · have hv' : (decide (0 ≤ n) && decide (n ≤ 65535)) = false := by simpa [Pk.ok] using hv
    have hA : Pk.invA n = -1 := by unfold Pk.invA; rw [if_neg hv]
    have HA := Lib.hid hA
    have Hv := Lib.hid hv'
    clear hA hv hv'
    go_enter Try.func18, Try.ntmps18
    go_wp2_with fail
    refine (s_range n 0 65535 _).mono ?_
    rintro e y ⟨rfl, rfl⟩
    rw [Hv.out]
    go_wp2_with fail
    go_ret
    exact ⟨ret_int HA.out.symm, rfl⟩
end Go.Proofs.Ytjolappndbmmaaa
