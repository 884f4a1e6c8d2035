/-
  Keys of stones: both packages compute one plain function; keys lie in their range, and those of the two colors at a point differ.
-/
import Derived.Test.YtpopbcmfbcmojaaSpecA
import Derived.Test.YtpopbcmfbcmojaaBoardI
import Derived.Deep.LoopGhost
namespace Go.Proofs.Ytpopbcmfbcmojaa
set_option maxRecDepth 100000
open Go.RowKit

def Ky.step (x : Int) : Int := (48271 * x + 11) % 1048576
def Ky.it : Nat → Int → Int
  | 0, x => x
  | k + 1, x => Ky.step (Ky.it k x)
def Ky.ok (p c : Int) : Bool := Pt.okP 7 p && (c == 1 || c == 2)
def Ky.key (p c : Int) : Int := if Ky.ok p c = true then Ky.it 4 (2 * p + c) else -1
theorem Ky.it_bd {x : Int} (h0 : 0 ≤ x) (h1 : x ≤ 98) : ∀ k, 0 ≤ Ky.it k x ∧ Ky.it k x ≤ 1048575
  | 0 => ⟨h0, by show x ≤ _; omega⟩
  | k + 1 => by
    unfold Ky.it Ky.step
    omega
theorem Ky.ok_iff {p c : Int} : Ky.ok p c = true ↔ 0 ≤ p ∧ p ≤ 48 ∧ (c = 1 ∨ c = 2) := by
  unfold Ky.ok
  rw [Bool.and_eq_true, Pt.okP_iff, Bool.or_eq_true, beq_iff_eq, beq_iff_eq]
  omega
theorem Ky.key_bd {p c : Int} (h : Ky.ok p c = true) : 0 ≤ Ky.key p c ∧ Ky.key p c ≤ 1048575 := by
  unfold Ky.key
  rw [if_pos h]
  obtain ⟨h1, h2, h3⟩ := Ky.ok_iff.1 h
  exact Ky.it_bd (by omega) (by omega) 4
theorem Ky.step_inj {x y : Int} (hx : 0 ≤ x) (hx1 : x ≤ 1048575) (hy : 0 ≤ y) (hy1 : y ≤ 1048575) (h : Ky.step x = Ky.step y) : x = y := by
  unfold Ky.step at h
  omega
theorem Ky.it_inj {x y : Int} (hx : 0 ≤ x) (hx1 : x ≤ 98) (hy : 0 ≤ y) (hy1 : y ≤ 98) : ∀ k, Ky.it k x = Ky.it k y → x = y
  | 0, h => h
  | k + 1, h => by
    obtain ⟨a1, a2⟩ := Ky.it_bd hx hx1 k
    obtain ⟨b1, b2⟩ := Ky.it_bd hy hy1 k
    exact Ky.it_inj hx hx1 hy hy1 k (Ky.step_inj a1 a2 b1 b2 h)
theorem Ky.differ {p c : Int} (h : Ky.ok p c = true) : Ky.ok p (3 - c) = true ∧ Ky.key p (3 - c) ≠ Ky.key p c := by
  obtain ⟨h1, h2, h3⟩ := Ky.ok_iff.1 h
  have h' : Ky.ok p (3 - c) = true := Ky.ok_iff.2 (by omega)
  refine ⟨h', ?_⟩
  unfold Ky.key
  rw [if_pos h, if_pos h']
  intro e
  have := Ky.it_inj (by omega) (by omega) (by omega) (by omega) 4 e
  omega

theorem s_kcolor (x : Int) (w : World) : Calls Try.prog 112 #[.int .i64 x] w fun e w' => e = .returned (.bool (decide (1 ≤ x) && decide (x ≤ 2))) ∧ w = w' := by
  go_enter Try.func112, Try.ntmps112
  go_wp2_with fail
  refine (s_range _ _ _ _).mono ?_
  rintro e y ⟨rfl, rfl⟩
  go_wp2_with fail
  go_ret
  exact ⟨rfl, rfl⟩
theorem i_kstone (c : Int) (w : World) : Calls Try.prog 76 #[.int .i64 c] w fun e w' => e = .returned (.bool (c == 1 || c == 2)) ∧ w = w' := i_isStone c w
theorem i_key (p c : Int) (w : World) : Calls Try.prog 36 #[.int .i64 p, .int .i64 c] w fun e w' => e = .returned (.int .i64 (Ky.key p c)) ∧ w = w' := by
  by_cases hp : Pt.okP 7 p = true
  · by_cases hc : (c == 1 || c == 2) = true
    · have hok : Ky.ok p c = true := by unfold Ky.ok; rw [hp, hc]; rfl
      have hk : Ky.key p c = Ky.it 4 (2 * p + c) := by unfold Ky.key; rw [if_pos hok]
      obtain ⟨p1, p2, c1⟩ := Ky.ok_iff.1 hok
      have c0 : 1 ≤ c := by omega
      have c2 : c ≤ 2 := by omega
      have Hk := Lib.hid hk
      have Hp := Lib.hid hp
      have Hc := Lib.hid hc
      clear hk hp hc hok c1
      go_enter Try.func36, Try.ntmps36
      go_wp2_with fail
      refine (i_point _ _ _).mono ?_
      rintro e y ⟨rfl, rfl⟩
      rw [Hp.out]
      go_wp2_with fail
      refine (i_kstone _ _).mono ?_
      rintro e y ⟨rfl, rfl⟩
      rw [Hc.out]
      obtain ⟨X, hX⟩ : ∃ X, 2 * p + c = X := ⟨_, rfl⟩
      have x0 : 0 ≤ X := by omega
      have x1 : X ≤ 98 := by omega
      rw [hX] at Hk
      go_wp2_with fail
      go_loopg [5, 18] 5 (fun q v5 v18 wr => ∃ k : Nat, k + q = 5 ∧ k ≤ 4 ∧ v5 = .int .i64 (Ky.it k X) ∧ v18 = .int .i64 (k : Nat) ∧ wr = w)
      case atStart => exact ⟨0, by omega, by omega, by rw [← hX]; rfl, rfl, rfl⟩
      case round =>
        obtain ⟨k, hk, hk4, rfl, rfl, rfl⟩ := hrel
        obtain ⟨b0, b1⟩ := Ky.it_bd x0 x1 k
        by_cases hkk : k = 4
        · subst hkk
          have hlt : ¬ (((4 : Nat) : Int)) < 4 := by omega
          clear hX
          go_wp2_with fail
          go_ret
          exact ⟨ret_int Hk.out.symm, rfl⟩
        · have hlt : ((k : Nat) : Int) < 4 := by omega
          obtain ⟨Y, hY⟩ : ∃ Y, Ky.it k X = Y := ⟨_, rfl⟩
          have hYs : Ky.it (k + 1) X = (48271 * Y + 11) % 1048576 := by rw [← hY]; rfl
          have Hs := Lib.hid hYs
          rw [hY] at b0 b1 ⊢
          clear hX hY hYs
          go_wp2_with fail
          go_roundg (4 - k)
          case measure => omega
          case rel => exact ⟨k + 1, by omega, by omega, by first | (rw [Hs.out]; done) | (rw [Hs.out]; rfl) | (rw [Hs.out]; go_num), by go_num, rfl⟩
    · have hc' : (c == 1 || c == 2) = false := by simpa using hc
      have hk : Ky.key p c = -1 := by unfold Ky.key Ky.ok; rw [hc', Bool.and_false, if_neg (by decide)]
      have Hk := Lib.hid hk
      have Hp := Lib.hid hp
      have Hc := Lib.hid hc'
      clear hk hp hc hc'
      go_enter Try.func36, Try.ntmps36
      go_wp2_with fail
      refine (i_point _ _ _).mono ?_
      rintro e y ⟨rfl, rfl⟩
      rw [Hp.out]
      go_wp2_with fail
      refine (i_kstone _ _).mono ?_
      rintro e y ⟨rfl, rfl⟩
      rw [Hc.out]
      go_wp2_with fail
      go_ret
      exact ⟨ret_int Hk.out.symm, rfl⟩
  · have hp' : Pt.okP 7 p = false := by simpa using hp
    have hk : Ky.key p c = -1 := by unfold Ky.key Ky.ok; rw [hp', Bool.false_and, if_neg (by decide)]
    have Hk := Lib.hid hk
    have Hp := Lib.hid hp'
    clear hk hp hp'
    go_enter Try.func36, Try.ntmps36
    go_wp2_with fail
    refine (i_point _ _ _).mono ?_
    rintro e y ⟨rfl, rfl⟩
    rw [Hp.out]
    go_wp2_with fail
    go_ret
    exact ⟨ret_int Hk.out.symm, rfl⟩
theorem s_key0 (p c : Int) (w : World) (p1 : 0 ≤ p) (p2 : p ≤ 48) (c0 : 1 ≤ c) (c2 : c ≤ 2) : Calls Try.prog 91 #[.int .i64 p, .int .i64 c] w fun e w' => e = .returned (.int .i64 (Ky.it 4 (2 * p + c))) ∧ w = w' := by
  obtain ⟨X, hX⟩ : ∃ X, 2 * p + c = X := ⟨_, rfl⟩
  have x0 : 0 ≤ X := by omega
  have x1 : X ≤ 98 := by omega
  have HX := Lib.hid hX
  go_enter Try.func91, Try.ntmps91
  go_wp2_with fail
  go_loopg [5, 6] 5 (fun q v5 v18 wr => ∃ k : Nat, k + q = 5 ∧ k ≤ 4 ∧ v5 = .int .i64 (Ky.it k X) ∧ v18 = .int .i64 (k : Nat) ∧ wr = w)
  case atStart => exact ⟨0, by omega, by omega, by rw [← hX]; rfl, rfl, rfl⟩
  case round =>
    obtain ⟨k, hk, hk4, rfl, rfl, rfl⟩ := hrel
    obtain ⟨b0, b1⟩ := Ky.it_bd x0 x1 k
    by_cases hkk : k = 4
    · subst hkk
      have hlt : ¬ (((4 : Nat) : Int)) < 4 := by omega
      clear hX
      go_wp2_with fail
      go_ret
      exact ⟨ret_int (by rw [HX.out]), rfl⟩
    · have hlt : ((k : Nat) : Int) < 4 := by omega
      obtain ⟨Y, hY⟩ : ∃ Y, Ky.it k X = Y := ⟨_, rfl⟩
      have hYs : Ky.it (k + 1) X = (48271 * Y + 11) % 1048576 := by rw [← hY]; rfl
      have Hs := Lib.hid hYs
      rw [hY] at b0 b1 ⊢
      clear hX hY hYs
      go_wp2_with fail
      go_roundg (4 - k)
      case measure => omega
      case rel => exact ⟨k + 1, by omega, by omega, by first | (rw [Hs.out]; done) | (rw [Hs.out, Int.mul_comm 48271]; done) | (rw [Hs.out]; go_num), by go_num, rfl⟩
end Go.Proofs.Ytpopbcmfbcmojaa
