/-
  The number of cells; the least of eight ints.
-/
import Derived.Test.YtpopbcmfbcmojaaPkI
namespace Go.Proofs.Ytpopbcmfbcmojaa
set_option maxRecDepth 100000
open Go.RowKit

def Pk.unit : Nat → Int
  | 0 => 1
  | k + 1 => if k = 4 then Pk.unit k else Pk.unit k * 4
def Pk.sum (cs : List Int) : Nat → Int
  | 0 => 0
  | k + 1 => if k = 4 then Pk.sum cs k else Pk.sum cs k + cs.getD k 0 * Pk.unit k
theorem Pk.unit_bd {k : Nat} (hk : k ≤ 9) : 1 ≤ Pk.unit k ∧ Pk.unit k ≤ 65536 := by
  have : k = 0 ∨ k = 1 ∨ k = 2 ∨ k = 3 ∨ k = 4 ∨ k = 5 ∨ k = 6 ∨ k = 7 ∨ k = 8 ∨ k = 9 := by omega
  rcases this with rfl | rfl | rfl | rfl | rfl | rfl | rfl | rfl | rfl | rfl <;> simp [Pk.unit]
/-- Nine cells of digits, whatever the middle one is. -/
structure Pk.Nine (cs : List Int) : Prop where
  ex : ∃ a b c d m e f g h, cs = [a, b, c, d, m, e, f, g, h] ∧ Pk.d4 a ∧ Pk.d4 b ∧ Pk.d4 c ∧ Pk.d4 d ∧ Pk.d4 m ∧ Pk.d4 e ∧ Pk.d4 f ∧ Pk.d4 g ∧ Pk.d4 h
theorem Pk.Good.nine {cs : List Int} (h : Pk.Good cs) : Pk.Nine cs := by
  obtain ⟨a, b, c, d, e, f, g, h, rfl, ha, hb, hc, hd, he, hf, hg, hh⟩ := h
  exact ⟨_, _, _, _, _, _, _, _, _, rfl, ha, hb, hc, hd, ⟨by omega, by omega⟩, he, hf, hg, hh⟩
theorem Pk.dig {cs : List Int} (hg : Pk.Nine cs) {k : Nat} (hk : k < 9) : 0 ≤ cs.getD k 0 ∧ cs.getD k 0 ≤ 3 := by
  obtain ⟨a, b, c, d, m, e, f, g, h, rfl, ha, hb, hc, hd, hm, he, hf, hg, hh⟩ := hg
  have : k = 0 ∨ k = 1 ∨ k = 2 ∨ k = 3 ∨ k = 4 ∨ k = 5 ∨ k = 6 ∨ k = 7 ∨ k = 8 := by omega
  unfold Pk.d4 at *
  rcases this with rfl | rfl | rfl | rfl | rfl | rfl | rfl | rfl | rfl <;> simp <;> omega
theorem Pk.mul_bd {d u : Int} (d0 : 0 ≤ d) (d1 : d ≤ 3) (u0 : 1 ≤ u) : 0 ≤ d * u ∧ d * u ≤ 3 * u := by
  have : d = 0 ∨ d = 1 ∨ d = 2 ∨ d = 3 := by omega
  rcases this with rfl | rfl | rfl | rfl <;> omega
theorem Pk.sum_bd {cs : List Int} (hg : Pk.Nine cs) : ∀ k, k ≤ 9 → 0 ≤ Pk.sum cs k ∧ Pk.sum cs k < Pk.unit k
  | 0, _ => by simp [Pk.sum, Pk.unit]
  | k + 1, hk => by
    have ih := Pk.sum_bd hg k (by omega)
    obtain ⟨d0, d1⟩ := Pk.dig hg (show k < 9 by omega)
    have := Pk.mul_bd d0 d1 (Pk.unit_bd (show k ≤ 9 by omega)).1
    rw [show Pk.sum cs (k + 1) = if k = 4 then Pk.sum cs k else Pk.sum cs k + cs.getD k 0 * Pk.unit k from rfl, show Pk.unit (k + 1) = if k = 4 then Pk.unit k else Pk.unit k * 4 from rfl]
    split <;> omega
theorem Pk.sum_all {cs : List Int} (hg : Pk.Nine cs) : Pk.sum cs 9 = Pk.pat cs := by
  obtain ⟨a, b, c, d, m, e, f, g, h, rfl, _⟩ := hg
  simp [Pk.sum, Pk.unit, Pk.pat, Pk.enc]
  omega
set_option maxHeartbeats 2000000 in
theorem i_pattern (cs : List Int) (hg : Pk.Nine cs) (w : World) (B : Nat) (A : Option Addr) (c : Nat) (h : Ints w B A 9 cs) :
    Calls Try.prog 48 #[.slice A 9 c] w fun e w' => e = .returned (.int .i64 (Pk.pat cs)) ∧ w' = w := by
  have hlen : cs.length = 9 := h.1
  obtain ⟨b, o, rfl, hbB, hc⟩ : ∃ b o, A = some ⟨b, o, none⟩ ∧ b < B ∧ ∀ j, j < 9 → w.cell? ⟨b, o + j, none⟩ = some (.int .i64 (cs.getD j 0)) := by
    rcases h.2 with h | h
    · omega
    · exact h
  have Hc := Lib.hid hc
  clear hc h
  go_enter Try.func48, Try.ntmps48
  go_wp2_with fail
  go_loopg [3, 4, 9] 10 (fun q v3 v4 v9 wr => ∃ k : Nat, k + q = 10 ∧ k ≤ 9 ∧ v3 = .int .i64 (Pk.sum cs k) ∧ v4 = .int .i64 (Pk.unit k) ∧ v9 = .int .i64 (k : Nat) ∧ wr = w)
  case atStart => exact ⟨0, by omega, by omega, rfl, rfl, rfl, rfl⟩
  case round =>
    obtain ⟨k, hk, hk9, rfl, rfl, rfl, rfl⟩ := hrel
    by_cases hkk : k = 9
    · subst hkk
      have hlt : ¬ (((9 : Nat) : Int)) < 9 := by omega
      go_wp2_with fail
      go_ret
      exact ⟨ret_int (Pk.sum_all hg), rfl⟩
    · have hlt : ((k : Nat) : Int) < 9 := by omega
      obtain ⟨s0, s1⟩ := Pk.sum_bd hg k hk9
      obtain ⟨u0, u1⟩ := Pk.unit_bd hk9
      obtain ⟨d0, d1⟩ := Pk.dig hg (show k < 9 by omega)
      obtain ⟨m0, m1⟩ := Pk.mul_bd d0 d1 u0
      have ck := Hc.out k (by omega)
      have hk0 : (0 : Int) ≤ (k : Nat) := by omega
      have hs1 : Pk.sum cs (k + 1) = if k = 4 then Pk.sum cs k else Pk.sum cs k + cs.getD k 0 * Pk.unit k := rfl
      have hu1 : Pk.unit (k + 1) = if k = 4 then Pk.unit k else Pk.unit k * 4 := rfl
      obtain ⟨S, hS⟩ : ∃ S, Pk.sum cs k = S := ⟨_, rfl⟩
      obtain ⟨U, hU⟩ : ∃ U, Pk.unit k = U := ⟨_, rfl⟩
      obtain ⟨d, hd⟩ : ∃ d, cs.getD k 0 = d := ⟨_, rfl⟩
      rw [hS, hU, hd] at hs1
      rw [hU] at hu1
      rw [hd, hU] at m0
      rw [hd, hU] at m1
      rw [hd] at ck d0 d1
      rw [hS] at s0 s1
      rw [hU] at s1 u0 u1
      rw [hS, hU]
      by_cases h4 : k = 4
      · rw [if_pos h4] at hs1
        rw [if_pos h4] at hu1
        have Hs := Lib.hid hs1
        have Hu := Lib.hid hu1
        subst h4
        have hne : ((((4 : Nat) : Int)) != 4) = false := by decide
        clear hs1 hu1 hS hU hd hlen m0 m1
        go_wp2_with fail
        go_roundg 5
        case measure => omega
        case rel => exact ⟨5, by omega, by omega, by rw [Hs.out], by rw [Hu.out], by go_num, rfl⟩
      · rw [if_neg h4] at hs1
        rw [if_neg h4] at hu1
        have Hs := Lib.hid hs1
        have Hu := Lib.hid hu1
        have hne : (((k : Nat) : Int) != 4) = true := by simp; omega
        clear hs1 hu1 hS hU hd hlen
        obtain ⟨M, hM⟩ : ∃ M, d * U = M := ⟨_, rfl⟩
        rw [hM] at m0 m1 Hs
        go_wp2_with fail
        go_roundg (9 - k)
        case measure => omega
        case rel => exact ⟨k + 1, by omega, by omega, by rw [Hs.out], by rw [Hu.out], by go_num, rfl⟩
/-- The least of the first k + 1 ints of a list. -/
def Pk.least (xs : List Int) : Nat → Int
  | 0 => xs.getD 0 0
  | k + 1 => min (Pk.least xs k) (xs.getD (k + 1) 0)
set_option maxHeartbeats 2000000 in
theorem i_min (xs : List Int) (n : Nat) (w : World) (B : Nat) (A : Option Addr) (c : Nat) (h : Ints w B A (n + 1) xs) (hn : n ≤ 1000000) :
    Calls Try.prog 61 #[.slice A (n + 1) c] w fun e w' => e = .returned (.int .i64 (Pk.least xs n)) ∧ w' = w := by
  obtain ⟨b, o, rfl, hbB, hc⟩ : ∃ b o, A = some ⟨b, o, none⟩ ∧ b < B ∧ ∀ j, j < n + 1 → w.cell? ⟨b, o + j, none⟩ = some (.int .i64 (xs.getD j 0)) := by
    rcases h.2 with h | h
    · omega
    · exact h
  have Hc := Lib.hid hc
  have c0 := hc 0 (by omega)
  rw [Nat.add_zero] at c0
  clear hc h
  have hl1 : ¬ ((n + 1 : Nat) : Int) < 1 := by omega
  go_enter Try.func61, Try.ntmps61
  go_wp2_with fail
  go_loopg [3, 4] (n + 1) (fun q v3 v4 wr => ∃ k : Nat, k + q = n + 1 ∧ k ≤ n ∧ v3 = .int .i64 (Pk.least xs k) ∧ v4 = .int .i64 ((k + 1 : Nat) : Int) ∧ wr = w)
  case atStart => exact ⟨0, by omega, by omega, rfl, rfl, rfl⟩
  case round =>
    obtain ⟨k, hk, hkn, rfl, rfl, rfl⟩ := hrel
    clear c0
    by_cases hkk : k = n
    · subst hkk
      have hlt : ¬ ((k + 1 : Nat) : Int) < ((k + 1 : Nat) : Int) := by omega
      go_wp2_with fail
      go_ret
      exact ⟨rfl, rfl⟩
    · have hlt : ((k + 1 : Nat) : Int) < ((n + 1 : Nat) : Int) := by omega
      have ck := Hc.out (k + 1) (by omega)
      have hk0 : (0 : Int) ≤ ((k + 1 : Nat) : Int) := by omega
      have hs : Pk.least xs (k + 1) = min (Pk.least xs k) (xs.getD (k + 1) 0) := rfl
      obtain ⟨x, hx⟩ : ∃ x, xs.getD (k + 1) 0 = x := ⟨_, rfl⟩
      obtain ⟨y, hy⟩ : ∃ y, Pk.least xs k = y := ⟨_, rfl⟩
      rw [hx] at ck
      rw [hx, hy] at hs
      rw [hy]
      by_cases hle : y ≤ x
      · have hm : Pk.least xs (k + 1) = y := by rw [hs]; omega
        have Hm := Lib.hid hm
        clear hs hx hy hm
        go_wp2_with fail
        go_roundg (n - k)
        case measure => omega
        case rel => exact ⟨k + 1, by omega, by omega, by rw [Hm.out], by go_num, rfl⟩
      · have hm : Pk.least xs (k + 1) = x := by rw [hs]; omega
        have Hm := Lib.hid hm
        clear hs hx hy hm
        go_wp2_with fail
        go_roundg (n - k)
        case measure => omega
        case rel => exact ⟨k + 1, by omega, by omega, by rw [Hm.out], by go_num, rfl⟩
end Go.Proofs.Ytpopbcmfbcmojaa
