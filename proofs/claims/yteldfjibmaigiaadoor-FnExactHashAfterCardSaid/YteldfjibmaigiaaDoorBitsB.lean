/-
  Sets of points as bits: the points beside, above and below.
-/
import Derived.Test.YteldfjibmaigiaaDoorBits
import Derived.RegionTactic
import Derived.Test.YteldfjibmaigiaaDoorLists
namespace Go.Proofs.YteldfjibmaigiaaDoor
set_option maxRecDepth 100000
open Go.RowKit

theorem i_onlyN (x : Int) (p a : Nat) (w : World) (hx : x = p) (ha : a = 2 ^ p) (h : p < 64) :
    Calls Tryd.prog 54 #[.int .i64 x] w fun e w' => e = .returned (.int .u64 (a : Int)) ∧ w = w' := by
  subst hx
  subst ha
  exact i_only p w h

theorem bes_val (s m C : Nat) (h1 : 1 ≤ s) (h2 : s ≤ 7) (hm : m < 18446744073709551616) (hC : C = Bt.fst_ s) :
    bits .or .u64 (bits .andNot .u64 (m : Int) (C : Int) / 2) (IntKind.u64.wrap (bits .andNot .u64 (m : Int) (IntKind.u64.wrap ((C : Int) * 2 ^ (s - 1))) * 2)) = ((Bt.bes s m : Nat) : Int) := by
  subst hC
  obtain ⟨a1, a2, a3, a4, a5, a6, a7⟩ := Bt.masks s h1 h2
  have e1 : IntKind.u64.wrap ((Bt.fst_ s : Int) * 2 ^ (s - 1)) = ((Bt.lst_ s : Nat) : Int) := by
    have : (Bt.fst_ s : Int) * 2 ^ (s - 1) = ((Bt.lst_ s : Nat) : Int) := by unfold Bt.lst_; push_cast; rfl
    rw [this, wrap_u]
    omega
  rw [e1, u64_andNot_nat m _ hm (by omega), u64_andNot_nat m _ hm (by omega)]
  have h3 : m &&& (18446744073709551615 - Bt.fst_ s) ≤ m := Nat.and_le_left
  unfold Bt.bes
  generalize m &&& (18446744073709551615 - Bt.fst_ s) = x at h3
  generalize m &&& (18446744073709551615 - Bt.lst_ s) = y
  have e2 : (x : Int) / 2 = ((x / 2 : Nat) : Int) := by omega
  have e3 : IntKind.u64.wrap ((y : Int) * 2) = ((y * 2 % 18446744073709551616 : Nat) : Int) := by rw [wrap_u]; omega
  rw [e2, e3, u64_or_nat _ _ (by omega) (by omega)]

theorem i_beside (s m : Nat) (w : World) (h1 : 1 ≤ s) (h2 : s ≤ 7) (hm : m < 18446744073709551616) :
    Calls Tryd.prog 89 #[.int .u64 m, .int .i64 s] w fun e w' => e = .returned (.int .u64 ((Bt.bes s m : Nat) : Int)) ∧ w = w' := by
  obtain ⟨a1, a2, a3, a4, a5, a6, a7⟩ := Bt.masks s h1 h2
  obtain ⟨b1, b2, b3⟩ := Bt.sq_nat s h1 h2
  have hss : (s : Int) * s ≤ 49 := by exact_mod_cast b2
  have hss0 : 0 ≤ (s : Int) * s := by exact_mod_cast Nat.zero_le _
  obtain ⟨a, ha⟩ : ∃ a, a = 2 ^ (s * s) := ⟨_, rfl⟩
  obtain ⟨b, hb⟩ : ∃ b, b = 2 ^ s := ⟨_, rfl⟩
  have hb1 : 2 ≤ b := by omega
  have ha1 : 1 ≤ a := by rw [ha]; exact Nat.two_pow_pos _
  obtain ⟨F, hF⟩ : ∃ F, F = a - 1 := ⟨_, rfl⟩
  obtain ⟨R, hR⟩ : ∃ R, R = b - 1 := ⟨_, rfl⟩
  obtain ⟨C, hC⟩ : ∃ C, C = F / R := ⟨_, rfl⟩
  have eC : C = Bt.fst_ s := by rw [hC, hF, hR, ha, hb]; rfl
  have rF : (a : Int) - 1 = (F : Int) := by omega
  have rR : (b : Int) - 1 = (R : Int) := by omega
  have hR1 : 1 ≤ R := by omega
  have hF49 : F < 2 ^ 49 := by omega
  have rC : (F : Int) / (R : Int) = (C : Int) := by rw [hC]; push_cast; rfl
  have hR2 : ((R : Int) == 0) = false := by simp; omega
  have hR3 : ¬ (R : Int) = 0 := by omega
  have hC49 : C ≤ 562949953421311 := by omega
  have hR4 : R ≤ 127 := by omega
  have hF4 : F ≤ 562949953421311 := by omega
  have Ha := Lib.hid ha
  have Hb := Lib.hid hb
  have HC := Lib.hid eC
  clear ha hb hF hR hC eC
  go_enter Tryd.func89, Tryd.ntmps89
  go_wp2_with fail
  refine (i_onlyN _ (s * s) a _ (by push_cast; rfl) Ha.out (by omega)).mono ?_
  rintro e w' ⟨rfl, rfl⟩
  go_wp2_with fail
  refine (i_onlyN _ s b _ rfl Hb.out (by omega)).mono ?_
  rintro e w' ⟨rfl, rfl⟩
  go_wp2_with fail
  go_ret
  exact ⟨by rw [← bes_val s m C h1 h2 hm HC.out]; rfl, rfl⟩

theorem abv_val (s m F : Nat) (h1 : 1 ≤ s) (h2 : s ≤ 7) (hm : m < 18446744073709551616) (hF : F = Bt.full s) :
    bits .and .u64 (bits .or .u64 (IntKind.u64.wrap ((m : Int) * 2 ^ s)) ((m : Int) / 2 ^ s)) (F : Int) = ((Bt.abv s m : Nat) : Int) := by
  subst hF
  obtain ⟨a1, a2, a3, a4, a5, a6, a7⟩ := Bt.masks s h1 h2
  have e1 : IntKind.u64.wrap ((m : Int) * 2 ^ s) = ((m * 2 ^ s % 18446744073709551616 : Nat) : Int) := by
    rw [wrap_u, show (m : Int) * 2 ^ s = ((m * 2 ^ s : Nat) : Int) by push_cast; rfl]
    generalize m * 2 ^ s = t
    omega
  have e2 : (m : Int) / 2 ^ s = ((m / 2 ^ s : Nat) : Int) := by push_cast; rfl
  have hd : m / 2 ^ s < 18446744073709551616 := Nat.lt_of_le_of_lt (Nat.div_le_self _ _) hm
  rw [e1, e2, u64_or_nat _ _ (by omega) hd, u64_and_nat _ _ (Bt.or_lt (n := 64) (by omega) (by omega)) (by omega)]
  rfl

theorem i_above (s m : Nat) (w : World) (h1 : 1 ≤ s) (h2 : s ≤ 7) (hm : m < 18446744073709551616) :
    Calls Tryd.prog 90 #[.int .u64 m, .int .i64 s] w fun e w' => Drew (.int .u64 ((Bt.abv s m : Nat) : Int)) w e w' := by
  obtain ⟨a1, a2, a3, a4, a5, a6, a7⟩ := Bt.masks s h1 h2
  obtain ⟨b1, b2, b3⟩ := Bt.sq_nat s h1 h2
  have hss : (s : Int) * s ≤ 49 := by exact_mod_cast b2
  have hss0 : 0 ≤ (s : Int) * s := by exact_mod_cast Nat.zero_le _
  obtain ⟨a, ha⟩ : ∃ a, a = 2 ^ (s * s) := ⟨_, rfl⟩
  have ha1 : 1 ≤ a := by rw [ha]; exact Nat.two_pow_pos _
  obtain ⟨F, hF⟩ : ∃ F, F = a - 1 := ⟨_, rfl⟩
  have eF : F = Bt.full s := by rw [hF, ha]; rfl
  have rF : (a : Int) - 1 = (F : Int) := by omega
  have hF4 : F ≤ 562949953421311 := by omega
  have Ha := Lib.hid ha
  have HF := Lib.hid eF
  clear ha hF eF
  go_enter Tryd.func90, Tryd.ntmps90
  go_wp2_with fail
  refine (i_onlyN _ (s * s) a _ (by push_cast; rfl) Ha.out (by omega)).mono ?_
  rintro e w' ⟨rfl, rfl⟩
  go_wp2_with fail
  go_quiet (fail)
  go_wp2_with fail
  go_ret
  exact ⟨_, by rw [← abv_val s m F h1 h2 hm HF.out]; rfl, rfl⟩

end Go.Proofs.YteldfjibmaigiaaDoor
