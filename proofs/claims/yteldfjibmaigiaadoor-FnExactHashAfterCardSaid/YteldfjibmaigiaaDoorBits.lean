/-
  Sets of points as bits: the program's one point, and the list of a set's points.
-/
import Derived.Test.YteldfjibmaigiaaDoorTz
import Derived.Test.YteldfjibmaigiaaDoorWords
import Derived.Test.YteldfjibmaigiaaDoorPureBg
import Derived.LoopTactic
namespace Go.Proofs.YteldfjibmaigiaaDoor
set_option maxRecDepth 100000
open Go.RowKit

theorem wrap_u (n : Int) : IntKind.u64.wrap n = n % 18446744073709551616 := by simp [IntKind.wrap, IntKind.bits, IntKind.signed]
theorem pow_u (p : Nat) (h : p < 64) : IntKind.u64.wrap (2 ^ p) = ((2 ^ p : Nat) : Int) := by
  have : 2 ^ p < 2 ^ 64 := Nat.pow_lt_pow_right (by decide) h
  rw [wrap_u]
  have e : ((2 : Int) ^ p) = ((2 ^ p : Nat) : Int) := by push_cast; rfl
  rw [e]
  generalize 2 ^ p = t at this ⊢
  omega

theorem i_only (p : Nat) (w : World) (h : p < 64) :
    Calls Tryd.prog 54 #[.int .i64 p] w fun e w' => e = .returned (.int .u64 ((2 ^ p : Nat) : Int)) ∧ w = w' := by
  have H := Lib.hid (pow_u p h)
  go_enter Tryd.func54, Tryd.ntmps54
  go_wp2_with fail
  go_ret
  exact ⟨by rw [← H.out]; rfl, rfl⟩

theorem i_list (m : Nat) (w : World) (ht : Tab w) (hm : m < 18446744073709551616) :
    Calls Tryd.prog 35 #[.int .u64 m] w fun e w' => ∃ A n c, e = .returned (.slice A n c) ∧ Own w' w.heap.size A n c (Bt.pts m 64) ∧ Below w.heap.size w w' := by
  have HT := Lib.hid ht
  clear ht
  go_enter Tryd.func35, Tryd.ntmps35
  go_wp2_with fail
  go_loopw [3, 4] (fun v r wr => ∃ k m' A n c, v = .slice A n c ∧ r = .int .u64 ((m' : Nat) : Int) ∧ k ≤ 64 ∧ Bt.From m k m' ∧ m' < 18446744073709551616 ∧ Own wr w.heap.size A n c (Bt.pts m k) ∧ Below w.heap.size w wr) (fun _ r _ => (intOf r).toNat)
  case atStart => exact ⟨0, m, _, _, _, rfl, rfl, by omega, Bt.From.zero m, hm, Own.nil _ _, Below.refl _ _⟩
  case round =>
    obtain ⟨k, m', A, n, c, rfl, rfl, hk, hf, hm', ho, hb⟩ := hrel
    have Hf := Lib.hid hf
    have Ho := Lib.hid ho
    have Hb := Lib.hid hb
    have hz := hb.size
    have hn : n ≤ 64 := by have := ho.1; have := Bt.pts_len m k; omega
    clear hf ho hb
    by_cases h0 : m' = 0
    · subst h0
      go_wp2_with fail
      go_ret
      exact ⟨_, _, _, rfl, by rw [← Hf.out.done rfl hk]; exact Ho.out, Hb.out⟩
    · have e0 : ((m' : Int) != 0) = true := by simp; omega
      obtain ⟨s1, s2, s3, s4⟩ := Hf.out.step (n := 64) h0 (by omega)
      have hlt := Bt.and_pred_lt h0
      have S1 := Lib.hid s1
      have S2 := Lib.hid s2
      have e1 : ((m' : Int) - 1) = ((m' - 1 : Nat) : Int) := by omega
      have e2 : bits BinOp.and IntKind.u64 (m' : Int) ((m' - 1 : Nat) : Int) = ((m' &&& (m' - 1) : Nat) : Int) := u64_and_nat _ _ hm' (by omega)
      have E1 := Lib.hid e1
      have E2 := Lib.hid e2
      clear s1 s2 e1 e2
      go_wp2_with fail
      refine (i_tz m' _ (HT.out.below Hb.out) h0 hm').mono ?_
      rintro e w' ⟨rfl, rfl⟩
      go_wp2_with (at_builtin; refine app1 rfl _ _ rfl _ _ _ _ _ _ _ _ rfl rfl (by simp) Ho.out hz (by omega) ?_; intro A' c' w' hown' hb' hlt' _)
      go_roundw
      case rel => exact ⟨Lib.ctz 64 m' + 1, m' &&& (m' - 1), _, _, _, rfl, (by rw [E1.out, E2.out]), (by omega), S2.out, (by omega), (by rw [S1.out]; exact hown'), Hb.out.trans (hb'.mono (by omega))⟩
      case measure => rw [E1.out, E2.out]; simp [intOf]; omega
end Go.Proofs.YteldfjibmaigiaaDoor
