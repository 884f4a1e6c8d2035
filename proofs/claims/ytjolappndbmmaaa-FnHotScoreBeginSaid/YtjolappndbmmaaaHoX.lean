/-
  Heats in the laws of switches; the order's heats fall; beginning is worth at most the greatest heat.
-/
import Derived.Test.YtjolappndbmmaaaHoE
import Derived.Test.YtjolappndbmmaaaHoW
import Derived.Test.YtjolappndbmmaaaSwK
import Derived.Test.YtjolappndbmmaaaListsB
namespace Go.Proofs.Ytjolappndbmmaaa
set_option maxRecDepth 100000
open Go.RowKit

theorem i_heatV (l r : Int) (w : World) (ho : Sw.ok l r = true) : Calls Try.prog 27 #[.agg #[.int .i64 l, .int .i64 r]] w fun e w' => e = .returned (.int .i64 (l - r)) ∧ Below w.heap.size w w' := by
  have Hr := Lib.hid ho
  clear ho
  go_enter Try.func27, Try.ntmps27
  go_upto_region 1 with (fail)
  obtain ⟨y, hy, hb, z1, z2⟩ := new_box w (.cells #[.int .i64 l, .int .i64 r] 39)
  have X := Lib.hid (show Bx 39 y w.heap.size l (.int .i64 r) by rw [hy]; exact Bx.new _ _ _ _)
  rw [← hy]
  clear hy
  have x0 := X.out.cell0
  have x1 := X.out.cell1
  have xl := X.out.lt
  have Hb := Lib.hid hb
  clear hb
  go_wp2_with fail
  refine (i_swok l r _).mono ?_
  rintro e y2 ⟨rfl, hb2⟩
  rw [Hr.out]
  have X := Lib.hid (X.out.below hb2 xl)
  have Hb := Lib.hid (Hb.out.trans (hb2.mono (by omega)))
  have hz := hb2.size
  clear hb2 x0 x1 xl
  have x0 := X.out.cell0
  have x1 := X.out.cell1
  have xl := X.out.lt
  go_wp2_with fail
  refine (i_swheat l r _ Hr.out).mono ?_
  rintro e y3 ⟨rfl, hb3⟩
  have Hb := Lib.hid (Hb.out.trans (hb3.mono (by omega)))
  clear hb3
  go_wp2_with fail
  go_ret
  exact ⟨rfl, Hb.out⟩
theorem Ho.fall {H : Int → Int} {n k : Nat} {d : List Int} (h : Ho.Ord H n d) (hk : k + 1 < n) : Ho.R H (d.getD k 0) (d.getD (k + 1) 0) := by
  have hl := h.len
  have := List.pairwise_iff_getElem.1 h.2 k (k + 1) (by omega) (by omega) (by omega)
  simpa [List.getD_eq_getElem?_getD, List.getElem?_eq_getElem (show k < d.length by omega), List.getElem?_eq_getElem (show k + 1 < d.length by omega)] using this
theorem Ho.heat_bd {ls : List (Int × Int)} {i : Nat} (h : Sw.all ls = true) (hi : i < ls.length) : 0 ≤ Ho.heat ls (i : Int) ∧ Ho.heat ls (i : Int) ≤ 198 := by
  have := Sw.ok_iff.1 (Sw.all_iff.1 h i hi)
  unfold Ho.heat
  rw [Int.toNat_natCast]
  omega
/-- What beginning is worth behind the first k. -/
def Ho.dif (ls : List (Int × Int)) (d : List Int) (k : Nat) : Int := Ho.part ls true d k - Ho.part ls false d k
theorem Ho.dif_next (ls : List (Int × Int)) (d : List Int) (k : Nat) : Ho.dif ls d (k + 1) = if k % 2 = 0 then Ho.dif ls d k + Ho.heat ls (d.getD k 0) else Ho.dif ls d k - Ho.heat ls (d.getD k 0) := by
  unfold Ho.dif
  rw [show Ho.part ls true d (k + 1) = Ho.part ls true d k + Ho.cnt ls (Ho.turn true k) (d.getD k 0) from rfl, show Ho.part ls false d (k + 1) = Ho.part ls false d k + Ho.cnt ls (Ho.turn false k) (d.getD k 0) from rfl]
  unfold Ho.turn Ho.cnt Ho.heat
  rcases Nat.mod_two_eq_zero_or_one k with h | h
  · rw [if_pos h, if_pos h, if_pos h]
    simp
    omega
  · have h' : ¬ k % 2 = 0 := by omega
    rw [if_neg h', if_neg h', if_neg h']
    simp
    omega
theorem Ho.dif_bd {ls : List (Int × Int)} {n : Nat} {d : List Int} (hv : Sw.all ls = true) (hl : ls.length = n) (hd : Ho.Ord (Ho.heat ls) n d) : ∀ k, k + 1 ≤ n →
    (k % 2 = 0 → Ho.heat ls (d.getD k 0) ≤ Ho.dif ls d (k + 1) ∧ Ho.dif ls d (k + 1) ≤ Ho.heat ls (d.getD 0 0)) ∧ (k % 2 = 1 → 0 ≤ Ho.dif ls d (k + 1) ∧ Ho.dif ls d (k + 1) ≤ Ho.heat ls (d.getD 0 0) - Ho.heat ls (d.getD k 0))
  | 0, _ => by
    have h := Ho.dif_next ls d 0
    have h0 : Ho.dif ls d 0 = 0 := rfl
    rw [if_pos rfl, h0] at h
    omega
  | k + 1, hk => by
    have ih := Ho.dif_bd hv hl hd k (by omega)
    have h := Ho.dif_next ls d (k + 1)
    have hf := Ho.fall hd (show k + 1 < n by omega)
    have hf2 : Ho.heat ls (d.getD (k + 1) 0) ≤ Ho.heat ls (d.getD k 0) := by unfold Ho.R at hf; omega
    obtain ⟨i, hi, hin⟩ := Ho.get hd (show k + 1 < n by omega)
    have hb := Ho.heat_bd hv (show i < ls.length by omega)
    rw [← hi] at hb
    rcases Nat.mod_two_eq_zero_or_one k with h2 | h2
    · have := ih.1 h2
      rw [if_neg (by omega)] at h
      omega
    · have := ih.2 h2
      rw [if_pos (by omega)] at h
      omega
/-- The greatest of the first k heats, at least 0. -/
def Ho.top (ls : List (Int × Int)) : Nat → Int
  | 0 => 0
  | k + 1 => max (Ho.top ls k) (Ho.heat ls (k : Int))
theorem Ho.top_le {ls : List (Int × Int)} : ∀ {k i : Nat}, i < k → Ho.heat ls (i : Int) ≤ Ho.top ls k
  | k + 1, i, h => by
    rw [show Ho.top ls (k + 1) = max (Ho.top ls k) (Ho.heat ls (k : Int)) from rfl]
    by_cases hi : i = k
    · subst hi; omega
    · have := Ho.top_le (ls := ls) (show i < k by omega)
      omega
theorem Ho.top_bd {ls : List (Int × Int)} (hv : Sw.all ls = true) : ∀ k, k ≤ ls.length → 0 ≤ Ho.top ls k ∧ Ho.top ls k ≤ 198
  | 0, _ => by simp [Ho.top]
  | k + 1, h => by
    have := Ho.top_bd hv k (by omega)
    have := Ho.heat_bd hv (show k < ls.length by omega)
    rw [show Ho.top ls (k + 1) = max (Ho.top ls k) (Ho.heat ls (k : Int)) from rfl]
    omega
theorem Ho.begin {ls : List (Int × Int)} {n : Nat} {d : List Int} (hv : Sw.all ls = true) (hl : ls.length = n) (hd : Ho.Ord (Ho.heat ls) n d) : 0 ≤ Ho.part ls true d n - Ho.part ls false d n ∧ Ho.part ls true d n - Ho.part ls false d n ≤ Ho.top ls n := by
  show 0 ≤ Ho.dif ls d n ∧ Ho.dif ls d n ≤ Ho.top ls n
  cases n with
  | zero => exact ⟨Int.le_refl _, Int.le_refl _⟩
  | succ k =>
    have h := Ho.dif_bd hv hl hd k (Nat.le_refl _)
    obtain ⟨i, hi, hin⟩ := Ho.get hd (show 0 < k + 1 by omega)
    have ht := Ho.top_le (ls := ls) hin
    rw [← hi] at ht
    obtain ⟨j, hj, hjn⟩ := Ho.get hd (show k < k + 1 by omega)
    have hb := Ho.heat_bd hv (show j < ls.length by omega)
    rw [← hj] at hb
    rcases Nat.mod_two_eq_zero_or_one k with h2 | h2
    · have := h.1 h2
      omega
    · have := h.2 h2
      omega
end Go.Proofs.Ytjolappndbmmaaa
