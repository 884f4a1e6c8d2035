/-
  Hashes of boards: the keys of the stones, combined; a stone more.
-/
import Derived.Test.YtpopbcmfbcmojaaKyI
import Derived.Test.YtpopbcmfbcmojaaReader
namespace Go.Proofs.Ytpopbcmfbcmojaa
set_option maxRecDepth 100000
open Go.RowKit

def Ha.xr (a b : Int) : Int := ((a.toNat ^^^ b.toNat : Nat) : Int)
theorem Ha.xr_bd {a b : Int} (a0 : 0 ≤ a) (a1 : a ≤ 1048575) (b0 : 0 ≤ b) (b1 : b ≤ 1048575) : 0 ≤ Ha.xr a b ∧ Ha.xr a b ≤ 1048575 := by
  have : a.toNat ^^^ b.toNat < 2 ^ 20 := Nat.xor_lt_two_pow (by omega) (by omega)
  unfold Ha.xr
  omega
theorem Ha.xor_val {a b : Int} (a0 : 0 ≤ a) (a1 : a ≤ 1048575) (b0 : 0 ≤ b) (b1 : b ≤ 1048575) : bits .xor .i64 a b = Ha.xr a b := by
  obtain ⟨x, rfl⟩ := Int.eq_ofNat_of_zero_le a0
  obtain ⟨y, rfl⟩ := Int.eq_ofNat_of_zero_le b0
  have hx : x ^^^ y < 2 ^ 20 := Nat.xor_lt_two_pow (by omega) (by omega)
  have h1 : (BitVec.ofInt 64 (x : Int)).toNat = x := by
    rw [BitVec.ofInt_natCast, BitVec.toNat_ofNat]; exact Nat.mod_eq_of_lt (by omega)
  have h2 : (BitVec.ofInt 64 (y : Int)).toNat = y := by
    rw [BitVec.ofInt_natCast, BitVec.toNat_ofNat]; exact Nat.mod_eq_of_lt (by omega)
  show IntKind.i64.wrap ((BitVec.ofInt 64 (x : Int) ^^^ BitVec.ofInt 64 (y : Int)).toNat : Int) = ((((x : Int).toNat ^^^ (y : Int).toNat : Nat)) : Int)
  rw [BitVec.toNat_xor, h1, h2, IntKind.wrap_i64, Int.toNat_natCast, Int.toNat_natCast]
  omega
theorem Ha.xr_swap (a b c : Int) : Ha.xr (Ha.xr a b) c = Ha.xr (Ha.xr a c) b := by
  unfold Ha.xr
  rw [Int.toNat_natCast, Int.toNat_natCast, Nat.xor_assoc, Nat.xor_assoc, Nat.xor_comm b.toNat]
/-- The keys of the stones at the first k points. -/
def Ha.upto (cs : List Int) : Nat → Int
  | 0 => 0
  | k + 1 => if cs.getD k 0 = 0 then Ha.upto cs k else Ha.xr (Ha.upto cs k) (Ky.key (k : Int) (cs.getD k 0))
theorem Ha.next (cs : List Int) (k : Nat) : Ha.upto cs (k + 1) = if cs.getD k 0 = 0 then Ha.upto cs k else Ha.xr (Ha.upto cs k) (Ky.key (k : Int) (cs.getD k 0)) := rfl
theorem Ha.bd {cs : List Int} (hv : ∀ x ∈ cs, 0 ≤ x ∧ x ≤ 2) : ∀ k, k ≤ 49 → k ≤ cs.length → 0 ≤ Ha.upto cs k ∧ Ha.upto cs k ≤ 1048575
  | 0, _, _ => by simp [Ha.upto]
  | k + 1, h49, hl => by
    have ih := Ha.bd hv k (by omega) (by omega)
    rw [Ha.next]
    split
    · exact ih
    · next h0 =>
      have hx : cs.getD k 0 ∈ cs := by
        rw [List.getD_eq_getElem?_getD, List.getElem?_eq_getElem (show k < cs.length by omega)]
        exact List.getElem_mem _
      have hb := hv _ hx
      have hk := Ky.key_bd (p := (k : Int)) (c := cs.getD k 0) (Ky.ok_iff.2 (by omega))
      exact Ha.xr_bd ih.1 ih.2 hk.1 hk.2
theorem Ha.zero (n : Nat) : ∀ k, Ha.upto (List.replicate n 0) k = 0
  | 0 => rfl
  | k + 1 => by
    rw [Ha.next, if_pos, Ha.zero n k]
    by_cases h : k < n <;> simp [List.getD_eq_getElem?_getD, h]
/-- One stone more. -/
theorem Ha.more {cs : List Int} {p : Nat} {c : Int} (hp : p < cs.length) (h0 : cs.getD p 0 = 0) (hc : c ≠ 0) : ∀ k, (k ≤ p → Ha.upto (cs.set p c) k = Ha.upto cs k) ∧ (p < k → Ha.upto (cs.set p c) k = Ha.xr (Ha.upto cs k) (Ky.key (p : Int) c))
  | 0 => ⟨fun _ => rfl, fun h => absurd h (by omega)⟩
  | k + 1 => by
    have ih := Ha.more hp h0 hc k
    refine ⟨fun h => ?_, fun h => ?_⟩
    · have hk : (cs.set p c).getD k 0 = cs.getD k 0 := by
        simp [List.getD_eq_getElem?_getD, show p ≠ k by omega]
      rw [Ha.next, Ha.next, hk, ih.1 (by omega)]
    · by_cases hkp : k = p
      · subst hkp
        have hk : (cs.set k c).getD k 0 = c := by
          simp [List.getD_eq_getElem?_getD, hp]
        rw [Ha.next, Ha.next, hk, if_neg hc, if_pos h0, ih.1 (Nat.le_refl _)]
      · have hk : (cs.set p c).getD k 0 = cs.getD k 0 := by
          simp [List.getD_eq_getElem?_getD, show p ≠ k by omega]
        rw [Ha.next, Ha.next, hk, ih.2 (by omega)]
        split
        · rfl
        · exact Ha.xr_swap _ _ _
/-- What HashOf answers. -/
def Ha.ans (s : Int) (cs : List Int) : Int := if Bd.okB s cs = true then Ha.upto cs cs.length else -1
end Go.Proofs.Ytpopbcmfbcmojaa
