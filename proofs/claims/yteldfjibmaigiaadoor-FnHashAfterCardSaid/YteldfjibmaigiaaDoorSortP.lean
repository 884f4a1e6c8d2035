/-
  A sort by insertion: what its two loops keep. No program is imported.
-/
import Derived.Test.YteldfjibmaigiaaDoorPureFl
namespace Go.Proofs.YteldfjibmaigiaaDoor.So
set_option maxRecDepth 100000

/-- The inner loop: the point k is the one that goes down. -/
structure SI (xs ys : List Int) (i k : Nat) : Prop where
  len : ys.length = xs.length
  perm : ys.Perm xs
  pair : ∀ a b, a < b → b ≤ i → a ≠ k → b ≠ k → ys.getD a 0 ≤ ys.getD b 0
  after : ∀ b, k < b → b ≤ i → ys.getD k 0 ≤ ys.getD b 0

/-- The outer loop: the first i stand in order. -/
structure SO (xs ys : List Int) (i : Nat) : Prop where
  len : ys.length = xs.length
  perm : ys.Perm xs
  pair : ∀ a b, a < b → b < i → ys.getD a 0 ≤ ys.getD b 0

theorem SO.start (xs : List Int) : SO xs xs 1 := ⟨rfl, .refl _, fun a b h1 h2 => by omega⟩
theorem SO.go {xs ys : List Int} {i : Nat} (h : SO xs ys i) : SI xs ys i i := ⟨h.len, h.perm, fun a b h1 h2 _ h4 => h.pair a b h1 (by omega), fun b h1 h2 => by omega⟩
theorem SI.stop {xs ys : List Int} {i k : Nat} (h : SI xs ys i k) (hk : k ≤ i) (he : k = 0 ∨ ys.getD (k - 1) 0 ≤ ys.getD k 0) : SO xs ys (i + 1) := by
  refine ⟨h.len, h.perm, fun a b h1 h2 => ?_⟩
  by_cases ha : a = k
  · subst ha; exact h.after b h1 (by omega)
  · by_cases hb : b = k
    · subst hb
      rcases he with he | he
      · omega
      · by_cases e : a = b - 1
        · rw [e]; exact he
        · have := h.pair a (b - 1) (by omega) (by omega) ha (by omega)
          omega
    · exact h.pair a b h1 (by omega) ha hb

theorem getD_swap (ys : List Int) (k a : Nat) (x y : Int) (h1 : 1 ≤ k) (h : k < ys.length) :
    ((ys.set k y).set (k - 1) x).getD a 0 = if a = k - 1 then x else if a = k then y else ys.getD a 0 := by
  simp only [List.getD_eq_getElem?_getD, List.getElem?_set, List.length_set]
  by_cases e1 : a = k - 1
  · subst e1; simp [show k - 1 < ys.length by omega]
  · by_cases e2 : a = k
    · subst e2
      rw [if_neg (by omega), if_neg e1]
      simp [h]
    · rw [if_neg (by omega), if_neg (by omega), if_neg e1, if_neg e2]

theorem SI.swap {xs ys : List Int} {i k : Nat} (h : SI xs ys i k) (h1 : 1 ≤ k) (hk : k ≤ i) (hi : i < ys.length) (hlt : ys.getD k 0 < ys.getD (k - 1) 0) :
    SI xs ((ys.set k (ys.getD (k - 1) 0)).set (k - 1) (ys.getD k 0)) i (k - 1) := by
  have hkl : k < ys.length := by omega
  have e1 : ys.getD k 0 = ys[k] := by simp [List.getD_eq_getElem?_getD, List.getElem?_eq_getElem hkl]
  have e2 : ys.getD (k - 1) 0 = ys[k - 1] := by simp [List.getD_eq_getElem?_getD, List.getElem?_eq_getElem (show k - 1 < ys.length by omega)]
  refine ⟨by simpa using h.len, ?_, fun a b ha hb hna hnb => ?_, fun b hb hbi => ?_⟩
  · refine List.Perm.trans ?_ h.perm
    rw [e1, e2]
    exact List.set_set_perm hkl (by omega)
  · rw [getD_swap _ _ _ _ _ h1 hkl, getD_swap _ _ _ _ _ h1 hkl, if_neg hna, if_neg hnb]
    by_cases ea : a = k
    · rw [if_pos ea, if_neg (by omega)]
      exact h.pair (k - 1) b (by omega) hb (by omega) (by omega)
    · rw [if_neg ea]
      by_cases eb : b = k
      · rw [if_pos eb]; exact h.pair a (k - 1) (by omega) (by omega) ea (by omega)
      · rw [if_neg eb]; exact h.pair a b ha hb ea eb
  · rw [getD_swap _ _ _ _ _ h1 hkl, getD_swap _ _ _ _ _ h1 hkl, if_pos rfl, if_neg (by omega)]
    by_cases eb : b = k
    · rw [if_pos eb]; omega
    · rw [if_neg eb]; exact h.after b (by omega) hbi
end Go.Proofs.YteldfjibmaigiaaDoor.So
