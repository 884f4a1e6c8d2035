/-
  What the law of TransformPoint asks, at the plain functions, in the form in which the walk meets it.
-/
import Derived.Test.YteldfjibmaigiaaDoorFactPt
namespace Go.Proofs.YteldfjibmaigiaaDoor.Pt
set_option maxRecDepth 100000

def rep (s p : Int) : Nat → Int
  | 0 => p
  | n + 1 => tr s 1 (rep s p n)

theorem tr_in (s k p : Int) (h1 : 1 ≤ s) (h2 : s ≤ 7) (h3 : 0 ≤ p) (h4 : p < s * s) (k1 : 0 ≤ k) (k2 : k < 8) : tr s k p = img s k p := by
  rw [tr, (okP_iff s p).2 ⟨h1, h2, h3, h4⟩, (okK_iff k).2 ⟨k1, k2⟩]; rfl

theorem undone_parts (s k p : Int) (h1 : 1 ≤ s) (h2 : s ≤ 7) (h3 : 0 ≤ p) (h4 : p < s * s) (k1 : 0 ≤ k) (k2 : k < 8) :
    (rep s p 4 == p) = true ∧ (4 ≤ k → (tr s k (tr s k p) == p) = true) ∧ (k < 4 → (tr s (-k % 4) (tr s k p) == p) = true) ∧ (((p + 1) % (s * s) == p) = false → (tr s k ((p + 1) % (s * s)) != tr s k p) = true) := by
  have h := undone_all s k p h1 h2 h3 h4 k1 k2
  rw [tr_in s k p h1 h2 h3 h4 k1 k2]
  simp only [undone, Bool.and_eq_true, Bool.or_eq_true] at h
  refine ⟨h.1.1, fun h4 => ?_, fun h4 => ?_, fun hf => ?_⟩
  · have := h.1.2; rw [if_pos h4] at this; exact this
  · have := h.1.2; rw [if_neg (by omega), show (4 - k) % 4 = -k % 4 by omega] at this; exact this
  · rcases h.2 with h | h
    · rw [h] at hf; cases hf
    · exact h
end Go.Proofs.YteldfjibmaigiaaDoor.Pt
