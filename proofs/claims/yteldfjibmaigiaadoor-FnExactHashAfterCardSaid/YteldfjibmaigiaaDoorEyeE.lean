/-
  The program's eyes of a color.
-/
import Derived.Test.YteldfjibmaigiaaDoorEyeC
namespace Go.Proofs.YteldfjibmaigiaaDoor
set_option maxRecDepth 100000
open Go.RowKit

theorem encM_lt {s E M O : Nat} (hE : E < 2 ^ (s * s)) : encM s E M O < 2 ^ (s * s) := Nat.lt_of_le_of_lt Nat.and_le_left (Nat.lt_of_le_of_lt Nat.and_le_left hE)

/-- The eyes among the enclosed points Y. -/
def IsEy (s Y O m : Nat) : Prop := ∀ q, m.testBit q = (Y.testBit q && holdB s q O)
theorem IsEy.one {s Y O m m' : Nat} (h : IsEy s Y O m) (h' : IsEy s Y O m') : m = m' := Nat.eq_of_testBit_eq fun q => (h q).trans (h' q).symm
def EyP (s O : Nat) (l : List Int) (m : Nat) : Prop := ∀ q : Nat, m.testBit q = (decide ((q : Int) ∈ l) && holdB s q O)
theorem EyP.yes {s O m q : Nat} {l : List Int} {k : Nat} (h : EyP s O (l.take k) m) (hk : k < l.length) (hq : l.getD k 0 = (q : Int)) (hh : holdB s q O = true) : EyP s O (l.take (k + 1)) (m ||| 2 ^ q) := by
  intro z
  have ht : l.take (k + 1) = l.take k ++ [(q : Int)] := by
    rw [List.take_succ_eq_append_getElem hk]
    congr 2
    rw [List.getD_eq_getElem?_getD, List.getElem?_eq_getElem hk] at hq
    exact hq
  rw [Nat.testBit_or, h z, Nat.testBit_two_pow, ht]
  by_cases e : q = z
  · subst e
    simp [hh]
  · have e2 : ((z : Int) = (q : Int)) = False := by simp; omega
    simp [e, e2]
theorem EyP.no {s O m q : Nat} {l : List Int} {k : Nat} (h : EyP s O (l.take k) m) (hk : k < l.length) (hq : l.getD k 0 = (q : Int)) (hh : holdB s q O = false) : EyP s O (l.take (k + 1)) m := by
  intro z
  have ht : l.take (k + 1) = l.take k ++ [(q : Int)] := by
    rw [List.take_succ_eq_append_getElem hk]
    congr 2
    rw [List.getD_eq_getElem?_getD, List.getElem?_eq_getElem hk] at hq
    exact hq
  rw [h z, ht]
  by_cases e : q = z
  · subst e
    simp [hh]
  · have e2 : ((z : Int) = (q : Int)) = False := by simp; omega
    simp [e2]
theorem EyP.done {s O m Y : Nat} (hY : Y < 2 ^ 64) (h : EyP s O (Bt.pts Y 64) m) : IsEy s Y O m := by
  intro q
  rw [h q]
  congr 1
  rw [Bool.eq_iff_iff, decide_eq_true_eq, Bt.pts_mem]
  constructor
  · rintro ⟨z, hz, _, h2⟩
    have : q = z := by omega
    rw [this]; exact h2
  · intro hb
    refine ⟨q, rfl, ?_, hb⟩
    rcases Nat.lt_or_ge q 64 with h' | h'
    · exact h'
    · rw [Bt.high hY h'] at hb; cases hb

section
variable (s E M O : Nat) (w : World) (ht : Tab w) (h1 : 1 ≤ s) (h2 : s ≤ 7) (hE : E < 2 ^ (s * s)) (hM : M < 2 ^ (s * s)) (hO : O < 2 ^ (s * s))
include ht h1 h2 hE hM hO

end
end Go.Proofs.YteldfjibmaigiaaDoor
