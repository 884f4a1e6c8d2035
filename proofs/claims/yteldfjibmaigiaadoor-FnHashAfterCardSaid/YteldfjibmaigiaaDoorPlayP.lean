/-
  A stone that is placed on a board: what the model's 'play' makes of it.
-/
import Derived.Test.YteldfjibmaigiaaDoorRmPure
import Derived.Test.YteldfjibmaigiaaDoorSortP
import Derived.Test.YteldfjibmaigiaaDoorInv
namespace Go.Proofs.YteldfjibmaigiaaDoor
set_option maxRecDepth 100000

/-- The model's play: nothing, or the board behind it and the points that are removed. -/
inductive Plays (s : Int) (n : Nat) (cs : List Int) (x : Int) (p : Nat) (su : Bool) : Option (List Int × List Int) → Prop
  | taken : cs.getD p 0 ≠ 0 → Plays s n cs x p su none
  | lives (S : List Bool) (os : List Int) : cs.getD p 0 = 0 → RI s n (cs.set p x) (oth x) n S os → ¬ NoLib s n os p → Plays s n cs x p su (some (os, Fl.pts S n))
  | lost (S : List Bool) (os : List Int) : cs.getD p 0 = 0 → RI s n (cs.set p x) (oth x) n S os → NoLib s n os p → su = false → Plays s n cs x p su none
  | both (S : List Bool) (os : List Int) (S2 : List Bool) (os2 gs : List Int) (k : Nat) : cs.getD p 0 = 0 → RI s n (cs.set p x) (oth x) n S os → NoLib s n os p → su = true → RI s n os x n S2 os2 →
      So.SO (Fl.pts S n ++ Fl.pts S2 n) gs k → (Fl.pts S n ++ Fl.pts S2 n).length = k → Plays s n cs x p su (some (os2, gs))

/-- All colors are in range. -/
def OkL (cs : List Int) : Prop := ∀ j, j < cs.length → 0 ≤ cs.getD j 0 ∧ cs.getD j 0 ≤ 2

theorem okL_mem {cs : List Int} : OkL cs ↔ ∀ c ∈ cs, 0 ≤ c ∧ c ≤ 2 := by
  constructor
  · intro h c hc
    obtain ⟨j, hj, rfl⟩ := List.getElem_of_mem hc
    have := h j hj
    rwa [List.getD_eq_getElem?_getD, List.getElem?_eq_getElem hj] at this
  · intro h j hj
    rw [List.getD_eq_getElem?_getD, List.getElem?_eq_getElem hj]
    exact h _ (List.getElem_mem _)
theorem OkL.set {cs : List Int} (h : OkL cs) (p : Nat) {x : Int} (h0 : 0 ≤ x) (h2 : x ≤ 2) : OkL (cs.set p x) := by
  rw [okL_mem] at h ⊢
  intro c hc
  rcases List.mem_or_eq_of_mem_set hc with hc | rfl
  · exact h c hc
  · exact ⟨h0, h2⟩
theorem OkL.removed {s : Int} {n j : Nat} {cs os : List Int} {x : Int} {S : List Bool} (hr : RI s n cs x j S os) (hn : cs.length = n) (h : OkL cs) : OkL os := by
  intro i hi
  rw [hr.olen] at hi
  rw [hr.out i hi]
  split
  · omega
  · exact h i (by omega)
theorem Plays.ok {s : Int} {n : Nat} {cs : List Int} {x : Int} {p : Nat} {su : Bool} {os gs : List Int} (h : Plays s n cs x p su (some (os, gs))) (hn : cs.length = n) (hc : OkL cs) (x1 : 1 ≤ x) (x2 : x ≤ 2) : os.length = n ∧ OkL os ∧ cs.getD p 0 = 0 := by
  have h1 : OkL (cs.set p x) := hc.set p (by omega) x2
  have hl : (cs.set p x).length = n := by rw [List.length_set]; exact hn
  cases h with
  | lives S _ h0 hr _ => exact ⟨hr.olen, OkL.removed hr hl h1, h0⟩
  | both S os1 S2 _ _ _ h0 hr _ _ hr2 _ _ => exact ⟨hr2.olen, OkL.removed hr2 hr.olen (OkL.removed hr hl h1), h0⟩
theorem oth_ne {x : Int} (h1 : 1 ≤ x) (h2 : x ≤ 2) : x ≠ oth x := by
  have : x = 1 ∨ x = 2 := by omega
  rcases this with rfl | rfl <;> decide
/-- The stone itself is among those that are lost. -/
theorem pts_own {s : Int} {n : Nat} {cs os os2 : List Int} {x : Int} {p : Nat} {S S2 : List Bool} (hl : cs.length = n) (h : RI s n (cs.set p x) (oth x) n S os) (h2 : RI s n os x n S2 os2) (hno : NoLib s n os p) (hp : p < n) (x1 : 1 ≤ x) (x2 : x ≤ 2) :
    0 < (Fl.pts S2 n).length := by
  have ec : (cs.set p x).getD p 0 = x := by simp [List.getD_eq_getElem?_getD, hl, hp]
  have hS : S.getD p false = false := by
    rcases Bool.eq_false_or_eq_true (S.getD p false) with e | e
    · have := ((h.yes p hp).1 e).2.1
      rw [ec] at this
      exact absurd this (oth_ne x1 x2)
    · exact e
  have eo : os.getD p 0 = x := by rw [h.out p hp, hS, ec]; rfl
  have hS2 : S2.getD p false = true := (h2.yes p hp).2 ⟨hp, eo, hno⟩
  have hm : (p : Int) ∈ Fl.pts S2 n := pts_mem.2 ⟨by omega, by omega, by unfold Fl.at_; simpa using hS2⟩
  exact List.length_pos_of_mem hm
end Go.Proofs.YteldfjibmaigiaaDoor
