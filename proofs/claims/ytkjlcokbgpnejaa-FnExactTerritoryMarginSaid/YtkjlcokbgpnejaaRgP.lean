/-
  The regions of a color: the connected parts of what it leaves.
-/
import Derived.Test.YtkjlcokbgpnejaaCoP
namespace Go.Proofs.Ytkjlcokbgpnejaa
set_option maxRecDepth 100000
open Go.RowKit

/-- The points without a color. -/
def notCol (x : Int) (cs : List Int) : List Bool := cs.map fun c => !(c == x)
theorem notCol_len (x : Int) (cs : List Int) : (notCol x cs).length = cs.length := by simp [notCol]
theorem notCol_at {x : Int} {cs : List Int} {k : Nat} (h : k < cs.length) : (notCol x cs).getD k false = !(cs.getD k 0 == x) := by
  simp [notCol, List.getD_eq_getElem?_getD, List.getElem?_eq_getElem h]

theorem PL.make {s : Int} {n : Nat} {K : List Bool} (h1 : 1 ≤ s) (h2 : s ≤ 7) (hn : (n : Int) = s * s) : ∀ k, k ≤ n → ∃ ls, PL s n K k ls := by
  intro k
  induction k with
  | zero => intro _; exact ⟨[], rfl⟩
  | succ k ih =>
    intro hk
    obtain ⟨l0, h0⟩ := ih (by omega)
    by_cases e : Pa.PF s K k
    · obtain ⟨g, hg⟩ := Reached.make h1 h2 hn K (p := (k : Int)) ⟨by omega, by omega⟩
      exact ⟨_, l0, h0, .inl ⟨e, g, hg, rfl⟩⟩
    · exact ⟨_, l0, h0, .inr ⟨e, rfl⟩⟩
theorem PL.few {s : Int} {n : Nat} {K : List Bool} : ∀ {k : Nat} {ls : List (List Int)}, PL s n K k ls → ∀ g ∈ ls, g.length ≤ n := by
  intro k
  induction k with
  | zero => intro ls h; cases (show ls = [] from h); exact fun g hg => by cases hg
  | succ k ih =>
    intro ls h
    obtain ⟨l0, h0, h⟩ := h
    have := ih h0
    rcases h with ⟨_, g, hg, rfl⟩ | ⟨_, rfl⟩
    · intro q hq
      rw [List.mem_append, List.mem_singleton] at hq
      rcases hq with hq | rfl
      · exact this q hq
      · exact hg.few
    · exact this

/-- The regions of a color: nothing for other arguments. -/
def RgIs (s : Int) (n : Nat) (cs : List Int) (x : Int) (ls : List (List Int)) : Prop := (okGs s cs x = true → PL s n (notCol x cs) n ls) ∧ (okGs s cs x = false → ls = [])
theorem RgIs.make (s : Int) (n : Nat) (cs : List Int) (x : Int) (hn : cs.length = n) : ∃ ls, RgIs s n cs x ls := by
  rcases Bool.eq_false_or_eq_true (okGs s cs x) with e | e
  · have e2 := e
    unfold okGs at e2
    rw [Bool.and_eq_true] at e2
    obtain ⟨q1, q2, q3, _⟩ := (Bd.okB_iff s cs).1 e2.1
    obtain ⟨l, hl⟩ := PL.make (K := notCol x cs) q1 q2 (n := n) (by omega) n (Nat.le_refl _)
    exact ⟨l, ⟨fun _ => hl, fun h => absurd (e.symm.trans h) (by decide)⟩⟩
  · exact ⟨[], ⟨fun h => absurd (e.symm.trans h) (by decide), fun _ => rfl⟩⟩
theorem RgIs.small {s x : Int} {n : Nat} {cs : List Int} {ls : List (List Int)} (h : RgIs s n cs x ls) (hn : cs.length = n) : ls.length ≤ 49 ∧ ∀ j, (ls.getD j []).length ≤ 49 := by
  have key : ls.length ≤ 49 ∧ ∀ g ∈ ls, g.length ≤ 49 := by
    rcases Bool.eq_false_or_eq_true (okGs s cs x) with e | e
    · have e2 := e
      unfold okGs at e2
      rw [Bool.and_eq_true] at e2
      obtain ⟨q1, q2, q3, _⟩ := (Bd.okB_iff s cs).1 e2.1
      have := Pt.sq_bd s q1 q2
      have a := (h.1 e).small
      have b := (h.1 e).few
      exact ⟨by omega, fun g hg => by have := b g hg; omega⟩
    · rw [h.2 e]; exact ⟨by simp, fun g hg => by cases hg⟩
  refine ⟨key.1, fun j => ?_⟩
  by_cases hj : j < ls.length
  · rw [List.getD_eq_getElem?_getD, List.getElem?_eq_getElem hj]
    exact key.2 _ (List.getElem_mem _)
  · rw [List.getD_eq_getElem?_getD, List.getElem?_eq_none (by omega)]
    exact Nat.zero_le _

/-- The first point of a part, told by what the part's list begins with. -/
theorem Reached.starts {s : Int} {n : Nat} {K : List Bool} {k : Nat} {g : List Int} (h : Reached s n K (k : Int) g) (hk : k < n) (hKk : K.getD k false = true) : 0 < g.length ∧ (g.getD 0 0 = (k : Int) ↔ Pa.PF s K k) := by
  obtain ⟨a, b⟩ := h.first hk
  exact ⟨a, b.trans ⟨fun h => ⟨hKk, h⟩, fun h => h.2⟩⟩
end Go.Proofs.Ytkjlcokbgpnejaa
