/-
  The neighbours with a color of some points. No program is imported.
-/
import Derived.Test.YteldfjibmaigiaaDoorPureFl
namespace Go.Proofs.YteldfjibmaigiaaDoor.Bs
set_option maxRecDepth 100000
open Pt

structure BI (s : Int) (n : Nat) (cs : List Int) (x : Int) (L T : List Int) (S : List Bool) : Prop where
  len : S.length = n
  all : ∀ y : Int, 0 ≤ y → y < n → (Fl.at_ S y = true ↔ ((cs.getD y.toNat 0 == x) = true ∧ ((∃ z ∈ L, y ∈ nbs s z) ∨ y ∈ T)))

theorem start (s : Int) (n : Nat) (cs : List Int) (x : Int) : BI s n cs x [] [] (List.replicate n false) := by
  refine ⟨by simp, fun y _ _ => ?_⟩
  constructor
  · intro h
    unfold Fl.at_ at h
    rw [List.getD_eq_getElem?_getD, List.getElem?_replicate] at h
    split at h <;> cases h
  · rintro ⟨_, ⟨z, hz, _⟩ | h⟩
    · cases hz
    · cases h

theorem BI.step {s : Int} {n : Nat} {cs : List Int} {x : Int} {L T : List Int} {S : List Bool} (h : BI s n cs x L T S) (y0 : Nat) (hy : y0 < n) : BI s n cs x L (T ++ [(y0 : Int)]) (S.set y0 (cs.getD y0 0 == x)) := by
  refine ⟨by rw [List.length_set]; exact h.len, fun y h0 hn => ?_⟩
  by_cases e : y = (y0 : Int)
  · subst e
    have : Fl.at_ (S.set y0 (cs.getD y0 0 == x)) (y0 : Int) = (cs.getD y0 0 == x) := by
      have hl : y0 < S.length := by rw [h.len]; exact hy
      simp [Fl.at_, List.getD_eq_getElem?_getD, hl]
    rw [this]
    constructor
    · intro hb
      exact ⟨hb, .inr (by simp)⟩
    · exact fun hb => hb.1
  · have hne : y0 ≠ y.toNat := by omega
    have : Fl.at_ (S.set y0 (cs.getD y0 0 == x)) y = Fl.at_ S y := by
      simp [Fl.at_, List.getD_eq_getElem?_getD, hne]
    rw [this, h.all y h0 hn, List.mem_append, List.mem_singleton]
    constructor
    · rintro ⟨a, b | b⟩
      · exact ⟨a, .inl b⟩
      · exact ⟨a, .inr (.inl b)⟩
    · rintro ⟨a, b | b | b⟩
      · exact ⟨a, .inl b⟩
      · exact ⟨a, .inr b⟩
      · exact absurd b e

theorem BI.merge {s : Int} {n : Nat} {cs : List Int} {x z : Int} {L : List Int} {S : List Bool} (h : BI s n cs x L (nbs s z) S) : BI s n cs x (L ++ [z]) [] S := by
  refine ⟨h.len, fun y h0 hn => ?_⟩
  rw [h.all y h0 hn]
  constructor
  · rintro ⟨a, ⟨z', hz, b⟩ | b⟩
    · exact ⟨a, .inl ⟨z', by simp [hz], b⟩⟩
    · exact ⟨a, .inl ⟨z, by simp, b⟩⟩
  · rintro ⟨a, ⟨z', hz, b⟩ | b⟩
    · rw [List.mem_append, List.mem_singleton] at hz
      rcases hz with hz | rfl
      · exact ⟨a, .inl ⟨z', hz, b⟩⟩
      · exact ⟨a, .inr b⟩
    · cases b
end Go.Proofs.YteldfjibmaigiaaDoor.Bs
