/-
  The groups of a color that have no liberties, taken off a board: what a loop over the points keeps.
-/
import Derived.Test.YteldfjibmaigiaaDoorLibs
namespace Go.Proofs.YteldfjibmaigiaaDoor
set_option maxRecDepth 100000

/-- No point beside the group of p is empty. -/
def NoLib (s : Int) (n : Nat) (cs : List Int) (p : Int) : Prop :=
  ∀ y : Int, 0 ≤ y → y < n → (cs.getD y.toNat 0 == 0) = true → ∀ z : Int, 0 ≤ z → z < n → Fl.Reach s (hasCol (cs.getD p.toNat 0) cs) p z → y ∈ Pt.nbs s z → False

theorem pts_mem {S : List Bool} {j : Nat} {y : Int} : y ∈ Fl.pts S j ↔ 0 ≤ y ∧ y < j ∧ Fl.at_ S y = true := by
  unfold Fl.pts Fl.at_
  rw [List.mem_map]
  constructor
  · rintro ⟨q, hq, rfl⟩
    obtain ⟨h1, h2⟩ := List.mem_filter.1 hq
    have := List.mem_range.1 h1
    exact ⟨by omega, by omega, by simpa using h2⟩
  · rintro ⟨h0, hj, h⟩
    exact ⟨y.toNat, List.mem_filter.2 ⟨List.mem_range.2 (by omega), h⟩, by omega⟩

theorem noLib_iff {s : Int} {n p : Nat} {cs l : List Int} {S : List Bool} (hr : Reached s n (hasCol (cs.getD p 0) cs) p l) (hb : Bs.BI s n cs 0 l [] S) :
    (Fl.pts S n).length = 0 ↔ NoLib s n cs p := by
  obtain ⟨R, hR1, hR2, rfl⟩ := hr
  constructor
  · intro h0 y y0 yn hy z z0 zn hz hm
    have hm2 : y ∈ Fl.pts S n := pts_mem.2 ⟨y0, yn, (hb.all y y0 yn).2 ⟨hy, .inl ⟨z, pts_mem.2 ⟨z0, zn, (hR2 z z0).2 hz⟩, hm⟩⟩⟩
    rw [List.eq_nil_of_length_eq_zero h0] at hm2
    cases hm2
  · intro h
    rcases hl : Fl.pts S n with _ | ⟨y, t⟩
    · rfl
    · exfalso
      have hm : y ∈ Fl.pts S n := by rw [hl]; simp
      obtain ⟨y0, yn, hy⟩ := pts_mem.1 hm
      obtain ⟨he, ⟨z, hz, hzm⟩ | hz⟩ := (hb.all y y0 yn).1 hy
      · obtain ⟨z0, zn, hz⟩ := pts_mem.1 hz
        exact h y y0 yn he z z0 zn ((hR2 z z0).1 hz) hzm
      · cases hz

theorem pts_set (S : List Bool) (j : Nat) (b : Bool) : Fl.pts (S.set j b) j = Fl.pts S j := by
  unfold Fl.pts
  congr 1
  apply List.filter_congr
  intro q hq
  have := List.mem_range.1 hq
  simp [List.getD_eq_getElem?_getD, show j ≠ q by omega]

structure RI (s : Int) (n : Nat) (cs : List Int) (x : Int) (j : Nat) (S : List Bool) (os : List Int) : Prop where
  len : S.length = n
  olen : os.length = n
  out : ∀ i, i < n → os.getD i 0 = if S.getD i false then 0 else cs.getD i 0
  yes : ∀ i, i < n → (S.getD i false = true ↔ i < j ∧ cs.getD i 0 = x ∧ NoLib s n cs (i : Nat))

theorem RI.start {s : Int} {n : Nat} {cs : List Int} (x : Int) (h : cs.length = n) : RI s n cs x 0 (List.replicate n false) cs := by
  have hf : ∀ i, (List.replicate n false).getD i false = false := fun i => by
    rw [List.getD_eq_getElem?_getD, List.getElem?_replicate]; split <;> rfl
  exact ⟨by simp, h, fun i _ => by rw [hf]; rfl, fun i _ => by rw [hf]; exact ⟨fun h2 => (by cases h2), fun h2 => (by omega)⟩⟩

theorem RI.no {s : Int} {n j : Nat} {cs os : List Int} {x : Int} {S : List Bool} (h : RI s n cs x j S os) (hx : ¬ (cs.getD j 0 = x ∧ NoLib s n cs (j : Nat))) : RI s n cs x (j + 1) S os := by
  refine ⟨h.len, h.olen, h.out, fun i hi => ?_⟩
  rw [h.yes i hi]
  constructor
  · rintro ⟨a, b⟩; exact ⟨by omega, b⟩
  · rintro ⟨a, b⟩
    by_cases e : i = j
    · subst e; exact absurd b hx
    · exact ⟨by omega, b⟩

theorem RI.take {s : Int} {n j : Nat} {cs os : List Int} {x : Int} {S : List Bool} (h : RI s n cs x j S os) (hj : j < n) (hx : cs.getD j 0 = x ∧ NoLib s n cs (j : Nat)) : RI s n cs x (j + 1) (S.set j true) (os.set j 0) := by
  have hl : j < S.length := by rw [h.len]; exact hj
  have ho : j < os.length := by rw [h.olen]; exact hj
  refine ⟨by rw [List.length_set]; exact h.len, by rw [List.length_set]; exact h.olen, fun i hi => ?_, fun i hi => ?_⟩
  · by_cases e : j = i
    · subst e; simp [List.getD_eq_getElem?_getD, hl, ho]
    · have := h.out i hi
      rw [List.getD_eq_getElem?_getD, List.getD_eq_getElem?_getD] at this ⊢
      rw [List.getElem?_set_ne e, List.getElem?_set_ne e]
      exact this
  · by_cases e : j = i
    · subst e
      constructor
      · intro _; exact ⟨by omega, hx⟩
      · intro _; simp [List.getD_eq_getElem?_getD, hl]
    · have := h.yes i hi
      rw [List.getD_eq_getElem?_getD] at this ⊢
      rw [List.getElem?_set_ne e, this]
      constructor
      · rintro ⟨a, b⟩; exact ⟨by omega, b⟩
      · rintro ⟨a, b⟩; exact ⟨by omega, b⟩
end Go.Proofs.YteldfjibmaigiaaDoor
