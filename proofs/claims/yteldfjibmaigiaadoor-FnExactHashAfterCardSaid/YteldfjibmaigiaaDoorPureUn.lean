/-
  A forest of sets of points: each point leads to one that is not greater; what 'firstOf', 'join' and 'joinEqual' keep. No program is imported.
-/
import Derived.Test.YteldfjibmaigiaaDoorPureFl
namespace Go.Proofs.YteldfjibmaigiaaDoor.Un
set_option maxRecDepth 100000
open Pt

/-- The forest u of n points, in which r tells the first point of each set. -/
structure Un (u : List Int) (n : Nat) (r : Nat → Nat) : Prop where
  len : u.length = n
  lo : ∀ p, p < n → 0 ≤ u.getD p 0 ∧ u.getD p 0 ≤ p
  same : ∀ p, p < n → r (u.getD p 0).toNat = r p
  root : ∀ p, p < n → u.getD p 0 = p → r p = p

theorem getD_set (u : List Int) (k a : Nat) (x : Int) (h : k < u.length) : (u.set k x).getD a 0 = if a = k then x else u.getD a 0 := by
  simp only [List.getD_eq_getElem?_getD, List.getElem?_set]
  by_cases e : a = k
  · subst e; simp [h]
  · rw [if_neg (fun h => e h.symm), if_neg e]

theorem Un.fix {u : List Int} {n : Nat} {r : Nat → Nat} (h : Un u n r) : ∀ p, p < n → r p ≤ p ∧ r (r p) = r p := by
  intro p
  induction p using Nat.strongRecOn with
  | ind p ih =>
    intro hp
    by_cases e : u.getD p 0 = p
    · have := h.root p hp e
      rw [this]
      exact ⟨Nat.le_refl _, this⟩
    · obtain ⟨l1, l2⟩ := h.lo p hp
      have hlt : (u.getD p 0).toNat < p := by omega
      obtain ⟨i1, i2⟩ := ih _ hlt (by omega)
      rw [h.same p hp] at i1 i2
      exact ⟨by omega, i2⟩

/-- One step of 'firstOf': every other point is skipped. -/
theorem Un.half {u : List Int} {n : Nat} {r : Nat → Nat} (h : Un u n r) {p x y : Nat} (hp : p < n) (hx : u.getD p 0 = (x : Int)) (hy : u.getD x 0 = (y : Int)) (hne : x ≠ p) :
    y < p ∧ r y = r p ∧ Un (u.set p (y : Int)) n r := by
  have l1 := h.lo p hp
  rw [hx] at l1
  have hxn : x < n := by omega
  have l2 := h.lo x hxn
  rw [hy] at l2
  have s1 := h.same p hp
  rw [hx] at s1
  have s2 := h.same x hxn
  rw [hy] at s2
  simp only [Int.toNat_natCast] at s1 s2
  have hl : p < u.length := by rw [h.len]; exact hp
  refine ⟨by omega, s2.trans s1, by rw [List.length_set]; exact h.len, fun q hq => ?_, fun q hq => ?_, fun q hq => ?_⟩
  · rw [getD_set _ _ _ _ hl]
    split
    · omega
    · exact h.lo q hq
  · rw [getD_set _ _ _ _ hl]
    split
    · next e => subst e; simpa using s2.trans s1
    · exact h.same q hq
  · rw [getD_set _ _ _ _ hl]
    split
    · intro e; omega
    · exact h.root q hq

/-- The first points after two sets are made one. -/
def joined (r : Nat → Nat) (p q : Nat) : Nat → Nat := fun x => if r x = max (r p) (r q) then min (r p) (r q) else r x

theorem Un.join {u : List Int} {n : Nat} {r : Nat → Nat} (h : Un u n r) {p q : Nat} (hp : p < n) (hq : q < n) :
    Un (u.set (max (r p) (r q)) ((min (r p) (r q) : Nat) : Int)) n (joined r p q) := by
  obtain ⟨p1, p2⟩ := h.fix p hp
  obtain ⟨q1, q2⟩ := h.fix q hq
  obtain ⟨M, hM⟩ : ∃ M, max (r p) (r q) = M := ⟨_, rfl⟩
  obtain ⟨m, hm⟩ : ∃ m, min (r p) (r q) = m := ⟨_, rfl⟩
  have hMn : M < n := by omega
  have hmM : m ≤ M := by omega
  have rM : r M = M := by
    rcases Nat.le_total (r p) (r q) with h1 | h1
    · rw [← hM, Nat.max_eq_right h1]; exact q2
    · rw [← hM, Nat.max_eq_left h1]; exact p2
  have rm : r m = m := by
    rcases Nat.le_total (r p) (r q) with h1 | h1
    · rw [← hm, Nat.min_eq_left h1]; exact p2
    · rw [← hm, Nat.min_eq_right h1]; exact q2
  have hj : ∀ x, joined r p q x = if r x = M then m else r x := fun x => by unfold joined; rw [hM, hm]
  rw [hM, hm]
  have hl : M < u.length := by rw [h.len]; exact hMn
  refine ⟨by rw [List.length_set]; exact h.len, fun x hx => ?_, fun x hx => ?_, fun x hx => ?_⟩
  · rw [getD_set _ _ _ _ hl]
    split
    · omega
    · exact h.lo x hx
  · rw [getD_set _ _ _ _ hl]
    split
    · next e =>
      subst e
      rw [Int.toNat_natCast, hj, hj, rm, rM, if_pos rfl]
      split <;> rfl
    · rw [hj, hj, h.same x hx]
  · rw [getD_set _ _ _ _ hl, hj]
    split
    · next e =>
      subst e
      intro e2
      rw [rM, if_pos rfl]
      omega
    · next e =>
      intro e2
      have := h.root x hx e2
      rw [this, if_neg e]

theorem joined_keep {r : Nat → Nat} {p q x y : Nat} (h : r x = r y) : joined r p q x = joined r p q y := by unfold joined; rw [h]
theorem joined_two (r : Nat → Nat) (p q : Nat) : joined r p q p = joined r p q q := by
  unfold joined
  rcases Nat.le_total (r p) (r q) with h1 | h1
  · rw [Nat.max_eq_right h1, Nat.min_eq_left h1]; simp
  · rw [Nat.max_eq_left h1, Nat.min_eq_right h1]; simp
theorem joined_sound {r : Nat → Nat} {p q : Nat} {n : Nat} {E : Nat → Nat → Prop} (hs : ∀ x y, x < n → y < n → E x y → E y x) (ht : ∀ x y z, x < n → y < n → z < n → E x y → E y z → E x z) (hp : p < n) (hq : q < n) (he : E p q) (h : ∀ x y, x < n → y < n → r x = r y → E x y)
    {x y : Nat} (hx : x < n) (hy : y < n) (e : joined r p q x = joined r p q y) : E x y := by
  have key : ∀ z, z < n → (r z = r p ∨ r z = r q) → E p z := by
    intro z hz h1
    rcases h1 with h1 | h1
    · exact h p z hp hz h1.symm
    · exact ht p q z hp hq hz he (h q z hq hz h1.symm)
  by_cases ex : r x = r p ∨ r x = r q
  · by_cases ey : r y = r p ∨ r y = r q
    · exact ht x p y hx hp hy (hs p x hp hx (key x hx ex)) (key y hy ey)
    · have hy' : joined r p q y = r y := by unfold joined; rw [if_neg (by omega)]
      rw [hy'] at e
      unfold joined at e
      split at e <;> omega
  · have hx' : joined r p q x = r x := by unfold joined; rw [if_neg (by omega)]
    rw [hx'] at e
    by_cases ey : r y = r p ∨ r y = r q
    · unfold joined at e
      split at e <;> omega
    · have hy' : joined r p q y = r y := by unfold joined; rw [if_neg (by omega)]
      rw [hy'] at e
      exact h x y hx hy e
theorem Un.start (n : Nat) : Un ((List.range n).map fun (p : Nat) => (p : Int)) n id := by
  have e : ∀ p, p < n → ((List.range n).map fun (p : Nat) => (p : Int)).getD p 0 = (p : Int) := fun p hp => by
    simp [List.getD_eq_getElem?_getD, hp]
  exact ⟨by simp, fun p hp => by rw [e p hp]; omega, fun p hp => by rw [e p hp]; rfl, fun p _ _ => rfl⟩

section
variable {s : Int} {n : Nat}

theorem reach_trans {keep : List Bool} {p q x : Int} (h : Fl.Reach s keep p q) (k : Fl.Reach s keep q x) : Fl.Reach s keep p x := by
  induction k with
  | base => exact h
  | step _ hm hk ih => exact .step ih hm hk

theorem reach_kept {keep : List Bool} {p x : Int} (hp : Fl.at_ keep p = true) (h : Fl.Reach s keep p x) : Fl.at_ keep x = true := by
  cases h with
  | base => exact hp
  | step _ _ hk => exact hk

theorem reach_back (hnn : ∀ x : Int, 0 ≤ x → x < n → ∀ y ∈ nbs s x, 0 ≤ y ∧ y < n) (hsy : ∀ x : Int, 0 ≤ x → x < n → ∀ y ∈ nbs s x, x ∈ nbs s y)
    {keep : List Bool} {p x : Int} (hp : 0 ≤ p ∧ p < n) (hk : Fl.at_ keep p = true) (h : Fl.Reach s keep p x) : Fl.Reach s keep x p := by
  induction h with
  | base => exact .base
  | step hr hm hy ih =>
    have hin := Fl.reach_in hnn hp hr
    exact reach_trans (.step .base (hsy _ hin.1 hin.2 _ hm) (reach_kept hk hr)) ih

/-- Which points have the color of a point. -/
def col (cs : List Int) (x : Nat) : List Bool := cs.map fun c => c == cs.getD x 0
theorem col_at {cs : List Int} {x y : Nat} (hy : y < cs.length) : Fl.at_ (col cs x) (y : Int) = (cs.getD y 0 == cs.getD x 0) := by
  simp [Fl.at_, col, List.getD_eq_getElem?_getD, List.getElem?_eq_getElem hy]
theorem col_eq {cs : List Int} {x y : Nat} (h : cs.getD y 0 = cs.getD x 0) : col cs y = col cs x := by unfold col; rw [h]

/-- Connected points of one color. -/
def Con (s : Int) (cs : List Int) (x y : Nat) : Prop := cs.getD y 0 = cs.getD x 0 ∧ Fl.Reach s (col cs x) (x : Int) (y : Int)

structure Jn (s : Int) (n : Nat) (cs : List Int) (r : Nat → Nat) (k i : Nat) : Prop where
  sound : ∀ x y, x < n → y < n → r x = r y → Con s cs x y
  done : ∀ x, x < k → ∀ y : Nat, y < n → (y : Int) ∈ nbs s (x : Int) → cs.getD y 0 = cs.getD x 0 → r y = r x
  part : ∀ y : Nat, y < n → (y : Int) ∈ (nbs s (k : Int)).take i → cs.getD y 0 = cs.getD k 0 → r y = r k

theorem Jn.start (s : Int) (n : Nat) (cs : List Int) : Jn s n cs id 0 0 :=
  ⟨fun x y _ _ e => by cases (show x = y from e); exact ⟨rfl, .base⟩, fun x hx => absurd hx (by omega), fun y _ h => by simp at h⟩

theorem take_more {l : List Int} {i : Nat} {q y : Int} (hi : i < l.length) (hq : l.getD i 0 = q) : y ∈ l.take (i + 1) ↔ y ∈ l.take i ∨ y = q := by
  have e : l.getD i 0 = l[i] := by simp [List.getD_eq_getElem?_getD, List.getElem?_eq_getElem hi]
  rw [List.take_succ_eq_append_getElem hi, List.mem_append, List.mem_singleton, ← e, hq]

theorem Jn.skip {cs : List Int} {r : Nat → Nat} {k i q : Nat} (h : Jn s n cs r k i) (hi : i < (nbs s (k : Int)).length) (hq : (nbs s (k : Int)).getD i 0 = (q : Int)) (hne : cs.getD q 0 ≠ cs.getD k 0) : Jn s n cs r k (i + 1) := by
  refine ⟨h.sound, h.done, fun y hy hm hc => ?_⟩
  rcases (take_more hi hq).1 hm with hm | e
  · exact h.part y hy hm hc
  · obtain rfl : y = q := by omega
    exact absurd hc hne

theorem Jn.join (hnn : ∀ x : Int, 0 ≤ x → x < n → ∀ y ∈ nbs s x, 0 ≤ y ∧ y < n) (hsy : ∀ x : Int, 0 ≤ x → x < n → ∀ y ∈ nbs s x, x ∈ nbs s y) {cs : List Int} (hcs : cs.length = n) {r : Nat → Nat} {k i q : Nat} (h : Jn s n cs r k i) (hk : k < n) (hqn : q < n)
    (hi : i < (nbs s (k : Int)).length) (hq : (nbs s (k : Int)).getD i 0 = (q : Int)) (he : cs.getD q 0 = cs.getD k 0) : Jn s n cs (joined r k q) k (i + 1) := by
  have hm : (q : Int) ∈ nbs s (k : Int) := by
    have := (take_more (y := (q : Int)) hi hq).2 (.inr rfl)
    exact List.mem_of_mem_take this
  refine ⟨fun x y hx hy e => ?_, fun x hx y hy hm hc => joined_keep (h.done x hx y hy hm hc), fun y hy hm hc => ?_⟩
  · refine joined_sound (E := Con s cs) (n := n) ?_ ?_ hk hqn ⟨he, .step .base hm ?_⟩ h.sound hx hy e
    · intro x y hx hy ⟨e1, e2⟩
      refine ⟨e1.symm, ?_⟩
      rw [col_eq e1]
      exact reach_back hnn hsy ⟨by omega, by omega⟩ (by rw [col_at (by omega)]; simp) e2
    · intro x y z hx hy hz ⟨e1, e2⟩ ⟨e3, e4⟩
      rw [col_eq e1] at e4
      exact ⟨e3.trans e1, reach_trans e2 e4⟩
    · rw [col_at (by omega), he]; simp
  · rcases (take_more hi hq).1 hm with hm | e
    · exact joined_keep (h.part y hy hm hc)
    · obtain rfl : y = q := by omega
      exact (joined_two r k y).symm

theorem Jn.next {cs : List Int} {r : Nat → Nat} {k i : Nat} (h : Jn s n cs r k i) (hi : (nbs s (k : Int)).length ≤ i) : Jn s n cs r (k + 1) 0 := by
  refine ⟨h.sound, fun x hx y hy hm hc => ?_, fun y _ hm => by simp at hm⟩
  by_cases e : x = k
  · subst e
    exact h.part y hy (by rw [List.take_of_length_le hi]; exact hm) hc
  · exact h.done x (by omega) y hy hm hc

theorem Jn.iff (hnn : ∀ x : Int, 0 ≤ x → x < n → ∀ y ∈ nbs s x, 0 ≤ y ∧ y < n) {cs : List Int} (hcs : cs.length = n) {r : Nat → Nat} (h : Jn s n cs r n 0) {x : Nat} (hx : x < n) (y : Int) (hy : 0 ≤ y ∧ y < n) : r y.toNat = r x ↔ Fl.Reach s (col cs x) (x : Int) y := by
  constructor
  · intro e
    have := (h.sound x y.toNat hx (by omega) e.symm).2
    rwa [Int.toNat_of_nonneg hy.1] at this
  · intro hr
    have key : ∀ z : Int, Fl.Reach s (col cs x) (x : Int) z → (0 ≤ z ∧ z < n) ∧ r z.toNat = r x ∧ cs.getD z.toNat 0 = cs.getD x 0 := by
      intro z hz
      induction hz with
      | base => exact ⟨⟨by omega, by omega⟩, by simp, by simp⟩
      | @step a b h1 hm hk ih =>
        obtain ⟨⟨a0, an⟩, i2, i3⟩ := ih
        obtain ⟨b0, bn⟩ := hnn a a0 an b hm
        have hb : (b.toNat : Int) = b := Int.toNat_of_nonneg b0
        have hc : cs.getD b.toNat 0 = cs.getD x 0 := by
          rw [← hb, col_at (by omega)] at hk
          simpa using hk
        refine ⟨⟨b0, bn⟩, ?_, hc⟩
        rw [← i2]
        refine h.done a.toNat (by omega) b.toNat (by omega) ?_ (hc.trans i3.symm)
        rw [hb, Int.toNat_of_nonneg a0]
        exact hm
    exact (key y hr).2.1
end
end Go.Proofs.YteldfjibmaigiaaDoor.Un
