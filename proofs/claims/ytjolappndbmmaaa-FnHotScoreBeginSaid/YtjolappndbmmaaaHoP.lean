/-
  The order of switches by heat, as plain lists: what a selection and an insertion sort have in common.
-/
namespace Go.Proofs.Ytjolappndbmmaaa.Ho
set_option maxRecDepth 100000

/-- The first index comes ahead of the second one: hotter, or of the same heat and smaller. -/
def R (H : Int → Int) (a b : Int) : Prop := H b < H a ∨ (H a = H b ∧ a < b)
theorem R.trans {H : Int → Int} {a b c : Int} (h1 : R H a b) (h2 : R H b c) : R H a c := by
  unfold R at *; omega
theorem R.irrefl {H : Int → Int} {a : Int} : ¬ R H a a := by
  unfold R; omega
theorem R.total {H : Int → Int} {a b : Int} (h : a ≠ b) : R H a b ∨ R H b a := by
  unfold R; omega

def rng (n : Nat) : List Int := (List.range n).map fun (k : Nat) => (k : Int)
theorem mem_rng {n : Nat} {x : Int} : x ∈ rng n ↔ 0 ≤ x ∧ x < n := by
  unfold rng
  rw [List.mem_map]
  constructor
  · rintro ⟨k, hk, rfl⟩
    have := List.mem_range.1 hk
    omega
  · rintro ⟨h1, h2⟩
    exact ⟨x.toNat, List.mem_range.2 (by omega), by omega⟩
theorem rng_len (n : Nat) : (rng n).length = n := by simp [rng]
theorem rng_succ (n : Nat) : rng (n + 1) = rng n ++ [(n : Int)] := by
  unfold rng; rw [List.range_succ, List.map_append]; rfl

/-- A list is the order: every index once, each ahead of the later ones. -/
def Ord (H : Int → Int) (n : Nat) (l : List Int) : Prop := l.Perm (rng n) ∧ l.Pairwise (R H)
theorem Ord.one {H : Int → Int} {n : Nat} {l l' : List Int} (h : Ord H n l) (h' : Ord H n l') : l = l' := by
  refine List.Perm.eq_of_pairwise (le := R H) ?_ h.2 h'.2 (h.1.trans h'.1.symm)
  intro a b _ _ h1 h2
  exact absurd (h1.trans h2) R.irrefl
theorem Ord.len {H : Int → Int} {n : Nat} {l : List Int} (h : Ord H n l) : l.length = n := h.1.length_eq.trans (rng_len n)
theorem Ord.mem {H : Int → Int} {n : Nat} {l : List Int} (h : Ord H n l) {x : Int} : x ∈ l ↔ 0 ≤ x ∧ x < n := by
  rw [h.1.mem_iff, mem_rng]

/-- While an element walks to the left: the sorted part s with x put in at place j, then the rest. -/
def put (s : List Int) (x : Int) (j : Nat) : List Int := s.take j ++ x :: s.drop j
theorem put_len (s : List Int) (x : Int) (j : Nat) (hj : j ≤ s.length) : (put s x j).length = s.length + 1 := by
  simp [put]; omega
theorem put_end (s : List Int) (x : Int) : put s x s.length = s ++ [x] := by simp [put]
theorem put_get (s : List Int) (x : Int) (j : Nat) (hj : j ≤ s.length) (r : List Int) : (put s x j ++ r).getD j 0 = x := by
  unfold put
  rw [List.getD_eq_getElem?_getD, List.append_assoc, List.getElem?_append_right (by simp; omega)]
  simp [Nat.min_eq_left hj]
theorem put_prev (s : List Int) (x : Int) (j : Nat) (hj : j < s.length) (r : List Int) : (put s x (j + 1) ++ r).getD j 0 = s.getD j 0 := by
  unfold put
  rw [List.getD_eq_getElem?_getD, List.getD_eq_getElem?_getD, List.append_assoc, List.getElem?_append_left (by simp; omega), List.getElem?_take_of_lt (by omega)]
/-- A step to the left. -/
theorem put_step (s : List Int) (x : Int) (j : Nat) (hj : j < s.length) (r : List Int) : ((put s x (j + 1) ++ r).set (j + 1) (s.getD j 0)).set j x = put s x j ++ r := by
  apply List.ext_getElem?
  intro k
  have h1 : (s.take (j + 1)).length = j + 1 := by simp; omega
  have h2 : (s.take j).length = j := by simp; omega
  have hsj : s[j]? = some (s.getD j 0) := by rw [List.getElem?_eq_getElem hj, List.getD_eq_getElem?_getD, List.getElem?_eq_getElem hj]; rfl
  have hlen : (put s x (j + 1) ++ r).length = s.length + 1 + r.length := by rw [List.length_append, put_len _ _ _ (by omega)]
  rw [List.getElem?_set, List.getElem?_set, List.length_set, hlen]
  unfold put
  by_cases hkj : j = k
  · subst hkj
    rw [if_pos rfl, if_pos (by omega), List.append_assoc, List.getElem?_append_right (by omega), h2]
    simp
  · rw [if_neg hkj]
    by_cases hk1 : j + 1 = k
    · subst hk1
      rw [if_pos rfl, if_pos (by omega), List.append_assoc, List.getElem?_append_right (by omega), h2]
      rw [show j + 1 - j = 1 by omega]
      show some (s.getD j 0) = ((x :: s.drop j) ++ r)[1]?
      rw [List.cons_append, List.getElem?_cons_succ, List.getElem?_append_left (by simp; omega), List.getElem?_drop]
      exact hsj.symm
    · rw [if_neg hk1, List.append_assoc, List.append_assoc]
      rcases Nat.lt_or_ge k j with hlt | hge
      · rw [List.getElem?_append_left (by omega), List.getElem?_append_left (by omega), List.getElem?_take_of_lt (by omega), List.getElem?_take_of_lt hlt]
      · rw [List.getElem?_append_right (l₁ := s.take (j + 1)) (by omega), List.getElem?_append_right (l₁ := s.take j) (by omega), h1, h2]
        obtain ⟨m, rfl⟩ : ∃ m, k = j + 2 + m := ⟨k - (j + 2), by omega⟩
        rw [show j + 2 + m - (j + 1) = m + 1 by omega, show j + 2 + m - j = m + 1 + 1 by omega, List.cons_append, List.cons_append, List.getElem?_cons_succ, List.getElem?_cons_succ]
        have hd : s.drop j = s.getD j 0 :: s.drop (j + 1) := by
          rw [List.drop_eq_getElem_cons hj, List.getD_eq_getElem?_getD, List.getElem?_eq_getElem hj]; rfl
        rw [hd, List.cons_append, List.getElem?_cons_succ]
theorem put_perm (s : List Int) (x : Int) (j : Nat) : (put s x j).Perm (x :: s) := by
  unfold put
  refine List.perm_middle.trans ?_
  rw [List.take_append_drop]
/-- Where the walk ends the part is sorted. -/
theorem put_ord {H : Int → Int} {i : Nat} {s : List Int} (h : Ord H i s) (j : Nat) (hj : j ≤ i) (hr : ∀ b ∈ s.drop j, R H (i : Int) b) (hl : j = 0 ∨ ¬ H (s.getD (j - 1) 0) < H (i : Int)) : Ord H (i + 1) (put s (i : Int) j) := by
  refine ⟨?_, ?_⟩
  · refine (put_perm s (i : Int) j).trans ?_
    rw [rng_succ]
    exact (List.Perm.cons _ h.1).trans (List.perm_append_comm (l₁ := [(i : Int)]) (l₂ := rng i))
  · have hp := h.2
    rw [← List.take_append_drop j s, List.pairwise_append] at hp
    unfold put
    rw [List.pairwise_append, List.pairwise_cons]
    refine ⟨hp.1, ⟨hr, hp.2.1⟩, fun a ha b hb => ?_⟩
    rcases List.mem_cons.1 hb with rfl | hb
    · rcases hl with rfl | hl
      · simp at ha
      · have hls : s.length = i := h.len
        by_cases h0 : j = 0
        · subst h0; simp at ha
        · have hlt : j - 1 < s.length := by omega
          have hgd : s.getD (j - 1) 0 = s[j - 1] := by rw [List.getD_eq_getElem?_getD, List.getElem?_eq_getElem hlt]; rfl
          rw [hgd] at hl
          have hm : s[j - 1] ∈ s := List.getElem_mem hlt
          have hb1 := (h.mem (x := s[j - 1])).1 hm
          have hR : R H s[j - 1] (i : Int) := by unfold R; omega
          obtain ⟨k, hk, rfl⟩ := List.mem_iff_getElem.1 ha
          rw [List.getElem_take]
          have hkj : k < j := by simp at hk; omega
          by_cases hk1 : k = j - 1
          · subst hk1; exact hR
          · exact R.trans (List.pairwise_iff_getElem.1 h.2 k (j - 1) (by omega) hlt (by omega)) hR
    · exact hp.2.2 a ha b hb
theorem put_next {H : Int → Int} {i : Nat} {s : List Int} {j : Nat} (hj : j < s.length) (hr : ∀ b ∈ s.drop (j + 1), R H (i : Int) b) (hl : H (s.getD j 0) < H (i : Int)) : ∀ b ∈ s.drop j, R H (i : Int) b := by
  intro b hb
  rw [List.drop_eq_getElem_cons hj] at hb
  rcases List.mem_cons.1 hb with rfl | hb
  · refine .inl ?_
    rw [List.getD_eq_getElem?_getD, List.getElem?_eq_getElem hj] at hl
    exact hl
  · exact hr b hb
theorem Ord.nil (H : Int → Int) : Ord H 0 [] := ⟨List.Perm.refl _, List.Pairwise.nil⟩

/-- The model's selection: what is taken comes ahead of all others. -/
def Sel (H : Int → Int) (n : Nat) (l : List Int) : Prop := l.Nodup ∧ (∀ a ∈ l, 0 ≤ a ∧ a < n) ∧ l.Pairwise (R H) ∧ ∀ a ∈ l, ∀ k : Int, 0 ≤ k → k < n → k ∉ l → R H a k
theorem Sel.nil (H : Int → Int) (n : Nat) : Sel H n [] := ⟨List.nodup_nil, by simp, List.Pairwise.nil, by simp⟩
theorem Sel.next {H : Int → Int} {n : Nat} {l : List Int} {i : Int} (h : Sel H n l) (i1 : 0 ≤ i) (i2 : i < n) (hi : i ∉ l) (hb : ∀ k : Int, 0 ≤ k → k < n → k ∉ l → k ≠ i → R H i k) : Sel H n (l ++ [i]) := by
  obtain ⟨h1, h2, h3, h4⟩ := h
  refine ⟨?_, ?_, ?_, ?_⟩
  · rw [List.nodup_append]
    refine ⟨h1, by simp, fun a ha b hb => ?_⟩
    rw [List.mem_singleton] at hb
    subst hb
    exact fun e => hi (e ▸ ha)
  · intro a ha
    rcases List.mem_append.1 ha with ha | ha
    · exact h2 a ha
    · rw [List.mem_singleton] at ha; subst ha; exact ⟨i1, i2⟩
  · rw [List.pairwise_append]
    refine ⟨h3, by simp, fun a ha b hb => ?_⟩
    rw [List.mem_singleton] at hb
    subst hb
    exact h4 a ha _ i1 i2 hi
  · intro a ha k k1 k2 hk
    rw [List.mem_append, List.mem_singleton, not_or] at hk
    rcases List.mem_append.1 ha with ha | ha
    · exact h4 a ha k k1 k2 hk.1
    · rw [List.mem_singleton] at ha; subst ha; exact hb k k1 k2 hk.1 hk.2
theorem Sel.done {H : Int → Int} {n : Nat} {l : List Int} (h : Sel H n l) (ha : ∀ k : Int, 0 ≤ k → k < n → k ∈ l) : Ord H n l := by
  refine ⟨?_, h.2.2.1⟩
  have hn : (rng n).Nodup := by
    unfold rng
    exact List.Pairwise.map _ (fun a b hab e => hab (by omega)) List.nodup_range
  exact (List.perm_ext_iff_of_nodup h.1 hn).2 fun a => ⟨fun hm => mem_rng.2 (h.2.1 a hm), fun hm => ha a (mem_rng.1 hm).1 (mem_rng.1 hm).2⟩
end Go.Proofs.Ytjolappndbmmaaa.Ho
