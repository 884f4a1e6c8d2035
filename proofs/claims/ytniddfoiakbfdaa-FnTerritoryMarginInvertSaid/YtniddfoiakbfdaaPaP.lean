/-
  Parts of an area: a point and all that are connected with it are taken away. No program is imported.
-/
import Derived.Test.YtniddfoiakbfdaaPureFl
import Derived.Test.YtniddfoiakbfdaaPureUn
namespace Go.Proofs.Ytniddfoiakbfdaa.Pa
set_option maxRecDepth 100000
open Pt

theorem pts_mem {S : List Bool} {n : Nat} {y : Int} : y ∈ Fl.pts S n ↔ ∃ q : Nat, q < n ∧ S.getD q false = true ∧ y = (q : Int) := by
  unfold Fl.pts
  rw [List.mem_map]
  constructor
  · rintro ⟨q, hq, rfl⟩
    rw [List.mem_filter, List.mem_range] at hq
    exact ⟨q, hq.1, hq.2, rfl⟩
  · rintro ⟨q, h1, h2, rfl⟩
    exact ⟨q, by rw [List.mem_filter, List.mem_range]; exact ⟨h1, h2⟩, rfl⟩
theorem set_getD (S : List Bool) (y q : Nat) (b : Bool) (hy : y < S.length) : (S.set y b).getD q false = if q = y then b else S.getD q false := by
  rw [List.getD_eq_getElem?_getD, List.getElem?_set]
  by_cases e : y = q
  · subst e; rw [if_pos rfl, if_pos hy, if_pos rfl]; rfl
  · rw [if_neg e, if_neg (fun h => e h.symm), List.getD_eq_getElem?_getD]
theorem pts_none (n j : Nat) : Fl.pts (List.replicate n false) j = [] := by
  unfold Fl.pts
  rw [List.map_eq_nil_iff, List.filter_eq_nil_iff]
  intro q _
  rw [List.getD_eq_getElem?_getD, List.getElem?_replicate]
  split <;> simp
/-- One point more is marked. -/
theorem pts_set {S : List Bool} {y : Nat} (hy : y < S.length) (h : S.getD y false = false) (j : Nat) : (j ≤ y → Fl.pts (S.set y true) j = Fl.pts S j) ∧ (y < j → (Fl.pts (S.set y true) j).Perm ((y : Int) :: Fl.pts S j)) := by
  induction j with
  | zero => exact ⟨fun _ => rfl, fun h => absurd h (Nat.not_lt_zero y)⟩
  | succ j ih =>
    constructor
    · intro hj
      have e1 := ih.1 (by omega)
      have e2 : (S.set y true).getD j false = S.getD j false := by rw [set_getD S y j true hy, if_neg (by omega)]
      rcases Bool.eq_false_or_eq_true (S.getD j false) with hb | hb
      · rw [Fl.pts_yes (e2.trans hb), Fl.pts_yes hb, e1]
      · rw [Fl.pts_no (e2.trans hb), Fl.pts_no hb, e1]
    · intro hj
      by_cases e : j = y
      · subst e
        have e1 := ih.1 (Nat.le_refl _)
        have e2 : (S.set j true).getD j false = true := by rw [set_getD S j j true hy, if_pos rfl]
        rw [Fl.pts_yes e2, Fl.pts_no h, e1]
        exact List.perm_append_singleton _ _
      · have p1 := ih.2 (by omega)
        have e2 : (S.set y true).getD j false = S.getD j false := by rw [set_getD S y j true hy, if_neg e]
        rcases Bool.eq_false_or_eq_true (S.getD j false) with hb | hb
        · rw [Fl.pts_yes (e2.trans hb), Fl.pts_yes hb]
          exact p1.append_right _
        · rw [Fl.pts_no (e2.trans hb), Fl.pts_no hb]
          exact p1
theorem pts_sorted (S : List Bool) (n : Nat) : (Fl.pts S n).Pairwise fun x y => x ≤ y := by
  induction n with
  | zero => exact List.Pairwise.nil
  | succ n ih =>
    rcases Bool.eq_false_or_eq_true (S.getD n false) with hb | hb
    · rw [Fl.pts_yes hb, List.pairwise_append]
      refine ⟨ih, List.pairwise_singleton _ _, fun a ha b hb2 => ?_⟩
      obtain ⟨q, hq, _, rfl⟩ := pts_mem.1 ha
      rw [List.mem_singleton] at hb2
      subst hb2
      omega
    · rw [Fl.pts_no hb]; exact ih
theorem sort_pts {S : List Bool} {n : Nat} {l : List Int} (h : l.Perm (Fl.pts S n)) : (l.mergeSort fun x y => decide (x ≤ y)) = Fl.pts S n := by
  refine List.Perm.eq_of_pairwise (le := fun x y => x ≤ y) (fun a b _ _ h1 h2 => Int.le_antisymm h1 h2) ?_ (pts_sorted S n) ((List.mergeSort_perm _ _).trans h)
  have := List.pairwise_mergeSort (le := fun (x y : Int) => decide (x ≤ y)) (fun a b c h1 h2 => by simp at h1 h2 ⊢; omega) (fun a b => by simp; omega) l
  exact this.imp fun h => by simpa using h

/-- What is kept of a part and of the area while a part is taken: S are the points that have left the area. -/
structure TS (n : Nat) (a : List Bool) (S : List Bool) (st pt : List Int) (ar : List Bool) : Prop where
  perm : (pt ++ st).Perm (Fl.pts S n)
  alen : ar.length = n
  area : ∀ q, q < n → ar.getD q false = (a.getD q false && !S.getD q false)

theorem TS.start {n p : Nat} {a : List Bool} (ha : a.length = n) (hp : p < n) : TS n a ((List.replicate n false).set p true) [(p : Int)] [] (a.set p false) := by
  have hl : p < (List.replicate n false).length := by rw [List.length_replicate]; exact hp
  have hf : (List.replicate n false).getD p false = false := by rw [List.getD_eq_getElem?_getD, List.getElem?_replicate, if_pos hp]; rfl
  refine ⟨?_, by rw [List.length_set]; exact ha, fun q hq => ?_⟩
  · have := (pts_set hl hf n).2 hp
    rw [pts_none] at this
    exact this.symm
  · rw [set_getD a p q false (by omega), set_getD _ p q true hl, List.getD_eq_getElem?_getD (l := List.replicate n false), List.getElem?_replicate, if_pos hq]
    by_cases e : q = p
    · rw [if_pos e, if_pos e]; simp
    · rw [if_neg e, if_neg e]; simp
theorem TS.pop {n : Nat} {a S : List Bool} {st pt : List Int} {ar : List Bool} {q : Int} (h : TS n a S (st ++ [q]) pt ar) : TS n a S st (pt ++ [q]) ar := by
  refine ⟨(?_ : (pt ++ [q] ++ st).Perm (pt ++ (st ++ [q]))).trans h.perm, h.alen, h.area⟩
  rw [List.append_assoc]
  exact (List.perm_append_comm).append_left pt
theorem TS.push {n : Nat} {a S : List Bool} {st pt : List Int} {ar : List Bool} {y : Nat} (h : TS n a S st pt ar) (hS : S.length = n) (hy : y < n) (hv : ar.getD y false = true) : TS n a (S.set y true) (st ++ [(y : Int)]) pt (ar.set y false) := by
  have hs : S.getD y false = false := by
    have := h.area y hy
    rw [hv] at this
    rcases Bool.eq_false_or_eq_true (S.getD y false) with e | e
    · rw [e] at this; simp at this
    · exact e
  refine ⟨?_, by rw [List.length_set]; exact h.alen, fun q hq => ?_⟩
  · have := (pts_set (by omega) hs n).2 hy
    refine List.Perm.trans ?_ this.symm
    rw [← List.append_assoc]
    exact (List.perm_append_singleton _ _).trans (h.perm.cons _)
  · rw [set_getD ar y q false (by rw [h.alen]; exact hy), set_getD S y q true (by omega)]
    by_cases e : q = y
    · rw [if_pos e, if_pos e]; simp
    · rw [if_neg e, if_neg e]; exact h.area q hq
theorem TS.in_ {n : Nat} {a S : List Bool} {st pt : List Int} {ar : List Bool} {y : Nat} (h : TS n a S st pt ar) (hy : y < n) (hv : ar.getD y false = true) : a.getD y false = true := by
  have := h.area y hy
  rw [hv] at this
  rcases Bool.eq_false_or_eq_true (a.getD y false) with e | e
  · exact e
  · rw [e] at this; simp at this
theorem TS.out_ {n : Nat} {a S : List Bool} {st pt : List Int} {ar : List Bool} {y : Nat} (h : TS n a S st pt ar) (hy : y < n) (hv : ar.getD y false = false) : a.getD y false = false ∨ S.getD y false = true := by
  have := h.area y hy
  rw [hv] at this
  rcases Bool.eq_false_or_eq_true (a.getD y false) with e | e
  · right
    rcases Bool.eq_false_or_eq_true (S.getD y false) with e2 | e2
    · exact e2
    · rw [e, e2] at this; simp at this
  · exact .inl e

/-- A point that begins a part. -/
def PF (s : Int) (K : List Bool) (k : Nat) : Prop := K.getD k false = true ∧ ∀ y : Nat, Fl.Reach s K (k : Int) (y : Int) → k ≤ y
/-- The area behind k points: the parts that begin there have left it. -/
def AK (s : Int) (n : Nat) (K : List Bool) (k : Nat) (ar : List Bool) : Prop :=
  ar.length = n ∧ ∀ q, q < n → (ar.getD q false = true ↔ (K.getD q false = true ∧ ∀ y : Nat, Fl.Reach s K (q : Int) (y : Int) → k ≤ y))
section
variable {s : Int} {n : Nat} {K ar : List Bool} {k : Nat}
theorem AK.start (hK : K.length = n) : AK s n K 0 K := ⟨hK, fun _ _ => ⟨fun h => ⟨h, fun y _ => Nat.zero_le y⟩, fun h => h.1⟩⟩
theorem AK.first (h : AK s n K k ar) (hk : k < n) : ar.getD k false = true ↔ PF s K k := h.2 k hk
variable (hnn : ∀ x : Int, 0 ≤ x → x < n → ∀ y ∈ nbs s x, 0 ≤ y ∧ y < n)
include hnn
theorem AK.skip (hsy : ∀ x : Int, 0 ≤ x → x < n → ∀ y ∈ nbs s x, x ∈ nbs s y) (h : AK s n K k ar) (hk : k < n) (hf : ar.getD k false = false) : AK s n K (k + 1) ar := by
  refine ⟨h.1, fun q hq => ⟨fun h1 => ?_, fun h1 => (h.2 q hq).2 ⟨h1.1, fun y hy => by have := h1.2 y hy; omega⟩⟩⟩
  obtain ⟨h2, h3⟩ := (h.2 q hq).1 h1
  refine ⟨h2, fun y hy => ?_⟩
  have := h3 y hy
  by_cases e : y = k
  · exfalso
    subst e
    have hkq : Fl.at_ K (q : Int) = true := by unfold Fl.at_; rw [Int.toNat_natCast]; exact h2
    have hb := Un.reach_back hnn hsy ⟨by omega, by omega⟩ hkq hy
    have hky := Un.reach_kept hkq hy
    have : PF s K y := ⟨by unfold Fl.at_ at hky; rw [Int.toNat_natCast] at hky; exact hky, fun z hz => h3 z (Un.reach_trans hy hz)⟩
    rw [(h.first hk).2 this] at hf
    cases hf
  · omega
/-- The part of a point in what is left of the area is its part in the whole area. -/
theorem AK.reach (h : AK s n K k ar) (hk : k < n) (hf : ar.getD k false = true) (q : Int) : Fl.Reach s ar (k : Int) q ↔ Fl.Reach s K (k : Int) q := by
  have hpf := (h.first hk).1 hf
  have hkk : Fl.at_ K (k : Int) = true := by unfold Fl.at_; rw [Int.toNat_natCast]; exact hpf.1
  constructor
  · intro hr
    induction hr with
    | base => exact .base
    | @step x z hx hm hz ih =>
      have hin := Fl.reach_in hnn ⟨by omega, by omega⟩ ih
      have hzn := hnn x hin.1 hin.2 z hm
      obtain ⟨z', rfl⟩ := Int.eq_ofNat_of_zero_le hzn.1
      have hz' : ar.getD z' false = true := by unfold Fl.at_ at hz; rw [Int.toNat_natCast] at hz; exact hz
      exact .step ih hm (by unfold Fl.at_; rw [Int.toNat_natCast]; exact ((h.2 z' (by omega)).1 hz').1)
  · intro hr
    induction hr with
    | base => exact .base
    | @step x z hx hm hz ih =>
      have hin := Fl.reach_in hnn ⟨by omega, by omega⟩ hx
      have hzn := hnn x hin.1 hin.2 z hm
      obtain ⟨z', rfl⟩ := Int.eq_ofNat_of_zero_le hzn.1
      have hkz : Fl.Reach s K (k : Int) (z' : Int) := .step hx hm hz
      refine .step ih hm ?_
      unfold Fl.at_
      rw [Int.toNat_natCast]
      exact (h.2 z' (by omega)).2 ⟨by unfold Fl.at_ at hz; rw [Int.toNat_natCast] at hz; exact hz, fun y hy => hpf.2 y (Un.reach_trans hkz hy)⟩
theorem AK.take (hsy : ∀ x : Int, 0 ≤ x → x < n → ∀ y ∈ nbs s x, x ∈ nbs s y) (h : AK s n K k ar) (hk : k < n) (hf : ar.getD k false = true) {S ar' : List Bool} (hS : ∀ q : Nat, S.getD q false = true ↔ Fl.Reach s ar (k : Int) (q : Int)) (hl : ar'.length = n) (ha : ∀ q, q < n → ar'.getD q false = (ar.getD q false && !S.getD q false)) : AK s n K (k + 1) ar' := by
  have hpf := (h.first hk).1 hf
  have hkk : Fl.at_ K (k : Int) = true := by unfold Fl.at_; rw [Int.toNat_natCast]; exact hpf.1
  refine ⟨hl, fun q hq => ?_⟩
  rw [ha q hq, Bool.and_eq_true, h.2 q hq, Bool.not_eq_true']
  have hSq : S.getD q false = true ↔ Fl.Reach s K (k : Int) (q : Int) := (hS q).trans (h.reach hnn hk hf q)
  constructor
  · rintro ⟨⟨h1, h2⟩, h3⟩
    refine ⟨h1, fun y hy => ?_⟩
    have := h2 y hy
    by_cases e : y = k
    · exfalso
      subst e
      have hkq : Fl.at_ K (q : Int) = true := by unfold Fl.at_; rw [Int.toNat_natCast]; exact h1
      have := hSq.2 (Un.reach_back hnn hsy ⟨by omega, by omega⟩ hkq hy)
      rw [h3] at this
      cases this
    · omega
  · rintro ⟨h1, h2⟩
    refine ⟨⟨h1, fun y hy => by have := h2 y hy; omega⟩, ?_⟩
    rcases Bool.eq_false_or_eq_true (S.getD q false) with e | e
    · exfalso
      have hr := hSq.1 e
      have := h2 k (Un.reach_back hnn hsy ⟨by omega, by omega⟩ hkk hr)
      omega
    · exact e
end
end Go.Proofs.Ytniddfoiakbfdaa.Pa
