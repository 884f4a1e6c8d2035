/-
  Flooding a board from a point: what is seen at the end is what can be reached. No program is imported.
-/
import Derived.Test.YteldfjibmaigiaaDoorPurePt
import Derived.Test.YteldfjibmaigiaaDoorFactPt
namespace Go.Proofs.YteldfjibmaigiaaDoor.Fl
set_option maxRecDepth 100000
open Pt

def at_ (l : List Bool) (y : Int) : Bool := l.getD y.toNat false

/-- Reached from p over points that are kept. -/
inductive Reach (s : Int) (keep : List Bool) (p : Int) : Int → Prop
  | base : Reach s keep p p
  | step {x y : Int} : Reach s keep p x → y ∈ nbs s x → at_ keep y = true → Reach s keep p y

structure Inv (s : Int) (n : Nat) (keep : List Bool) (p : Int) (seen : List Bool) (st : List Int) : Prop where
  len : seen.length = n
  root : at_ seen p = true
  sound : ∀ y, 0 ≤ y → at_ seen y = true → Reach s keep p y
  stk : ∀ y ∈ st, 0 ≤ y ∧ y < n ∧ at_ seen y = true
  done : ∀ x : Int, 0 ≤ x → x < n → at_ seen x = true → x ∉ st → ∀ y ∈ nbs s x, at_ keep y = true → at_ seen y = true

structure InvQ (s : Int) (n : Nat) (keep : List Bool) (p q : Int) (i : Nat) (seen : List Bool) (st : List Int) : Prop where
  len : seen.length = n
  root : at_ seen p = true
  sound : ∀ y, 0 ≤ y → at_ seen y = true → Reach s keep p y
  stk : ∀ y ∈ st, 0 ≤ y ∧ y < n ∧ at_ seen y = true
  q0 : 0 ≤ q
  qn : q < n
  qs : at_ seen q = true
  done : ∀ x : Int, 0 ≤ x → x < n → at_ seen x = true → x ∉ st → x ≠ q → ∀ y ∈ nbs s x, at_ keep y = true → at_ seen y = true
  part : ∀ y ∈ (nbs s q).take i, at_ keep y = true → at_ seen y = true

section
variable {s : Int} {n : Nat} {keep : List Bool} {p q : Int} {i : Nat} {seen : List Bool} {st : List Int}

theorem at_set_same {l : List Bool} {y : Int} (h : y.toNat < l.length) : at_ (l.set y.toNat true) y = true := by
  simp [at_, List.getD_eq_getElem?_getD, h]
theorem at_set_other {l : List Bool} {y z : Int} (hy : 0 ≤ y) (hz : 0 ≤ z) (h : z ≠ y) : at_ (l.set y.toNat true) z = at_ l z := by
  have : y.toNat ≠ z.toNat := by omega
  simp [at_, List.getD_eq_getElem?_getD, this]
theorem at_set_mono {l : List Bool} {y z : Int} (hy : 0 ≤ y) (hz : 0 ≤ z) (hyl : y.toNat < l.length) (h : at_ l z = true) : at_ (l.set y.toNat true) z = true := by
  by_cases e : z = y
  · subst e; exact at_set_same hyl
  · rw [at_set_other hy hz e]; exact h

theorem Inv.pop (h : Inv s n keep p seen (st ++ [q])) : InvQ s n keep p q 0 seen st := by
  have hq := h.stk q (by simp)
  exact ⟨h.len, h.root, h.sound, fun y hy => h.stk y (by simp [hy]), hq.1, hq.2.1, hq.2.2, fun x h0 hn hs hx hne => h.done x h0 hn hs (by simp [hx, hne]), fun y hy => by simp at hy⟩

theorem InvQ.finish (h : InvQ s n keep p q i seen st) (hi : (nbs s q).length ≤ i) : Inv s n keep p seen st := by
  refine ⟨h.len, h.root, h.sound, h.stk, fun x h0 hn hs hx y hy hk => ?_⟩
  by_cases e : x = q
  · subst e
    exact h.part y (by rw [List.take_of_length_le hi]; exact hy) hk
  · exact h.done x h0 hn hs hx e y hy hk

theorem InvQ.skip (h : InvQ s n keep p q i seen st) (hi : i < (nbs s q).length) (hy : at_ keep ((nbs s q).getD i 0) = false ∨ at_ seen ((nbs s q).getD i 0) = true) : InvQ s n keep p q (i + 1) seen st := by
  refine ⟨h.len, h.root, h.sound, h.stk, h.q0, h.qn, h.qs, h.done, fun y hm hk => ?_⟩
  have e : (nbs s q).getD i 0 = (nbs s q)[i] := by simp [List.getD_eq_getElem?_getD, List.getElem?_eq_getElem hi]
  rw [List.take_succ_eq_append_getElem hi, List.mem_append, List.mem_singleton] at hm
  rcases hm with hm | rfl
  · exact h.part y hm hk
  · rw [e] at hy
    rcases hy with hy | hy
    · rw [hk] at hy; cases hy
    · exact hy

theorem InvQ.push (h : InvQ s n keep p q i seen st) (hp : 0 ≤ p) (hnn : ∀ x : Int, 0 ≤ x → x < n → ∀ y ∈ nbs s x, 0 ≤ y ∧ y < n) (hi : i < (nbs s q).length) {y : Int} (hy : (nbs s q).getD i 0 = y) (hk : at_ keep y = true) :
    InvQ s n keep p q (i + 1) (seen.set y.toNat true) (st ++ [y]) := by
  have e : (nbs s q).getD i 0 = (nbs s q)[i] := by simp [List.getD_eq_getElem?_getD, List.getElem?_eq_getElem hi]
  have hm : y ∈ nbs s q := by rw [← hy, e]; exact List.getElem_mem _
  obtain ⟨y0, yn⟩ := hnn q h.q0 h.qn y hm
  have hyl : y.toNat < seen.length := by rw [h.len]; omega
  refine ⟨by rw [List.length_set]; exact h.len, at_set_mono y0 hp hyl h.root, ?_, ?_, h.q0, h.qn, at_set_mono y0 h.q0 hyl h.qs, ?_, ?_⟩
  · intro z hz hs
    by_cases ez : z = y
    · subst ez; exact .step (h.sound q h.q0 h.qs) hm hk
    · rw [at_set_other y0 hz ez] at hs; exact h.sound z hz hs
  · intro z hz
    rw [List.mem_append, List.mem_singleton] at hz
    rcases hz with hz | rfl
    · obtain ⟨a, b, c⟩ := h.stk z hz
      exact ⟨a, b, at_set_mono y0 a hyl c⟩
    · exact ⟨y0, yn, at_set_same hyl⟩
  · intro x h0 hn hs hx hne z hz hkz
    rw [List.mem_append, List.mem_singleton, not_or] at hx
    rw [at_set_other y0 h0 hx.2] at hs
    exact at_set_mono y0 (hnn x h0 hn z hz).1 hyl (h.done x h0 hn hs hx.1 hne z hz hkz)
  · intro z hz hkz
    rw [List.take_succ_eq_append_getElem hi, List.mem_append, List.mem_singleton] at hz
    rcases hz with hz | rfl
    · exact at_set_mono y0 (hnn q h.q0 h.qn z (List.mem_of_mem_take hz)).1 hyl (h.part z hz hkz)
    · rw [← hy, e]; rw [← e, hy]; exact at_set_same hyl

theorem reach_in (hnn : ∀ x : Int, 0 ≤ x → x < n → ∀ y ∈ nbs s x, 0 ≤ y ∧ y < n) (hp : 0 ≤ p ∧ p < n) {y : Int} (h : Reach s keep p y) : 0 ≤ y ∧ y < n := by
  induction h with
  | base => exact hp
  | step _ hm _ ih => exact hnn _ ih.1 ih.2 _ hm

theorem Inv.all (h : Inv s n keep p seen []) (hnn : ∀ x : Int, 0 ≤ x → x < n → ∀ y ∈ nbs s x, 0 ≤ y ∧ y < n) (hp : 0 ≤ p ∧ p < n) (y : Int) (h0 : 0 ≤ y) : at_ seen y = true ↔ Reach s keep p y := by
  refine ⟨h.sound y h0, fun hr => ?_⟩
  induction hr with
  | base => exact h.root
  | step hx hm hk ih =>
    have hin := reach_in hnn hp hx
    exact h.done _ hin.1 hin.2 (ih hin.1) (by simp) _ hm hk

theorem Inv.start (hp : 0 ≤ p ∧ p < n) : Inv s n keep p ((List.replicate n false).set p.toNat true) [p] := by
  have hl : p.toNat < (List.replicate n false).length := by rw [List.length_replicate]; omega
  have hno : ∀ y, 0 ≤ y → y ≠ p → at_ ((List.replicate n false).set p.toNat true) y = false := fun y hy hne => by
    rw [at_set_other hp.1 hy hne]
    unfold at_
    rw [List.getD_eq_getElem?_getD, List.getElem?_replicate]
    split <;> rfl
  refine ⟨by simp, at_set_same hl, ?_, ?_, ?_⟩
  · intro y hy hs
    by_cases e : y = p
    · subst e; exact .base
    · rw [hno y hy e] at hs; cases hs
  · intro y hy
    rw [List.mem_singleton] at hy
    subst hy
    exact ⟨hp.1, hp.2, at_set_same hl⟩
  · intro x h0 _ hs hx
    rw [List.mem_singleton] at hx
    rw [hno x h0 hx] at hs; cases hs
end

/-- How many points are not seen. -/
def dark (l : List Bool) : Nat := (l.filter fun b => !b).length
theorem dark_set {l : List Bool} {j : Nat} (h : j < l.length) (hf : l.getD j false = false) : dark (l.set j true) + 1 = dark l := by
  induction l generalizing j with
  | nil => simp at h
  | cons b l ih =>
    match j with
    | 0 =>
      have : b = false := by simpa using hf
      subst this
      simp [dark]
    | j + 1 =>
      have := ih (j := j) (by simpa using h) (by simpa using hf)
      unfold dark at this ⊢
      rw [List.set_cons_succ]
      cases b <;> simp at this ⊢ <;> omega

/-- The points that are seen, in ascending order. -/
def pts (l : List Bool) (j : Nat) : List Int := ((List.range j).filter fun q => l.getD q false).map fun (q : Nat) => (q : Int)
theorem pts_yes {l : List Bool} {j : Nat} (h : l.getD j false = true) : pts l (j + 1) = pts l j ++ [(j : Int)] := by
  unfold pts
  rw [List.range_succ, List.filter_append, List.filter_cons, h]
  simp
theorem pts_no {l : List Bool} {j : Nat} (h : l.getD j false = false) : pts l (j + 1) = pts l j := by
  unfold pts
  rw [List.range_succ, List.filter_append, List.filter_cons, h]
  simp
theorem pts_len (l : List Bool) (j : Nat) : (pts l j).length ≤ j := by
  unfold pts
  rw [List.length_map]
  exact Nat.le_trans (List.length_filter_le _ _) (by simp)
end Go.Proofs.YteldfjibmaigiaaDoor.Fl
