/-
  Dead stones: which lists of points are whole groups, and the board without them.
-/
import Derived.Test.YtmokpaofljdehaaGroupS
import Derived.Test.YtmokpaofljdehaaAsc
namespace Go.Proofs.Ytmokpaofljdehaa
set_option maxRecDepth 100000
open Go.RowKit

/-- Dead points: they ascend, are on the board, have stones, and are whole groups. -/
structure Dead (s : Int) (cs ds : List Int) : Prop where
  asc : ∀ i, i + 1 < ds.length → ds.getD i 0 < ds.getD (i + 1) 0
  on : ∀ i, i < ds.length → 0 ≤ ds.getD i 0 ∧ ds.getD i 0 < cs.length
  stone : ∀ i, i < ds.length → cs.getD (ds.getD i 0).toNat 0 ≠ 0
  whole : ∀ i, i < ds.length → ∀ q ∈ Pt.nbs s (ds.getD i 0), cs.getD q.toNat 0 = cs.getD (ds.getD i 0).toNat 0 → q ∈ ds

theorem mem_getD {ds : List Int} {d : Int} (h : d ∈ ds) : ∃ i, i < ds.length ∧ ds.getD i 0 = d := by
  obtain ⟨i, hi, rfl⟩ := List.getElem_of_mem h
  exact ⟨i, hi, by rw [List.getD_eq_getElem?_getD, List.getElem?_eq_getElem hi]; rfl⟩
theorem getD_memR {ds : List Int} {i : Nat} (h : i < ds.length) : ds.getD i 0 ∈ ds := by
  rw [List.getD_eq_getElem?_getD, List.getElem?_eq_getElem h]; exact List.getElem_mem _

theorem hasCol_true {x : Int} {cs : List Int} {k : Nat} (h : (hasCol x cs).getD k false = true) : cs.getD k 0 = x := by
  by_cases hk : k < cs.length
  · rw [hasCol_at hk] at h
    simpa using h
  · rw [List.getD_eq_getElem?_getD, List.getElem?_eq_none (by rw [hasCol_len]; omega)] at h
    cases h

theorem mem_ptsR {S : List Bool} {n : Nat} {y : Int} : y ∈ Fl.pts S n ↔ ∃ q : Nat, q < n ∧ S.getD q false = true ∧ y = (q : Int) := by
  unfold Fl.pts
  rw [List.mem_map]
  constructor
  · rintro ⟨q, hq, rfl⟩
    rw [List.mem_filter, List.mem_range] at hq
    exact ⟨q, hq.1, hq.2, rfl⟩
  · rintro ⟨q, h1, h2, rfl⟩
    exact ⟨q, by rw [List.mem_filter, List.mem_range]; exact ⟨h1, h2⟩, rfl⟩

section
variable {s : Int} {n : Nat} {cs ds : List Int}
/-- The group of a dead stone is dead. -/
theorem Dead.group (h : Dead s cs ds) {i : Nat} (hi : i < ds.length) {l : List Int} (hl : Reached s n (hasCol (cs.getD (ds.getD i 0).toNat 0) cs) (ds.getD i 0) l) : ∀ y ∈ l, y ∈ ds := by
  intro y hy
  obtain ⟨S, hS, hr, rfl⟩ := hl
  obtain ⟨q, hq, hqs, rfl⟩ := mem_ptsR.1 hy
  have hreach := (hr (q : Int) (by omega)).1 (by unfold Fl.at_; rw [Int.toNat_natCast]; exact hqs)
  have key : ∀ z, Fl.Reach s (hasCol (cs.getD (ds.getD i 0).toNat 0) cs) (ds.getD i 0) z → z ∈ ds ∧ cs.getD z.toNat 0 = cs.getD (ds.getD i 0).toNat 0 := by
    intro z hz
    induction hz with
    | base => exact ⟨getD_memR hi, rfl⟩
    | @step x z _ hm hk ih =>
      have hc := hasCol_true hk
      obtain ⟨j, hj, hjx⟩ := mem_getD ih.1
      refine ⟨h.whole j hj z (by rw [hjx]; exact hm) ?_, hc⟩
      rw [hjx, hc, ih.2]
  exact (key _ hreach).1

/-- A list whose stones' groups are in it is whole. -/
theorem whole_of (hlen : cs.length = n) (hnn : ∀ x : Int, 0 ≤ x → x < n → ∀ y ∈ Pt.nbs s x, 0 ≤ y ∧ y < n) {d : Int} (hd : 0 ≤ d ∧ d < n) {l : List Int} (hl : Reached s n (hasCol (cs.getD d.toNat 0) cs) d l) (hin : ∀ y ∈ l, y ∈ ds) :
    ∀ q ∈ Pt.nbs s d, cs.getD q.toNat 0 = cs.getD d.toNat 0 → q ∈ ds := by
  intro q hq hc
  obtain ⟨S, hS, hr, rfl⟩ := hl
  have hqn := hnn d hd.1 hd.2 q hq
  refine hin q (mem_ptsR.2 ⟨q.toNat, by omega, ?_, by omega⟩)
  have hk : Fl.at_ (hasCol (cs.getD d.toNat 0) cs) q = true := by
    unfold Fl.at_
    rw [hasCol_at (by omega), hc]
    exact beq_self_eq_true _
  exact (hr q hqn.1).2 (.step .base hq hk)
end

/-- The board's cells without some stones. -/
def clr (cs ds : List Int) : List Int := ds.foldl (fun c d => c.set d.toNat 0) cs
theorem clr_take {cs ds : List Int} {i : Nat} (h : i < ds.length) : clr cs (ds.take (i + 1)) = (clr cs (ds.take i)).set (ds.getD i 0).toNat 0 := by
  unfold clr
  rw [List.take_succ_eq_append_getElem h, List.foldl_append]
  have e : ds[i] = ds.getD i 0 := by rw [List.getD_eq_getElem?_getD, List.getElem?_eq_getElem h]; rfl
  rw [e]
  rfl
theorem clr_len (ds : List Int) : ∀ cs : List Int, (clr cs ds).length = cs.length := by
  induction ds with
  | nil => intro cs; rfl
  | cons d ds ih => intro cs; exact (ih _).trans (List.length_set ..)
theorem clr_getD (ds : List Int) : ∀ (cs : List Int), (∀ d ∈ ds, 0 ≤ d) → ∀ k : Nat, (clr cs ds).getD k 0 = if (k : Int) ∈ ds then 0 else cs.getD k 0 := by
  induction ds with
  | nil => intro cs _ k; simp [clr]
  | cons d ds ih =>
    intro cs h k
    have e : clr cs (d :: ds) = clr (cs.set d.toNat 0) ds := rfl
    rw [e, ih _ (fun x hx => h x (List.mem_cons_of_mem _ hx))]
    have hd := h d (List.mem_cons_self ..)
    by_cases hm : (k : Int) ∈ ds
    · rw [if_pos hm, if_pos (List.mem_cons_of_mem _ hm)]
    · rw [if_neg hm]
      by_cases hk : (k : Int) = d
      · rw [if_pos (by rw [hk]; exact List.mem_cons_self ..)]
        have : d.toNat = k := by omega
        rw [this, List.getD_eq_getElem?_getD, List.getElem?_set]
        by_cases hl : k < cs.length
        · rw [if_pos rfl, if_pos hl]; rfl
        · rw [if_pos rfl, if_neg hl]; rfl
      · rw [if_neg (by rw [List.mem_cons]; intro h9; rcases h9 with h9 | h9; exact hk h9; exact hm h9), List.getD_eq_getElem?_getD, List.getElem?_set, if_neg (by omega), ← List.getD_eq_getElem?_getD]

/-- What RemoveDead leads to. -/
def Rmv (s : Int) (cs ds : List Int) (ok : Bool) (s' : Int) (cs' : List Int) : Prop :=
  (ok = true ∧ Bd.okB s cs = true ∧ Dead s cs ds ∧ s' = s ∧ cs' = clr cs ds) ∨ (ok = false ∧ ¬ (Bd.okB s cs = true ∧ Dead s cs ds) ∧ s' = 0 ∧ cs' = [])
theorem Rmv.ex (s : Int) (cs ds : List Int) : ∃ ok s' cs', Rmv s cs ds ok s' cs' := by
  by_cases h : Bd.okB s cs = true ∧ Dead s cs ds
  · exact ⟨true, s, clr cs ds, .inl ⟨rfl, h.1, h.2, rfl, rfl⟩⟩
  · exact ⟨false, 0, [], .inr ⟨rfl, h, rfl, rfl⟩⟩
theorem Rmv.one {s : Int} {cs ds : List Int} {ok ok' : Bool} {s1 s2 : Int} {c1 c2 : List Int} (h : Rmv s cs ds ok s1 c1) (h' : Rmv s cs ds ok' s2 c2) : ok' = ok ∧ s2 = s1 ∧ c2 = c1 := by
  rcases h with ⟨rfl, a, b, rfl, rfl⟩ | ⟨rfl, a, rfl, rfl⟩
  · rcases h' with ⟨rfl, _, _, rfl, rfl⟩ | ⟨_, a', _, _⟩
    · exact ⟨rfl, rfl, rfl⟩
    · exact absurd ⟨a, b⟩ a'
  · rcases h' with ⟨_, a', b', _, _⟩ | ⟨rfl, _, rfl, rfl⟩
    · exact absurd ⟨a', b'⟩ a
    · exact ⟨rfl, rfl, rfl⟩
theorem Rmv.len {s : Int} {cs ds : List Int} {ok : Bool} {s' : Int} {cs' : List Int} (h : Rmv s cs ds ok s' cs') : cs'.length ≤ 49 := by
  rcases h with ⟨_, h1, _, _, rfl⟩ | ⟨_, _, _, rfl⟩
  · obtain ⟨q1, q2, q3, _⟩ := (Bd.okB_iff s cs).1 h1
    have := Pt.sq_bd s q1 q2
    rw [clr_len]; omega
  · simp

/-- The first i dead points pass what is asked of each of them. -/
def DPre (cs ds : List Int) (i : Nat) : Prop := ∀ j, j < i → 0 ≤ ds.getD j 0 ∧ ds.getD j 0 < cs.length ∧ cs.getD (ds.getD j 0).toNat 0 ≠ 0 ∧ (0 < j → ds.getD (j - 1) 0 < ds.getD j 0)
theorem DPre.start (cs ds : List Int) : DPre cs ds 0 := fun j hj => absurd hj (Nat.not_lt_zero j)
theorem DPre.step {cs ds : List Int} {i : Nat} (h : DPre cs ds i) (h1 : 0 ≤ ds.getD i 0 ∧ ds.getD i 0 < cs.length ∧ cs.getD (ds.getD i 0).toNat 0 ≠ 0 ∧ (0 < i → ds.getD (i - 1) 0 < ds.getD i 0)) : DPre cs ds (i + 1) := by
  intro j hj
  by_cases e : j = i
  · subst e; exact h1
  · exact h j (by omega)
theorem Dead.pre {s : Int} {cs ds : List Int} (h : Dead s cs ds) {i : Nat} (hi : i < ds.length) : 0 ≤ ds.getD i 0 ∧ ds.getD i 0 < cs.length ∧ cs.getD (ds.getD i 0).toNat 0 ≠ 0 ∧ (0 < i → ds.getD (i - 1) 0 < ds.getD i 0) :=
  ⟨(h.on i hi).1, (h.on i hi).2, h.stone i hi, fun h0 => by have := h.asc (i - 1) (by omega); rw [show i - 1 + 1 = i by omega] at this; exact this⟩
/-- The marks of the first i dead points. -/
def DMk (n : Nat) (ds : List Int) (i : Nat) (S : List Bool) : Prop := S.length = n ∧ ∀ q, q < n → (S.getD q false = true ↔ (q : Int) ∈ ds.take i)
theorem DMk.start (n : Nat) (ds : List Int) : DMk n ds 0 (List.replicate n false) := by
  refine ⟨by simp, fun q hq => ?_⟩
  rw [List.getD_eq_getElem?_getD, List.getElem?_replicate, if_pos hq]
  simp
theorem DMk.step {n : Nat} {ds : List Int} {i : Nat} {S : List Bool} (h : DMk n ds i S) (hi : i < ds.length) {d : Nat} (hd : ds.getD i 0 = (d : Int)) : DMk n ds (i + 1) (S.set d true) := by
  refine ⟨by rw [List.length_set]; exact h.1, fun q hq => ?_⟩
  have e : ds[i] = (d : Int) := by rw [← hd, List.getD_eq_getElem?_getD, List.getElem?_eq_getElem hi]; rfl
  rw [List.take_succ_eq_append_getElem hi, List.mem_append, List.mem_singleton, e, List.getD_eq_getElem?_getD, List.getElem?_set]
  by_cases e2 : d = q
  · subst e2
    rw [if_pos rfl, if_pos (by rw [h.1]; exact hq)]
    simp
  · rw [if_neg e2, ← List.getD_eq_getElem?_getD, h.2 q hq]
    constructor
    · exact .inl
    · rintro (h | h)
      · exact h
      · omega
/-- The first i dead points have no living neighbour of their color; nor has the next one among its first k. -/
def DWh (s : Int) (cs ds : List Int) (i k : Nat) : Prop :=
  (∀ j, j < i → ∀ q ∈ Pt.nbs s (ds.getD j 0), cs.getD q.toNat 0 = cs.getD (ds.getD j 0).toNat 0 → q ∈ ds) ∧
  (∀ q ∈ (Pt.nbs s (ds.getD i 0)).take k, cs.getD q.toNat 0 = cs.getD (ds.getD i 0).toNat 0 → q ∈ ds)
theorem DWh.start (s : Int) (cs ds : List Int) : DWh s cs ds 0 0 := ⟨fun j hj => absurd hj (Nat.not_lt_zero j), fun q hq => by simp at hq⟩
theorem DWh.step {s : Int} {cs ds : List Int} {i k : Nat} (h : DWh s cs ds i k) (hk : k < (Pt.nbs s (ds.getD i 0)).length) {q : Int} (hq : (Pt.nbs s (ds.getD i 0)).getD k 0 = q) (hin : cs.getD q.toNat 0 = cs.getD (ds.getD i 0).toNat 0 → q ∈ ds) : DWh s cs ds i (k + 1) := by
  refine ⟨h.1, fun y hy => ?_⟩
  have e : (Pt.nbs s (ds.getD i 0))[k] = q := by
    generalize Pt.nbs s (ds.getD i 0) = L at hk hq
    rw [← hq, List.getD_eq_getElem?_getD, List.getElem?_eq_getElem hk]; rfl
  rw [List.take_succ_eq_append_getElem hk, List.mem_append, List.mem_singleton, e] at hy
  rcases hy with hy | rfl
  · exact h.2 y hy
  · exact hin
theorem DWh.next {s : Int} {cs ds : List Int} {i k : Nat} (h : DWh s cs ds i k) (hk : (Pt.nbs s (ds.getD i 0)).length ≤ k) : DWh s cs ds (i + 1) 0 := by
  refine ⟨fun j hj => ?_, fun q hq => by simp at hq⟩
  by_cases e : j = i
  · subst e
    have := h.2
    rw [List.take_of_length_le hk] at this
    exact this
  · exact h.1 j (by omega)
theorem Dead.make {s : Int} {cs ds : List Int} (h1 : DPre cs ds ds.length) (h2 : DWh s cs ds ds.length 0) : Dead s cs ds :=
  ⟨fun i hi => by have := (h1 (i + 1) hi).2.2.2 (by omega); rw [show i + 1 - 1 = i by omega] at this; exact this, fun i hi => ⟨(h1 i hi).1, (h1 i hi).2.1⟩, fun i hi => (h1 i hi).2.2.1, h2.1⟩
end Go.Proofs.Ytmokpaofljdehaa
