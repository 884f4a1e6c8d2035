/-
  Texts that a law stands on: Asc, RdP, VdI, RdI, RdJ, CopyB, IsIn, RdS, RdX.
-/
import Derived.Test.YtniddfoiakbfdaaSpecA
import Derived.Test.YtniddfoiakbfdaaWords
import Derived.Deep.QuietTactic
import Derived.Test.YtniddfoiakbfdaaGroupS
import Derived.Test.YtniddfoiakbfdaaNextTo
import Derived.BigQuiet
import Derived.Test.YtniddfoiakbfdaaCopy
import Derived.Test.YtniddfoiakbfdaaBoardI
import Derived.Test.YtniddfoiakbfdaaRows2
import Derived.Deep.RegionWith
import Derived.Deep.DeepCutAuto
import Derived.Deep.RegionHeld3
import Derived.Laws.CopyOwn
namespace Go.Proofs.Ytniddfoiakbfdaa
set_option maxRecDepth 100000
open Go.RowKit

/-- Numbers that ascend, all of them from lo to hi. -/
def ascAt (ds : List Int) (k : Nat) : Bool := (List.range (k - 1)).all fun i => decide (ds.getD i 0 < ds.getD (i + 1) 0)
def inAt (ds : List Int) (lo hi : Int) (k : Nat) : Bool := (List.range k).all fun i => decide (lo ≤ ds.getD i 0) && decide (ds.getD i 0 ≤ hi)
def ascIn (ds : List Int) (lo hi : Int) : Bool := ascAt ds ds.length && inAt ds lo hi ds.length
theorem ascAt_iff (ds : List Int) (k : Nat) : ascAt ds k = true ↔ ∀ i, i + 1 < k → ds.getD i 0 < ds.getD (i + 1) 0 := by
  unfold ascAt
  rw [List.all_eq_true]
  constructor
  · intro h i hi
    have := h i (List.mem_range.2 (by omega))
    simpa using this
  · intro h i hi
    have := h i (by have := List.mem_range.1 hi; omega)
    simpa using this
theorem inAt_iff (ds : List Int) (lo hi : Int) (k : Nat) : inAt ds lo hi k = true ↔ ∀ i, i < k → lo ≤ ds.getD i 0 ∧ ds.getD i 0 ≤ hi := by
  unfold inAt
  rw [List.all_eq_true]
  constructor
  · intro h i hi
    have := h i (List.mem_range.2 hi)
    simpa using this
  · intro h i hi
    have := h i (List.mem_range.1 hi)
    simpa using this

theorem s_allInA (w : World) (B : Nat) (A : Option Addr) (n c : Nat) (ds : List Int) (lo hi : Int) (h : Ints w B A n ds) (hn : n ≤ 1000000000) :
    Calls Try.prog 54 #[.slice A n c, .int .i64 lo, .int .i64 hi] w fun e w' => e = .returned (.bool (inAt ds lo hi ds.length)) ∧ w' = w := by
  have Hl := Lib.hid h.1
  have H := Lib.hid h
  clear h
  go_enter Try.func54, Try.ntmps54
  go_wp2_with fail
  go_loop [7] (fun v => ∃ k : Nat, k ≤ n ∧ v = .int .i64 (k : Nat) ∧ inAt ds lo hi k = true) (fun v => n - (intOf v).toNat)
  case atStart => exact ⟨0, by omega, rfl, (inAt_iff _ _ _ _).2 fun i hi => absurd hi (Nat.not_lt_zero i)⟩
  case round =>
    obtain ⟨k, hk, rfl, hin⟩ := hrel
    have Hin := Lib.hid hin
    clear hin
    by_cases hkn : k < n
    · obtain ⟨b, o, rfl, hbB, hc⟩ : ∃ b o, A = some ⟨b, o, none⟩ ∧ b < B ∧ ∀ j, j < n → w.cell? ⟨b, o + j, none⟩ = some (.int .i64 (ds.getD j 0)) := by
        rcases H.out.2 with h0 | ⟨b, o, hA, hbB, hc⟩
        · omega
        · exact ⟨b, o, hA, hbB, hc⟩
      have ck := hc k hkn
      obtain ⟨x, hx⟩ : ∃ x, ds.getD k 0 = x := ⟨_, rfl⟩
      rw [hx] at ck
      have Hx := Lib.hid hx
      clear hc hx
      by_cases hb : lo ≤ x ∧ x ≤ hi
      · have hd : (decide (lo ≤ x) && decide (x ≤ hi)) = true := by simp [hb.1, hb.2]
        have Hin2 := Lib.hid ((inAt_iff ds lo hi (k + 1)).2 fun i hi' => by
          rcases Nat.lt_or_eq_of_le (Nat.le_of_lt_succ hi') with h | rfl
          · exact (inAt_iff _ _ _ _).1 Hin.out i h
          · rw [Hx.out]; exact hb)
        go_wp2_with fail
        refine (s_range _ _ _ _).mono ?_
        rintro e w' ⟨rfl, rfl⟩
        rw [hd]
        clear hd
        go_wp2_with fail
        go_round
        case rel => exact ⟨k + 1, by omega, by go_num, Hin2.out⟩
        case measure => simp [intOf]; omega
      · have hd : (decide (lo ≤ x) && decide (x ≤ hi)) = false := by
          rcases Bool.eq_false_or_eq_true (decide (lo ≤ x) && decide (x ≤ hi)) with h | h
          · rw [Bool.and_eq_true, decide_eq_true_eq, decide_eq_true_eq] at h; exact absurd h hb
          · exact h
        have Hno : Hid (inAt ds lo hi ds.length = false) := Lib.hid (by
          rw [Bool.eq_false_iff]
          intro h
          have := (inAt_iff _ _ _ _).1 h k (by rw [Hl.out]; exact hkn)
          rw [Hx.out] at this
          exact hb this)
        go_wp2_with fail
        refine (s_range _ _ _ _).mono ?_
        rintro e w' ⟨rfl, rfl⟩
        rw [hd]
        clear hd
        go_wp2_with fail
        go_ret
        exact ⟨by rw [Hno.out]; rfl, rfl⟩
    · obtain rfl : n = k := by omega
      have Hyes : Hid (inAt ds lo hi ds.length = true) := Lib.hid (by rw [Hl.out]; exact Hin.out)
      go_wp2_with fail
      go_ret
      exact ⟨by rw [Hyes.out]; rfl, rfl⟩

theorem s_asc (w : World) (B : Nat) (A : Option Addr) (n c : Nat) (ds : List Int) (lo hi : Int) (h : Ints w B A n ds) (hn : n ≤ 1000000000) :
    Calls Try.prog 46 #[.slice A n c, .int .i64 lo, .int .i64 hi] w fun e w' => e = .returned (.bool (ascIn ds lo hi)) ∧ ∃ k, w' = w.drewN k := by
  have Hl := Lib.hid h.1
  have H := Lib.hid h
  clear h
  go_enter Try.func46, Try.ntmps46
  go_wp2_with fail
  go_loopw [7] (fun v wr => ∃ (k q : Nat), 1 ≤ k ∧ (k ≤ n ∨ k = 1) ∧ v = .int .i64 (k : Nat) ∧ ascAt ds k = true ∧ wr = w.drewN q) (fun v _ => n + 1 - (intOf v).toNat)
  case atStart => exact ⟨1, 0, by omega, .inr rfl, rfl, (ascAt_iff _ _).2 fun i hi => (by omega), rfl⟩
  case round =>
    obtain ⟨k, q, hk1, hk, rfl, hin, rfl⟩ := hrel
    have Hin := Lib.hid hin
    clear hin
    by_cases hkn : k < n
    · obtain ⟨b, o, rfl, hbB, hc⟩ : ∃ b o, A = some ⟨b, o, none⟩ ∧ b < B ∧ ∀ j, j < n → w.cell? ⟨b, o + j, none⟩ = some (.int .i64 (ds.getD j 0)) := by
        rcases H.out.2 with h0 | ⟨b, o, hA, hbB, hc⟩
        · omega
        · exact ⟨b, o, hA, hbB, hc⟩
      obtain ⟨j, rfl⟩ : ∃ j, k = j + 1 := ⟨k - 1, by omega⟩
      have ck := hc (j + 1) hkn
      have cj := hc j (by omega)
      obtain ⟨x, hx⟩ : ∃ x, ds.getD (j + 1) 0 = x := ⟨_, rfl⟩
      obtain ⟨y, hy⟩ : ∃ y, ds.getD j 0 = y := ⟨_, rfl⟩
      rw [hx] at ck
      rw [hy] at cj
      have Hx := Lib.hid hx
      have Hy := Lib.hid hy
      have e1 : IntKind.i64.wrap (((j + 1 : Nat) : Int) - 1) = (j : Nat) := by simp [IntKind.wrap, IntKind.bits, IntKind.signed]; omega
      have e2 : ((j + 1 : Nat) : Int) - 1 = (j : Nat) := by omega
      have hjn : (j : Int) < n := by omega
      have hjn1 : ((j + 1 : Nat) : Int) < n := by omega
      clear hc hx hy
      by_cases hb : y < x
      · have hd : decide (x ≤ y) = false := by simp; omega
        have Hin2 := Lib.hid ((ascAt_iff ds (j + 1 + 1)).2 fun i hi' => by
          by_cases e : i = j
          · subst e; rw [Hx.out, Hy.out]; exact hb
          · exact (ascAt_iff _ _).1 Hin.out i (by omega))
        have hnle : ¬ x ≤ y := by omega
        go_wp2_with fail
        go_quiet (fail)
        go_wp2_with fail
        go_roundw
        case rel => exact ⟨j + 1 + 1, _, by omega, .inl (by omega), by go_num, Hin2.out, rfl⟩
        case measure => simp [intOf]; omega
      · have hle : x ≤ y := by omega
        have Hno : Hid (ascIn ds lo hi = false) := Lib.hid (by
          rw [Bool.eq_false_iff]
          intro h
          rw [ascIn, Bool.and_eq_true] at h
          have := (ascAt_iff _ _).1 h.1 j (by rw [Hl.out]; exact hkn)
          rw [Hx.out, Hy.out] at this
          exact hb this)
        go_wp2_with fail
        go_quiet (fail)
        go_wp2_with fail
        go_ret
        exact ⟨by rw [Hno.out]; rfl, _, World.drewN_drewN _ _ _⟩
    · have Hyes : Hid (ascAt ds ds.length = true) := Lib.hid ((ascAt_iff _ _).2 fun i hi => (ascAt_iff _ _).1 Hin.out i (by have := Hl.out; omega))
      have H2 : Hid (Ints (w.drewN q) B A n ds) := Lib.hid H.out
      go_wp2_with fail
      refine (s_allInA _ _ _ _ _ ds lo hi H2.out hn).mono ?_
      rintro e w' ⟨rfl, rfl⟩
      go_wp2_with fail
      go_ret
      exact ⟨by rw [ascIn, Hyes.out, Bool.true_and]; rfl, _, rfl⟩
end Go.Proofs.Ytniddfoiakbfdaa

namespace Go.Proofs.Ytniddfoiakbfdaa
set_option maxRecDepth 100000
open Go.RowKit

/-- Dead points: they ascend, are on the board, have stones, and are whole groups. -/
structure Dead (s : Int) (cs ds : List Int) : Prop where
  asc : ∀ i, i + 1 < ds.length → ds.getD i 0 < ds.getD (i + 1) 0
  on : ∀ i, i < ds.length → 0 ≤ ds.getD i 0 ∧ ds.getD i 0 < cs.length
  stone : ∀ i, i < ds.length → cs.getD (ds.getD i 0).toNat 0 ≠ 0
  whole : ∀ i, i < ds.length → ∀ q ∈ Pt.nbs s (ds.getD i 0), cs.getD q.toNat 0 = cs.getD (ds.getD i 0).toNat 0 → q ∈ ds

theorem mem_getD {ds : List Int} {d : Int} (h : d ∈ ds) : ∃ i, i < ds.length ∧ ds.getD i 0 = d := by
  obtain ⟨i, hi, rfl⟩ := List.getElem_of_mem h
  exact ⟨i, hi, by rw [List.getD_eq_getElem?_getD, List.getElem?_eq_getElem hi]; rfl⟩
theorem getD_memR {ds : List Int} {i : Nat} (h : i < ds.length) : ds.getD i 0 ∈ ds := by
  rw [List.getD_eq_getElem?_getD, List.getElem?_eq_getElem h]; exact List.getElem_mem _

theorem hasCol_true {x : Int} {cs : List Int} {k : Nat} (h : (hasCol x cs).getD k false = true) : cs.getD k 0 = x := by
  by_cases hk : k < cs.length
  · rw [hasCol_at hk] at h
    simpa using h
  · rw [List.getD_eq_getElem?_getD, List.getElem?_eq_none (by rw [hasCol_len]; omega)] at h
    cases h

theorem mem_ptsR {S : List Bool} {n : Nat} {y : Int} : y ∈ Fl.pts S n ↔ ∃ q : Nat, q < n ∧ S.getD q false = true ∧ y = (q : Int) := by
  unfold Fl.pts
  rw [List.mem_map]
  constructor
  · rintro ⟨q, hq, rfl⟩
    rw [List.mem_filter, List.mem_range] at hq
    exact ⟨q, hq.1, hq.2, rfl⟩
  · rintro ⟨q, h1, h2, rfl⟩
    exact ⟨q, by rw [List.mem_filter, List.mem_range]; exact ⟨h1, h2⟩, rfl⟩

section
variable {s : Int} {n : Nat} {cs ds : List Int}
/-- The group of a dead stone is dead. -/
theorem Dead.group (h : Dead s cs ds) {i : Nat} (hi : i < ds.length) {l : List Int} (hl : Reached s n (hasCol (cs.getD (ds.getD i 0).toNat 0) cs) (ds.getD i 0) l) : ∀ y ∈ l, y ∈ ds := by
  intro y hy
  obtain ⟨S, hS, hr, rfl⟩ := hl
  obtain ⟨q, hq, hqs, rfl⟩ := mem_ptsR.1 hy
  have hreach := (hr (q : Int) (by omega)).1 (by unfold Fl.at_; rw [Int.toNat_natCast]; exact hqs)
  have key : ∀ z, Fl.Reach s (hasCol (cs.getD (ds.getD i 0).toNat 0) cs) (ds.getD i 0) z → z ∈ ds ∧ cs.getD z.toNat 0 = cs.getD (ds.getD i 0).toNat 0 := by
    intro z hz
    induction hz with
    | base => exact ⟨getD_memR hi, rfl⟩
    | @step x z _ hm hk ih =>
      have hc := hasCol_true hk
      obtain ⟨j, hj, hjx⟩ := mem_getD ih.1
      refine ⟨h.whole j hj z (by rw [hjx]; exact hm) ?_, hc⟩
      rw [hjx, hc, ih.2]
  exact (key _ hreach).1

/-- A list whose stones' groups are in it is whole. -/
theorem whole_of (hlen : cs.length = n) (hnn : ∀ x : Int, 0 ≤ x → x < n → ∀ y ∈ Pt.nbs s x, 0 ≤ y ∧ y < n) {d : Int} (hd : 0 ≤ d ∧ d < n) {l : List Int} (hl : Reached s n (hasCol (cs.getD d.toNat 0) cs) d l) (hin : ∀ y ∈ l, y ∈ ds) :
    ∀ q ∈ Pt.nbs s d, cs.getD q.toNat 0 = cs.getD d.toNat 0 → q ∈ ds := by
  intro q hq hc
  obtain ⟨S, hS, hr, rfl⟩ := hl
  have hqn := hnn d hd.1 hd.2 q hq
  refine hin q (mem_ptsR.2 ⟨q.toNat, by omega, ?_, by omega⟩)
  have hk : Fl.at_ (hasCol (cs.getD d.toNat 0) cs) q = true := by
    unfold Fl.at_
    rw [hasCol_at (by omega), hc]
    exact beq_self_eq_true _
  exact (hr q hqn.1).2 (.step .base hq hk)
end

/-- The board's cells without some stones. -/
def clr (cs ds : List Int) : List Int := ds.foldl (fun c d => c.set d.toNat 0) cs
theorem clr_take {cs ds : List Int} {i : Nat} (h : i < ds.length) : clr cs (ds.take (i + 1)) = (clr cs (ds.take i)).set (ds.getD i 0).toNat 0 := by
  unfold clr
  rw [List.take_succ_eq_append_getElem h, List.foldl_append]
  have e : ds[i] = ds.getD i 0 := by rw [List.getD_eq_getElem?_getD, List.getElem?_eq_getElem h]; rfl
  rw [e]
  rfl
theorem clr_len (ds : List Int) : ∀ cs : List Int, (clr cs ds).length = cs.length := by
  induction ds with
  | nil => intro cs; rfl
  | cons d ds ih => intro cs; exact (ih _).trans (List.length_set ..)
theorem clr_getD (ds : List Int) : ∀ (cs : List Int), (∀ d ∈ ds, 0 ≤ d) → ∀ k : Nat, (clr cs ds).getD k 0 = if (k : Int) ∈ ds then 0 else cs.getD k 0 := by
  induction ds with
  | nil => intro cs _ k; simp [clr]
  | cons d ds ih =>
    intro cs h k
    have e : clr cs (d :: ds) = clr (cs.set d.toNat 0) ds := rfl
    rw [e, ih _ (fun x hx => h x (List.mem_cons_of_mem _ hx))]
    have hd := h d (List.mem_cons_self ..)
    by_cases hm : (k : Int) ∈ ds
    · rw [if_pos hm, if_pos (List.mem_cons_of_mem _ hm)]
    · rw [if_neg hm]
      by_cases hk : (k : Int) = d
      · rw [if_pos (by rw [hk]; exact List.mem_cons_self ..)]
        have : d.toNat = k := by omega
        rw [this, List.getD_eq_getElem?_getD, List.getElem?_set]
        by_cases hl : k < cs.length
        · rw [if_pos rfl, if_pos hl]; rfl
        · rw [if_pos rfl, if_neg hl]; rfl
      · rw [if_neg (by rw [List.mem_cons]; intro h9; rcases h9 with h9 | h9; exact hk h9; exact hm h9), List.getD_eq_getElem?_getD, List.getElem?_set, if_neg (by omega), ← List.getD_eq_getElem?_getD]

/-- What RemoveDead leads to. -/
def Rmv (s : Int) (cs ds : List Int) (ok : Bool) (s' : Int) (cs' : List Int) : Prop :=
  (ok = true ∧ Bd.okB s cs = true ∧ Dead s cs ds ∧ s' = s ∧ cs' = clr cs ds) ∨ (ok = false ∧ ¬ (Bd.okB s cs = true ∧ Dead s cs ds) ∧ s' = 0 ∧ cs' = [])
theorem Rmv.ex (s : Int) (cs ds : List Int) : ∃ ok s' cs', Rmv s cs ds ok s' cs' := by
  by_cases h : Bd.okB s cs = true ∧ Dead s cs ds
  · exact ⟨true, s, clr cs ds, .inl ⟨rfl, h.1, h.2, rfl, rfl⟩⟩
  · exact ⟨false, 0, [], .inr ⟨rfl, h, rfl, rfl⟩⟩
theorem Rmv.one {s : Int} {cs ds : List Int} {ok ok' : Bool} {s1 s2 : Int} {c1 c2 : List Int} (h : Rmv s cs ds ok s1 c1) (h' : Rmv s cs ds ok' s2 c2) : ok' = ok ∧ s2 = s1 ∧ c2 = c1 := by
  rcases h with ⟨rfl, a, b, rfl, rfl⟩ | ⟨rfl, a, rfl, rfl⟩
  · rcases h' with ⟨rfl, _, _, rfl, rfl⟩ | ⟨_, a', _, _⟩
    · exact ⟨rfl, rfl, rfl⟩
    · exact absurd ⟨a, b⟩ a'
  · rcases h' with ⟨_, a', b', _, _⟩ | ⟨rfl, _, rfl, rfl⟩
    · exact absurd ⟨a', b'⟩ a
    · exact ⟨rfl, rfl, rfl⟩
theorem Rmv.len {s : Int} {cs ds : List Int} {ok : Bool} {s' : Int} {cs' : List Int} (h : Rmv s cs ds ok s' cs') : cs'.length ≤ 49 := by
  rcases h with ⟨_, h1, _, _, rfl⟩ | ⟨_, _, _, rfl⟩
  · obtain ⟨q1, q2, q3, _⟩ := (Bd.okB_iff s cs).1 h1
    have := Pt.sq_bd s q1 q2
    rw [clr_len]; omega
  · simp

/-- The first i dead points pass what is asked of each of them. -/
def DPre (cs ds : List Int) (i : Nat) : Prop := ∀ j, j < i → 0 ≤ ds.getD j 0 ∧ ds.getD j 0 < cs.length ∧ cs.getD (ds.getD j 0).toNat 0 ≠ 0 ∧ (0 < j → ds.getD (j - 1) 0 < ds.getD j 0)
theorem DPre.start (cs ds : List Int) : DPre cs ds 0 := fun j hj => absurd hj (Nat.not_lt_zero j)
theorem DPre.step {cs ds : List Int} {i : Nat} (h : DPre cs ds i) (h1 : 0 ≤ ds.getD i 0 ∧ ds.getD i 0 < cs.length ∧ cs.getD (ds.getD i 0).toNat 0 ≠ 0 ∧ (0 < i → ds.getD (i - 1) 0 < ds.getD i 0)) : DPre cs ds (i + 1) := by
  intro j hj
  by_cases e : j = i
  · subst e; exact h1
  · exact h j (by omega)
theorem Dead.pre {s : Int} {cs ds : List Int} (h : Dead s cs ds) {i : Nat} (hi : i < ds.length) : 0 ≤ ds.getD i 0 ∧ ds.getD i 0 < cs.length ∧ cs.getD (ds.getD i 0).toNat 0 ≠ 0 ∧ (0 < i → ds.getD (i - 1) 0 < ds.getD i 0) :=
  ⟨(h.on i hi).1, (h.on i hi).2, h.stone i hi, fun h0 => by have := h.asc (i - 1) (by omega); rw [show i - 1 + 1 = i by omega] at this; exact this⟩
/-- The marks of the first i dead points. -/
def DMk (n : Nat) (ds : List Int) (i : Nat) (S : List Bool) : Prop := S.length = n ∧ ∀ q, q < n → (S.getD q false = true ↔ (q : Int) ∈ ds.take i)
theorem DMk.start (n : Nat) (ds : List Int) : DMk n ds 0 (List.replicate n false) := by
  refine ⟨by simp, fun q hq => ?_⟩
  rw [List.getD_eq_getElem?_getD, List.getElem?_replicate, if_pos hq]
  simp
theorem DMk.step {n : Nat} {ds : List Int} {i : Nat} {S : List Bool} (h : DMk n ds i S) (hi : i < ds.length) {d : Nat} (hd : ds.getD i 0 = (d : Int)) : DMk n ds (i + 1) (S.set d true) := by
  refine ⟨by rw [List.length_set]; exact h.1, fun q hq => ?_⟩
  have e : ds[i] = (d : Int) := by rw [← hd, List.getD_eq_getElem?_getD, List.getElem?_eq_getElem hi]; rfl
  rw [List.take_succ_eq_append_getElem hi, List.mem_append, List.mem_singleton, e, List.getD_eq_getElem?_getD, List.getElem?_set]
  by_cases e2 : d = q
  · subst e2
    rw [if_pos rfl, if_pos (by rw [h.1]; exact hq)]
    simp
  · rw [if_neg e2, ← List.getD_eq_getElem?_getD, h.2 q hq]
    constructor
    · exact .inl
    · rintro (h | h)
      · exact h
      · omega
/-- The first i dead points have no living neighbour of their color; nor has the next one among its first k. -/
def DWh (s : Int) (cs ds : List Int) (i k : Nat) : Prop :=
  (∀ j, j < i → ∀ q ∈ Pt.nbs s (ds.getD j 0), cs.getD q.toNat 0 = cs.getD (ds.getD j 0).toNat 0 → q ∈ ds) ∧
  (∀ q ∈ (Pt.nbs s (ds.getD i 0)).take k, cs.getD q.toNat 0 = cs.getD (ds.getD i 0).toNat 0 → q ∈ ds)
theorem DWh.start (s : Int) (cs ds : List Int) : DWh s cs ds 0 0 := ⟨fun j hj => absurd hj (Nat.not_lt_zero j), fun q hq => by simp at hq⟩
theorem DWh.step {s : Int} {cs ds : List Int} {i k : Nat} (h : DWh s cs ds i k) (hk : k < (Pt.nbs s (ds.getD i 0)).length) {q : Int} (hq : (Pt.nbs s (ds.getD i 0)).getD k 0 = q) (hin : cs.getD q.toNat 0 = cs.getD (ds.getD i 0).toNat 0 → q ∈ ds) : DWh s cs ds i (k + 1) := by
  refine ⟨h.1, fun y hy => ?_⟩
  have e : (Pt.nbs s (ds.getD i 0))[k] = q := by
    generalize Pt.nbs s (ds.getD i 0) = L at hk hq
    rw [← hq, List.getD_eq_getElem?_getD, List.getElem?_eq_getElem hk]; rfl
  rw [List.take_succ_eq_append_getElem hk, List.mem_append, List.mem_singleton, e] at hy
  rcases hy with hy | rfl
  · exact h.2 y hy
  · exact hin
theorem DWh.next {s : Int} {cs ds : List Int} {i k : Nat} (h : DWh s cs ds i k) (hk : (Pt.nbs s (ds.getD i 0)).length ≤ k) : DWh s cs ds (i + 1) 0 := by
  refine ⟨fun j hj => ?_, fun q hq => by simp at hq⟩
  by_cases e : j = i
  · subst e
    have := h.2
    rw [List.take_of_length_le hk] at this
    exact this
  · exact h.1 j (by omega)
theorem Dead.make {s : Int} {cs ds : List Int} (h1 : DPre cs ds ds.length) (h2 : DWh s cs ds ds.length 0) : Dead s cs ds :=
  ⟨fun i hi => by have := (h1 (i + 1) hi).2.2.2 (by omega); rw [show i + 1 - 1 = i by omega] at this; exact this, fun i hi => ⟨(h1 i hi).1, (h1 i hi).2.1⟩, fun i hi => (h1 i hi).2.2.1, h2.1⟩
end Go.Proofs.Ytniddfoiakbfdaa

namespace Go.Proofs.Ytniddfoiakbfdaa
set_option maxRecDepth 100000
open Go.RowKit

set_option maxRecDepth 100000 in
set_option maxHeartbeats 8000000 in
theorem i_validDead (s : Int) (w : World) (B B' : Nat) (A P : Option Addr) (n c m pc : Nat) (cs ds : List Int) (h : Ints w B A n cs) (h' : Ints w B' P m ds) (hB : B ≤ w.heap.size) (hB' : B' ≤ w.heap.size) (hv : Bd.okB s cs = true) (hm : m ≤ 1048576) :
    Calls Try.prog 41 #[.agg #[.int .i64 s, .slice A n c], .slice P m pc] w fun e w' => ∃ b, e = .returned (.bool b) ∧ (b = true → Dead s cs ds) ∧ (b = false → ¬ Dead s cs ds) ∧ Below w.heap.size w w' := by
  obtain ⟨h1, h2, h3, _⟩ := (Bd.okB_iff s cs).1 hv
  have hsq := Pt.sq_bd s h1 h2
  have hcl := h.1
  have hn : (n : Int) = s * s := by omega
  have hn49 : n ≤ 49 := by omega
  have hb1 : Below w.heap.size w (w.alloc (.cells #[.int .i64 s, .slice A n c] 25)) := (Below.refl _ _).alloc (Nat.le_refl _) _
  have X0 := Lib.hid (Bx.new 25 w s (.slice A n c))
  have H := Lib.hid (h.below hb1 hB)
  have HP := Lib.hid (h'.below hb1 hB')
  have Hb := Lib.hid hb1
  have Hv := Lib.hid hv
  have Hcl := Lib.hid hcl
  have Hdl := Lib.hid h'.1
  have Hnn := Lib.hid (nbs_in h1 h2 hn)
  have Hn := Lib.hid hn
  clear h h' hb1 hv h3 hn hcl
  go_enter Try.func41, Try.ntmps41
  go_upto_region 1 with (fail)
  obtain ⟨y0, hy⟩ : ∃ y, y = w.alloc (.cells #[.int .i64 s, .slice A n c] 25) := ⟨_, rfl⟩
  have hyz : w.heap.size < y0.heap.size := by rw [hy]; simp
  rw [← hy] at X0 H HP Hb ⊢
  clear hy
  have u0 := X0.out.cell0
  have u1 := X0.out.cell1
  have ul := X0.out.lt
  go_upto_region 2 with (at_make; refine makeB rfl _ rfl _ _ n rfl rfl (by omega) ?_; intro y1 hbl hb hlt)
  have Hbl := Lib.hid hbl
  have Hb1 := Lib.hid hb
  have Hp0 := Lib.hid (DPre.start cs ds)
  have Hk0 := Lib.hid (DMk.start n ds)
  clear hbl hb u0 u1
  go_wp2_with fail
  go_loopw [18] (fun i wr => ∃ k S, k ≤ m ∧ i = .int .i64 (k : Nat) ∧ Bl wr y0.heap.size S ∧ DPre cs ds k ∧ DMk n ds k S ∧ Below y0.heap.size y0 wr) (fun i _ => m - (intOf i).toNat)
  case atStart => exact ⟨0, _, by omega, rfl, Hbl.out, Hp0.out, Hk0.out, Hb1.out⟩
  case round =>
    clear Hbl Hb1 Hp0 Hk0
    obtain ⟨k, S, hk, rfl, hbl, hpre, hmk, hbr⟩ := hrel
    have hz := hbr.size
    have hgl := hbl.lt
    have X0r := Lib.hid (X0.out.below hbr ul)
    have HPr := Lib.hid (HP.out.below hbr (by omega))
    have Hr := Lib.hid (H.out.below hbr (by omega))
    have Hbl := Lib.hid hbl
    have Hpre := Lib.hid hpre
    have Hmk := Lib.hid hmk
    have Hbr := Lib.hid hbr
    clear hbl hpre hmk hbr
    by_cases hkm : k < m
    · obtain ⟨bp, op, rfl, hbP, hcp⟩ : ∃ bp op, P = some ⟨bp, op, none⟩ ∧ bp < B' ∧ ∀ j, j < m → wr.cell? ⟨bp, op + j, none⟩ = some (.int .i64 (ds.getD j 0)) := by
        rcases HPr.out.2 with h0 | ⟨b, o, hA, hbB, hc⟩
        · omega
        · exact ⟨b, o, hA, hbB, hc⟩
      have cz := hcp k hkm
      obtain ⟨d, hd⟩ : ∃ d, ds.getD k 0 = d := ⟨_, rfl⟩
      rw [hd] at cz
      have Hd := Lib.hid hd
      have Hcp := Lib.hid hcp
      clear hd hcp
      have v0 := X0r.out.cell0
      have v1 := X0r.out.cell1
      have vl := X0r.out.lt
      have hkm' : (k : Int) < m := by omega
      rcases Bool.eq_false_or_eq_true (hst s cs d) with hs | hs
      · obtain ⟨_, hop, hstn⟩ := hst_iff hs
        obtain ⟨_, _, d0, d1⟩ := (Pt.okP_iff s d).1 hop
        obtain ⟨e, rfl⟩ := Int.eq_ofNat_of_zero_le d0
        have hen : e < n := by have := Hn.out; omega
        have Hst : Hid (cs.getD e 0 ≠ 0) := Lib.hid (by rw [Int.toNat_natCast] at hstn; exact hstn)
        have Hmk2 := Lib.hid (Hmk.out.step (i := k) (by rw [Hdl.out]; exact hkm) Hd.out)
        clear hop hstn d0 d1
        by_cases hk0 : k = 0
        · have Hpre2 := Lib.hid (Hpre.out.step (i := k) ⟨by rw [Hd.out]; omega, by rw [Hd.out, Hcl.out]; omega, by rw [Hd.out, Int.toNat_natCast]; exact Hst.out, fun h0 => by omega⟩)
          have hk0i : ¬ (0 : Int) < (k : Nat) := by omega
          have Hk0 := Lib.hid hk0
          clear hk0
          go_wp2_with fail
          refine (i_hasStone s _ _ _ _ _ _ cs Hr.out (by omega) (by omega)).mono ?_
          rintro e9 yc ⟨rfl, hb⟩
          rw [hs]
          clear hs
          have hzc := hb.size
          have Hblc := Lib.hid (Hbl.out.below hb hgl)
          have Hbc := Lib.hid (Hbr.out.trans (hb.mono (by omega)))
          obtain ⟨u, hu⟩ : ∃ u, yc.cell? ⟨y0.heap.size, e, none⟩ = some u := ⟨_, Hblc.out.cell (by rw [Hmk.out.1]; exact hen)⟩
          have hf := Hblc.out.frozen e
          have Hbs := Lib.hid (Hblc.out.set_ e true)
          clear hb v0 v1 vl cz
          go_wp2_with fail
          go_roundw
          case rel => exact ⟨k + 1, _, by omega, by go_num, Hbs.out, Hpre2.out, Hmk2.out, Hbc.out.setCell (by show y0.heap.size ≤ y0.heap.size; omega) _⟩
          case measure => simp [intOf]; omega
        · obtain ⟨j, rfl⟩ : ∃ j, k = j + 1 := ⟨k - 1, by omega⟩
          have hk0i : (0 : Int) < ((j + 1 : Nat) : Int) := by omega
          have e1 : IntKind.i64.wrap (((j + 1 : Nat) : Int) - 1) = (j : Nat) := by simp [IntKind.wrap, IntKind.bits, IntKind.signed]; omega
          have e2 : ((j + 1 : Nat) : Int) - 1 = (j : Nat) := by omega
          have hjm : (j : Int) < m := by omega
          obtain ⟨x, hx⟩ : ∃ x, ds.getD j 0 = x := ⟨_, rfl⟩
          have Hx := Lib.hid hx
          clear hx
          by_cases hlt : x < (e : Int)
          · have Hpre2 := Lib.hid (Hpre.out.step (i := j + 1) ⟨by rw [Hd.out]; omega, by rw [Hd.out, Hcl.out]; omega, by rw [Hd.out, Int.toNat_natCast]; exact Hst.out, fun h0 => by rw [Hd.out, show j + 1 - 1 = j by omega, Hx.out]; exact hlt⟩)
            have hnle : ¬ (e : Int) ≤ x := by omega
            go_wp2_with fail
            refine (i_hasStone s _ _ _ _ _ _ cs Hr.out (by omega) (by omega)).mono ?_
            rintro e9 yc ⟨rfl, hb⟩
            rw [hs]
            clear hs
            have hzc := hb.size
            have Hblc := Lib.hid (Hbl.out.below hb hgl)
            have Hbc := Lib.hid (Hbr.out.trans (hb.mono (by omega)))
            have cx := (hb.cell (p := ⟨bp, op + j, none⟩) (by show bp < _; omega)).trans (Hcp.out j (by omega))
            rw [Hx.out] at cx
            obtain ⟨u, hu⟩ : ∃ u, yc.cell? ⟨y0.heap.size, e, none⟩ = some u := ⟨_, Hblc.out.cell (by rw [Hmk.out.1]; exact hen)⟩
            have hf := Hblc.out.frozen e
            have Hbs := Lib.hid (Hblc.out.set_ e true)
            clear hb v0 v1 vl cz
            go_wp2_with fail
            go_roundw
            case rel => exact ⟨j + 1 + 1, _, by omega, by go_num, Hbs.out, Hpre2.out, Hmk2.out, Hbc.out.setCell (by show y0.heap.size ≤ y0.heap.size; omega) _⟩
            case measure => simp [intOf]; omega
          · have hle : (e : Int) ≤ x := by omega
            have Hno : Hid (¬ Dead s cs ds) := Lib.hid (fun hD => by
              have := (hD.pre (i := j + 1) (by rw [Hdl.out]; exact hkm)).2.2.2 (by omega)
              rw [show j + 1 - 1 = j by omega, Hx.out, Hd.out] at this
              exact hlt this)
            go_wp2_with fail
            refine (i_hasStone s _ _ _ _ _ _ cs Hr.out (by omega) (by omega)).mono ?_
            rintro e9 yc ⟨rfl, hb⟩
            rw [hs]
            clear hs
            have hzc := hb.size
            have Hbf := Lib.hid (Hb.out.trans ((Hbr.out.trans (hb.mono (by omega))).mono (by omega)))
            have cx := (hb.cell (p := ⟨bp, op + j, none⟩) (by show bp < _; omega)).trans (Hcp.out j (by omega))
            rw [Hx.out] at cx
            clear hb v0 v1 vl cz
            go_wp2_with fail
            go_ret
            exact ⟨false, rfl, (fun h => by cases h), (fun _ => Hno.out), Hbf.out⟩
      · have Hno : Hid (¬ Dead s cs ds) := Lib.hid (fun hD => by
          obtain ⟨a1, a2, a3, _⟩ := hD.pre (i := k) (by rw [Hdl.out]; exact hkm)
          rw [Hd.out] at a1 a2 a3
          have : hst s cs d = true := by
            have hop : Pt.okP s d = true := (Pt.okP_iff s d).2 ⟨h1, h2, a1, by have := Hn.out; have := Hcl.out; omega⟩
            unfold hst
            rw [Hv.out, hop]
            simpa using a3
          rw [this] at hs
          cases hs)
        go_wp2_with fail
        refine (i_hasStone s _ _ _ _ _ _ cs Hr.out (by omega) (by omega)).mono ?_
        rintro e9 yc ⟨rfl, hb⟩
        rw [hs]
        clear hs
        have Hbf := Lib.hid (Hb.out.trans ((Hbr.out.trans (hb.mono (by omega))).mono (by omega)))
        clear hb v0 v1 vl cz
        go_wp2_with fail
        go_ret
        exact ⟨false, rfl, (fun h => by cases h), (fun _ => Hno.out), Hbf.out⟩
    · obtain ⟨wo, rfl⟩ : ∃ wo : World, wo = wr := ⟨_, rfl⟩
      obtain rfl : m = k := by omega
      have Hpre2 : Hid (DPre cs ds ds.length) := Lib.hid (by rw [Hdl.out]; exact Hpre.out)
      have Hin : Hid (∀ q, q < n → (S.getD q false = true ↔ (q : Int) ∈ ds)) := Lib.hid (fun q hq => by
        have := Hmk.out.2 q hq
        rw [List.take_of_length_le (by rw [Hdl.out]; exact Nat.le_refl _)] at this
        exact this)
      have Hsl := Lib.hid Hmk.out.1
      have Hw0 := Lib.hid (DWh.start s cs ds)
      go_wp2_with fail
      go_loopw [46] (fun i w2 => ∃ k, k ≤ m ∧ i = .int .i64 (k : Nat) ∧ DWh s cs ds k 0 ∧ Below wo.heap.size wo w2) (fun i _ => m - (intOf i).toNat)
      case atStart => exact ⟨0, by omega, rfl, Hw0.out, Below.refl _ _⟩
      case round =>
        clear Hw0
        obtain ⟨k, hk, rfl, hwh, hb2⟩ := hrel
        obtain ⟨w2, rfl⟩ : ∃ w2 : World, w2 = wr := ⟨_, rfl⟩
        have Hwh := Lib.hid hwh
        have Hb2 := Lib.hid hb2
        have hz2 := hb2.size
        have X2 := Lib.hid (X0r.out.below hb2 (by omega))
        have HP2 := Lib.hid (HPr.out.below hb2 (by omega))
        have H2 := Lib.hid (Hr.out.below hb2 (by omega))
        have Bl2 := Lib.hid (Hbl.out.below hb2 hgl)
        clear hwh hb2
        by_cases hkm : k < m
        · obtain ⟨bp, op, rfl, hbP, hcp⟩ : ∃ bp op, P = some ⟨bp, op, none⟩ ∧ bp < B' ∧ ∀ j, j < m → w2.cell? ⟨bp, op + j, none⟩ = some (.int .i64 (ds.getD j 0)) := by
            rcases HP2.out.2 with h0 | ⟨b, o, hA, hbB, hc⟩
            · omega
            · exact ⟨b, o, hA, hbB, hc⟩
          obtain ⟨p1, p2, _, _⟩ := Hpre.out k hkm
          have cz := hcp k hkm
          obtain ⟨d, hd⟩ : ∃ d, ds.getD k 0 = d := ⟨_, rfl⟩
          rw [hd] at cz p1 p2
          have Hd := Lib.hid hd
          clear hd hcp
          obtain ⟨e, rfl⟩ := Int.eq_ofNat_of_zero_le p1
          have hen : e < n := by have := Hcl.out; omega
          have hes : (e : Int) < s * s := by have := Hn.out; omega
          obtain ⟨b, o, rfl, hbB, hc⟩ : ∃ b o, A = some ⟨b, o, none⟩ ∧ b < B ∧ ∀ j, j < n → w2.cell? ⟨b, o + j, none⟩ = some (.int .i64 (cs.getD j 0)) := by
            rcases H2.out.2 with h0 | ⟨b, o, hA, hbB, hc⟩
            · omega
            · exact ⟨b, o, hA, hbB, hc⟩
          have Hc := Lib.hid hc
          clear hc
          have v0 := X2.out.cell0
          have v1 := X2.out.cell1
          have vl := X2.out.lt
          have hkm' : (k : Int) < m := by omega
          go_wp2_with fail
          refine (i_nbs s e _ h1 h2 p1 hes).mono ?_
          rintro e9 yc ⟨A2, n2, c2, rfl, ho, hb⟩
          have hn2 : n2 ≤ 4 := by have := ho.1; have := nbs_few s e; omega
          have hzc := hb.size
          have Ho := Lib.hid ho
          have Hlo := Lib.hid ho.1
          have X2c := Lib.hid (X2.out.below hb vl)
          have Blc := Lib.hid (Bl2.out.below hb (by omega))
          have Hbc := Lib.hid (Hb2.out.trans (hb.mono (by omega)))
          have Hcc : Hid (∀ j, j < n → yc.cell? ⟨b, o + j, none⟩ = some (.int .i64 (cs.getD j 0))) := Lib.hid (fun j hj => (hb.cell (p := ⟨b, o + j, none⟩) (by show b < _; omega)).trans (Hc.out j hj))
          clear ho hb v0 v1 cz
          have v0 := X2c.out.cell0
          have v1 := X2c.out.cell1
          have v2 := X2c.out.lt
          go_wp2_with fail
          go_loopw [55] (fun i wi => ∃ j q, j ≤ n2 ∧ i = .int .i64 (j : Nat) ∧ DWh s cs ds k j ∧ wi = yc.drewN q) (fun i _ => n2 - (intOf i).toNat)
          case atStart => exact ⟨0, 0, by omega, rfl, Hwh.out, rfl⟩
          case round =>
            obtain ⟨j, q9, hj, rfl, hwh, rfl⟩ := hrel
            have Hwj := Lib.hid hwh
            clear hwh
            by_cases hjn : j < n2
            · obtain ⟨nb, hA2⟩ : ∃ nb, A2 = some ⟨nb, 0, none⟩ := by
                obtain ⟨g, cap, hv, _⟩ := World.ownsRow.form Ho.out.2 (by omega)
                exact ⟨g, by injection hv⟩
              have hnb := Ho.out.ge hA2
              have hon := Ho.out
              rw [hA2] at hon
              have hjl : j < (Pt.nbs s e).length := by rw [Hlo.out]; exact hjn
              have hcn := hon.cellD j hjn
              have hmem : (Pt.nbs s e).getD j 0 ∈ Pt.nbs s e := by
                rw [List.getD_eq_getElem?_getD, List.getElem?_eq_getElem hjl]; exact List.getElem_mem _
              obtain ⟨q0, qn⟩ := Hnn.out e p1 (by omega) _ hmem
              obtain ⟨q, hq⟩ : ∃ q, (Pt.nbs s e).getD j 0 = q := ⟨_, rfl⟩
              rw [hq] at hcn q0 qn hmem
              obtain ⟨t, rfl⟩ := Int.eq_ofNat_of_zero_le q0
              have htn : t < n := by omega
              have Hq := Lib.hid hq
              have Hmem := Lib.hid hmem
              have ct := Hcc.out t htn
              have ce := Hcc.out e hen
              have cb := Blc.out.cell (j := t) (by rw [Hsl.out]; exact htn)
              obtain ⟨x, hx⟩ : ∃ x, cs.getD t 0 = x := ⟨_, rfl⟩
              obtain ⟨z, hz⟩ : ∃ z, cs.getD e 0 = z := ⟨_, rfl⟩
              rw [hx] at ct
              rw [hz] at ce
              have Hx := Lib.hid hx
              have Hz := Lib.hid hz
              have Hjl : Hid (j < (Pt.nbs s (ds.getD k 0)).length) := Lib.hid (by rw [Hd.out]; exact hjl)
              have Hqd : Hid ((Pt.nbs s (ds.getD k 0)).getD j 0 = (t : Int)) := Lib.hid (by rw [Hd.out]; exact Hq.out)
              rw [hA2]
              have hj2 : (j : Int) < n2 := by omega
              clear hq hmem hjl hA2 hon hx hz
              by_cases hxz : x = z
              · subst hxz
                obtain ⟨bt, hbt⟩ : ∃ bt, S.getD t false = bt := ⟨_, rfl⟩
                rw [hbt] at cb
                have Hbt := Lib.hid hbt
                clear hbt
                rcases Bool.eq_false_or_eq_true bt with rfl | rfl
                · have Hwn := Lib.hid (Hwj.out.step Hjl.out Hqd.out (fun _ => (Hin.out t htn).1 Hbt.out))
                  go_wp2_with fail
                  go_quiet (fail)
                  go_wp2_with fail
                  go_roundw
                  case rel => exact ⟨j + 1, _, by omega, by go_num, Hwn.out, rfl⟩
                  case measure => simp [intOf]; omega
                · have Hno : Hid (¬ Dead s cs ds) := Lib.hid (fun hD => by
                    have hm1 := hD.whole k (by rw [Hdl.out]; exact hkm) (t : Int) (by rw [Hd.out]; exact Hmem.out) (by rw [Hd.out, Int.toNat_natCast, Int.toNat_natCast, Hx.out, Hz.out])
                    have := (Hin.out t htn).2 hm1
                    rw [Hbt.out] at this
                    cases this)
                  have Hbf : Hid (∀ q', Below w.heap.size w ((yc.drewN q9).drewN q')) := Lib.hid (fun q' => drew_below (drew_below (Hb.out.trans ((Hbr.out.trans (Hbc.out.mono (by omega))).mono (by omega))) q9) q')
                  go_wp2_with fail
                  go_quiet (fail)
                  go_wp2_with fail
                  go_ret
                  exact ⟨false, rfl, (fun h => by cases h), (fun _ => Hno.out), by first | exact Hbf.out _ | exact World.drewN_drewN yc _ _ ▸ Hbf.out _⟩
              · have hxb : (x == z) = false := by simpa using hxz
                have Hwn := Lib.hid (Hwj.out.step Hjl.out Hqd.out (fun h9 => absurd h9 (by rw [Hd.out, Int.toNat_natCast, Int.toNat_natCast, Hx.out, Hz.out]; exact hxz)))
                go_wp2_with fail
                go_quiet (fail)
                go_wp2_with fail
                go_roundw
                case rel => exact ⟨j + 1, _, by omega, by go_num, Hwn.out, rfl⟩
                case measure => simp [intOf]; omega
            · have Hwn := Lib.hid (Hwj.out.next (by rw [Hd.out, Hlo.out]; omega))
              have Hbn := Lib.hid (drew_below Hbc.out q9)
              go_wp2_with fail
              go_roundw
              case rel => exact ⟨k + 1, by omega, by go_num, Hwn.out, Hbn.out⟩
              case measure => simp [intOf]; omega
        · obtain rfl : m = k := by omega
          have HD := Lib.hid (Dead.make Hpre2.out (by rw [Hdl.out]; exact Hwh.out))
          have Hbf := Lib.hid (Hb.out.trans ((Hbr.out.trans (Hb2.out.mono (by omega))).mono (by omega)))
          go_wp2_with fail
          go_ret
          exact ⟨true, rfl, (fun _ => HD.out), (fun h => by cases h), Hbf.out⟩
end Go.Proofs.Ytniddfoiakbfdaa

namespace Go.Proofs.Ytniddfoiakbfdaa
set_option maxRecDepth 100000
open Go.RowKit

theorem run_eql_nil {P : Program} (w : World) (t e : TypeId) (a : Option Addr) (l c : Nat) (h : P.underlying t = some (.slice e)) : (binOp .eql t (.slice a l c) (.slice none 0 0)).run P w = .ok (.bool a.isNone) w := by
  have h9 : ∀ d : Nat, (Op.equalIn (d + 1) t (.slice a l c) (.slice none 0 0)).run P w = .ok a.isNone w := fun d => by
    cases a <;> simp [Op.equalIn, run_underlying h]
  simp only [binOp]
  simp [Op.equal, Op.maxDepth, h9 9999]

theorem i_clone (w : World) (B : Nat) (A : Option Addr) (n c : Nat) (xs : List Int) (h : Ints w B A n xs) (hB : B ≤ w.heap.size) (hn : n ≤ 1000000) (h0 : 0 < n) :
    Calls Try.prog 42 #[.slice A n c] w fun e w' => ∃ A' c', e = .returned (.slice A' n c') ∧ Own w' w.heap.size A' n c' xs ∧ Below w.heap.size w w' := by
  obtain ⟨b, o, rfl⟩ : ∃ b o, A = some ⟨b, o, none⟩ := by
    rcases h.2 with h1 | ⟨b, o, hA, _⟩
    · omega
    · exact ⟨b, o, hA⟩
  have q22 : ∀ (w : World) (a : Option Addr) (n c : Nat), (binOp .eql 23 (.slice a n c) (.slice none 0 0)).run Try.prog w = .ok (.bool a.isNone) w := fun w a n c => run_eql_nil w _ _ a n c Try.underlying23
  have hb1 : Below w.heap.size w (w.alloc (.cells #[] 3)) := (Below.refl _ _).alloc (Nat.le_refl _) _
  have H := Lib.hid (h.below hb1 hB)
  have Ho := Lib.hid (Own.bare w w.heap.size (Nat.le_refl _))
  have Hb := Lib.hid hb1
  clear h hb1
  go_enter Try.func42, Try.ntmps42
  go_wp2_with (at_builtin; refine appAll rfl _ _ rfl _ _ _ _ _ _ _ _ _ _ _ rfl rfl Ho.out H.out (by simp) (by omega) ?_; intro A' c' w1 hown hb _; simp only [Nat.zero_add, List.nil_append] at hown)
  have Ho1 := Lib.hid hown
  have Hb1 := Lib.hid (Hb.out.trans (hb.mono (Nat.le_refl _)))
  clear hown hb
  go_ret
  exact ⟨_, _, by simp, Ho1.out, Hb1.out⟩

def CpRel (s : Int) (n : Nat) (cs : List Int) (W : World) (p : Value) (wx : World) : Prop :=
  ∃ (A' : Option Addr) (c' gb : Nat), p = .pointer (some ⟨gb, 0, none⟩) ∧ Bx 25 wx gb s (.slice A' n c') ∧ Own wx W.heap.size A' n c' cs ∧ (∀ q, A' = some ⟨q, 0, none⟩ → q ≠ gb) ∧ W.heap.size ≤ gb ∧ Below W.heap.size W wx
theorem CpRel.make {s : Int} {n c3 m1 : Nat} {os : List Int} {W y : World} {A3 : Option Addr} (h3 : Own y m1 A3 n c3 os) (hm : W.heap.size ≤ m1) (hb : Below W.heap.size W y) :
    CpRel s n os W (.pointer (some ⟨y.heap.size, 0, none⟩)) (y.alloc (.cells #[.int .i64 s, .slice A3 n c3] 25)) := by
  have hb2 : Below y.heap.size y (y.alloc (.cells #[.int .i64 s, .slice A3 n c3] 25)) := (Below.refl _ _).alloc (Nat.le_refl _) _
  exact ⟨A3, c3, _, rfl, Bx.new _ _ _ _, (h3.below hb2).weaken hm, fun q e => by have := (h3.ge e).2; omega, hb.size, hb.trans (hb2.mono hb.size)⟩
theorem CpRel.late {s : Int} {n c3 m1 g : Nat} {os : List Int} {W y : World} {A3 : Option Addr} {t : Int} {u : Value} (hx : Bx 25 y g t u) (h3 : Own y m1 A3 n c3 os) (hm : W.heap.size ≤ m1) (k3 : g < m1 ∨ ∀ q, A3 = some ⟨q, 0, none⟩ → q ≠ g) (hb : Below W.heap.size W y) (hg : W.heap.size ≤ g) :
    CpRel s n os W (.pointer (some ⟨g, 0, none⟩)) ((y.setCell ⟨g, 0, none⟩ (.int .i64 s)).setCell ⟨g, 1, none⟩ (.slice A3 n c3)) := by
  have f3 : ∀ q, A3 = some ⟨q, 0, none⟩ → q ≠ g := fun q e => by
    rcases k3 with k | k
    · have := (h3.ge e).1; omega
    · exact k q e
  exact ⟨A3, c3, g, rfl, (hx.set0 s).set1 _, ((h3.far ⟨g, 0, none⟩ f3 (.int .i64 s)).far ⟨g, 1, none⟩ f3 (.slice A3 n c3)).weaken hm, f3, hg, (hb.setCell (p := ⟨g, 0, none⟩) hg (.int .i64 s)).setCell (p := ⟨g, 1, none⟩) hg (.slice A3 n c3)⟩
theorem CpRel.late2 {s : Int} {n c3 m1 : Nat} {os : List Int} {W y : World} {A3 : Option Addr} (h3 : Own y m1 A3 n c3 os) (hm : W.heap.size ≤ m1) (hb : Below W.heap.size W y) :
    CpRel s n os W (.pointer (some ⟨y.heap.size, 0, none⟩)) (((y.alloc (.cells #[.int .i64 0, .slice none 0 0] 25)).setCell ⟨y.heap.size, 0, none⟩ (.int .i64 s)).setCell ⟨y.heap.size, 1, none⟩ (.slice A3 n c3)) := by
  have hb2 : Below y.heap.size y (y.alloc (.cells #[.int .i64 0, .slice none 0 0] 25)) := (Below.refl _ _).alloc (Nat.le_refl _) _
  exact CpRel.late (Bx.new 25 y 0 (.slice none 0 0)) (h3.below hb2) hm (.inr fun q e => by have := (h3.ge e).2; omega) (hb.trans (hb2.mono hb.size)) hb.size
end Go.Proofs.Ytniddfoiakbfdaa

namespace Go.Proofs.Ytniddfoiakbfdaa
set_option maxRecDepth 100000
open Go.RowKit

theorem i_validDeadT (s : Int) (w : World) (B B' : Nat) (A P : Option Addr) (n c m pc : Nat) (cs ds : List Int) (h : Ints w B A n cs) (h' : Ints w B' P m ds) (hB : B ≤ w.heap.size) (hB' : B' ≤ w.heap.size) (hv : Bd.okB s cs = true) (hm : m ≤ 1048576) (b : Bool) (hD : Hid ((b = true → Dead s cs ds) ∧ (b = false → ¬ Dead s cs ds))) :
    Calls Try.prog 41 #[.agg #[.int .i64 s, .slice A n c], .slice P m pc] w fun e w' => e = .returned (.bool b) ∧ Below w.heap.size w w' := by
  refine (i_validDead s w B B' A P n c m pc cs ds h h' hB hB' hv hm).mono ?_
  rintro e w' ⟨b', rfl, h1, h2, h3⟩
  refine ⟨?_, h3⟩
  rcases Bool.eq_false_or_eq_true b with rfl | rfl <;> rcases Bool.eq_false_or_eq_true b' with rfl | rfl
  · rfl
  · exact absurd (hD.out.1 rfl) (h2 rfl)
  · exact absurd (h1 rfl) (hD.out.2 rfl)
  · rfl

theorem two_far {t : TypeId} {y : World} {g g2 : Nat} {s : Int} {v v2 : Value} {s2 : Int} (h : Bx t y g s v) (hne : g ≠ g2) : ((y.setCell ⟨g2, 0, none⟩ (.int .i64 s2)).setCell ⟨g2, 1, none⟩ v2).cell? ⟨g, 0, none⟩ = some (.int .i64 s) ∧ ((y.setCell ⟨g2, 0, none⟩ (.int .i64 s2)).setCell ⟨g2, 1, none⟩ v2).cell? ⟨g, 1, none⟩ = some v :=
  ⟨((h.far (p := ⟨g2, 0, none⟩) hne _).far (p := ⟨g2, 1, none⟩) hne _).cell0, ((h.far (p := ⟨g2, 0, none⟩) hne _).far (p := ⟨g2, 1, none⟩) hne _).cell1⟩
theorem two_far2 {t : TypeId} {y : World} {g : Nat} {s : Int} {v v2 : Value} {s2 : Int} {o : Obj} (h : Bx t y g s v) : (((y.alloc o).setCell ⟨y.heap.size, 0, none⟩ (.int .i64 s2)).setCell ⟨y.heap.size, 1, none⟩ v2).cell? ⟨g, 0, none⟩ = some (.int .i64 s) ∧ (((y.alloc o).setCell ⟨y.heap.size, 0, none⟩ (.int .i64 s2)).setCell ⟨y.heap.size, 1, none⟩ v2).cell? ⟨g, 1, none⟩ = some v :=
  two_far (h.alloc o) (by have := h.lt; omega)

/-- What RemoveDead leads to, at a board and a list. -/
def RmvE (s : Int) (cs ds : List Int) (w : World) (e : Ending) (w' : World) : Prop :=
  ∃ (ok : Bool) (s' : Int) (cs' : List Int) (A : Option Addr) (n c : Nat), Rmv s cs ds ok s' cs' ∧ e = .returned (.tuple #[.agg #[.int .i64 s', .slice A n c], .bool ok]) ∧ Own w' w.heap.size A n c cs' ∧ Below w.heap.size w w'

set_option maxRecDepth 100000 in
set_option maxHeartbeats 8000000 in
theorem i_Rmv (s : Int) (w : World) (B B' : Nat) (A P : Option Addr) (n c m pc : Nat) (cs ds : List Int) (h : Ints w B A n cs) (h' : Ints w B' P m ds) (hB : B ≤ w.heap.size) (hB' : B' ≤ w.heap.size) (hn : n ≤ 1048576) (hm : m ≤ 1048576) :
    Calls Try.prog 19 #[.agg #[.int .i64 s, .slice A n c], .slice P m pc] w fun e w' => RmvE s cs ds w e w' := by
  have e1 : (w.alloc (.cells #[.int .i64 s, .slice A n c] 25)).heap.size = w.heap.size + 1 := by simp
  have x0 := (Bx.new 25 w s (.slice A n c)).alloc (.cells #[.int .i64 0, .slice none 0 0] 25)
  have x1 := Bx.new 25 (w.alloc (.cells #[.int .i64 s, .slice A n c] 25)) 0 (.slice none 0 0)
  rw [e1] at x1
  have hb2 : Below w.heap.size w ((w.alloc (.cells #[.int .i64 s, .slice A n c] 25)).alloc (.cells #[.int .i64 0, .slice none 0 0] 25)) := ((Below.refl _ _).alloc (Nat.le_refl _) _).alloc (by simp) _
  have H := Lib.hid (h.below hb2 hB)
  have HP := Lib.hid (h'.below hb2 hB')
  have Hcl := Lib.hid h.1
  have Hdl := Lib.hid h'.1
  have X0 := Lib.hid x0
  have X1 := Lib.hid x1
  have Hb := Lib.hid hb2
  clear e1 x0 x1 hb2 h h'
  go_enter Try.func19, Try.ntmps19
  go_upto_region 1 with (fail)
  obtain ⟨y2, hy2⟩ : ∃ y, y = ((w.alloc (.cells #[.int .i64 s, .slice A n c] 25)).alloc (.cells #[.int .i64 0, .slice none 0 0] 25)) := ⟨_, rfl⟩
  rw [← hy2] at H HP X0 X1 Hb ⊢
  clear hy2
  have z2 := X1.out.lt
  have u00 := X0.out.cell0
  have u01 := X0.out.cell1
  have u02 := X0.out.lt
  rcases Bool.eq_false_or_eq_true (Bd.okB s cs) with hv | hv
  · obtain ⟨h1, h2, h3, _⟩ := (Bd.okB_iff s cs).1 hv
    have hsq := Pt.sq_bd s h1 h2
    have hn49 : n ≤ 49 := by have := Hcl.out; omega
    have hn0 : 0 < n := by
      have := Hcl.out
      have h9 := Int.mul_le_mul h1 h1 (by decide) (by omega)
      omega
    have Hv := Lib.hid hv
    clear h3
    by_cases hD : Dead s cs ds
    · have HD := Lib.hid hD
      clear hD
      go_wp2_with fail
      refine (i_validBoard _ _ _ _ _ _ _ H.out (by omega) (by omega)).mono ?_
      rintro e y3 ⟨rfl, hb⟩
      rw [hv]
      have X0 := Lib.hid (X0.out.below hb X0.out.lt)
      have X1 := Lib.hid (X1.out.below hb X1.out.lt)
      have H := Lib.hid (H.out.below hb (by omega))
      have HP := Lib.hid (HP.out.below hb (by omega))
      have Hb := Lib.hid (Hb.out.trans (hb.mono (by omega)))
      have z3 := hb.size
      clear hb u00 u01 u02 hv
      have u00 := X0.out.cell0
      have u01 := X0.out.cell1
      have u02 := X0.out.lt
      go_wp2_with fail
      refine (i_validDeadT s _ _ _ _ _ _ _ _ _ cs ds H.out HP.out (by omega) (by omega) Hv.out hm true (Lib.hid ⟨fun _ => HD.out, fun h => by cases h⟩)).mono ?_
      rintro e y4 ⟨rfl, hb⟩
      have X0 := Lib.hid (X0.out.below hb X0.out.lt)
      have X1 := Lib.hid (X1.out.below hb X1.out.lt)
      have H := Lib.hid (H.out.below hb (by omega))
      have HP := Lib.hid (HP.out.below hb (by omega))
      have Hb := Lib.hid (Hb.out.trans (hb.mono (by omega)))
      have z4 := hb.size
      clear hb u00 u01 u02
      have u00 := X0.out.cell0
      have u01 := X0.out.cell1
      have u02 := X0.out.lt
      go_wp2_with fail
      have hbz : Below y4.heap.size y4 (y4.alloc (.cells #[.int .i64 0, .slice none 0 0] 25)) := (Below.refl _ _).alloc (Nat.le_refl _) _
      have Hz := Lib.hid (H.out.below hbz (by omega))
      have X0z := Lib.hid (X0.out.below hbz X0.out.lt)
      have XZ := Lib.hid (Bx.new 25 y4 0 (.slice none 0 0))
      have Hbz := Lib.hid hbz
      have hne : w.heap.size ≠ y4.heap.size := by omega
      clear hbz
      go_cut [6] (fun p wx => CpRel s n cs y4 p wx)
      case first =>
        go_region_held3 (fun w' => w'.cell? ⟨w.heap.size, 0, none⟩ = some (.int .i64 s) ∧ w'.cell? ⟨w.heap.size, 1, none⟩ = some (.slice A n c)) (first | exact ⟨u00, u01⟩ | exact two_far HX0.out hne | exact two_far2 HX0.out | go_keep) (first | (go_at_call 42; refine (i_clone _ B _ n _ cs (by exact H.out) (by show B ≤ y4.heap.size; omega) (by omega) hn0).mono ?_; rintro e yc ⟨A3, c3, rfl, ho3, hb9⟩; have hbw : Below y4.heap.size y4 yc := ⟨hb9.os, hb9.tape, hb9.output, hb9.size, hb9.block⟩; have u00 := (X0.out.below hbw X0.out.lt).cell0; have u01 := (X0.out.below hbw X0.out.lt).cell1; have HX0 := Lib.hid (X0.out.below hbw X0.out.lt); have HO3 : Hid (Own yc y4.heap.size A3 n c3 cs) := Lib.hid ho3; have HB9 := Lib.hid hbw; clear ho3 hb9 hbw) | (go_at_call 42; refine (i_clone _ B _ n _ cs (by exact Hz.out) (by show B ≤ (y4.alloc _).heap.size; simp; omega) (by omega) hn0).mono ?_; rintro e yc ⟨A3, c3, rfl, ho3, hb9⟩; have hbw : Below (y4.alloc (.cells #[.int .i64 0, .slice none 0 0] 25)).heap.size (y4.alloc (.cells #[.int .i64 0, .slice none 0 0] 25)) yc := ⟨hb9.os, hb9.tape, hb9.output, hb9.size, hb9.block⟩; have HX0 := Lib.hid (X0z.out.below hbw X0z.out.lt); have X9 := Lib.hid (XZ.out.below hbw XZ.out.lt); have u00 := (X0z.out.below hbw X0z.out.lt).cell0; have u01 := (X0z.out.below hbw X0z.out.lt).cell1; have k9_0 := X9.out.cell0; have k9_1 := X9.out.cell1; have k9_2 := X9.out.frozen 0; have k9_3 := X9.out.frozen 1; have k9_4 := X9.out.lt; have HO3 : Hid (Own yc (y4.alloc (.cells #[.int .i64 0, .slice none 0 0] 25)).heap.size A3 n c3 cs) := Lib.hid ho3; have HB9 : Hid (Below y4.heap.size y4 yc) := Lib.hid (Hbz.out.trans (hbw.mono Hbz.out.size)); clear ho3 hb9 hbw))
        all_goals go_wp2_with fail
        all_goals go_meet
        all_goals first | exact CpRel.make HO3.out (Nat.le_refl _) HB9.out | exact CpRel.late2 HO3.out (Nat.le_refl _) HB9.out | exact CpRel.late X9.out HO3.out Hbz.out.size (.inl XZ.out.lt) HB9.out (Nat.le_refl _)
      case rest =>
        obtain ⟨A3, c3, gb, rfl, hx6, ho, hnq, hgb, hb⟩ := hcut
        obtain ⟨g, hA3⟩ : ∃ g, A3 = some ⟨g, 0, none⟩ := by
          obtain ⟨g, cap, hv, _⟩ := World.ownsRow.form ho.2 hn0
          exact ⟨g, by injection hv⟩
        subst hA3
        have hgne : g ≠ gb := hnq g rfl
        have hg1 := ho.ge rfl
        have X1 := Lib.hid (X1.out.below hb (by omega))
        have HP := Lib.hid (HP.out.below hb (by omega))
        have X6 := Lib.hid hx6
        have Hb := Lib.hid (Hb.out.trans (hb.mono (by omega)))
        have Ho := Lib.hid ho
        have zc := hb.size
        have Ht0 : Hid (clr cs (ds.take 0) = cs) := Lib.hid (by simp [clr])
        have Hg0 := Lib.hid (World.grownBy.refl wc (some g))
        have Ho0 : Hid (Own wc y4.heap.size (some ⟨g, 0, none⟩) n c3 (clr cs (ds.take 0))) := Lib.hid (by rw [Ht0.out]; exact Ho.out)
        clear hb hx6 ho hnq u00 u01 u02 hne
        go_wp2_with fail
        go_loopw [27] (fun v wr => ∃ k : Nat, k ≤ m ∧ v = .int .i64 (k : Nat) ∧ Own wr y4.heap.size (some ⟨g, 0, none⟩) n c3 (clr cs (ds.take k)) ∧ wc.grownBy wr (some g)) (fun v _ => m - (intOf v).toNat)
        case atStart => exact ⟨0, by omega, rfl, Ho0.out, Hg0.out⟩
        case round =>
          clear Ho0 Hg0 Ht0 Ho
          obtain ⟨k, hk, rfl, ho, hg⟩ := hrel
          have Ho := Lib.hid ho
          have Hg := Lib.hid hg
          have hgz := hg.size
          have Hbw := Lib.hid (below_g hg zc (fun q e => by injection e with e; omega))
          have X1 := Lib.hid (X1.out.below Hbw.out (by omega))
          have HP := Lib.hid (HP.out.below Hbw.out (by omega))
          have X6 := Lib.hid (X6.out.grown hg (fun e => hgne (by injection e with e; exact e.symm)))
          clear ho hg
          have x60 := X6.out.cell0
          have x61 := X6.out.cell1
          have x62 := X6.out.lt
          by_cases hkm : k < m
          · obtain ⟨bp, op, rfl, hbP, hcp⟩ : ∃ bp op, P = some ⟨bp, op, none⟩ ∧ bp < B' ∧ ∀ j, j < m → wr.cell? ⟨bp, op + j, none⟩ = some (.int .i64 (ds.getD j 0)) := by
              rcases HP.out.2 with h0 | ⟨b, o, hA, hbB, hc⟩
              · omega
              · exact ⟨b, o, hA, hbB, hc⟩
            have cz := hcp k hkm
            have hon := HD.out.on k (by rw [Hdl.out]; exact hkm)
            have Htk := Lib.hid (clr_take (cs := cs) (ds := ds) (i := k) (by rw [Hdl.out]; exact hkm))
            obtain ⟨d, hd⟩ : ∃ d, ds.getD k 0 = d := ⟨_, rfl⟩
            rw [hd] at cz hon Htk
            obtain ⟨e, rfl⟩ := Int.eq_ofNat_of_zero_le hon.1
            have hen : e < n := by have := Hcl.out; omega
            have hkm' : (k : Int) < m := by omega
            have Hst := Lib.hid (Own.stored Ho.out e 0)
            have Htk2 : Hid (clr cs (ds.take (k + 1)) = (clr cs (ds.take k)).set e 0) := Lib.hid (by rw [Htk.out, Int.toNat_natCast])
            obtain ⟨u, hu⟩ : ∃ u, wr.cell? ⟨g, e, none⟩ = some u := by
              have := World.ownsRow.cellAt Ho.out.2 e (by omega)
              rw [this]
              exact ⟨_, List.getElem?_eq_getElem (by rw [List.length_map, Ho.out.1]; exact hen)⟩
            have hf := World.ownsRow.frozenAt Ho.out.2 e
            clear hcp hd hon Htk
            go_wp2_with fail
            go_roundw
            case rel => exact ⟨k + 1, by omega, by go_num, by rw [Htk2.out]; exact Hst.out.1, gtrans Hg.out Hst.out.2⟩
            case measure => simp [intOf]; omega
          · have hfull : ds.take k = ds := List.take_of_length_le (by rw [Hdl.out]; omega)
            have Ho : Hid (Own wr y4.heap.size (some ⟨g, 0, none⟩) n c3 (clr cs ds)) := Lib.hid (by have h9 := Ho.out; rw [hfull] at h9; exact h9)
            have Hb := Lib.hid (Hb.out.trans (Hbw.out.mono (by omega)))
            have K0 := Lib.hid ((X1.out.set0 s).cell0)
            have K1 := Lib.hid (((X1.out.set0 s).set1 (.slice (some ⟨g, 0, none⟩) n c3)).cell1)
            have Hb3 := Lib.hid ((Hb.out.setCell (p := ⟨w.heap.size + 1, 0, none⟩) (by show w.heap.size ≤ w.heap.size + 1; omega) (.int .i64 s)).setCell (p := ⟨w.heap.size + 1, 1, none⟩) (by show w.heap.size ≤ w.heap.size + 1; omega) (.slice (some ⟨g, 0, none⟩) n c3))
            have Ho3 := Lib.hid ((Ho.out.far ⟨w.heap.size + 1, 0, none⟩ (fun g hA => by have := (Ho.out.ge hA).1; show g ≠ w.heap.size + 1; omega) (.int .i64 s)).far ⟨w.heap.size + 1, 1, none⟩ (fun g hA => by have := (Ho.out.ge hA).1; show g ≠ w.heap.size + 1; omega) (.slice (some ⟨g, 0, none⟩) n c3))
            have t0 := X1.out.cell0
            have t1 := X1.out.cell1
            have t2 := X1.out.frozen 0
            have t3 := X1.out.frozen 1
            have t4 := X1.out.lt
            clear hfull
            go_wp2_with fail
            have k0 := K0.out
            have k1 := K1.out
            refine bodyPost_ret (v := .tuple #[.agg #[.int .i64 s, .slice (some ⟨g, 0, none⟩) n c3], .bool true]) (by simp [results, Try.results19, go_sem, k0, k1]) rfl ?_
            exact ⟨true, s, _, _, _, _, .inl ⟨rfl, Hv.out, HD.out, rfl, rfl⟩, rfl, Ho3.out.weaken (by omega), Hb3.out⟩
    · have HD := Lib.hid hD
      have HN : Hid (¬ (Bd.okB s cs = true ∧ Dead s cs ds)) := Lib.hid (fun h => hD h.2)
      clear hD
      go_wp2_with fail
      refine (i_validBoard _ _ _ _ _ _ _ H.out (by omega) (by omega)).mono ?_
      rintro e y3 ⟨rfl, hb⟩
      rw [hv]
      have X0 := Lib.hid (X0.out.below hb X0.out.lt)
      have X1 := Lib.hid (X1.out.below hb X1.out.lt)
      have H := Lib.hid (H.out.below hb (by omega))
      have HP := Lib.hid (HP.out.below hb (by omega))
      have Hb := Lib.hid (Hb.out.trans (hb.mono (by omega)))
      have z3 := hb.size
      clear hb u00 u01 u02 hv
      have u00 := X0.out.cell0
      have u01 := X0.out.cell1
      have u02 := X0.out.lt
      go_wp2_with fail
      refine (i_validDeadT s _ _ _ _ _ _ _ _ _ cs ds H.out HP.out (by omega) (by omega) Hv.out hm false (Lib.hid ⟨fun h => (by cases h), fun _ => HD.out⟩)).mono ?_
      rintro e y4 ⟨rfl, hb⟩
      have X1 := Lib.hid (X1.out.below hb X1.out.lt)
      have Hb := Lib.hid (Hb.out.trans (hb.mono (by omega)))
      have z4 := hb.size
      clear hb u00 u01 u02
      have K0 := Lib.hid ((X1.out.set0 0).cell0)
      have K1 := Lib.hid (((X1.out.set0 0).set1 (.slice none 0 0)).cell1)
      have Hb3 := Lib.hid ((Hb.out.setCell (p := ⟨w.heap.size + 1, 0, none⟩) (by show w.heap.size ≤ w.heap.size + 1; omega) (.int .i64 0)).setCell (p := ⟨w.heap.size + 1, 1, none⟩) (by show w.heap.size ≤ w.heap.size + 1; omega) (.slice none 0 0))
      have t0 := X1.out.cell0
      have t1 := X1.out.cell1
      have t2 := X1.out.frozen 0
      have t3 := X1.out.frozen 1
      have t4 := X1.out.lt
      go_wp2_with fail
      have k0 := K0.out
      have k1 := K1.out
      refine bodyPost_ret (v := .tuple #[.agg #[.int .i64 0, .slice none 0 0], .bool false]) (by simp [results, Try.results19, go_sem, k0, k1]) rfl ?_
      exact ⟨false, 0, [], _, _, _, .inr ⟨rfl, HN.out, rfl, rfl⟩, rfl, Own.nil _ _, Hb3.out⟩
  · have HN : Hid (¬ (Bd.okB s cs = true ∧ Dead s cs ds)) := Lib.hid (fun h => by rw [hv] at h; cases h.1)
    go_wp2_with fail
    refine (i_validBoard _ _ _ _ _ _ _ H.out (by omega) (by omega)).mono ?_
    rintro e y3 ⟨rfl, hb⟩
    rw [hv]
    have X0 := Lib.hid (X0.out.below hb X0.out.lt)
    have X1 := Lib.hid (X1.out.below hb X1.out.lt)
    have H := Lib.hid (H.out.below hb (by omega))
    have HP := Lib.hid (HP.out.below hb (by omega))
    have Hb := Lib.hid (Hb.out.trans (hb.mono (by omega)))
    have z3 := hb.size
    clear hb u00 u01 u02 hv
    have u00 := X0.out.cell0
    have u01 := X0.out.cell1
    have u02 := X0.out.lt
    have K0 := Lib.hid ((X1.out.set0 0).cell0)
    have K1 := Lib.hid (((X1.out.set0 0).set1 (.slice none 0 0)).cell1)
    have Hb3 := Lib.hid ((Hb.out.setCell (p := ⟨w.heap.size + 1, 0, none⟩) (by show w.heap.size ≤ w.heap.size + 1; omega) (.int .i64 0)).setCell (p := ⟨w.heap.size + 1, 1, none⟩) (by show w.heap.size ≤ w.heap.size + 1; omega) (.slice none 0 0))
    have t0 := X1.out.cell0
    have t1 := X1.out.cell1
    have t2 := X1.out.frozen 0
    have t3 := X1.out.frozen 1
    have t4 := X1.out.lt
    go_wp2_with fail
    have k0 := K0.out
    have k1 := K1.out
    refine bodyPost_ret (v := .tuple #[.agg #[.int .i64 0, .slice none 0 0], .bool false]) (by simp [results, Try.results19, go_sem, k0, k1]) rfl ?_
    exact ⟨false, 0, [], _, _, _, .inr ⟨rfl, HN.out, rfl, rfl⟩, rfl, Own.nil _ _, Hb3.out⟩
end Go.Proofs.Ytniddfoiakbfdaa

namespace Go.Proofs.Ytniddfoiakbfdaa
set_option maxRecDepth 100000
open Go.RowKit

theorem size_int : (Try.prog.info? 3).map (·.size) = some 1 := by kernel_rfl

theorem copyFull {ops : Array Oper} {rest : List Oper} {o : Oper} {a : Act} {Q : Exit → Act → World → Prop} (hgd : o.guard = none) (d s : Operand)
    (ho : o.op = .call { callee := .builtin .copy, args := #[d, s], argTypes := #[23, 23] })
    (w : World) (B g n c : Nat) (ys : List Int) (B' : Nat) (A : Option Addr) (c' : Nat) (xs : List Int) (hd : a.eval d = .slice (some ⟨g, 0, none⟩) n c) (hs : a.eval s = .slice A n c')
    (hown : Own w B (some ⟨g, 0, none⟩) n c ys) (hin : Ints w B' A n xs) (hpos : 0 < n)
    (h : ∀ w', Own w' B (some ⟨g, 0, none⟩) n c xs → w.grownBy w' (some g) → wpList Try.prog ops Q rest (a.put o.dst (goInt n)) w') :
    wpList Try.prog ops Q (o :: rest) a w := by
  have hl := hin.1
  rcases hin.2 with h0 | ⟨b, off, rfl, hbB, hc⟩
  · omega
  rcases hown.2.2 with ⟨e, _⟩ | ⟨g', cap, cur, e, hb, hh, hnc, hcm, hcs, htake⟩
  · cases e
  · obtain ⟨rfl, rfl⟩ : g = g' ∧ c = cap := by
      injection e with e1 e2 e3
      injection e1 with e1
      injection e1 with e1
      exact ⟨e1, e3⟩
    have hlen : (xs.map (Value.int .i64)).length = n := by rw [List.length_map, hl]
    refine wpList_copy_own hgd d s 23 23 ho 3 Try.underlying23 size_int g 0 n c ⟨b, off, none⟩ n c' hd hs cur 3 hh (xs.map (Value.int .i64)) (by rw [hlen]; simp) ?_ (by rw [hlen, hcs]; omega) (ints_oneCell _ _) ?_
    · intro j u hj
      have hj' : j < xs.length := by
        rcases Nat.lt_or_ge j xs.length with h | h
        · exact h
        · rw [List.getElem?_eq_none (by rw [List.length_map]; exact h)] at hj; cases hj
      have e : (⟨b, off, none⟩ : Addr).add j = ⟨b, off + j, none⟩ := by by_cases hj0 : j = 0 <;> simp [Addr.add, hj0]
      rw [e, hc j (by omega), ← hj]
      simp [List.getElem?_eq_getElem hj', List.getD_eq_getElem?_getD]
    · rw [hlen]
      refine h _ ⟨hl, by rw [List.length_map, hl]; omega, .inr ⟨g, c, _, rfl, hb, setRow_heap w g _ _ _ _ hh, hnc, hcm, ?_, ?_⟩⟩ ⟨rfl, rfl, rfl, by simp [World.setRow], fun k _ hk => setRow_other w g k _ (fun e => hk (by rw [e]))⟩
      · simp [hl, hcs]; omega
      · simp [hl]
end Go.Proofs.Ytniddfoiakbfdaa

namespace Go.Proofs.Ytniddfoiakbfdaa
set_option maxRecDepth 100000
open Go.RowKit

theorem s_isIn (w : World) (B : Nat) (A : Option Addr) (n c : Nat) (xs : List Int) (x : Int) (h : Ints w B A n xs) (hn : n ≤ 1000000000) :
    Calls Try.prog 49 #[.slice A n c, .int .i64 x] w fun e w' => e = .returned (.bool (decide (x ∈ xs))) ∧ w' = w := by
  have Hl := Lib.hid h.1
  have H := Lib.hid h
  clear h
  go_enter Try.func49, Try.ntmps49
  go_wp2_with fail
  go_loop [5] (fun i => ∃ k : Nat, k ≤ n ∧ i = .int .i64 (k : Nat) ∧ x ∉ xs.take k) (fun i => n - (intOf i).toNat)
  case atStart => exact ⟨0, by omega, rfl, by simp⟩
  case round =>
    obtain ⟨k, hk, rfl, hno⟩ := hrel
    have Hno := Lib.hid hno
    clear hno
    by_cases hkn : k < n
    · obtain ⟨b, o, rfl, hbB, hc⟩ : ∃ b o, A = some ⟨b, o, none⟩ ∧ b < B ∧ ∀ j, j < n → w.cell? ⟨b, o + j, none⟩ = some (.int .i64 (xs.getD j 0)) := by
        rcases H.out.2 with h0 | ⟨b, o, hA, hbB, hc⟩
        · omega
        · exact ⟨b, o, hA, hbB, hc⟩
      have hck := hc k hkn
      have hkl : k < xs.length := by rw [Hl.out]; exact hkn
      have hel : xs[k] = xs.getD k 0 := by rw [List.getD_eq_getElem?_getD, List.getElem?_eq_getElem hkl]; rfl
      have Hel := Lib.hid hel
      obtain ⟨y, hy⟩ : ∃ y, xs.getD k 0 = y := ⟨_, rfl⟩
      rw [hy] at hck Hel
      clear hc hy hel
      by_cases hyx : y = x
      · have hb : (y == x) = true := by simpa using hyx
        have Hy : Hid (decide (x ∈ xs) = true) := Lib.hid (by rw [decide_eq_true_eq, ← hyx, ← Hel.out]; exact List.getElem_mem _)
        clear hyx
        go_wp2_with fail
        go_ret
        exact ⟨by rw [Hy.out]; rfl, rfl⟩
      · have hb : (y == x) = false := by simpa using hyx
        have Hn2 : Hid (x ∉ xs.take (k + 1)) := Lib.hid (by
          rw [List.take_succ_eq_append_getElem hkl, List.mem_append, List.mem_singleton, Hel.out]
          rintro (h | h)
          · exact Hno.out h
          · exact hyx h.symm)
        clear hyx
        go_wp2_with fail
        go_round
        case rel => exact ⟨k + 1, by omega, by go_num, Hn2.out⟩
        case measure => simp [intOf]; omega
    · have Hn2 : Hid (decide (x ∈ xs) = false) := Lib.hid (by
        rw [decide_eq_false_iff_not]
        have h9 := Hno.out
        rw [List.take_of_length_le (by rw [Hl.out]; omega)] at h9
        exact h9)
      go_wp2_with fail
      go_ret
      exact ⟨by rw [Hn2.out]; rfl, rfl⟩

end Go.Proofs.Ytniddfoiakbfdaa

namespace Go.Proofs.Ytniddfoiakbfdaa
set_option maxRecDepth 100000
open Go.RowKit

/-- The first i dead points have stones and whole groups. -/
def DGr (s : Int) (cs ds : List Int) (i : Nat) : Prop := ∀ j, j < i → cs.getD (ds.getD j 0).toNat 0 ≠ 0 ∧ ∀ q ∈ Pt.nbs s (ds.getD j 0), cs.getD q.toNat 0 = cs.getD (ds.getD j 0).toNat 0 → q ∈ ds
theorem DGr.start (s : Int) (cs ds : List Int) : DGr s cs ds 0 := fun j hj => absurd hj (Nat.not_lt_zero j)
theorem DGr.step {s : Int} {cs ds : List Int} {i : Nat} (h : DGr s cs ds i) (h1 : cs.getD (ds.getD i 0).toNat 0 ≠ 0) (h2 : ∀ q ∈ Pt.nbs s (ds.getD i 0), cs.getD q.toNat 0 = cs.getD (ds.getD i 0).toNat 0 → q ∈ ds) : DGr s cs ds (i + 1) := by
  intro j hj
  by_cases e : j = i
  · subst e; exact ⟨h1, h2⟩
  · exact h j (by omega)
theorem Dead.ofAsc {s : Int} {cs ds : List Int} {n : Nat} (hl : cs.length = n) (h : ascIn ds 0 ((n : Int) - 1) = true) (hg : DGr s cs ds ds.length) : Dead s cs ds := by
  rw [ascIn, Bool.and_eq_true, ascAt_iff, inAt_iff] at h
  exact ⟨h.1, fun i hi => by have := h.2 i hi; omega, fun i hi => (hg i hi).1, fun i hi => (hg i hi).2⟩
theorem Dead.asc_yes {s : Int} {cs ds : List Int} {n : Nat} (hl : cs.length = n) (h : Dead s cs ds) : ascIn ds 0 ((n : Int) - 1) = true := by
  rw [ascIn, Bool.and_eq_true, ascAt_iff, inAt_iff]
  exact ⟨h.asc, fun i hi => by have := h.on i hi; omega⟩

set_option maxRecDepth 100000 in
set_option maxHeartbeats 8000000 in
theorem s_Rmv (s : Int) (w : World) (B B' : Nat) (A P : Option Addr) (n c m pc : Nat) (cs ds : List Int) (h : Ints w B A n cs) (h' : Ints w B' P m ds) (hB : B ≤ w.heap.size) (hB' : B' ≤ w.heap.size) (hn : n ≤ 1048576) (hm : m ≤ 1048576) :
    Calls Try.prog 21 #[.agg #[.int .i64 s, .slice A n c], .slice P m pc] w fun e w' => RmvE s cs ds w e w' := by
  have e1 : (w.alloc (.cells #[.int .i64 s, .slice A n c] 25)).heap.size = w.heap.size + 1 := by simp
  have x0 := (Bx.new 25 w s (.slice A n c)).alloc (.cells #[.int .i64 0, .slice none 0 0] 25)
  have x1 := Bx.new 25 (w.alloc (.cells #[.int .i64 s, .slice A n c] 25)) 0 (.slice none 0 0)
  rw [e1] at x1
  have hb2 : Below w.heap.size w ((w.alloc (.cells #[.int .i64 s, .slice A n c] 25)).alloc (.cells #[.int .i64 0, .slice none 0 0] 25)) := ((Below.refl _ _).alloc (Nat.le_refl _) _).alloc (by simp) _
  have H := Lib.hid (h.below hb2 hB)
  have HP := Lib.hid (h'.below hb2 hB')
  have Hcl := Lib.hid h.1
  have Hdl := Lib.hid h'.1
  have X0 := Lib.hid x0
  have X1 := Lib.hid x1
  have Hb := Lib.hid hb2
  clear e1 x0 x1 hb2 h h'
  go_enter Try.func21, Try.ntmps21
  go_upto_region 1 with (fail)
  obtain ⟨y2, hy2⟩ : ∃ y, y = ((w.alloc (.cells #[.int .i64 s, .slice A n c] 25)).alloc (.cells #[.int .i64 0, .slice none 0 0] 25)) := ⟨_, rfl⟩
  rw [← hy2] at H HP X0 X1 Hb ⊢
  clear hy2
  have z2 := X1.out.lt
  have u00 := X0.out.cell0
  have u01 := X0.out.cell1
  have u02 := X0.out.lt
  rcases Bool.eq_false_or_eq_true (Bd.okB s cs) with hv | hv
  · obtain ⟨h1, h2, h3, _⟩ := (Bd.okB_iff s cs).1 hv
    have hsq := Pt.sq_bd s h1 h2
    have hnq : (n : Int) = s * s := by have := Hcl.out; omega
    have hn49 : n ≤ 49 := by omega
    have hn0 : 0 < n := by
      have h9 := Int.mul_le_mul h1 h1 (by decide) (by omega)
      omega
    have Hnn := Lib.hid (nbs_in h1 h2 hnq)
    have Hv := Lib.hid hv
    have Hnq := Lib.hid hnq
    clear h3 hnq
    have wn : IntKind.i64.wrap ((n : Int) - 1) = (n : Int) - 1 := by simp [IntKind.wrap, IntKind.bits, IntKind.signed]; omega
    go_wp2_with fail
    refine (s_validBoard _ _ _ _ _ _ _ H.out (by omega) (by omega)).mono ?_
    rintro e y3 ⟨rfl, hb⟩
    rw [hv]
    have X0 := Lib.hid (X0.out.below hb X0.out.lt)
    have X1 := Lib.hid (X1.out.below hb X1.out.lt)
    have H := Lib.hid (H.out.below hb (by omega))
    have HP := Lib.hid (HP.out.below hb (by omega))
    have Hb := Lib.hid (Hb.out.trans (hb.mono (by omega)))
    have z3 := hb.size
    clear hb u00 u01 u02 hv
    have u00 := X0.out.cell0
    have u01 := X0.out.cell1
    have u02 := X0.out.lt
    go_wp2_with fail
    refine (s_asc _ _ _ _ _ ds 0 _ HP.out (by omega)).mono ?_
    rintro e y4 ⟨rfl, qa, hqa⟩
    have hy34 : Below y3.heap.size y3 y4 := by rw [hqa]; exact drew_below (Below.refl _ _) qa
    have X0 := Lib.hid (X0.out.below hy34 X0.out.lt)
    have X1 := Lib.hid (X1.out.below hy34 X1.out.lt)
    have H := Lib.hid (H.out.below hy34 (by omega))
    have HP := Lib.hid (HP.out.below hy34 (by omega))
    have Hb := Lib.hid (Hb.out.trans (hy34.mono (by omega)))
    have z4 := hy34.size
    clear hqa hy34 u00 u01 u02
    have u00 := X0.out.cell0
    have u01 := X0.out.cell1
    have u02 := X0.out.lt
    obtain ⟨ba, hba⟩ : ∃ ba, ascIn ds 0 ((n : Int) - 1) = ba := ⟨_, rfl⟩
    rw [hba]
    rcases Bool.eq_false_or_eq_true ba with rfl | rfl
    · have Hba := Lib.hid hba
      clear hba
      go_wp2_with fail
      refine (s_copyBoard s _ _ _ _ _ cs H.out (by omega) (by omega)).mono ?_
      rintro e y5 ⟨A3, c3, rfl, ho, hb⟩
      obtain ⟨g, hA3⟩ : ∃ g, A3 = some ⟨g, 0, none⟩ := by
        obtain ⟨g, cap, hv, _⟩ := World.ownsRow.form ho.2 hn0
        exact ⟨g, by injection hv⟩
      subst hA3
      have hg1 := ho.ge rfl
      have X0 := Lib.hid (X0.out.below hb X0.out.lt)
      have X1 := Lib.hid (X1.out.below hb X1.out.lt)
      have H := Lib.hid (H.out.below hb (by omega))
      have HP := Lib.hid (HP.out.below hb (by omega))
      have Hb := Lib.hid (Hb.out.trans (hb.mono (by omega)))
      have z5 := hb.size
      have Ho := Lib.hid ho
      clear hb ho u00 u01 u02
      go_upto_region 4 with (fail)
      obtain ⟨y6, hy6, hb6, z6, z6'⟩ := new_box y5 (.cells #[.int .i64 s, .slice (some ⟨g, 0, none⟩) n c3] 25)
      have X6 : Hid (Bx 25 y6 y5.heap.size s (.slice (some ⟨g, 0, none⟩) n c3)) := Lib.hid (by rw [hy6]; exact Bx.new _ _ _ _)
      rw [← hy6]
      clear hy6
      have X0 := Lib.hid (X0.out.below hb6 X0.out.lt)
      have X1 := Lib.hid (X1.out.below hb6 X1.out.lt)
      have H := Lib.hid (H.out.below hb6 (by omega))
      have HP := Lib.hid (HP.out.below hb6 (by omega))
      have Hb := Lib.hid (Hb.out.trans (hb6.mono (by omega)))
      have Ho := Lib.hid (Ho.out.below hb6)
      have Hg0 := Lib.hid (DGr.start s cs ds)
      have Ht0 : Hid (clr cs (ds.take 0) = cs) := Lib.hid (by simp [clr])
      have Ho0 : Hid (Own y6 y4.heap.size (some ⟨g, 0, none⟩) n c3 (clr cs (ds.take 0))) := Lib.hid (by rw [Ht0.out]; exact Ho.out)
      have Hr0 := Lib.hid (World.grownBy.refl y6 (some g))
      clear hb6
      go_wp2_with fail
      go_loopw [7] (fun v wr => ∃ k : Nat, k ≤ m ∧ v = .int .i64 (k : Nat) ∧ DGr s cs ds k ∧ Own wr y4.heap.size (some ⟨g, 0, none⟩) n c3 (clr cs (ds.take k)) ∧ y6.grownBy wr (some g)) (fun v _ => m - (intOf v).toNat)
      case atStart => exact ⟨0, by omega, rfl, Hg0.out, Ho0.out, Hr0.out⟩
      case round =>
        clear Hg0 Ho0 Hr0 Ho Ht0
        obtain ⟨wo, rfl⟩ : ∃ wo : World, wo = wr := ⟨_, rfl⟩
        obtain ⟨k, hk, rfl, hdg, ho, hg⟩ := hrel
        have Hdg := Lib.hid hdg
        have Ho := Lib.hid ho
        have Hg := Lib.hid hg
        have hgz := hg.size
        have Hbw := Lib.hid (below_g (B := y4.heap.size) hg (by omega) (fun q e => by injection e with e; omega))
        have X0 := Lib.hid (X0.out.below Hbw.out (by omega))
        have X1 := Lib.hid (X1.out.below Hbw.out (by omega))
        have H := Lib.hid (H.out.below Hbw.out (by omega))
        have HP := Lib.hid (HP.out.below Hbw.out (by omega))
        have X6 := Lib.hid (X6.out.grown hg (fun e => by injection e with e; omega))
        clear hdg ho hg
        have x00 := X0.out.cell0
        have x01 := X0.out.cell1
        have x02 := X0.out.lt
        by_cases hkm : k < m
        · obtain ⟨bp, op, rfl, hbP, hcp⟩ : ∃ bp op, P = some ⟨bp, op, none⟩ ∧ bp < B' ∧ ∀ j, j < m → wo.cell? ⟨bp, op + j, none⟩ = some (.int .i64 (ds.getD j 0)) := by
            rcases HP.out.2 with h0 | ⟨b, o, hA, hbB, hc⟩
            · omega
            · exact ⟨b, o, hA, hbB, hc⟩
          obtain ⟨b, o, rfl, hbB, hc⟩ : ∃ b o, A = some ⟨b, o, none⟩ ∧ b < B ∧ ∀ j, j < n → wo.cell? ⟨b, o + j, none⟩ = some (.int .i64 (cs.getD j 0)) := by
            rcases H.out.2 with h0 | ⟨b, o, hA, hbB, hc⟩
            · omega
            · exact ⟨b, o, hA, hbB, hc⟩
          have cz := hcp k hkm
          have hkl : k < ds.length := by rw [Hdl.out]; exact hkm
          have hon : 0 ≤ ds.getD k 0 ∧ ds.getD k 0 ≤ (n : Int) - 1 := by
            have h9 := Hba.out
            rw [ascIn, Bool.and_eq_true, inAt_iff] at h9
            exact h9.2 k hkl
          have Htk := Lib.hid (clr_take (cs := cs) (ds := ds) (i := k) hkl)
          have Hkl := Lib.hid hkl
          obtain ⟨d, hd⟩ : ∃ d, ds.getD k 0 = d := ⟨_, rfl⟩
          rw [hd] at cz hon Htk
          obtain ⟨e, rfl⟩ := Int.eq_ofNat_of_zero_le hon.1
          have Hd := Lib.hid hd
          have hen : e < n := by omega
          have ce := hc e hen
          obtain ⟨x, hx⟩ : ∃ x, cs.getD e 0 = x := ⟨_, rfl⟩
          rw [hx] at ce
          have Hx := Lib.hid hx
          have hkm' : (k : Int) < m := by omega
          have heI : (e : Int) < n := by omega
          clear hcp hc hd hx hkl hon
          by_cases hx0 : x = 0
          · have HN : Hid (¬ (Bd.okB s cs = true ∧ Dead s cs ds)) := Lib.hid (fun h => by
              have := h.2.stone k Hkl.out
              rw [Hd.out, Int.toNat_natCast, Hx.out] at this
              exact this hx0)
            have hxb : (x == 0) = true := by simpa using hx0
            have Hb := Lib.hid (Hb.out.trans (Hbw.out.mono (by omega)))
            clear hx0
            go_wp2_with fail
            go_quiet (fail)
            have K0 := Lib.hid (((X1.out.drewN nq).set0 0).cell0)
            have K1 := Lib.hid ((((X1.out.drewN nq).set0 0).set1 (.slice none 0 0)).cell1)
            have Hb3 := Lib.hid (((drew_below Hb.out nq).setCell (p := ⟨w.heap.size + 1, 0, none⟩) (by show w.heap.size ≤ w.heap.size + 1; omega) (.int .i64 0)).setCell (p := ⟨w.heap.size + 1, 1, none⟩) (by show w.heap.size ≤ w.heap.size + 1; omega) (.slice none 0 0))
            have t0 := X1.out.cell0
            have t1 := X1.out.cell1
            have t2 := X1.out.frozen 0
            have t3 := X1.out.frozen 1
            have t4 := X1.out.lt
            go_wp2_with fail
            have k0 := K0.out
            have k1 := K1.out
            refine bodyPost_ret (v := .tuple #[.agg #[.int .i64 0, .slice none 0 0], .bool false]) (by simp [results, Try.results21, go_sem, k0, k1]) rfl ?_
            exact ⟨false, 0, [], _, _, _, .inr ⟨rfl, HN.out, rfl, rfl⟩, rfl, Own.nil _ _, Hb3.out⟩
          · have hxb : (x == 0) = false := by simpa using hx0
            have Hx0 := Lib.hid hx0
            clear hx0
            go_wp2_with fail
            go_quiet (fail)
            obtain ⟨w7, hw7⟩ : ∃ w7, w7 = wo.drewN nq := ⟨_, rfl⟩
            have hb7 : Below wo.heap.size wo w7 := by rw [hw7]; exact drew_below (Below.refl _ _) nq
            have Ho : Hid (Own w7 y4.heap.size (some ⟨g, 0, none⟩) n c3 (clr cs (ds.take k))) := Lib.hid (by rw [hw7]; exact Ho.out.drewN nq)
            have Hg : Hid (y6.grownBy w7 (some g)) := Lib.hid (by rw [hw7]; exact gtrans Hg.out (gdrewN _ _ _))
            rw [← hw7]
            clear hw7
            have X0 := Lib.hid (X0.out.below hb7 x02)
            have X1 := Lib.hid (X1.out.below hb7 (by omega))
            have X6 := Lib.hid (X6.out.below hb7 (by omega))
            have H := Lib.hid (H.out.below hb7 (by omega))
            have HP := Lib.hid (HP.out.below hb7 (by omega))
            have Hb := Lib.hid (Hb.out.trans ((Hbw.out.trans (hb7.mono (by omega))).mono (by omega)))
            have z7 := hb7.size
            have cz := (hb7.cell (p := ⟨bp, op + k, none⟩) (by show bp < _; omega)).trans cz
            clear hb7 x00 x01 x02 ce
            have x00 := X0.out.cell0
            have x01 := X0.out.cell1
            have x02 := X0.out.lt
            go_wp2_with fail
            go_region_held3 (fun w' => w'.cell? ⟨w.heap.size, 0, none⟩ = some (.int .i64 s) ∧ w'.cell? ⟨w.heap.size, 1, none⟩ = some (.slice (some ⟨b, o, none⟩) n c) ∧ w'.cell? ⟨bp, op + k, none⟩ = some (.int .i64 (e : Nat))) (first | exact ⟨x00, x01, cz⟩ | go_keep) (first | (go_at_call 48; refine (s_groupOf s e _ B _ n _ cs (by exact H.out) (by show B ≤ w7.heap.size; omega) h1 h2 Hnq.out hen).mono ?_; rintro e9 y8 ⟨A8, m8, c8, l, rfl, ho8, hr8, hb8⟩; have hbw : Below w7.heap.size w7 y8 := ⟨hb8.os, hb8.tape, hb8.output, hb8.size, hb8.block⟩; have Hb8 := Lib.hid hbw; have Ho8 : Hid (Own y8 w7.heap.size A8 m8 c8 l) := Lib.hid ho8; have Hr8 := Lib.hid hr8; have x00 := (X0.out.below hbw x02).cell0; have x01 := (X0.out.below hbw x02).cell1; have cz := (hbw.cell (p := ⟨bp, op + k, none⟩) (by show bp < _; omega)).trans cz; clear ho8 hr8 hb8 hbw))
            have z8 := Hb8.out.size
            have X1 := Lib.hid (X1.out.below Hb8.out (by omega))
            have X6 := Lib.hid (X6.out.below Hb8.out (by omega))
            have HP := Lib.hid (HP.out.below Hb8.out (by omega))
            have Ho := Lib.hid (Ho.out.below Hb8.out)
            have Hg := Lib.hid (gtrans Hg.out (gbelow (some g) Hb8.out (Nat.le_refl _)))
            have Hb := Lib.hid (Hb.out.trans (Hb8.out.mono (by omega)))
            have hm8 : m8 ≤ 49 := by
              obtain ⟨S8, hS8, _, hl8⟩ := Hr8.out
              have h9 := Fl.pts_len S8 n
              rw [← hl8, Ho8.out.1] at h9
              omega
            clear x00 x01 x02
            go_wp2_with fail
            go_loop [9] (fun v => ∃ j : Nat, j ≤ m8 ∧ v = .int .i64 (j : Nat) ∧ ∀ y ∈ l.take j, y ∈ ds) (fun v => m8 - (intOf v).toNat)
            case atStart => exact ⟨0, by omega, rfl, fun y hy => by simp at hy⟩
            case round =>
              obtain ⟨j, hj, rfl, hin⟩ := hrel
              have Hin := Lib.hid hin
              clear hin
              by_cases hjm : j < m8
              · obtain ⟨g8, hA8⟩ : ∃ g8, A8 = some ⟨g8, 0, none⟩ := by
                  obtain ⟨g, cap, hv, _⟩ := World.ownsRow.form Ho8.out.2 (by omega)
                  exact ⟨g, by injection hv⟩
                have hon := Ho8.out
                rw [hA8] at hon
                have hjl : j < l.length := by rw [hon.1]; exact hjm
                have hcl := hon.cellD j hjm
                have hel : l[j] = l.getD j 0 := by rw [List.getD_eq_getElem?_getD, List.getElem?_eq_getElem hjl]; rfl
                obtain ⟨z, hz⟩ : ∃ z, l.getD j 0 = z := ⟨_, rfl⟩
                rw [hz] at hcl hel
                have Hel := Lib.hid hel
                have hjI : (j : Int) < m8 := by omega
                rw [hA8]
                clear hon hel hz hA8
                by_cases hzd : z ∈ ds
                · have hdz : decide (z ∈ ds) = true := decide_eq_true hzd
                  have Hn2 : Hid (∀ y ∈ l.take (j + 1), y ∈ ds) := Lib.hid (fun y hy => by
                    rw [List.take_succ_eq_append_getElem hjl, List.mem_append, List.mem_singleton] at hy
                    rcases hy with hy | hy
                    · exact Hin.out y hy
                    · rw [hy, Hel.out]; exact hzd)
                  clear hzd
                  go_wp2_with fail
                  refine (s_isIn _ _ _ _ _ ds z HP.out (by omega)).mono ?_
                  rintro e9 w9 ⟨rfl, rfl⟩
                  rw [hdz]
                  clear hdz
                  go_wp2_with fail
                  go_round
                  case rel => exact ⟨j + 1, by omega, by go_num, Hn2.out⟩
                  case measure => simp [intOf]; omega
                · have hdz : decide (z ∈ ds) = false := decide_eq_false hzd
                  have HN : Hid (¬ (Bd.okB s cs = true ∧ Dead s cs ds)) := Lib.hid (fun h => by
                    have hr := Hr8.out
                    have h9 := h.2.group (n := n) Hkl.out (l := l) (by rw [Hd.out, Int.toNat_natCast]; exact hr) z (by rw [← Hel.out]; exact List.getElem_mem _)
                    exact hzd h9)
                  clear hzd
                  go_wp2_with fail
                  refine (s_isIn _ _ _ _ _ ds z HP.out (by omega)).mono ?_
                  rintro e9 w9 ⟨rfl, rfl⟩
                  rw [hdz]
                  clear hdz
                  have K0 := Lib.hid ((X1.out.set0 0).cell0)
                  have K1 := Lib.hid (((X1.out.set0 0).set1 (.slice none 0 0)).cell1)
                  have Hb3 := Lib.hid ((Hb.out.setCell (p := ⟨w.heap.size + 1, 0, none⟩) (by show w.heap.size ≤ w.heap.size + 1; omega) (.int .i64 0)).setCell (p := ⟨w.heap.size + 1, 1, none⟩) (by show w.heap.size ≤ w.heap.size + 1; omega) (.slice none 0 0))
                  have t0 := X1.out.cell0
                  have t1 := X1.out.cell1
                  have t2 := X1.out.frozen 0
                  have t3 := X1.out.frozen 1
                  have t4 := X1.out.lt
                  go_wp2_with fail
                  have k0 := K0.out
                  have k1 := K1.out
                  refine bodyPost_ret (v := .tuple #[.agg #[.int .i64 0, .slice none 0 0], .bool false]) (by simp [results, Try.results21, go_sem, k0, k1]) rfl ?_
                  exact ⟨false, 0, [], _, _, _, .inr ⟨rfl, HN.out, rfl, rfl⟩, rfl, Own.nil _ _, Hb3.out⟩
              · have Hst := Lib.hid (Hdg.out.step (i := k) (by rw [Hd.out, Int.toNat_natCast, Hx.out]; exact Hx0.out) (by
                  rw [Hd.out]
                  refine whole_of (n := n) Hcl.out Hnn.out ⟨by omega, by omega⟩ (l := l) (by rw [Int.toNat_natCast]; exact Hr8.out) ?_
                  have h9 := Hin.out
                  rw [List.take_of_length_le (by rw [Ho8.out.1]; omega)] at h9
                  exact h9))
                have Hsv := Lib.hid (Own.stored Ho.out e 0)
                have Htk2 : Hid (clr cs (ds.take (k + 1)) = (clr cs (ds.take k)).set e 0) := Lib.hid (by rw [Htk.out, Int.toNat_natCast])
                obtain ⟨u, hu⟩ : ∃ u, y8.cell? ⟨g, e, none⟩ = some u := by
                  have := World.ownsRow.cellAt Ho.out.2 e (by omega)
                  rw [this]
                  exact ⟨_, List.getElem?_eq_getElem (by rw [List.length_map, Ho.out.1]; exact hen)⟩
                have hf := World.ownsRow.frozenAt Ho.out.2 e
                have x60 := X6.out.cell0
                have x61 := X6.out.cell1
                have x62 := X6.out.lt
                go_wp2_with fail
                have Hsd : Hid (y6.grownBy (y8.setCell ⟨g, e, none⟩ (.int .i64 0)).drew (some g)) := Lib.hid (gtrans (gtrans Hg.out Hsv.out.2) (gdrewN _ 1 _))
                have Hsn : Hid (Own (y8.setCell ⟨g, e, none⟩ (.int .i64 0)).drew y4.heap.size (some ⟨g, 0, none⟩) n c3 (clr cs (ds.take (k + 1)))) := Lib.hid (by rw [Htk2.out]; exact Hsv.out.1.drewN 1)
                go_region
                go_wp2_with fail
                go_roundw
                case rel => exact ⟨k + 1, by omega, by go_num, Hst.out, Hsn.out, Hsd.out⟩
                case measure => simp [intOf]; omega
        · have hfull : ds.take k = ds := List.take_of_length_le (by rw [Hdl.out]; omega)
          have hkm2 : k = m := by omega
          have HD : Hid (Dead s cs ds) := Lib.hid (Dead.ofAsc Hcl.out Hba.out (by rw [Hdl.out, ← hkm2]; exact Hdg.out))
          have Ho : Hid (Own wo y4.heap.size (some ⟨g, 0, none⟩) n c3 (clr cs ds)) := Lib.hid (by have h9 := Ho.out; rw [hfull] at h9; exact h9)
          have Hb := Lib.hid (Hb.out.trans (Hbw.out.mono (by omega)))
          have x60 := X6.out.cell0
          have x61 := X6.out.cell1
          have x62 := X6.out.lt
          have K0 := Lib.hid ((X1.out.set0 s).cell0)
          have K1 := Lib.hid (((X1.out.set0 s).set1 (.slice (some ⟨g, 0, none⟩) n c3)).cell1)
          have Hb3 := Lib.hid ((Hb.out.setCell (p := ⟨w.heap.size + 1, 0, none⟩) (by show w.heap.size ≤ w.heap.size + 1; omega) (.int .i64 s)).setCell (p := ⟨w.heap.size + 1, 1, none⟩) (by show w.heap.size ≤ w.heap.size + 1; omega) (.slice (some ⟨g, 0, none⟩) n c3))
          have Ho3 := Lib.hid ((Ho.out.far ⟨w.heap.size + 1, 0, none⟩ (fun g hA => by have := (Ho.out.ge hA).1; show g ≠ w.heap.size + 1; omega) (.int .i64 s)).far ⟨w.heap.size + 1, 1, none⟩ (fun g hA => by have := (Ho.out.ge hA).1; show g ≠ w.heap.size + 1; omega) (.slice (some ⟨g, 0, none⟩) n c3))
          have t0 := X1.out.cell0
          have t1 := X1.out.cell1
          have t2 := X1.out.frozen 0
          have t3 := X1.out.frozen 1
          have t4 := X1.out.lt
          clear hfull hkm2
          go_wp2_with fail
          have k0 := K0.out
          have k1 := K1.out
          refine bodyPost_ret (v := .tuple #[.agg #[.int .i64 s, .slice (some ⟨g, 0, none⟩) n c3], .bool true]) (by simp [results, Try.results21, go_sem, k0, k1]) rfl ?_
          exact ⟨true, s, _, _, _, _, .inl ⟨rfl, Hv.out, HD.out, rfl, rfl⟩, rfl, Ho3.out.weaken (by omega), Hb3.out⟩
    · have HN : Hid (¬ (Bd.okB s cs = true ∧ Dead s cs ds)) := Lib.hid (fun h => by have h9 := h.2.asc_yes Hcl.out; rw [hba] at h9; cases h9)
      clear hba
      have K0 := Lib.hid ((X1.out.set0 0).cell0)
      have K1 := Lib.hid (((X1.out.set0 0).set1 (.slice none 0 0)).cell1)
      have Hb3 := Lib.hid ((Hb.out.setCell (p := ⟨w.heap.size + 1, 0, none⟩) (by show w.heap.size ≤ w.heap.size + 1; omega) (.int .i64 0)).setCell (p := ⟨w.heap.size + 1, 1, none⟩) (by show w.heap.size ≤ w.heap.size + 1; omega) (.slice none 0 0))
      have t0 := X1.out.cell0
      have t1 := X1.out.cell1
      have t2 := X1.out.frozen 0
      have t3 := X1.out.frozen 1
      have t4 := X1.out.lt
      go_wp2_with fail
      have k0 := K0.out
      have k1 := K1.out
      refine bodyPost_ret (v := .tuple #[.agg #[.int .i64 0, .slice none 0 0], .bool false]) (by simp [results, Try.results21, go_sem, k0, k1]) rfl ?_
      exact ⟨false, 0, [], _, _, _, .inr ⟨rfl, HN.out, rfl, rfl⟩, rfl, Own.nil _ _, Hb3.out⟩
  · have HN : Hid (¬ (Bd.okB s cs = true ∧ Dead s cs ds)) := Lib.hid (fun h => by rw [hv] at h; cases h.1)
    go_wp2_with fail
    refine (s_validBoard _ _ _ _ _ _ _ H.out (by omega) (by omega)).mono ?_
    rintro e y3 ⟨rfl, hb⟩
    rw [hv]
    have X1 := Lib.hid (X1.out.below hb X1.out.lt)
    have Hb := Lib.hid (Hb.out.trans (hb.mono (by omega)))
    clear hb u00 u01 u02 hv
    have K0 := Lib.hid ((X1.out.set0 0).cell0)
    have K1 := Lib.hid (((X1.out.set0 0).set1 (.slice none 0 0)).cell1)
    have Hb3 := Lib.hid ((Hb.out.setCell (p := ⟨w.heap.size + 1, 0, none⟩) (by show w.heap.size ≤ w.heap.size + 1; omega) (.int .i64 0)).setCell (p := ⟨w.heap.size + 1, 1, none⟩) (by show w.heap.size ≤ w.heap.size + 1; omega) (.slice none 0 0))
    have t0 := X1.out.cell0
    have t1 := X1.out.cell1
    have t2 := X1.out.frozen 0
    have t3 := X1.out.frozen 1
    have t4 := X1.out.lt
    go_wp2_with fail
    have k0 := K0.out
    have k1 := K1.out
    refine bodyPost_ret (v := .tuple #[.agg #[.int .i64 0, .slice none 0 0], .bool false]) (by simp [results, Try.results21, go_sem, k0, k1]) rfl ?_
    exact ⟨false, 0, [], _, _, _, .inr ⟨rfl, HN.out, rfl, rfl⟩, rfl, Own.nil _ _, Hb3.out⟩
end Go.Proofs.Ytniddfoiakbfdaa

namespace Go.Proofs.Ytniddfoiakbfdaa
set_option maxRecDepth 100000
open Go.RowKit
section
variable (s : Int) (w : World) (B B' : Nat) (A P : Option Addr) (n c m pc : Nat) (cs ds : List Int) (ok : Bool) (s' : Int) (cs' : List Int) (h : Ints w B A n cs) (h' : Ints w B' P m ds) (hB : B ≤ w.heap.size) (hB' : B' ≤ w.heap.size) (hn : n ≤ 1048576) (hm : m ≤ 1048576) (hR : Hid (Rmv s cs ds ok s' cs'))
include h h' hB hB' hn hm hR
theorem s_RmvX : Calls Try.prog 21 #[.agg #[.int .i64 s, .slice A n c], .slice P m pc] w fun e w' => ∃ A n c, e = .returned (.tuple #[.agg #[.int .i64 s', .slice A n c], .bool ok]) ∧ Own w' w.heap.size A n c cs' ∧ Below w.heap.size w w' := by
  refine (s_Rmv s w B B' A P n c m pc cs ds h h' hB hB' hn hm).mono ?_
  rintro e w' ⟨ok', s1, c1, A1, n1, cc, hr, rfl, ho, hb⟩
  obtain ⟨rfl, rfl, rfl⟩ := hR.out.one hr
  exact ⟨_, _, _, rfl, ho, hb⟩
theorem i_RmvX : Calls Try.prog 19 #[.agg #[.int .i64 s, .slice A n c], .slice P m pc] w fun e w' => ∃ A n c, e = .returned (.tuple #[.agg #[.int .i64 s', .slice A n c], .bool ok]) ∧ Own w' w.heap.size A n c cs' ∧ Below w.heap.size w w' := by
  refine (i_Rmv s w B B' A P n c m pc cs ds h h' hB hB' hn hm).mono ?_
  rintro e w' ⟨ok', s1, c1, A1, n1, cc, hr, rfl, ho, hb⟩
  obtain ⟨rfl, rfl, rfl⟩ := hR.out.one hr
  exact ⟨_, _, _, rfl, ho, hb⟩
end
end Go.Proofs.Ytniddfoiakbfdaa

