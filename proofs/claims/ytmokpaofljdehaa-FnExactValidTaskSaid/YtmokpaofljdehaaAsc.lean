/-
  The model's 'ascending' and 'isIn'.
-/
import Derived.Test.YtmokpaofljdehaaSpecA
import Derived.Test.YtmokpaofljdehaaWords
import Derived.Deep.QuietTactic
namespace Go.Proofs.Ytmokpaofljdehaa
set_option maxRecDepth 100000
open Go.RowKit

/-- Numbers that ascend, all of them from lo to hi. -/
def ascAt (ds : List Int) (k : Nat) : Bool := (List.range (k - 1)).all fun i => decide (ds.getD i 0 < ds.getD (i + 1) 0)
def inAt (ds : List Int) (lo hi : Int) (k : Nat) : Bool := (List.range k).all fun i => decide (lo ≤ ds.getD i 0) && decide (ds.getD i 0 ≤ hi)
def ascIn (ds : List Int) (lo hi : Int) : Bool := ascAt ds ds.length && inAt ds lo hi ds.length
theorem ascAt_iff (ds : List Int) (k : Nat) : ascAt ds k = true ↔ ∀ i, i + 1 < k → ds.getD i 0 < ds.getD (i + 1) 0 := by
  unfold ascAt
  rw [List.all_eq_true]
  constructor
  · intro h i hi
    have := h i (List.mem_range.2 (by omega))
    simpa using this
  · intro h i hi
    have := h i (by have := List.mem_range.1 hi; omega)
    simpa using this
theorem inAt_iff (ds : List Int) (lo hi : Int) (k : Nat) : inAt ds lo hi k = true ↔ ∀ i, i < k → lo ≤ ds.getD i 0 ∧ ds.getD i 0 ≤ hi := by
  unfold inAt
  rw [List.all_eq_true]
  constructor
  · intro h i hi
    have := h i (List.mem_range.2 hi)
    simpa using this
  · intro h i hi
    have := h i (List.mem_range.1 hi)
    simpa using this

theorem s_allInA (w : World) (B : Nat) (A : Option Addr) (n c : Nat) (ds : List Int) (lo hi : Int) (h : Ints w B A n ds) (hn : n ≤ 1000000000) :
    Calls Try.prog 78 #[.slice A n c, .int .i64 lo, .int .i64 hi] w fun e w' => e = .returned (.bool (inAt ds lo hi ds.length)) ∧ w' = w := by
  have Hl := Lib.hid h.1
  have H := Lib.hid h
  clear h
  go_enter Try.func78, Try.ntmps78
  go_wp2_with fail
  go_loop [7] (fun v => ∃ k : Nat, k ≤ n ∧ v = .int .i64 (k : Nat) ∧ inAt ds lo hi k = true) (fun v => n - (intOf v).toNat)
  case atStart => exact ⟨0, by omega, rfl, (inAt_iff _ _ _ _).2 fun i hi => absurd hi (Nat.not_lt_zero i)⟩
  case round =>
    obtain ⟨k, hk, rfl, hin⟩ := hrel
    have Hin := Lib.hid hin
    clear hin
    by_cases hkn : k < n
    · obtain ⟨b, o, rfl, hbB, hc⟩ : ∃ b o, A = some ⟨b, o, none⟩ ∧ b < B ∧ ∀ j, j < n → w.cell? ⟨b, o + j, none⟩ = some (.int .i64 (ds.getD j 0)) := by
        rcases H.out.2 with h0 | ⟨b, o, hA, hbB, hc⟩
        · omega
        · exact ⟨b, o, hA, hbB, hc⟩
      have ck := hc k hkn
      obtain ⟨x, hx⟩ : ∃ x, ds.getD k 0 = x := ⟨_, rfl⟩
      rw [hx] at ck
      have Hx := Lib.hid hx
      clear hc hx
      by_cases hb : lo ≤ x ∧ x ≤ hi
      · have hd : (decide (lo ≤ x) && decide (x ≤ hi)) = true := by simp [hb.1, hb.2]
        have Hin2 := Lib.hid ((inAt_iff ds lo hi (k + 1)).2 fun i hi' => by
          rcases Nat.lt_or_eq_of_le (Nat.le_of_lt_succ hi') with h | rfl
          · exact (inAt_iff _ _ _ _).1 Hin.out i h
          · rw [Hx.out]; exact hb)
        go_wp2_with fail
        refine (s_range _ _ _ _).mono ?_
        rintro e w' ⟨rfl, rfl⟩
        rw [hd]
        clear hd
        go_wp2_with fail
        go_round
        case rel => exact ⟨k + 1, by omega, by go_num, Hin2.out⟩
        case measure => simp [intOf]; omega
      · have hd : (decide (lo ≤ x) && decide (x ≤ hi)) = false := by
          rcases Bool.eq_false_or_eq_true (decide (lo ≤ x) && decide (x ≤ hi)) with h | h
          · rw [Bool.and_eq_true, decide_eq_true_eq, decide_eq_true_eq] at h; exact absurd h hb
          · exact h
        have Hno : Hid (inAt ds lo hi ds.length = false) := Lib.hid (by
          rw [Bool.eq_false_iff]
          intro h
          have := (inAt_iff _ _ _ _).1 h k (by rw [Hl.out]; exact hkn)
          rw [Hx.out] at this
          exact hb this)
        go_wp2_with fail
        refine (s_range _ _ _ _).mono ?_
        rintro e w' ⟨rfl, rfl⟩
        rw [hd]
        clear hd
        go_wp2_with fail
        go_ret
        exact ⟨by rw [Hno.out]; rfl, rfl⟩
    · obtain rfl : n = k := by omega
      have Hyes : Hid (inAt ds lo hi ds.length = true) := Lib.hid (by rw [Hl.out]; exact Hin.out)
      go_wp2_with fail
      go_ret
      exact ⟨by rw [Hyes.out]; rfl, rfl⟩

theorem s_asc (w : World) (B : Nat) (A : Option Addr) (n c : Nat) (ds : List Int) (lo hi : Int) (h : Ints w B A n ds) (hn : n ≤ 1000000000) :
    Calls Try.prog 48 #[.slice A n c, .int .i64 lo, .int .i64 hi] w fun e w' => e = .returned (.bool (ascIn ds lo hi)) ∧ ∃ k, w' = w.drewN k := by
  have Hl := Lib.hid h.1
  have H := Lib.hid h
  clear h
  go_enter Try.func48, Try.ntmps48
  go_wp2_with fail
  go_loopw [7] (fun v wr => ∃ (k q : Nat), 1 ≤ k ∧ (k ≤ n ∨ k = 1) ∧ v = .int .i64 (k : Nat) ∧ ascAt ds k = true ∧ wr = w.drewN q) (fun v _ => n + 1 - (intOf v).toNat)
  case atStart => exact ⟨1, 0, by omega, .inr rfl, rfl, (ascAt_iff _ _).2 fun i hi => (by omega), rfl⟩
  case round =>
    obtain ⟨k, q, hk1, hk, rfl, hin, rfl⟩ := hrel
    have Hin := Lib.hid hin
    clear hin
    by_cases hkn : k < n
    · obtain ⟨b, o, rfl, hbB, hc⟩ : ∃ b o, A = some ⟨b, o, none⟩ ∧ b < B ∧ ∀ j, j < n → w.cell? ⟨b, o + j, none⟩ = some (.int .i64 (ds.getD j 0)) := by
        rcases H.out.2 with h0 | ⟨b, o, hA, hbB, hc⟩
        · omega
        · exact ⟨b, o, hA, hbB, hc⟩
      obtain ⟨j, rfl⟩ : ∃ j, k = j + 1 := ⟨k - 1, by omega⟩
      have ck := hc (j + 1) hkn
      have cj := hc j (by omega)
      obtain ⟨x, hx⟩ : ∃ x, ds.getD (j + 1) 0 = x := ⟨_, rfl⟩
      obtain ⟨y, hy⟩ : ∃ y, ds.getD j 0 = y := ⟨_, rfl⟩
      rw [hx] at ck
      rw [hy] at cj
      have Hx := Lib.hid hx
      have Hy := Lib.hid hy
      have e1 : IntKind.i64.wrap (((j + 1 : Nat) : Int) - 1) = (j : Nat) := by simp [IntKind.wrap, IntKind.bits, IntKind.signed]; omega
      have e2 : ((j + 1 : Nat) : Int) - 1 = (j : Nat) := by omega
      have hjn : (j : Int) < n := by omega
      have hjn1 : ((j + 1 : Nat) : Int) < n := by omega
      clear hc hx hy
      by_cases hb : y < x
      · have hd : decide (x ≤ y) = false := by simp; omega
        have Hin2 := Lib.hid ((ascAt_iff ds (j + 1 + 1)).2 fun i hi' => by
          by_cases e : i = j
          · subst e; rw [Hx.out, Hy.out]; exact hb
          · exact (ascAt_iff _ _).1 Hin.out i (by omega))
        have hnle : ¬ x ≤ y := by omega
        go_wp2_with fail
        go_quiet (fail)
        go_wp2_with fail
        go_roundw
        case rel => exact ⟨j + 1 + 1, _, by omega, .inl (by omega), by go_num, Hin2.out, rfl⟩
        case measure => simp [intOf]; omega
      · have hle : x ≤ y := by omega
        have Hno : Hid (ascIn ds lo hi = false) := Lib.hid (by
          rw [Bool.eq_false_iff]
          intro h
          rw [ascIn, Bool.and_eq_true] at h
          have := (ascAt_iff _ _).1 h.1 j (by rw [Hl.out]; exact hkn)
          rw [Hx.out, Hy.out] at this
          exact hb this)
        go_wp2_with fail
        go_quiet (fail)
        go_wp2_with fail
        go_ret
        exact ⟨by rw [Hno.out]; rfl, _, World.drewN_drewN _ _ _⟩
    · have Hyes : Hid (ascAt ds ds.length = true) := Lib.hid ((ascAt_iff _ _).2 fun i hi => (ascAt_iff _ _).1 Hin.out i (by have := Hl.out; omega))
      have H2 : Hid (Ints (w.drewN q) B A n ds) := Lib.hid H.out
      go_wp2_with fail
      refine (s_allInA _ _ _ _ _ ds lo hi H2.out hn).mono ?_
      rintro e w' ⟨rfl, rfl⟩
      go_wp2_with fail
      go_ret
      exact ⟨by rw [ascIn, Hyes.out, Bool.true_and]; rfl, _, rfl⟩
end Go.Proofs.Ytmokpaofljdehaa
