/-
  'isIn' in both packages.
-/
import Derived.Test.YtmokpaofljdehaaWords
namespace Go.Proofs.Ytmokpaofljdehaa
set_option maxRecDepth 100000
open Go.RowKit

theorem s_isIn (w : World) (B : Nat) (A : Option Addr) (n c : Nat) (xs : List Int) (x : Int) (h : Ints w B A n xs) (hn : n ≤ 1000000000) :
    Calls Try.prog 51 #[.slice A n c, .int .i64 x] w fun e w' => e = .returned (.bool (decide (x ∈ xs))) ∧ w' = w := by
  have Hl := Lib.hid h.1
  have H := Lib.hid h
  clear h
  go_enter Try.func51, Try.ntmps51
  go_wp2_with fail
  go_loop [5] (fun i => ∃ k : Nat, k ≤ n ∧ i = .int .i64 (k : Nat) ∧ x ∉ xs.take k) (fun i => n - (intOf i).toNat)
  case atStart => exact ⟨0, by omega, rfl, by simp⟩
  case round =>
    obtain ⟨k, hk, rfl, hno⟩ := hrel
    have Hno := Lib.hid hno
    clear hno
    by_cases hkn : k < n
    · obtain ⟨b, o, rfl, hbB, hc⟩ : ∃ b o, A = some ⟨b, o, none⟩ ∧ b < B ∧ ∀ j, j < n → w.cell? ⟨b, o + j, none⟩ = some (.int .i64 (xs.getD j 0)) := by
        rcases H.out.2 with h0 | ⟨b, o, hA, hbB, hc⟩
        · omega
        · exact ⟨b, o, hA, hbB, hc⟩
      have hck := hc k hkn
      have hkl : k < xs.length := by rw [Hl.out]; exact hkn
      have hel : xs[k] = xs.getD k 0 := by rw [List.getD_eq_getElem?_getD, List.getElem?_eq_getElem hkl]; rfl
      have Hel := Lib.hid hel
      obtain ⟨y, hy⟩ : ∃ y, xs.getD k 0 = y := ⟨_, rfl⟩
      rw [hy] at hck Hel
      clear hc hy hel
      by_cases hyx : y = x
      · have hb : (y == x) = true := by simpa using hyx
        have Hy : Hid (decide (x ∈ xs) = true) := Lib.hid (by rw [decide_eq_true_eq, ← hyx, ← Hel.out]; exact List.getElem_mem _)
        clear hyx
        go_wp2_with fail
        go_ret
        exact ⟨by rw [Hy.out]; rfl, rfl⟩
      · have hb : (y == x) = false := by simpa using hyx
        have Hn2 : Hid (x ∉ xs.take (k + 1)) := Lib.hid (by
          rw [List.take_succ_eq_append_getElem hkl, List.mem_append, List.mem_singleton, Hel.out]
          rintro (h | h)
          · exact Hno.out h
          · exact hyx h.symm)
        clear hyx
        go_wp2_with fail
        go_round
        case rel => exact ⟨k + 1, by omega, by go_num, Hn2.out⟩
        case measure => simp [intOf]; omega
    · have Hn2 : Hid (decide (x ∈ xs) = false) := Lib.hid (by
        rw [decide_eq_false_iff_not]
        have h9 := Hno.out
        rw [List.take_of_length_le (by rw [Hl.out]; omega)] at h9
        exact h9)
      go_wp2_with fail
      go_ret
      exact ⟨by rw [Hn2.out]; rfl, rfl⟩

theorem l_isInD (w : World) (B : Nat) (A : Option Addr) (n c : Nat) (xs : List Int) (x : Int) (h : Ints w B A n xs) (hn : n ≤ 1000000000) :
    Calls Try.prog 29 #[.slice A n c, .int .i64 x] w fun e w' => e = .returned (.bool (decide (x ∈ xs))) ∧ w' = w := by
  have Hl := Lib.hid h.1
  have H := Lib.hid h
  clear h
  go_enter Try.func29, Try.ntmps29
  go_wp2_with fail
  go_loop [5] (fun i => ∃ k : Nat, k ≤ n ∧ i = .int .i64 (k : Nat) ∧ x ∉ xs.take k) (fun i => n - (intOf i).toNat)
  case atStart => exact ⟨0, by omega, rfl, by simp⟩
  case round =>
    obtain ⟨k, hk, rfl, hno⟩ := hrel
    have Hno := Lib.hid hno
    clear hno
    by_cases hkn : k < n
    · obtain ⟨b, o, rfl, hbB, hc⟩ : ∃ b o, A = some ⟨b, o, none⟩ ∧ b < B ∧ ∀ j, j < n → w.cell? ⟨b, o + j, none⟩ = some (.int .i64 (xs.getD j 0)) := by
        rcases H.out.2 with h0 | ⟨b, o, hA, hbB, hc⟩
        · omega
        · exact ⟨b, o, hA, hbB, hc⟩
      have hck := hc k hkn
      have hkl : k < xs.length := by rw [Hl.out]; exact hkn
      have hel : xs[k] = xs.getD k 0 := by rw [List.getD_eq_getElem?_getD, List.getElem?_eq_getElem hkl]; rfl
      have Hel := Lib.hid hel
      obtain ⟨y, hy⟩ : ∃ y, xs.getD k 0 = y := ⟨_, rfl⟩
      rw [hy] at hck Hel
      clear hc hy hel
      by_cases hyx : y = x
      · have hb : (y == x) = true := by simpa using hyx
        have Hy : Hid (decide (x ∈ xs) = true) := Lib.hid (by rw [decide_eq_true_eq, ← hyx, ← Hel.out]; exact List.getElem_mem _)
        clear hyx
        go_wp2_with fail
        go_ret
        exact ⟨by rw [Hy.out]; rfl, rfl⟩
      · have hb : (y == x) = false := by simpa using hyx
        have Hn2 : Hid (x ∉ xs.take (k + 1)) := Lib.hid (by
          rw [List.take_succ_eq_append_getElem hkl, List.mem_append, List.mem_singleton, Hel.out]
          rintro (h | h)
          · exact Hno.out h
          · exact hyx h.symm)
        clear hyx
        go_wp2_with fail
        go_round
        case rel => exact ⟨k + 1, by omega, by go_num, Hn2.out⟩
        case measure => simp [intOf]; omega
    · have Hn2 : Hid (decide (x ∈ xs) = false) := Lib.hid (by
        rw [decide_eq_false_iff_not]
        have h9 := Hno.out
        rw [List.take_of_length_le (by rw [Hl.out]; omega)] at h9
        exact h9)
      go_wp2_with fail
      go_ret
      exact ⟨by rw [Hn2.out]; rfl, rfl⟩

end Go.Proofs.Ytmokpaofljdehaa
