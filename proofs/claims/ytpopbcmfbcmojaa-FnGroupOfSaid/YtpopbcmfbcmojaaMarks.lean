/-
  Marking a row of the call's own, and finding the marks.
-/
import Derived.Test.YtpopbcmfbcmojaaLists
import Derived.Laws.OwnMore
namespace Go.Proofs.Ytpopbcmfbcmojaa
set_option maxRecDepth 100000
open Go.RowKit

/-- k, k + 1, .. (n of them) -/
def marks (k : Int) (n : Nat) : List Int := (List.range n).map fun (j : Nat) => k + (j : Int)
theorem marks_len (k : Int) (n : Nat) : (marks k n).length = n := by simp [marks]
theorem marks_at (k : Int) (n j : Nat) (h : j < n) : (marks k n).getD j 0 = k + j := by
  simp [marks, List.getD_eq_getElem?_getD, List.getElem?_range h]
theorem marks_succ (k : Int) (j : Nat) (xs : List Int) (h : j < xs.length) : (marks k j ++ xs.drop j).set j (k + j) = marks k (j + 1) ++ xs.drop (j + 1) := by
  rw [List.set_append_right _ _ (by rw [marks_len]; exact Nat.le_refl _), marks_len, Nat.sub_self, List.drop_eq_getElem_cons h, List.set_cons_zero]
  simp [marks, List.range_succ]

/-- The row at A is the call's own, and that row alone was written between the two worlds. -/
theorem Own.stored {w : World} {B n c g : Nat} {xs : List Int} (h : Own w B (some ⟨g, 0, none⟩) n c xs) (j : Nat) (x : Int) :
    Own (w.setCell ⟨g, j, none⟩ (.int .i64 x)) B (some ⟨g, 0, none⟩) n c (xs.set j x) ∧ w.grownBy (w.setCell ⟨g, j, none⟩ (.int .i64 x)) (some g) := by
  have := World.ownsRow.stored h.2 j (.int .i64 x)
  exact ⟨⟨by simpa using h.1, by rw [List.map_set]; exact this.1⟩, this.2⟩

def Marked (B : Nat) (A : Option Addr) (n c : Nat) (k : Int) (w : World) (e : Ending) (w' : World) : Prop :=
  e = .returned (.int .i64 (k + n)) ∧ Own w' B A n c (marks k n) ∧ w.grownBy w' (Value.slice A n c).ownBlock

theorem mark_any (w : World) (B : Nat) (A : Option Addr) (n c : Nat) (xs : List Int) (k : Int) (h : Own w B A n c xs) (hn : n ≤ 1000000000) (k1 : 0 ≤ k) (k2 : k ≤ 1000000000) :
    Calls Try.prog 30 #[.slice A n c, .int .i64 k] w fun e w' => Marked B A n c k w e w' := by
  by_cases h0 : n = 0
  · subst h0
    have hx : xs = [] := List.eq_nil_of_length_eq_zero h.1
    subst hx
    have H := Lib.hid h
    clear h
    go_enter Try.func30, Try.ntmps30
    go_wp2_with fail
    go_rounds 1
    go_ret
    exact ⟨by simp, by simpa [marks] using H.out, World.grownBy.refl _ _⟩
  · obtain ⟨g, cap, hv, hg, hlt⟩ := World.ownsRow.form h.2 (by omega)
    obtain rfl : A = some ⟨g, 0, none⟩ := by injection hv
    clear hv
    have hl := h.1
    have H := Lib.hid h
    have Hl := Lib.hid hl
    clear h hl
    go_enter Try.func30, Try.ntmps30
    go_wp2_with fail
    go_loopw [1, 5] (fun q i wr => ∃ j : Nat, j ≤ n ∧ i = .int .i64 j ∧ q = .int .i64 (k + j) ∧ Own wr B (some ⟨g, 0, none⟩) n c (marks k j ++ xs.drop j) ∧ w.grownBy wr (some g)) (fun _ i _ => n - (intOf i).toNat)
    case atStart => exact ⟨0, by omega, rfl, by simp, by simpa [marks] using H.out, World.grownBy.refl _ _⟩
    case round =>
      obtain ⟨j, hj, rfl, rfl, ho, hgr⟩ := hrel
      by_cases hlt : j < n
      · have hcell : ∃ u, wr.cell? ⟨g, j, none⟩ = some u := by
          have := World.ownsRow.cellAt ho.2 j (by omega)
          rw [this]
          exact ⟨_, List.getElem?_eq_getElem (by rw [List.length_map, ho.1]; exact hlt)⟩
        obtain ⟨u, hu⟩ := hcell
        have hf := World.ownsRow.frozenAt ho.2 j
        have hst := ho.stored j (k + j)
        rw [marks_succ k j xs (by rw [Hl.out]; exact hlt)] at hst
        have Hs := Lib.hid hst
        have Hg := Lib.hid hgr
        clear hst ho hgr
        go_wp2_with fail
        go_roundw
        case rel => exact ⟨j + 1, by omega, by go_num, by go_num, Hs.out.1, gtrans Hg.out Hs.out.2⟩
        case measure => simp [intOf]; omega
      · obtain rfl : j = n := by omega
        go_wp2_with fail
        go_ret
        exact ⟨rfl, by rw [List.drop_of_length_le (by rw [Hl.out]; exact Nat.le_refl _), List.append_nil] at ho; exact ho, hgr⟩

theorem held_t (w : World) (B : Nat) (A : Option Addr) (n c : Nat) (k : Int) (h : Ints w B A n (marks k n)) (hn : n ≤ 1000000000) (k1 : 0 ≤ k) (k2 : k ≤ 1000000000) :
    Calls Try.prog 31 #[.slice A n c, .int .i64 k] w fun e w' => e = .returned (.int .i64 (k + n)) ∧ w = w' := by
  rcases h.2 with rfl | ⟨b, o, rfl, hlt, hc⟩
  · clear h
    go_enter Try.func31, Try.ntmps31
    go_wp2_with fail
    go_rounds 1
    go_ret
    exact ⟨by simp, rfl⟩
  · have Hc := Lib.hid hc
    clear hc h
    go_enter Try.func31, Try.ntmps31
    go_wp2_with fail
    go_loop [1, 5] (fun q i => ∃ j : Nat, j ≤ n ∧ i = .int .i64 j ∧ q = .int .i64 (k + j)) (fun _ i => n - (intOf i).toNat)
    case atStart => exact ⟨0, by omega, rfl, by simp⟩
    case round =>
      obtain ⟨j, hj, rfl, rfl⟩ := hrel
      by_cases hlt : j < n
      · have c1 := Hc.out j hlt
        rw [marks_at k n j hlt] at c1
        go_wp2_with fail
        go_round
        case rel => exact ⟨j + 1, by omega, by go_num, by go_num⟩
        case measure => simp [intOf]; omega
      · obtain rfl : j = n := by omega
        go_wp2_with fail
        go_ret
        exact ⟨rfl, rfl⟩

end Go.Proofs.Ytpopbcmfbcmojaa
